/-
  A new service compared, marked, looked at; the exact law of NewService.
-/
import Derived.Test.YtnhlnneicnkmeabSvcM
namespace Go.Proofs.Ytnhlnneicnkmeab
open Go.ChangeShapes Go.WideShapes Go.ChangeAt Go.RowKit
set_option linter.unusedVariables false
set_option maxRecDepth 100000 in
theorem eqWriteOpS_none (a b : Option Addr) (w : World) : Calls Try.prog 44 #[.slice a 0 0, .slice b 0 0] w fun e w' => e = .returned (.bool true) ∧ w = w' := by
  go_enter Try.func44, Try.ntmps44
  go_wp2_with fail
  go_loop [5] (fun i => i = .int .i64 0) (fun _ => 0)
  case atStart => rfl
  case round =>
    obtain rfl := hrel
    go_wp2
    go_ret
    exact ⟨rfl, rfl⟩
set_option maxRecDepth 100000 in
theorem markWriteOpS_none (a : Option Addr) (x : Int) (w : World) : Calls Try.prog 47 #[.slice a 0 0, .int .i64 x] w fun e w' => e = .returned (.int .i64 x) ∧ w = w' := by
  go_enter Try.func47, Try.ntmps47
  go_wp2_with fail
  go_loop [1, 5] (fun k i => k = .int .i64 x ∧ i = .int .i64 0) (fun _ _ => 0)
  case atStart => exact ⟨rfl, rfl⟩
  case round =>
    obtain ⟨rfl, rfl⟩ := hrel
    go_wp2
    go_ret
    exact ⟨rfl, rfl⟩
set_option maxRecDepth 100000 in
theorem heldWriteOpS_none (a : Option Addr) (x : Int) (w : World) : Calls Try.prog 50 #[.slice a 0 0, .int .i64 x] w fun e w' => e = .returned (.int .i64 x) ∧ w = w' := by
  go_enter Try.func50, Try.ntmps50
  go_wp2_with fail
  go_loop [1, 5] (fun k i => k = .int .i64 x ∧ i = .int .i64 0) (fun _ _ => 0)
  case atStart => exact ⟨rfl, rfl⟩
  case round =>
    obtain ⟨rfl, rfl⟩ := hrel
    go_wp2
    go_ret
    exact ⟨rfl, rfl⟩
set_option maxRecDepth 100000 in
theorem eqReadOpS_none (a b : Option Addr) (w : World) : Calls Try.prog 45 #[.slice a 0 0, .slice b 0 0] w fun e w' => e = .returned (.bool true) ∧ w = w' := by
  go_enter Try.func45, Try.ntmps45
  go_wp2_with fail
  go_loop [5] (fun i => i = .int .i64 0) (fun _ => 0)
  case atStart => rfl
  case round =>
    obtain rfl := hrel
    go_wp2
    go_ret
    exact ⟨rfl, rfl⟩
set_option maxRecDepth 100000 in
theorem markReadOpS_none (a : Option Addr) (x : Int) (w : World) : Calls Try.prog 48 #[.slice a 0 0, .int .i64 x] w fun e w' => e = .returned (.int .i64 x) ∧ w = w' := by
  go_enter Try.func48, Try.ntmps48
  go_wp2_with fail
  go_loop [1, 5] (fun k i => k = .int .i64 x ∧ i = .int .i64 0) (fun _ _ => 0)
  case atStart => exact ⟨rfl, rfl⟩
  case round =>
    obtain ⟨rfl, rfl⟩ := hrel
    go_wp2
    go_ret
    exact ⟨rfl, rfl⟩
set_option maxRecDepth 100000 in
theorem heldReadOpS_none (a : Option Addr) (x : Int) (w : World) : Calls Try.prog 51 #[.slice a 0 0, .int .i64 x] w fun e w' => e = .returned (.int .i64 x) ∧ w = w' := by
  go_enter Try.func51, Try.ntmps51
  go_wp2_with fail
  go_loop [1, 5] (fun k i => k = .int .i64 x ∧ i = .int .i64 0) (fun _ _ => 0)
  case atStart => exact ⟨rfl, rfl⟩
  case round =>
    obtain ⟨rfl, rfl⟩ := hrel
    go_wp2
    go_ret
    exact ⟨rfl, rfl⟩
set_option maxRecDepth 100000 in
theorem eqReplicaS_none (a b : Option Addr) (w : World) : Calls Try.prog 43 #[.slice a 0 0, .slice b 0 0] w fun e w' => e = .returned (.bool true) ∧ w = w' := by
  go_enter Try.func43, Try.ntmps43
  go_wp2_with fail
  go_loop [5] (fun i => i = .int .i64 0) (fun _ => 0)
  case atStart => rfl
  case round =>
    obtain rfl := hrel
    go_wp2
    go_ret
    exact ⟨rfl, rfl⟩
set_option maxRecDepth 100000 in
theorem markReplicaS_none (a : Option Addr) (x : Int) (w : World) : Calls Try.prog 46 #[.slice a 0 0, .int .i64 x] w fun e w' => e = .returned (.int .i64 x) ∧ w = w' := by
  go_enter Try.func46, Try.ntmps46
  go_wp2_with fail
  go_loop [1, 5] (fun k i => k = .int .i64 x ∧ i = .int .i64 0) (fun _ _ => 0)
  case atStart => exact ⟨rfl, rfl⟩
  case round =>
    obtain ⟨rfl, rfl⟩ := hrel
    go_wp2
    go_ret
    exact ⟨rfl, rfl⟩
set_option maxRecDepth 100000 in
theorem heldReplicaS_none (a : Option Addr) (x : Int) (w : World) : Calls Try.prog 49 #[.slice a 0 0, .int .i64 x] w fun e w' => e = .returned (.int .i64 x) ∧ w = w' := by
  go_enter Try.func49, Try.ntmps49
  go_wp2_with fail
  go_loop [1, 5] (fun k i => k = .int .i64 x ∧ i = .int .i64 0) (fun _ _ => 0)
  case atStart => exact ⟨rfl, rfl⟩
  case round =>
    obtain ⟨rfl, rfl⟩ := hrel
    go_wp2
    go_ret
    exact ⟨rfl, rfl⟩
/-- The replicas of a new service. -/
def NwR (w : World) (g n : Nat) (R : Nat → Rp) (A : Nat → Option Addr) : Prop := RowE w 8 (some ⟨g, 0, none⟩) g n (rpF R (fun i => .slice (A i) 0 0))
theorem NwR.rpV {w : World} {g n : Nat} {A : Nat → Option Addr} (h : NwR w g n (fun _ => rpZ) A) : RpV w (some ⟨g, 0, none⟩) n (fun _ => rpZ) A (fun _ => 0) := ⟨RowE.els h, fun i hi j hj => absurd hj (Nat.not_lt_zero _)⟩
theorem nwR_of {w : World} {g n : Nat} {R : Nat → Rp} {V : Nat → Value} (h : RowE w 8 (some ⟨g, 0, none⟩) g n (rpF R V)) (hv : ∀ i, i < n → ∃ a, V i = .slice a 0 0) : ∃ A, NwR w g n R A := by
  refine ⟨fun i => if hi : i < n then Classical.choose (hv i hi) else none, RowE.congr h (fun i hi j hj => ?_)⟩
  unfold rpF
  dsimp only
  rw [dif_pos hi, ← Classical.choose_spec (hv i hi)]
/-- The replicas of a new service, of the call's own behind B; none are nil. -/
def NwE (w : World) (B : Nat) (a : Option Addr) (n : Nat) (R : Nat → Rp) (A : Nat → Option Addr) : Prop := (n = 0 ∧ a = none) ∨ ∃ g, a = some ⟨g, 0, none⟩ ∧ B ≤ g ∧ g < w.heap.size ∧ NwR w g n R A
theorem NwE.below {w w' : World} {B : Nat} {a : Option Addr} {n : Nat} {R : Nat → Rp} {A : Nat → Option Addr} (h : NwE w B a n R A) (hb : Below w.heap.size w w') : NwE w' B a n R A := by
  rcases h with h | ⟨g, rfl, h1, h2, h3⟩
  · exact .inl h
  · exact .inr ⟨g, rfl, h1, Nat.lt_of_lt_of_le h2 hb.size, RowE.below h3 (by omega) hb⟩
theorem NwE.lt {w : World} {B : Nat} {a : Option Addr} {n : Nat} {R : Nat → Rp} {A : Nat → Option Addr} (h : NwE w B a n R A) : ∀ p, a = some p → p.block < w.heap.size := fun p hp => by
  rcases h with ⟨_, rfl⟩ | ⟨g, rfl, h1, h2, h3⟩
  · cases hp
  · cases hp; exact h2
theorem NwE.ge {w : World} {B : Nat} {a : Option Addr} {n : Nat} {R : Nat → Rp} {A : Nat → Option Addr} (h : NwE w B a n R A) : ∀ p, a = some p → B ≤ p.block := fun p hp => by
  rcases h with ⟨_, rfl⟩ | ⟨g, rfl, h1, h2, h3⟩
  · cases hp
  · cases hp; exact h1
theorem NwE.rpV {w : World} {B : Nat} {a : Option Addr} {n : Nat} {A : Nat → Option Addr} (h : NwE w B a n (fun _ => rpZ) A) : RpV w a n (fun _ => rpZ) A (fun _ => 0) := by
  rcases h with ⟨rfl, rfl⟩ | ⟨g, rfl, h1, h2, h3⟩
  · exact ⟨fun i hi => absurd hi (Nat.not_lt_zero _), fun i hi => absurd hi (Nat.not_lt_zero _)⟩
  · exact h3.rpV
theorem NwE.at0 {w : World} {B : Nat} {a : Option Addr} {n : Nat} {R : Nat → Rp} {A : Nat → Option Addr} (h : NwE w B a n R A) : NwE w 0 a n R A := by
  rcases h with h | ⟨g, rfl, h1, h2, h3⟩
  · exact .inl h
  · exact .inr ⟨g, rfl, Nat.zero_le _, h2, h3⟩
/-- From w to w' only the block behind a slice's address has changed. -/
structure OnlyQ (a : Option Addr) (w w' : World) : Prop where
  os : w'.os = w.os
  tape : w'.tape = w.tape
  output : w'.output = w.output
  size : w.heap.size ≤ w'.heap.size
  block : ∀ k, k < w.heap.size → (∀ p, a = some p → p.block ≠ k) → w'.heap[k]? = w.heap[k]?
theorem OnlyQ.refl (a : Option Addr) (w : World) : OnlyQ a w w := ⟨rfl, rfl, rfl, Nat.le_refl _, fun _ _ _ => rfl⟩
theorem OnlyQ.ofB {g : Nat} {w w' : World} (h : OnlyB g w w') : OnlyQ (some ⟨g, 0, none⟩) w w' := ⟨h.os, h.tape, h.output, h.size, fun k hk hne => h.block k hk (fun e => hne _ rfl e.symm)⟩
theorem OnlyQ.after {a : Option Addr} {w w1 w2 : World} (h : OnlyQ a w1 w2) (h1 : Below w.heap.size w w1) : OnlyQ a w w2 :=
  ⟨h.os.trans h1.os, h.tape.trans h1.tape, h.output.trans h1.output, Nat.le_trans h1.size h.size, fun k hk hne => (h.block k (Nat.lt_of_lt_of_le hk h1.size) hne).trans (h1.block k hk)⟩
theorem OnlyQ.toBelow {a : Option Addr} {w w' : World} (h : OnlyQ a w w') {B : Nat} (hB : ∀ p, a = some p → B ≤ p.block) (hw : B ≤ w.heap.size) : Below B w w' :=
  ⟨h.os, h.tape, h.output, h.size, fun k hk => h.block k (by omega) (fun p hp e => by have := hB p hp; omega)⟩
theorem OnlyQ.keep4 {w w' : World} {b : Nat} {t : TypeId} {x y z m : Value} {c : Option Addr} (ho : OnlyQ c w w') (h : Box4 w b t x y z m) (hd : ∀ p, c = some p → p.block ≠ b) : Box4 w' b t x y z m := h.ofBlock (ho.block b h.lt hd)
theorem NwE.onlyQ {w w' : World} {B n : Nat} {a : Option Addr} {R : Nat → Rp} {A : Nat → Option Addr} {c : Option Addr} (h : NwE w B a n R A) (ho : OnlyQ c w w') (hd : ∀ x y, a = some x → c = some y → y.block ≠ x.block) : NwE w' B a n R A := by
  rcases h with h | ⟨g, rfl, h1, h2, h3⟩
  · exact .inl h
  · exact .inr ⟨g, rfl, h1, Nat.lt_of_lt_of_le h2 ho.size, RowE.ofBlock h3 (fun _ => ho.block g h2 (fun p hp => hd _ p rfl hp))⟩
theorem markReplicaS_E (B : Nat) (a : Option Addr) (n c : Nat) (hn : n ≤ 1000) (A : Nat → Option Addr) (w : World) (h : NwE w B a n (fun _ => rpZ) A) (hc : n = 0 → c = 0) :
    Calls Try.prog 46 #[.slice a n c, .int .i64 1] w fun e w' => e = .returned (.int .i64 ((1 + 7 * n : Nat) : Int)) ∧ NwE w' B a n (rpM 1) A ∧ OnlyQ a w w' := by
  rcases h with ⟨rfl, rfl⟩ | ⟨g, rfl, h1, h2, h3⟩
  · obtain rfl := hc rfl
    exact (markReplicaS_none none 1 w).mono fun e w' q => ⟨q.1, .inl ⟨rfl, rfl⟩, q.2 ▸ OnlyQ.refl _ _⟩
  · exact (markReplicaS_new g n c 1 hn (by omega) A w h3).mono fun e w' q => ⟨q.1, .inr ⟨g, rfl, h1, Nat.lt_of_lt_of_le h2 q.2.2.1.size, q.2.1⟩, OnlyQ.ofB q.2.2.1⟩
theorem heldReplicaS_E (B : Nat) (a : Option Addr) (n c : Nat) (hn : n ≤ 1000) (A : Nat → Option Addr) (w : World) (h : NwE w B a n (rpM 1) A) (hc : n = 0 → c = 0) :
    Calls Try.prog 49 #[.slice a n c, .int .i64 1] w fun e w' => e = .returned (.int .i64 ((1 + 7 * n : Nat) : Int)) ∧ Below w.heap.size w w' := by
  rcases h with ⟨rfl, rfl⟩ | ⟨g, rfl, h1, h2, h3⟩
  · obtain rfl := hc rfl
    exact (heldReplicaS_none none 1 w).mono fun e w' q => ⟨q.1, q.2 ▸ Below.refl _ _⟩
  · exact heldReplicaS_new g n c 1 hn (by omega) A w h3
set_option maxRecDepth 100000 in
set_option maxHeartbeats 2000000 in
theorem eqService_new (a a2 : Option Addr) (n c c2 : Nat) (A A' : Nat → Option Addr) (ew er ew2 er2 : Option Addr) (hn : n ≤ 1000) (w : World) (h : RpV w a n (fun _ => rpZ) A (fun _ => 0)) (h' : RpV w a2 n (fun _ => rpZ) A' (fun _ => 0)) :
    Calls Try.prog 22 #[.agg #[.slice a n c, .int .i64 0, .slice ew 0 0, .slice er 0 0], .agg #[.slice a2 n c2, .int .i64 0, .slice ew2 0 0, .slice er2 0 0]] w fun e w' => e = .returned (.bool true) ∧ Below w.heap.size w w' := by
  have A1 : Hid (Below w.heap.size w ((w.alloc (.cells #[.slice a n c, .int .i64 0, .slice ew 0 0, .slice er 0 0] 47)).alloc (.cells #[.slice a2 n c2, .int .i64 0, .slice ew2 0 0, .slice er2 0 0] 47))) := ((Below.refl _ _).alloc (Nat.le_refl _) _).alloc (by simp) _
  have X : Hid (Box4 ((w.alloc (.cells #[.slice a n c, .int .i64 0, .slice ew 0 0, .slice er 0 0] 47)).alloc (.cells #[.slice a2 n c2, .int .i64 0, .slice ew2 0 0, .slice er2 0 0] 47)) w.heap.size 47 (.slice a n c) (.int .i64 0) (.slice ew 0 0) (.slice er 0 0)) := (Box4.madeAt rfl _ _ _ _ _).alloc _
  have Y : Hid (Box4 ((w.alloc (.cells #[.slice a n c, .int .i64 0, .slice ew 0 0, .slice er 0 0] 47)).alloc (.cells #[.slice a2 n c2, .int .i64 0, .slice ew2 0 0, .slice er2 0 0] 47)) (w.heap.size + 1) 47 (.slice a2 n c2) (.int .i64 0) (.slice ew2 0 0) (.slice er2 0 0)) := Box4.madeAt (by simp) _ _ _ _ _
  have ER : Hid (∀ w : World, RpV w a n (fun _ => rpZ) A (fun _ => 0) → RpV w a2 n (fun _ => rpZ) A' (fun _ => 0) → Calls Try.prog 43 #[.slice a n c, .slice a2 n c2] w fun e w' => e = .returned (.bool true) ∧ Below w.heap.size w w') := fun w h h' => eqReplicaS_yes _ _ n c c2 (fun _ => rpZ) A A' (fun _ => 0) (fun _ => 0) hn (fun i hi => by show 0 ≤ 1000; omega) w h h'
  have HA : Hid (RpV w a n (fun _ => rpZ) A (fun _ => 0)) := h
  have HB : Hid (RpV w a2 n (fun _ => rpZ) A' (fun _ => 0)) := h'
  clear h h'
  go_enter Try.func22, Try.ntmps22
  go_wp2_with fail
  generalize ((w.alloc (.cells #[.slice a n c, .int .i64 0, .slice ew 0 0, .slice er 0 0] 47)).alloc (.cells #[.slice a2 n c2, .int .i64 0, .slice ew2 0 0, .slice er2 0 0] 47)) = v at *
  refine (ER.out _ (HA.out.below A1.out) (HB.out.below A1.out)).mono ?_
  rintro e v1 ⟨rfl, hb⟩
  replace A1 : Hid (Below w.heap.size w v1) := A1.out.trans (hb.mono A1.out.size)
  have x := X.out.below hb
  have y := Y.out.below hb
  have x1 := x.c1
  have y1 := y.c1
  have x2 := x.c2
  have y2 := y.c2
  have x3 := x.c3
  have y3 := y.c3
  clear hb X Y HA HB ER x y
  go_wp2_with fail
  refine (eqWriteOpS_none _ _ _).mono ?_
  rintro e w' ⟨rfl, rfl⟩
  go_wp2_with fail
  refine (eqReadOpS_none _ _ _).mono ?_
  rintro e w' ⟨rfl, rfl⟩
  clear x1 y1 x2 y2 x3 y3
  go_wp2
  go_ret
  exact ⟨rfl, A1.out⟩
set_option maxRecDepth 100000 in
theorem markService_new (B : Nat) (a : Option Addr) (n c : Nat) (A : Nat → Option Addr) (ew er : Option Addr) (hn : n ≤ 1000) (hc : n = 0 → c = 0) (w : World) (h : NwE w B a n (fun _ => rpZ) A) :
    Calls Try.prog 23 #[.agg #[.slice a n c, .int .i64 0, .slice ew 0 0, .slice er 0 0], .int .i64 1] w fun e w' => e = .returned (.int .i64 ((1 + 7 * n : Nat) : Int)) ∧ NwE w' B a n (rpM 1) A ∧ OnlyQ a w w' := by
  have X : Hid (Box4 (w.alloc (.cells #[.slice a n c, .int .i64 0, .slice ew 0 0, .slice er 0 0] 47)) w.heap.size 47 (.slice a n c) (.int .i64 0) (.slice ew 0 0) (.slice er 0 0)) := Box4.madeAt rfl _ _ _ _ _
  have hb0 : Below w.heap.size w (w.alloc (.cells #[.slice a n c, .int .i64 0, .slice ew 0 0, .slice er 0 0] 47)) := (Below.refl _ _).alloc (Nat.le_refl _) _
  have A1 : Hid (Below w.heap.size w (w.alloc (.cells #[.slice a n c, .int .i64 0, .slice ew 0 0, .slice er 0 0] 47))) := hb0
  have R : Hid (NwE (w.alloc (.cells #[.slice a n c, .int .i64 0, .slice ew 0 0, .slice er 0 0] 47)) B a n (fun _ => rpZ) A) := h.below hb0
  have MR : Hid (∀ w : World, NwE w B a n (fun _ => rpZ) A → Calls Try.prog 46 #[.slice a n c, .int .i64 1] w fun e w' => e = .returned (.int .i64 ((1 + 7 * n : Nat) : Int)) ∧ NwE w' B a n (rpM 1) A ∧ OnlyQ a w w') := fun w h => markReplicaS_E B a n c hn A w h hc
  have LA : Hid (∀ p, a = some p → p.block < w.heap.size) := h.lt
  generalize ((1 + 7 * n : Nat) : Int) = N at *
  clear h hb0
  go_enter Try.func23, Try.ntmps23
  go_wp2_with fail
  generalize (w.alloc (.cells #[.slice a n c, .int .i64 0, .slice ew 0 0, .slice er 0 0] 47)) = v at *
  refine (MR.out _ R.out).mono ?_
  rintro e v1 ⟨rfl, hr, ht⟩
  have x := X.out.ofBlock (ht.block _ X.out.lt (fun p hp e => by have := LA.out p hp; omega))
  have x2 := x.c2
  have x3 := x.c3
  have R1 : Hid (NwE v1 B a n (rpM 1) A) := hr
  have O1 : Hid (OnlyQ a w v1) := ht.after A1.out
  clear hr ht X R MR x A1
  go_wp2_with fail
  refine (markWriteOpS_none _ _ _).mono ?_
  rintro e w' ⟨rfl, rfl⟩
  go_wp2_with fail
  refine (markReadOpS_none _ _ _).mono ?_
  rintro e w' ⟨rfl, rfl⟩
  clear x2 x3
  go_wp2
  go_ret
  exact ⟨rfl, R1.out, O1.out⟩
set_option maxRecDepth 100000 in
theorem heldService_new (B : Nat) (a : Option Addr) (n c : Nat) (A : Nat → Option Addr) (ew er : Option Addr) (hn : n ≤ 1000) (hc : n = 0 → c = 0) (w : World) (h : NwE w B a n (rpM 1) A) :
    Calls Try.prog 24 #[.agg #[.slice a n c, .int .i64 0, .slice ew 0 0, .slice er 0 0], .int .i64 1] w fun e w' => e = .returned (.int .i64 ((1 + 7 * n : Nat) : Int)) ∧ Below w.heap.size w w' := by
  have X : Hid (Box4 (w.alloc (.cells #[.slice a n c, .int .i64 0, .slice ew 0 0, .slice er 0 0] 47)) w.heap.size 47 (.slice a n c) (.int .i64 0) (.slice ew 0 0) (.slice er 0 0)) := Box4.madeAt rfl _ _ _ _ _
  have A1 : Hid (Below w.heap.size w (w.alloc (.cells #[.slice a n c, .int .i64 0, .slice ew 0 0, .slice er 0 0] 47))) := (Below.refl _ _).alloc (Nat.le_refl _) _
  have R : Hid (NwE (w.alloc (.cells #[.slice a n c, .int .i64 0, .slice ew 0 0, .slice er 0 0] 47)) B a n (rpM 1) A) := h.below ((Below.refl _ _).alloc (Nat.le_refl _) _)
  have MR : Hid (∀ w : World, NwE w B a n (rpM 1) A → Calls Try.prog 49 #[.slice a n c, .int .i64 1] w fun e w' => e = .returned (.int .i64 ((1 + 7 * n : Nat) : Int)) ∧ Below w.heap.size w w') := fun w h => heldReplicaS_E B a n c hn A w h hc
  have nz : ¬ ((1 + 7 * n : Nat) : Int) < 0 := by omega
  generalize ((1 + 7 * n : Nat) : Int) = N at *
  clear h
  go_enter Try.func24, Try.ntmps24
  go_wp2_with fail
  generalize (w.alloc (.cells #[.slice a n c, .int .i64 0, .slice ew 0 0, .slice er 0 0] 47)) = v at *
  refine (MR.out _ R.out).mono ?_
  rintro e v1 ⟨rfl, hb⟩
  have x := X.out.below hb
  have x2 := x.c2
  have x3 := x.c3
  replace A1 : Hid (Below w.heap.size w v1) := A1.out.trans (hb.mono A1.out.size)
  clear hb X R MR x
  go_wp2_with fail
  refine (heldWriteOpS_none _ _ _).mono ?_
  rintro e w' ⟨rfl, rfl⟩
  go_wp2_with fail
  refine (heldReadOpS_none _ _ _).mono ?_
  rintro e w' ⟨rfl, rfl⟩
  clear x2 x3
  go_wp2
  go_ret
  exact ⟨rfl, A1.out⟩
/-- A new service is given back, or an empty one with a fault. -/
def RetS (B n : Nat) (code : Int) (e : Ending) (w : World) : Prop := ∃ (a : Option Addr) (c : Nat) (A : Nat → Option Addr) (ew er : Option Addr), e = .returned (.tuple #[.agg #[.slice a n c, .int .i64 0, .slice ew 0 0, .slice er 0 0], .int .i64 code]) ∧ NwE w B a n (fun _ => rpZ) A ∧ (n = 0 → c = 0)
theorem RetNs.retS {n B : Nat} {e : Ending} {w : World} (h : RetNs n B e w) (hn : 0 < n) : RetS B n 0 e w := by
  obtain ⟨g, c, V, vw, vr, rfl, h1, h2, h3, h4, ⟨ew, rfl⟩, ⟨er, rfl⟩⟩ := h
  obtain ⟨A, hA⟩ := nwR_of h3 h4
  exact ⟨_, c, A, ew, er, rfl, .inr ⟨g, rfl, h1, h2, hA⟩, fun e => by omega⟩
theorem newService_both (x : Int) : ∃ n code, n ≤ 7 ∧ (∀ w : World, Calls Try.prog 20 #[.int .i64 x] w fun e w' => RetS w.heap.size n code e w' ∧ Below w.heap.size w w') ∧ (∀ w : World, Calls Try.prog 21 #[.int .i64 x] w fun e w' => RetS w.heap.size n code e w' ∧ Below w.heap.size w w') := by
  by_cases h : 1 ≤ x ∧ x ≤ 7
  · obtain ⟨n, rfl⟩ : ∃ n : Nat, x = (n : Int) := ⟨x.toNat, by omega⟩
    exact ⟨n, 0, by omega, fun w => (specNs_yes n (by omega) w).mono fun e w' q => ⟨q.1.retS (by omega), q.2⟩, fun w => (implNs_yes n (by omega) w).mono fun e w' q => ⟨q.1.retS (by omega), q.2⟩⟩
  · exact ⟨0, 4, by omega, fun w => (specNs_no x h w).mono fun e w' q => ⟨⟨none, 0, fun _ => none, none, none, q.1, .inl ⟨rfl, rfl⟩, fun _ => rfl⟩, q.2⟩, fun w => (implNs_no x h w).mono fun e w' q => ⟨⟨none, 0, fun _ => none, none, none, q.1, .inl ⟨rfl, rfl⟩, fun _ => rfl⟩, q.2⟩⟩
end Go.Proofs.Ytnhlnneicnkmeab
