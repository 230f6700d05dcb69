/-
  A reader of bytes: take, number, text, ended of the program.
-/
import Derived.Test.YtglfhajfbdjjcaaEls
import Derived.Test.YtglfhajfbdjjcaaCode8
import Derived.Test.YtglfhajfbdjjcaaByteS
import Derived.Test.YtglfhajfbdjjcaaTxt
namespace Go.Proofs.Ytglfhajfbdjjcaa
open Go.ChangeShapes Go.WideShapes Go.ChangeAt Go.RowKit
set_option linter.unusedVariables false
/-- A reader in block q over the bytes f of length N: behind p of them, or short. -/
def Rdr (w : World) (q D N : Nat) (f : Nat → Nat) (p : Option Nat) : Prop :=
  match p with
  | some p => p ≤ N ∧ ∃ a c, N - p ≤ c ∧ Box2 w q 86 (.slice a (N - p) c) (.bool false) ∧ Code8 w a (N - p) (fun i => f (p + i)) ∧ (∀ x, 0 < N - p → a = some x → x.block < D)
  | none => Box2 w q 86 (.slice none 0 0) (.bool true)
theorem Rdr.lt {w : World} {q D N : Nat} {f : Nat → Nat} {p : Option Nat} (h : Rdr w q D N f p) : q < w.heap.size := by
  cases p with
  | none => exact Box2.lt h
  | some p => obtain ⟨_, a, c, _, hb, _⟩ := h; exact hb.lt
theorem Code8.keep {w w' : World} {a : Option Addr} {n D : Nat} {f : Nat → Nat} (h : Code8 w a n f) (hd : ∀ x, 0 < n → a = some x → x.block < D) (e : ∀ b, b < D → w'.heap[b]? = w.heap[b]?) : Code8 w' a n f := fun i hi => by
  obtain ⟨b, o, ha, hc⟩ := h i hi
  refine ⟨b, o, ha, ?_⟩
  rw [← hc]
  exact cellE (e b (hd _ (by omega) ha))
theorem Rdr.keep {w w' : World} {q D N : Nat} {f : Nat → Nat} {p : Option Nat} (h : Rdr w q D N f p) (e1 : w'.heap[q]? = w.heap[q]?) (e2 : ∀ b, b < D → w'.heap[b]? = w.heap[b]?) : Rdr w' q D N f p := by
  cases p with
  | none => exact Box2.ofBlock h e1
  | some p =>
    obtain ⟨h1, a, c, h2, h3, h4, h5⟩ := h
    exact ⟨h1, a, c, h2, h3.ofBlock e1, h4.keep h5 e2, h5⟩
theorem Rdr.below {w w' : World} {q D N : Nat} {f : Nat → Nat} {p : Option Nat} (h : Rdr w q D N f p) (hD : D ≤ q) (hb : Below w.heap.size w w') : Rdr w' q D N f p := h.keep (hb.block q h.lt) (fun b hb' => hb.block b (by have := h.lt; omega))
/-- There are fewer than k bytes left. -/
def Few (w : World) (q k : Nat) : Prop := ∃ a m c s, m < k ∧ Box2 w q 86 (.slice a m c) (.bool s)
theorem few_none {w : World} {q D N k : Nat} {f : Nat → Nat} (hk : 0 < k) (h : Rdr w q D N f none) : Few w q k := ⟨none, 0, 0, true, hk, h⟩
theorem few_some {w : World} {q D N k p : Nat} {f : Nat → Nat} (hp : N < p + k) (h : Rdr w q D N f (some p)) : Few w q k := by
  obtain ⟨h1, a, c, h2, h3, _⟩ := h
  exact ⟨a, N - p, c, false, by omega, h3⟩
theorem OnlyB.made {q : Nat} {w w' : World} (h : OnlyB q w w') (o : Obj) : OnlyB q w (w'.alloc o) := h.below ((Below.refl _ _).alloc (Nat.le_refl _) _)
/-- A slice of k bytes that read as g is handed back, not in the reader's own block. -/
def Took (w' : World) (e : Ending) (q k : Nat) (g : Nat → Nat) : Prop := ∃ b o c, e = .returned (.slice (some ⟨b, o, none⟩) k c) ∧ Code8 w' (some ⟨b, o, none⟩) k g ∧ b ≠ q
set_option maxRecDepth 100000 in
set_option maxHeartbeats 2000000 in
theorem take_no (q D N k : Nat) (f : Nat → Nat) (hk : k ≤ 1000) (w : World) (h : Few w q k) :
    Calls Try.prog 98 #[.pointer (some ⟨q, 0, none⟩), .int .i64 (k : Int)] w fun e w' => Took w' e q k (fun _ => 0) ∧ Rdr w' q D N f none ∧ OnlyB q w w' := by
  obtain ⟨a, m, c, s, hm, h⟩ := h
  have X : Hid (Box2 w q 86 (.slice a m c) (.bool s)) := h
  have x0 := X.out.c0
  have x1 := X.out.c1
  have f0 := X.out.fr 0
  have f1 := X.out.fr 1
  have m1 := mkBytes k (by omega)
  have k1 : (m : Int) < (k : Int) := by omega
  have Y : Hid (Box2 ((w.setCell ⟨q, 0, none⟩ (.slice none 0 0)).setCell ⟨q, 1, none⟩ (.bool true)) q 86 (.slice none 0 0) (.bool true)) := (X.out.set0 _).set1 _
  have O : Hid (OnlyB q w ((w.setCell ⟨q, 0, none⟩ (.slice none 0 0)).setCell ⟨q, 1, none⟩ (.bool true))) := ((OnlyB.refl q w).setCell 0 _).setCell 1 _
  clear h hm
  go_enter Try.func98, Try.ntmps98
  go_wp2
  go_ret
  have Z : (((w.setCell ⟨q, 0, none⟩ (.slice none 0 0)).setCell ⟨q, 1, none⟩ (.bool true)).alloc (.cells (madeCells #[.int .u8 0] k) 5)).rowIs ((w.setCell ⟨q, 0, none⟩ (.slice none 0 0)).setCell ⟨q, 1, none⟩ (.bool true)).heap.size 5 k (fun _ => .int .u8 0) := World.rowIs_made _ _ _ _
  have hs : ((w.setCell ⟨q, 0, none⟩ (.slice none 0 0)).setCell ⟨q, 1, none⟩ (.bool true)).heap.size = w.heap.size := by simp
  rw [hs] at Z
  refine ⟨⟨w.heap.size, 0, k, rfl, fun i hi => ⟨w.heap.size, 0, rfl, by rw [Nat.zero_add]; exact Z.cell hi⟩, Nat.ne_of_gt X.out.lt⟩, ?_, O.out.made _⟩
  exact Y.out.alloc _
set_option maxRecDepth 100000 in
set_option maxHeartbeats 2000000 in
theorem take_yes (q D N k p : Nat) (hD : D ≤ q) (f : Nat → Nat) (hk0 : 0 < k) (hk : k ≤ 1000) (hN : N ≤ 1048576) (hp : p + k ≤ N) (w : World) (h : Rdr w q D N f (some p)) :
    Calls Try.prog 98 #[.pointer (some ⟨q, 0, none⟩), .int .i64 (k : Int)] w fun e w' => Took w' e q k (fun i => f (p + i)) ∧ Rdr w' q D N f (some (p + k)) ∧ OnlyB q w w' := by
  obtain ⟨h1, a, c, h2, h3, h4, h5⟩ := h
  obtain ⟨b, o, rfl, hc⟩ := h4.opened (by omega)
  have X : Hid (Box2 w q 86 (.slice (some ⟨b, o, none⟩) (N - p) c) (.bool false)) := h3
  have HC : Hid (Code8 w (some ⟨b, o, none⟩) (N - p) (fun i => f (p + i))) := h4
  have DB : Hid (b < D) := h5 _ (by omega) rfl
  have NB : Hid (b ≠ q) := by have := DB.out; show _ ≠ _; omega
  have x0 := X.out.c0
  have x1 := X.out.c1
  have f0 := X.out.fr 0
  have f1 := X.out.fr 1
  obtain ⟨m, hm⟩ : ∃ m, m = N - p := ⟨_, rfl⟩
  rw [← hm] at x0 X HC h2
  have k1 : ¬ (m : Int) < (k : Int) := by omega
  have k2 : (k : Int) ≤ (m : Int) := by omega
  have k3 : k ≤ m := by omega
  have k4 : m ≤ c := h2
  have HM : Hid (m = N - p) := hm
  clear h1 h3 h4 h5 hc hm
  by_cases hcc : c = k
  · subst hcc
    obtain rfl : m = c := by omega
    have XX : Hid (Box2 (w.setCell ⟨q, 0, none⟩ (.slice (some ⟨b, o, none⟩) 0 0)) q 86 (.slice (some ⟨b, o, none⟩) 0 0) (.bool false)) := X.out.set0 _
    go_enter Try.func98, Try.ntmps98
    go_wp2
    go_ret
    have O : OnlyB q w (w.setCell ⟨q, 0, none⟩ (.slice (some ⟨b, o, none⟩) 0 0)) := (OnlyB.refl q w).setCell 0 _
    have HM1 := HM.out
    refine ⟨⟨b, o, m, rfl, HC.out.onlyB O (fun x _ hx => by cases hx; exact NB.out), NB.out⟩, ⟨by omega, some ⟨b, o, none⟩, 0, by omega, ?_, fun i hi => absurd hi (by omega), fun x h0 => absurd h0 (by omega)⟩, O⟩
    rw [show N - (p + m) = 0 from by omega]
    exact XX.out
  · have hcc' : ¬ k = c := fun e => hcc e.symm
    have XX : Hid (Box2 (w.setCell ⟨q, 0, none⟩ (.slice (some ⟨b, o + k, none⟩) (m - k) (c - k))) q 86 (.slice (some ⟨b, o + k, none⟩) (m - k) (c - k)) (.bool false)) := X.out.set0 _
    go_enter Try.func98, Try.ntmps98
    go_wp2
    go_ret
    have O : OnlyB q w (w.setCell ⟨q, 0, none⟩ (.slice (some ⟨b, o + k, none⟩) (m - k) (c - k))) := (OnlyB.refl q w).setCell 0 _
    have HM1 := HM.out
    have C1 := HC.out.onlyB O (fun x _ hx => by cases hx; exact NB.out)
    refine ⟨⟨b, o, c, rfl, C1.part k3, NB.out⟩, ⟨by omega, some ⟨b, o + k, none⟩, c - k, by omega, ?_, ?_, fun x h0 hx => by cases hx; exact DB.out⟩, O⟩
    · rw [show N - (p + k) = m - k from by omega]
      exact XX.out
    · have := C1.shift k
      rw [show N - (p + k) = m - k from by omega]
      exact this.congr (fun i hi => by show f (p + (k + i)) = f (p + k + i); rw [Nat.add_assoc])
/-- The number of the first k bytes, the higher ones first. -/
def valN (g : Nat → Nat) : Nat → Nat
  | 0 => 0
  | k + 1 => valN g k * 256 + g k
theorem valN_lt (g : Nat → Nat) (hg : ∀ i, g i < 256) (k : Nat) : valN g k < 256 ^ k := by
  induction k with
  | zero => simp [valN]
  | succ k ih =>
    have := hg k
    unfold valN
    rw [Nat.pow_succ]
    omega
theorem valN_zero (k : Nat) : valN (fun _ => 0) k = 0 := by
  induction k with
  | zero => rfl
  | succ k ih => unfold valN; rw [ih]
theorem orAdd (x y : Nat) (h : y < 256) : x * 256 ||| y = x * 256 + y := by
  have := Nat.shiftLeft_add_eq_or_of_lt (b := y) (i := 8) (by omega) x
  rw [Nat.shiftLeft_eq] at this
  exact this.symm
theorem i64_orN (x y : Nat) (hx : x < 16777216) (hy : y < 256) : bits .or .i64 ((x : Int) * 256) (y : Int) = ((x * 256 + y : Nat) : Int) := by
  have e : ((x : Int) * 256) = ((x * 256 : Nat) : Int) := by simp
  have h1 : (BitVec.ofInt 64 ((x * 256 : Nat) : Int)).toNat = x * 256 := by rw [BitVec.ofInt_natCast, BitVec.toNat_ofNat]; exact Nat.mod_eq_of_lt (by omega)
  have h2 : (BitVec.ofInt 64 (y : Int)).toNat = y := by rw [BitVec.ofInt_natCast, BitVec.toNat_ofNat]; exact Nat.mod_eq_of_lt (by omega)
  rw [e]
  show IntKind.i64.wrap ((BitVec.ofInt 64 ((x * 256 : Nat) : Int) ||| BitVec.ofInt 64 (y : Int)).toNat : Int) = _
  rw [BitVec.toNat_or, h1, h2, orAdd x y hy]
  exact IntWalk.i64_in _ (by omega)
set_option maxRecDepth 100000 in
set_option maxHeartbeats 2000000 in
/-- number over what take hands back. -/
theorem number_of (q k : Nat) (g : Nat → Nat) (hg : ∀ i, g i < 256) (hk : k ≤ 4) (w : World) (R : World → Prop)
    (ht : Calls Try.prog 98 #[.pointer (some ⟨q, 0, none⟩), .int .i64 (k : Int)] w fun e w' => Took w' e q k g ∧ R w' ∧ OnlyB q w w') :
    Calls Try.prog 56 #[.pointer (some ⟨q, 0, none⟩), .int .i64 (k : Int)] w fun e w' => e = .returned (.int .i64 (valN g k : Nat)) ∧ R w' ∧ OnlyB q w w' := by
  have HT : Hid (Calls Try.prog 98 #[.pointer (some ⟨q, 0, none⟩), .int .i64 (k : Int)] w fun e w' => Took w' e q k g ∧ R w' ∧ OnlyB q w w') := ht
  have HG : Hid (∀ i, g i < 256) := hg
  clear ht hg
  go_enter Try.func56, Try.ntmps56
  go_wp2_with fail
  refine HT.out.mono ?_
  rintro e w1 ⟨⟨b, o, c, rfl, hc, hb⟩, hr, ho⟩
  have HC : Hid (Code8 w1 (some ⟨b, o, none⟩) k g) := hc
  have HR : Hid (R w1) := hr
  have HO : Hid (OnlyB q w w1) := ho
  clear hc hr ho hb HT
  go_wp2
  go_loopw [5, 12] (fun s i wr => ∃ r : Nat, r ≤ k ∧ i = .int .i64 r ∧ s = .int .i64 ((valN g r : Nat) : Int) ∧ w1 = wr) (fun _ i _ => k - (intOf i).toNat)
  case atStart => exact ⟨0, by omega, rfl, rfl, rfl⟩
  case round =>
    obtain ⟨r, hr, rfl, rfl, rfl⟩ := hrel
    by_cases hlt : r < k
    · have hlt' : (r : Int) < (k : Int) := by omega
      have c0 := HC.out.at hlt
      have g0 := HG.out r
      have v0 := valN_lt g HG.out r
      have v1 : valN g r < 16777216 := Nat.lt_of_lt_of_le v0 (by
        have : 256 ^ r ≤ 256 ^ 3 := Nat.pow_le_pow_right (by omega) (by omega)
        simpa using this)
      have V : Hid (valN g (r + 1) = valN g r * 256 + g r) := rfl
      have OA := i64_orN (valN g r) (g r) v1 g0
      generalize valN g r = x at *
      generalize g r = y at *
      clear v0
      go_wp2
      go_roundw
      case rel => exact ⟨r + 1, by omega, by go_num, by rw [V.out]; exact numEq8 (by omega), trivial⟩
      case measure => simp [intOf]; omega
    · obtain rfl : r = k := by omega
      have hlt' : ¬ (r : Int) < (r : Int) := by omega
      go_wp2
      go_ret
      exact ⟨rfl, HR.out, HO.out⟩
theorem number_yes (q D N k p : Nat) (hD : D ≤ q) (f : Nat → Nat) (hf : ∀ i, f i < 256) (hk0 : 0 < k) (hk : k ≤ 4) (hN : N ≤ 1048576) (hp : p + k ≤ N) (w : World) (h : Rdr w q D N f (some p)) :
    Calls Try.prog 56 #[.pointer (some ⟨q, 0, none⟩), .int .i64 (k : Int)] w fun e w' => e = .returned (.int .i64 (valN (fun i => f (p + i)) k : Nat)) ∧ Rdr w' q D N f (some (p + k)) ∧ OnlyB q w w' :=
  number_of q k (fun i => f (p + i)) (fun i => hf _) hk w (fun w' => Rdr w' q D N f (some (p + k))) (take_yes q D N k p hD f hk0 (by omega) hN hp w h)
theorem number_no (q D N k : Nat) (f : Nat → Nat) (hk : k ≤ 4) (w : World) (h : Few w q k) :
    Calls Try.prog 56 #[.pointer (some ⟨q, 0, none⟩), .int .i64 (k : Int)] w fun e w' => e = .returned (.int .i64 0) ∧ Rdr w' q D N f none ∧ OnlyB q w w' := by
  have := number_of q k (fun _ => 0) (fun _ => by omega) hk w (fun w' => Rdr w' q D N f none) (take_no q D N k f (by omega) w h)
  rw [valN_zero] at this
  exact this
set_option maxRecDepth 100000 in
set_option maxHeartbeats 2000000 in
theorem text_of (q k : Nat) (g : Nat → Nat) (w : World) (R : World → Prop)
    (ht : Calls Try.prog 98 #[.pointer (some ⟨q, 0, none⟩), .int .i64 (k : Int)] w fun e w' => Took w' e q k g ∧ R w' ∧ OnlyB q w w') :
    Calls Try.prog 57 #[.pointer (some ⟨q, 0, none⟩), .int .i64 (k : Int)] w fun e w' => e = .returned (.string (kstr g 0 k)) ∧ R w' ∧ OnlyB q w w' := by
  have HT : Hid (Calls Try.prog 98 #[.pointer (some ⟨q, 0, none⟩), .int .i64 (k : Int)] w fun e w' => Took w' e q k g ∧ R w' ∧ OnlyB q w w') := ht
  have KS : Hid (∀ (b o c : Nat) (w : World), Code8 w (some ⟨b, o, none⟩) k g → (convert 30 9 (.slice (some ⟨b, o, none⟩) k c)).run Try.prog w = .ok (.string (kstr g 0 k)) w) := fun b o c w h => kstr_of_code h
  generalize kstr g 0 k = s at *
  clear ht
  go_enter Try.func57, Try.ntmps57
  go_wp2_with fail
  refine HT.out.mono ?_
  rintro e w1 ⟨⟨b, o, c, rfl, hc, hb⟩, hr, ho⟩
  have hcv := KS.out b o c w1 hc
  have HR : Hid (R w1) := hr
  have HO : Hid (OnlyB q w w1) := ho
  clear hc hr ho hb HT KS
  go_wp2
  go_ret
  exact ⟨rfl, HR.out, HO.out⟩
/-- What a call of number or text at place p comes to: it is short behind it, or has read k bytes. -/
def Nxt (N k : Nat) (p p' : Option Nat) (Q : Nat → Prop) : Prop := (p' = none ∧ (p = none ∨ ∃ P, p = some P ∧ N < P + k)) ∨ ∃ P, p = some P ∧ P + k ≤ N ∧ p' = some (P + k) ∧ Q P
def GotN (w' : World) (e : Ending) (q D N k : Nat) (f : Nat → Nat) (p : Option Nat) : Prop := ∃ (x : Nat) (p' : Option Nat), e = .returned (.int .i64 (x : Int)) ∧ Rdr w' q D N f p' ∧ Nxt N k p p' (fun P => x = valN (fun i => f (P + i)) k) ∧ x < 256 ^ k
theorem number_any (q D N k : Nat) (hD : D ≤ q) (f : Nat → Nat) (hf : ∀ i, f i < 256) (hk0 : 0 < k) (hk : k ≤ 4) (hN : N ≤ 1048576) (p : Option Nat) (w : World) (h : Rdr w q D N f p) :
    Calls Try.prog 56 #[.pointer (some ⟨q, 0, none⟩), .int .i64 (k : Int)] w fun e w' => GotN w' e q D N k f p ∧ OnlyB q w w' := by
  have no : Few w q k → (p = none ∨ ∃ P, p = some P ∧ N < P + k) → Calls Try.prog 56 #[.pointer (some ⟨q, 0, none⟩), .int .i64 (k : Int)] w fun e w' => GotN w' e q D N k f p ∧ OnlyB q w w' := fun hF hX => (number_no q D N k f hk w hF).mono fun e w' ⟨he, hr, ho⟩ => ⟨⟨0, none, he, hr, .inl ⟨rfl, hX⟩, Nat.pow_pos (by omega)⟩, ho⟩
  cases p with
  | none => exact no (few_none hk0 h) (.inl rfl)
  | some P =>
    by_cases hP : P + k ≤ N
    · exact (number_yes q D N k P hD f hf hk0 hk hN hP w h).mono fun e w' ⟨he, hr, ho⟩ => ⟨⟨_, some (P + k), he, hr, .inr ⟨P, rfl, hP, rfl, rfl⟩, valN_lt _ (fun i => hf _) k⟩, ho⟩
    · exact no (few_some (by omega) h) (.inr ⟨P, rfl, by omega⟩)
def GotT (w' : World) (e : Ending) (q D N k : Nat) (f : Nat → Nat) (p : Option Nat) : Prop := ∃ (x : ByteArray) (p' : Option Nat), e = .returned (.string x) ∧ Rdr w' q D N f p' ∧ Nxt N k p p' (fun P => x = kstr (fun i => f (P + i)) 0 k)
theorem text_any (q D N k : Nat) (hD : D ≤ q) (f : Nat → Nat) (hk0 : 0 < k) (hk : k ≤ 1000) (hN : N ≤ 1048576) (p : Option Nat) (w : World) (h : Rdr w q D N f p) :
    Calls Try.prog 57 #[.pointer (some ⟨q, 0, none⟩), .int .i64 (k : Int)] w fun e w' => GotT w' e q D N k f p ∧ OnlyB q w w' := by
  have no : Few w q k → (p = none ∨ ∃ P, p = some P ∧ N < P + k) → Calls Try.prog 57 #[.pointer (some ⟨q, 0, none⟩), .int .i64 (k : Int)] w fun e w' => GotT w' e q D N k f p ∧ OnlyB q w w' := fun hF hX => (text_of q k (fun _ => 0) w (fun w' => Rdr w' q D N f none) (take_no q D N k f hk w hF)).mono fun e w' ⟨he, hr, ho⟩ => ⟨⟨_, none, he, hr, .inl ⟨rfl, hX⟩⟩, ho⟩
  cases p with
  | none => exact no (few_none hk0 h) (.inl rfl)
  | some P =>
    by_cases hP : P + k ≤ N
    · exact (text_of q k (fun i => f (P + i)) w (fun w' => Rdr w' q D N f (some (P + k))) (take_yes q D N k P hD f hk0 hk hN hP w h)).mono fun e w' ⟨he, hr, ho⟩ => ⟨⟨_, some (P + k), he, hr, .inr ⟨P, rfl, hP, rfl, rfl⟩⟩, ho⟩
    · exact no (few_some (by omega) h) (.inr ⟨P, rfl, by omega⟩)
end Go.Proofs.Ytglfhajfbdjjcaa
