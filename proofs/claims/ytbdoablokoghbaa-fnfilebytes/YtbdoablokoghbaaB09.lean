/-
  A reader of bytes: take, number, text, ended of the program.
-/
import Derived.Test.YtbdoablokoghbaaEls
import Derived.Test.YtbdoablokoghbaaCode8
import Derived.Test.YtbdoablokoghbaaB05
import Derived.Test.YtbdoablokoghbaaStrS
import Derived.Lib.AppendStr
import Derived.Lib.AppendZeros
import Derived.Maps.AppendAt
import Derived.Test.YtbdoablokoghbaaFileFt
import Derived.Test.YtbdoablokoghbaaFileMk
import Derived.Test.YtbdoablokoghbaaBox3
import Derived.Deep.Cut
import Derived.Test.YtbdoablokoghbaaInsJ
namespace Go.Proofs.Ytbdoablokoghbaa
open Go.ChangeShapes Go.WideShapes Go.ChangeAt Go.RowKit
set_option linter.unusedVariables false
/-- A reader in block q over the bytes f of length N: behind p of them, or short. -/
def Rdr (w : World) (q D N : Nat) (f : Nat → Nat) (p : Option Nat) : Prop :=
  match p with
  | some p => p ≤ N ∧ ∃ a c, N - p ≤ c ∧ Box2 w q 81 (.slice a (N - p) c) (.bool false) ∧ Code8 w a (N - p) (fun i => f (p + i)) ∧ (∀ x, 0 < N - p → a = some x → x.block < D)
  | none => Box2 w q 81 (.slice none 0 0) (.bool true)
theorem Rdr.lt {w : World} {q D N : Nat} {f : Nat → Nat} {p : Option Nat} (h : Rdr w q D N f p) : q < w.heap.size := by
  cases p with
  | none => exact Box2.lt h
  | some p => obtain ⟨_, a, c, _, hb, _⟩ := h; exact hb.lt
theorem Code8.keep {w w' : World} {a : Option Addr} {n D : Nat} {f : Nat → Nat} (h : Code8 w a n f) (hd : ∀ x, 0 < n → a = some x → x.block < D) (e : ∀ b, b < D → w'.heap[b]? = w.heap[b]?) : Code8 w' a n f := fun i hi => by
  obtain ⟨b, o, ha, hc⟩ := h i hi
  refine ⟨b, o, ha, ?_⟩
  rw [← hc]
  exact cellE (e b (hd _ (by omega) ha))
theorem Rdr.keep {w w' : World} {q D N : Nat} {f : Nat → Nat} {p : Option Nat} (h : Rdr w q D N f p) (e1 : w'.heap[q]? = w.heap[q]?) (e2 : ∀ b, b < D → w'.heap[b]? = w.heap[b]?) : Rdr w' q D N f p := by
  cases p with
  | none => exact Box2.ofBlock h e1
  | some p =>
    obtain ⟨h1, a, c, h2, h3, h4, h5⟩ := h
    exact ⟨h1, a, c, h2, h3.ofBlock e1, h4.keep h5 e2, h5⟩
theorem Rdr.below {w w' : World} {q D N : Nat} {f : Nat → Nat} {p : Option Nat} (h : Rdr w q D N f p) (hD : D ≤ q) (hb : Below w.heap.size w w') : Rdr w' q D N f p := h.keep (hb.block q h.lt) (fun b hb' => hb.block b (by have := h.lt; omega))
/-- There are fewer than k bytes left. -/
def Few (w : World) (q k : Nat) : Prop := ∃ a m c s, m < k ∧ Box2 w q 81 (.slice a m c) (.bool s)
theorem few_none {w : World} {q D N k : Nat} {f : Nat → Nat} (hk : 0 < k) (h : Rdr w q D N f none) : Few w q k := ⟨none, 0, 0, true, hk, h⟩
theorem few_some {w : World} {q D N k p : Nat} {f : Nat → Nat} (hp : N < p + k) (h : Rdr w q D N f (some p)) : Few w q k := by
  obtain ⟨h1, a, c, h2, h3, _⟩ := h
  exact ⟨a, N - p, c, false, by omega, h3⟩
theorem OnlyB.made {q : Nat} {w w' : World} (h : OnlyB q w w') (o : Obj) : OnlyB q w (w'.alloc o) := h.below ((Below.refl _ _).alloc (Nat.le_refl _) _)
/-- A slice of k bytes that read as g is handed back, not in the reader's own block. -/
def Took (w' : World) (e : Ending) (q k : Nat) (g : Nat → Nat) : Prop := ∃ b o c, e = .returned (.slice (some ⟨b, o, none⟩) k c) ∧ Code8 w' (some ⟨b, o, none⟩) k g ∧ b ≠ q
set_option maxRecDepth 100000 in
set_option maxHeartbeats 2000000 in
theorem take_no (q D N k : Nat) (f : Nat → Nat) (hk : k ≤ 1000) (w : World) (h : Few w q k) :
    Calls Try.prog 91 #[.pointer (some ⟨q, 0, none⟩), .int .i64 (k : Int)] w fun e w' => Took w' e q k (fun _ => 0) ∧ Rdr w' q D N f none ∧ OnlyB q w w' := by
  obtain ⟨a, m, c, s, hm, h⟩ := h
  have X : Hid (Box2 w q 81 (.slice a m c) (.bool s)) := h
  have x0 := X.out.c0
  have x1 := X.out.c1
  have f0 := X.out.fr 0
  have f1 := X.out.fr 1
  have m1 := mkBytes k (by omega)
  have k1 : (m : Int) < (k : Int) := by omega
  have Y : Hid (Box2 ((w.setCell ⟨q, 0, none⟩ (.slice none 0 0)).setCell ⟨q, 1, none⟩ (.bool true)) q 81 (.slice none 0 0) (.bool true)) := (X.out.set0 _).set1 _
  have O : Hid (OnlyB q w ((w.setCell ⟨q, 0, none⟩ (.slice none 0 0)).setCell ⟨q, 1, none⟩ (.bool true))) := ((OnlyB.refl q w).setCell 0 _).setCell 1 _
  clear h hm
  go_enter Try.func91, Try.ntmps91
  go_wp2
  go_ret
  have Z : (((w.setCell ⟨q, 0, none⟩ (.slice none 0 0)).setCell ⟨q, 1, none⟩ (.bool true)).alloc (.cells (madeCells #[.int .u8 0] k) 5)).rowIs ((w.setCell ⟨q, 0, none⟩ (.slice none 0 0)).setCell ⟨q, 1, none⟩ (.bool true)).heap.size 5 k (fun _ => .int .u8 0) := World.rowIs_made _ _ _ _
  have hs : ((w.setCell ⟨q, 0, none⟩ (.slice none 0 0)).setCell ⟨q, 1, none⟩ (.bool true)).heap.size = w.heap.size := by simp
  rw [hs] at Z
  refine ⟨⟨w.heap.size, 0, k, rfl, fun i hi => ⟨w.heap.size, 0, rfl, by rw [Nat.zero_add]; exact Z.cell hi⟩, Nat.ne_of_gt X.out.lt⟩, ?_, O.out.made _⟩
  exact Y.out.alloc _
set_option maxRecDepth 100000 in
set_option maxHeartbeats 2000000 in
theorem take_yes (q D N k p : Nat) (hD : D ≤ q) (f : Nat → Nat) (hk0 : 0 < k) (hk : k ≤ 1000) (hN : N ≤ 1048576) (hp : p + k ≤ N) (w : World) (h : Rdr w q D N f (some p)) :
    Calls Try.prog 91 #[.pointer (some ⟨q, 0, none⟩), .int .i64 (k : Int)] w fun e w' => Took w' e q k (fun i => f (p + i)) ∧ Rdr w' q D N f (some (p + k)) ∧ OnlyB q w w' := by
  obtain ⟨h1, a, c, h2, h3, h4, h5⟩ := h
  obtain ⟨b, o, rfl, hc⟩ := h4.opened (by omega)
  have X : Hid (Box2 w q 81 (.slice (some ⟨b, o, none⟩) (N - p) c) (.bool false)) := h3
  have HC : Hid (Code8 w (some ⟨b, o, none⟩) (N - p) (fun i => f (p + i))) := h4
  have DB : Hid (b < D) := h5 _ (by omega) rfl
  have NB : Hid (b ≠ q) := by have := DB.out; show _ ≠ _; omega
  have x0 := X.out.c0
  have x1 := X.out.c1
  have f0 := X.out.fr 0
  have f1 := X.out.fr 1
  obtain ⟨m, hm⟩ : ∃ m, m = N - p := ⟨_, rfl⟩
  rw [← hm] at x0 X HC h2
  have k1 : ¬ (m : Int) < (k : Int) := by omega
  have k2 : (k : Int) ≤ (m : Int) := by omega
  have k3 : k ≤ m := by omega
  have k4 : m ≤ c := h2
  have HM : Hid (m = N - p) := hm
  clear h1 h3 h4 h5 hc hm
  by_cases hcc : c = k
  · subst hcc
    obtain rfl : m = c := by omega
    have XX : Hid (Box2 (w.setCell ⟨q, 0, none⟩ (.slice (some ⟨b, o, none⟩) 0 0)) q 81 (.slice (some ⟨b, o, none⟩) 0 0) (.bool false)) := X.out.set0 _
    go_enter Try.func91, Try.ntmps91
    go_wp2
    go_ret
    have O : OnlyB q w (w.setCell ⟨q, 0, none⟩ (.slice (some ⟨b, o, none⟩) 0 0)) := (OnlyB.refl q w).setCell 0 _
    have HM1 := HM.out
    refine ⟨⟨b, o, m, rfl, HC.out.onlyB O (fun x _ hx => by cases hx; exact NB.out), NB.out⟩, ⟨by omega, some ⟨b, o, none⟩, 0, by omega, ?_, fun i hi => absurd hi (by omega), fun x h0 => absurd h0 (by omega)⟩, O⟩
    rw [show N - (p + m) = 0 from by omega]
    exact XX.out
  · have hcc' : ¬ k = c := fun e => hcc e.symm
    have XX : Hid (Box2 (w.setCell ⟨q, 0, none⟩ (.slice (some ⟨b, o + k, none⟩) (m - k) (c - k))) q 81 (.slice (some ⟨b, o + k, none⟩) (m - k) (c - k)) (.bool false)) := X.out.set0 _
    go_enter Try.func91, Try.ntmps91
    go_wp2
    go_ret
    have O : OnlyB q w (w.setCell ⟨q, 0, none⟩ (.slice (some ⟨b, o + k, none⟩) (m - k) (c - k))) := (OnlyB.refl q w).setCell 0 _
    have HM1 := HM.out
    have C1 := HC.out.onlyB O (fun x _ hx => by cases hx; exact NB.out)
    refine ⟨⟨b, o, c, rfl, C1.part k3, NB.out⟩, ⟨by omega, some ⟨b, o + k, none⟩, c - k, by omega, ?_, ?_, fun x h0 hx => by cases hx; exact DB.out⟩, O⟩
    · rw [show N - (p + k) = m - k from by omega]
      exact XX.out
    · have := C1.shift k
      rw [show N - (p + k) = m - k from by omega]
      exact this.congr (fun i hi => by show f (p + (k + i)) = f (p + k + i); rw [Nat.add_assoc])
/-- The number of the first k bytes, the higher ones first. -/
def valN (g : Nat → Nat) : Nat → Nat
  | 0 => 0
  | k + 1 => valN g k * 256 + g k
theorem valN_lt (g : Nat → Nat) (hg : ∀ i, g i < 256) (k : Nat) : valN g k < 256 ^ k := by
  induction k with
  | zero => simp [valN]
  | succ k ih =>
    have := hg k
    unfold valN
    rw [Nat.pow_succ]
    omega
theorem valN_zero (k : Nat) : valN (fun _ => 0) k = 0 := by
  induction k with
  | zero => rfl
  | succ k ih => unfold valN; rw [ih]
theorem orAdd (x y : Nat) (h : y < 256) : x * 256 ||| y = x * 256 + y := by
  have := Nat.shiftLeft_add_eq_or_of_lt (b := y) (i := 8) (by omega) x
  rw [Nat.shiftLeft_eq] at this
  exact this.symm
theorem i64_orN (x y : Nat) (hx : x < 16777216) (hy : y < 256) : bits .or .i64 ((x : Int) * 256) (y : Int) = ((x * 256 + y : Nat) : Int) := by
  have e : ((x : Int) * 256) = ((x * 256 : Nat) : Int) := by simp
  have h1 : (BitVec.ofInt 64 ((x * 256 : Nat) : Int)).toNat = x * 256 := by rw [BitVec.ofInt_natCast, BitVec.toNat_ofNat]; exact Nat.mod_eq_of_lt (by omega)
  have h2 : (BitVec.ofInt 64 (y : Int)).toNat = y := by rw [BitVec.ofInt_natCast, BitVec.toNat_ofNat]; exact Nat.mod_eq_of_lt (by omega)
  rw [e]
  show IntKind.i64.wrap ((BitVec.ofInt 64 ((x * 256 : Nat) : Int) ||| BitVec.ofInt 64 (y : Int)).toNat : Int) = _
  rw [BitVec.toNat_or, h1, h2, orAdd x y hy]
  exact IntWalk.i64_in _ (by omega)
set_option maxRecDepth 100000 in
set_option maxHeartbeats 2000000 in
/-- number over what take hands back. -/
theorem number_of (q k : Nat) (g : Nat → Nat) (hg : ∀ i, g i < 256) (hk : k ≤ 4) (w : World) (R : World → Prop)
    (ht : Calls Try.prog 91 #[.pointer (some ⟨q, 0, none⟩), .int .i64 (k : Int)] w fun e w' => Took w' e q k g ∧ R w' ∧ OnlyB q w w') :
    Calls Try.prog 59 #[.pointer (some ⟨q, 0, none⟩), .int .i64 (k : Int)] w fun e w' => e = .returned (.int .i64 (valN g k : Nat)) ∧ R w' ∧ OnlyB q w w' := by
  have HT : Hid (Calls Try.prog 91 #[.pointer (some ⟨q, 0, none⟩), .int .i64 (k : Int)] w fun e w' => Took w' e q k g ∧ R w' ∧ OnlyB q w w') := ht
  have HG : Hid (∀ i, g i < 256) := hg
  clear ht hg
  go_enter Try.func59, Try.ntmps59
  go_wp2_with fail
  refine HT.out.mono ?_
  rintro e w1 ⟨⟨b, o, c, rfl, hc, hb⟩, hr, ho⟩
  have HC : Hid (Code8 w1 (some ⟨b, o, none⟩) k g) := hc
  have HR : Hid (R w1) := hr
  have HO : Hid (OnlyB q w w1) := ho
  clear hc hr ho hb HT
  go_wp2
  go_loopw [5, 12] (fun s i wr => ∃ r : Nat, r ≤ k ∧ i = .int .i64 r ∧ s = .int .i64 ((valN g r : Nat) : Int) ∧ w1 = wr) (fun _ i _ => k - (intOf i).toNat)
  case atStart => exact ⟨0, by omega, rfl, rfl, rfl⟩
  case round =>
    obtain ⟨r, hr, rfl, rfl, rfl⟩ := hrel
    by_cases hlt : r < k
    · have hlt' : (r : Int) < (k : Int) := by omega
      have c0 := HC.out.at hlt
      have g0 := HG.out r
      have v0 := valN_lt g HG.out r
      have v1 : valN g r < 16777216 := Nat.lt_of_lt_of_le v0 (by
        have : 256 ^ r ≤ 256 ^ 3 := Nat.pow_le_pow_right (by omega) (by omega)
        simpa using this)
      have V : Hid (valN g (r + 1) = valN g r * 256 + g r) := rfl
      have OA := i64_orN (valN g r) (g r) v1 g0
      generalize valN g r = x at *
      generalize g r = y at *
      clear v0
      go_wp2
      go_roundw
      case rel => exact ⟨r + 1, by omega, by go_num, by rw [V.out]; exact numEq8 (by omega), trivial⟩
      case measure => simp [intOf]; omega
    · obtain rfl : r = k := by omega
      have hlt' : ¬ (r : Int) < (r : Int) := by omega
      go_wp2
      go_ret
      exact ⟨rfl, HR.out, HO.out⟩
theorem number_yes (q D N k p : Nat) (hD : D ≤ q) (f : Nat → Nat) (hf : ∀ i, f i < 256) (hk0 : 0 < k) (hk : k ≤ 4) (hN : N ≤ 1048576) (hp : p + k ≤ N) (w : World) (h : Rdr w q D N f (some p)) :
    Calls Try.prog 59 #[.pointer (some ⟨q, 0, none⟩), .int .i64 (k : Int)] w fun e w' => e = .returned (.int .i64 (valN (fun i => f (p + i)) k : Nat)) ∧ Rdr w' q D N f (some (p + k)) ∧ OnlyB q w w' :=
  number_of q k (fun i => f (p + i)) (fun i => hf _) hk w (fun w' => Rdr w' q D N f (some (p + k))) (take_yes q D N k p hD f hk0 (by omega) hN hp w h)
theorem number_no (q D N k : Nat) (f : Nat → Nat) (hk : k ≤ 4) (w : World) (h : Few w q k) :
    Calls Try.prog 59 #[.pointer (some ⟨q, 0, none⟩), .int .i64 (k : Int)] w fun e w' => e = .returned (.int .i64 0) ∧ Rdr w' q D N f none ∧ OnlyB q w w' := by
  have := number_of q k (fun _ => 0) (fun _ => by omega) hk w (fun w' => Rdr w' q D N f none) (take_no q D N k f (by omega) w h)
  rw [valN_zero] at this
  exact this
set_option maxRecDepth 100000 in
set_option maxHeartbeats 2000000 in
theorem text_of (q k : Nat) (g : Nat → Nat) (w : World) (R : World → Prop)
    (ht : Calls Try.prog 91 #[.pointer (some ⟨q, 0, none⟩), .int .i64 (k : Int)] w fun e w' => Took w' e q k g ∧ R w' ∧ OnlyB q w w') :
    Calls Try.prog 60 #[.pointer (some ⟨q, 0, none⟩), .int .i64 (k : Int)] w fun e w' => e = .returned (.string (kstr g 0 k)) ∧ R w' ∧ OnlyB q w w' := by
  have HT : Hid (Calls Try.prog 91 #[.pointer (some ⟨q, 0, none⟩), .int .i64 (k : Int)] w fun e w' => Took w' e q k g ∧ R w' ∧ OnlyB q w w') := ht
  have KS : Hid (∀ (b o c : Nat) (w : World), Code8 w (some ⟨b, o, none⟩) k g → (convert 22 9 (.slice (some ⟨b, o, none⟩) k c)).run Try.prog w = .ok (.string (kstr g 0 k)) w) := fun b o c w h => kstr_of_code h
  generalize kstr g 0 k = s at *
  clear ht
  go_enter Try.func60, Try.ntmps60
  go_wp2_with fail
  refine HT.out.mono ?_
  rintro e w1 ⟨⟨b, o, c, rfl, hc, hb⟩, hr, ho⟩
  have hcv := KS.out b o c w1 hc
  have HR : Hid (R w1) := hr
  have HO : Hid (OnlyB q w w1) := ho
  clear hc hr ho hb HT KS
  go_wp2
  go_ret
  exact ⟨rfl, HR.out, HO.out⟩
/-- What a call of number or text at place p comes to: it is short behind it, or has read k bytes. -/
def Nxt (N k : Nat) (p p' : Option Nat) (Q : Nat → Prop) : Prop := (p' = none ∧ (p = none ∨ ∃ P, p = some P ∧ N < P + k)) ∨ ∃ P, p = some P ∧ P + k ≤ N ∧ p' = some (P + k) ∧ Q P
def GotN (w' : World) (e : Ending) (q D N k : Nat) (f : Nat → Nat) (p : Option Nat) : Prop := ∃ (x : Nat) (p' : Option Nat), e = .returned (.int .i64 (x : Int)) ∧ Rdr w' q D N f p' ∧ Nxt N k p p' (fun P => x = valN (fun i => f (P + i)) k) ∧ x < 256 ^ k
theorem number_any (q D N k : Nat) (hD : D ≤ q) (f : Nat → Nat) (hf : ∀ i, f i < 256) (hk0 : 0 < k) (hk : k ≤ 4) (hN : N ≤ 1048576) (p : Option Nat) (w : World) (h : Rdr w q D N f p) :
    Calls Try.prog 59 #[.pointer (some ⟨q, 0, none⟩), .int .i64 (k : Int)] w fun e w' => GotN w' e q D N k f p ∧ OnlyB q w w' := by
  have no : Few w q k → (p = none ∨ ∃ P, p = some P ∧ N < P + k) → Calls Try.prog 59 #[.pointer (some ⟨q, 0, none⟩), .int .i64 (k : Int)] w fun e w' => GotN w' e q D N k f p ∧ OnlyB q w w' := fun hF hX => (number_no q D N k f hk w hF).mono fun e w' ⟨he, hr, ho⟩ => ⟨⟨0, none, he, hr, .inl ⟨rfl, hX⟩, Nat.pow_pos (by omega)⟩, ho⟩
  cases p with
  | none => exact no (few_none hk0 h) (.inl rfl)
  | some P =>
    by_cases hP : P + k ≤ N
    · exact (number_yes q D N k P hD f hf hk0 hk hN hP w h).mono fun e w' ⟨he, hr, ho⟩ => ⟨⟨_, some (P + k), he, hr, .inr ⟨P, rfl, hP, rfl, rfl⟩, valN_lt _ (fun i => hf _) k⟩, ho⟩
    · exact no (few_some (by omega) h) (.inr ⟨P, rfl, by omega⟩)
def GotT (w' : World) (e : Ending) (q D N k : Nat) (f : Nat → Nat) (p : Option Nat) : Prop := ∃ (x : ByteArray) (p' : Option Nat), e = .returned (.string x) ∧ Rdr w' q D N f p' ∧ Nxt N k p p' (fun P => x = kstr (fun i => f (P + i)) 0 k)
theorem text_any (q D N k : Nat) (hD : D ≤ q) (f : Nat → Nat) (hk0 : 0 < k) (hk : k ≤ 1000) (hN : N ≤ 1048576) (p : Option Nat) (w : World) (h : Rdr w q D N f p) :
    Calls Try.prog 60 #[.pointer (some ⟨q, 0, none⟩), .int .i64 (k : Int)] w fun e w' => GotT w' e q D N k f p ∧ OnlyB q w w' := by
  have no : Few w q k → (p = none ∨ ∃ P, p = some P ∧ N < P + k) → Calls Try.prog 60 #[.pointer (some ⟨q, 0, none⟩), .int .i64 (k : Int)] w fun e w' => GotT w' e q D N k f p ∧ OnlyB q w w' := fun hF hX => (text_of q k (fun _ => 0) w (fun w' => Rdr w' q D N f none) (take_no q D N k f hk w hF)).mono fun e w' ⟨he, hr, ho⟩ => ⟨⟨_, none, he, hr, .inl ⟨rfl, hX⟩⟩, ho⟩
  cases p with
  | none => exact no (few_none hk0 h) (.inl rfl)
  | some P =>
    by_cases hP : P + k ≤ N
    · exact (text_of q k (fun i => f (P + i)) w (fun w' => Rdr w' q D N f (some (P + k))) (take_yes q D N k P hD f hk0 hk hN hP w h)).mono fun e w' ⟨he, hr, ho⟩ => ⟨⟨_, some (P + k), he, hr, .inr ⟨P, rfl, hP, rfl, rfl⟩⟩, ho⟩
    · exact no (few_some (by omega) h) (.inr ⟨P, rfl, by omega⟩)
end Go.Proofs.Ytbdoablokoghbaa

/-
  A reader of bytes, as in Rdr, that may take no byte at all and great texts.
-/
namespace Go.Proofs.Ytbdoablokoghbaa
open Go.ChangeShapes Go.WideShapes Go.ChangeAt Go.RowKit
set_option linter.unusedVariables false
/-- A reader in block q over the bytes f of length N: behind p of them, or short. -/
def Rdz (w : World) (q D N : Nat) (f : Nat → Nat) (p : Option Nat) : Prop :=
  match p with
  | some p => p ≤ N ∧ ∃ a c, N - p ≤ c ∧ Box2 w q 81 (.slice a (N - p) c) (.bool false) ∧ Code8 w a (N - p) (fun i => f (p + i)) ∧ (∀ x, 0 < N - p → a = some x → x.block < D) ∧ (0 < p → ∃ b o, a = some ⟨b, o, none⟩)
  | none => Box2 w q 81 (.slice none 0 0) (.bool true)
theorem Rdz.lt {w : World} {q D N : Nat} {f : Nat → Nat} {p : Option Nat} (h : Rdz w q D N f p) : q < w.heap.size := by
  cases p with
  | none => exact Box2.lt h
  | some p => obtain ⟨_, a, c, _, hb, _⟩ := h; exact hb.lt
theorem Rdz.keep {w w' : World} {q D N : Nat} {f : Nat → Nat} {p : Option Nat} (h : Rdz w q D N f p) (e1 : w'.heap[q]? = w.heap[q]?) (e2 : ∀ b, b < D → w'.heap[b]? = w.heap[b]?) : Rdz w' q D N f p := by
  cases p with
  | none => exact Box2.ofBlock h e1
  | some p =>
    obtain ⟨h1, a, c, h2, h3, h4, h5, h6⟩ := h
    exact ⟨h1, a, c, h2, h3.ofBlock e1, h4.keep h5 e2, h5, h6⟩
theorem Rdz.below {w w' : World} {q D N : Nat} {f : Nat → Nat} {p : Option Nat} (h : Rdz w q D N f p) (hD : D ≤ q) (hb : Below w.heap.size w w') : Rdz w' q D N f p := h.keep (hb.block q h.lt) (fun b hb' => hb.block b (by have := h.lt; omega))
/-- There are fewer than k bytes left. -/
def FewZ (w : World) (q k : Nat) : Prop := ∃ a m c s, m < k ∧ Box2 w q 81 (.slice a m c) (.bool s)
theorem fewZ_none {w : World} {q D N k : Nat} {f : Nat → Nat} (hk : 0 < k) (h : Rdz w q D N f none) : FewZ w q k := ⟨none, 0, 0, true, hk, h⟩
theorem fewZ_some {w : World} {q D N k p : Nat} {f : Nat → Nat} (hp : N < p + k) (h : Rdz w q D N f (some p)) : FewZ w q k := by
  obtain ⟨h1, a, c, h2, h3, _⟩ := h
  exact ⟨a, N - p, c, false, by omega, h3⟩
/-- A slice of k bytes that read as g is handed back, not in the reader's own block. -/
def TookZ (w' : World) (e : Ending) (q k : Nat) (g : Nat → Nat) : Prop := ∃ b o c, e = .returned (.slice (some ⟨b, o, none⟩) k c) ∧ Code8 w' (some ⟨b, o, none⟩) k g ∧ b ≠ q
set_option maxRecDepth 100000 in
set_option maxHeartbeats 2000000 in
theorem takeZ_no (q D N k : Nat) (f : Nat → Nat) (hk : k ≤ 100000) (w : World) (h : FewZ w q k) :
    Calls Try.prog 91 #[.pointer (some ⟨q, 0, none⟩), .int .i64 (k : Int)] w fun e w' => TookZ w' e q k (fun _ => 0) ∧ Rdz w' q D N f none ∧ OnlyB q w w' := by
  obtain ⟨a, m, c, s, hm, h⟩ := h
  have X : Hid (Box2 w q 81 (.slice a m c) (.bool s)) := h
  have x0 := X.out.c0
  have x1 := X.out.c1
  have f0 := X.out.fr 0
  have f1 := X.out.fr 1
  have m1 := mkBytes k (by omega)
  have k1 : (m : Int) < (k : Int) := by omega
  have Y : Hid (Box2 ((w.setCell ⟨q, 0, none⟩ (.slice none 0 0)).setCell ⟨q, 1, none⟩ (.bool true)) q 81 (.slice none 0 0) (.bool true)) := (X.out.set0 _).set1 _
  have O : Hid (OnlyB q w ((w.setCell ⟨q, 0, none⟩ (.slice none 0 0)).setCell ⟨q, 1, none⟩ (.bool true))) := ((OnlyB.refl q w).setCell 0 _).setCell 1 _
  clear h hm
  go_enter Try.func91, Try.ntmps91
  go_wp2
  go_ret
  have Z : (((w.setCell ⟨q, 0, none⟩ (.slice none 0 0)).setCell ⟨q, 1, none⟩ (.bool true)).alloc (.cells (madeCells #[.int .u8 0] k) 5)).rowIs ((w.setCell ⟨q, 0, none⟩ (.slice none 0 0)).setCell ⟨q, 1, none⟩ (.bool true)).heap.size 5 k (fun _ => .int .u8 0) := World.rowIs_made _ _ _ _
  have hs : ((w.setCell ⟨q, 0, none⟩ (.slice none 0 0)).setCell ⟨q, 1, none⟩ (.bool true)).heap.size = w.heap.size := by simp
  rw [hs] at Z
  refine ⟨⟨w.heap.size, 0, k, rfl, fun i hi => ⟨w.heap.size, 0, rfl, by rw [Nat.zero_add]; exact Z.cell hi⟩, Nat.ne_of_gt X.out.lt⟩, ?_, O.out.made _⟩
  exact Y.out.alloc _
set_option maxRecDepth 100000 in
set_option maxHeartbeats 2000000 in
theorem takeZ_yes (q D N k p : Nat) (hD : D ≤ q) (f : Nat → Nat) (hk0 : 0 < k) (hk : k ≤ 100000) (hN : N ≤ 1048576) (hp : p + k ≤ N) (w : World) (h : Rdz w q D N f (some p)) :
    Calls Try.prog 91 #[.pointer (some ⟨q, 0, none⟩), .int .i64 (k : Int)] w fun e w' => TookZ w' e q k (fun i => f (p + i)) ∧ Rdz w' q D N f (some (p + k)) ∧ OnlyB q w w' := by
  obtain ⟨h1, a, c, h2, h3, h4, h5, _⟩ := h
  obtain ⟨b, o, rfl, hc⟩ := h4.opened (by omega)
  have X : Hid (Box2 w q 81 (.slice (some ⟨b, o, none⟩) (N - p) c) (.bool false)) := h3
  have HC : Hid (Code8 w (some ⟨b, o, none⟩) (N - p) (fun i => f (p + i))) := h4
  have DB : Hid (b < D) := h5 _ (by omega) rfl
  have NB : Hid (b ≠ q) := by have := DB.out; show _ ≠ _; omega
  have x0 := X.out.c0
  have x1 := X.out.c1
  have f0 := X.out.fr 0
  have f1 := X.out.fr 1
  obtain ⟨m, hm⟩ : ∃ m, m = N - p := ⟨_, rfl⟩
  rw [← hm] at x0 X HC h2
  have k1 : ¬ (m : Int) < (k : Int) := by omega
  have k2 : (k : Int) ≤ (m : Int) := by omega
  have k3 : k ≤ m := by omega
  have k4 : m ≤ c := h2
  have HM : Hid (m = N - p) := hm
  clear h1 h3 h4 h5 hc hm
  by_cases hcc : c = k
  · subst hcc
    obtain rfl : m = c := by omega
    have XX : Hid (Box2 (w.setCell ⟨q, 0, none⟩ (.slice (some ⟨b, o, none⟩) 0 0)) q 81 (.slice (some ⟨b, o, none⟩) 0 0) (.bool false)) := X.out.set0 _
    go_enter Try.func91, Try.ntmps91
    go_wp2
    go_ret
    have O : OnlyB q w (w.setCell ⟨q, 0, none⟩ (.slice (some ⟨b, o, none⟩) 0 0)) := (OnlyB.refl q w).setCell 0 _
    have HM1 := HM.out
    refine ⟨⟨b, o, m, rfl, HC.out.onlyB O (fun x _ hx => by cases hx; exact NB.out), NB.out⟩, ⟨by omega, some ⟨b, o, none⟩, 0, by omega, ?_, fun i hi => absurd hi (by omega), fun x h0 => absurd h0 (by omega), fun _ => ⟨b, o, rfl⟩⟩, O⟩
    rw [show N - (p + m) = 0 from by omega]
    exact XX.out
  · have hcc' : ¬ k = c := fun e => hcc e.symm
    have XX : Hid (Box2 (w.setCell ⟨q, 0, none⟩ (.slice (some ⟨b, o + k, none⟩) (m - k) (c - k))) q 81 (.slice (some ⟨b, o + k, none⟩) (m - k) (c - k)) (.bool false)) := X.out.set0 _
    go_enter Try.func91, Try.ntmps91
    go_wp2
    go_ret
    have O : OnlyB q w (w.setCell ⟨q, 0, none⟩ (.slice (some ⟨b, o + k, none⟩) (m - k) (c - k))) := (OnlyB.refl q w).setCell 0 _
    have HM1 := HM.out
    have C1 := HC.out.onlyB O (fun x _ hx => by cases hx; exact NB.out)
    refine ⟨⟨b, o, c, rfl, C1.part k3, NB.out⟩, ⟨by omega, some ⟨b, o + k, none⟩, c - k, by omega, ?_, ?_, fun x h0 hx => by cases hx; exact DB.out, fun _ => ⟨b, o + k, rfl⟩⟩, O⟩
    · rw [show N - (p + k) = m - k from by omega]
      exact XX.out
    · have := C1.shift k
      rw [show N - (p + k) = m - k from by omega]
      exact this.congr (fun i hi => by show f (p + (k + i)) = f (p + k + i); rw [Nat.add_assoc])
set_option maxRecDepth 100000 in
set_option maxHeartbeats 2000000 in
/-- number over what take hands back. -/
theorem numberZ_of (q k : Nat) (g : Nat → Nat) (hg : ∀ i, g i < 256) (hk : k ≤ 4) (w : World) (R : World → Prop)
    (ht : Calls Try.prog 91 #[.pointer (some ⟨q, 0, none⟩), .int .i64 (k : Int)] w fun e w' => TookZ w' e q k g ∧ R w' ∧ OnlyB q w w') :
    Calls Try.prog 59 #[.pointer (some ⟨q, 0, none⟩), .int .i64 (k : Int)] w fun e w' => e = .returned (.int .i64 (valN g k : Nat)) ∧ R w' ∧ OnlyB q w w' := by
  have HT : Hid (Calls Try.prog 91 #[.pointer (some ⟨q, 0, none⟩), .int .i64 (k : Int)] w fun e w' => TookZ w' e q k g ∧ R w' ∧ OnlyB q w w') := ht
  have HG : Hid (∀ i, g i < 256) := hg
  clear ht hg
  go_enter Try.func59, Try.ntmps59
  go_wp2_with fail
  refine HT.out.mono ?_
  rintro e w1 ⟨⟨b, o, c, rfl, hc, hb⟩, hr, ho⟩
  have HC : Hid (Code8 w1 (some ⟨b, o, none⟩) k g) := hc
  have HR : Hid (R w1) := hr
  have HO : Hid (OnlyB q w w1) := ho
  clear hc hr ho hb HT
  go_wp2
  go_loopw [5, 12] (fun s i wr => ∃ r : Nat, r ≤ k ∧ i = .int .i64 r ∧ s = .int .i64 ((valN g r : Nat) : Int) ∧ w1 = wr) (fun _ i _ => k - (intOf i).toNat)
  case atStart => exact ⟨0, by omega, rfl, rfl, rfl⟩
  case round =>
    obtain ⟨r, hr, rfl, rfl, rfl⟩ := hrel
    by_cases hlt : r < k
    · have hlt' : (r : Int) < (k : Int) := by omega
      have c0 := HC.out.at hlt
      have g0 := HG.out r
      have v0 := valN_lt g HG.out r
      have v1 : valN g r < 16777216 := Nat.lt_of_lt_of_le v0 (by
        have : 256 ^ r ≤ 256 ^ 3 := Nat.pow_le_pow_right (by omega) (by omega)
        simpa using this)
      have V : Hid (valN g (r + 1) = valN g r * 256 + g r) := rfl
      have OA := i64_orN (valN g r) (g r) v1 g0
      generalize valN g r = x at *
      generalize g r = y at *
      clear v0
      go_wp2
      go_roundw
      case rel => exact ⟨r + 1, by omega, by go_num, by rw [V.out]; exact numEq8 (by omega), trivial⟩
      case measure => simp [intOf]; omega
    · obtain rfl : r = k := by omega
      have hlt' : ¬ (r : Int) < (r : Int) := by omega
      go_wp2
      go_ret
      exact ⟨rfl, HR.out, HO.out⟩
theorem numberZ_yes (q D N k p : Nat) (hD : D ≤ q) (f : Nat → Nat) (hf : ∀ i, f i < 256) (hk0 : 0 < k) (hk : k ≤ 4) (hN : N ≤ 1048576) (hp : p + k ≤ N) (w : World) (h : Rdz w q D N f (some p)) :
    Calls Try.prog 59 #[.pointer (some ⟨q, 0, none⟩), .int .i64 (k : Int)] w fun e w' => e = .returned (.int .i64 (valN (fun i => f (p + i)) k : Nat)) ∧ Rdz w' q D N f (some (p + k)) ∧ OnlyB q w w' :=
  numberZ_of q k (fun i => f (p + i)) (fun i => hf _) hk w (fun w' => Rdz w' q D N f (some (p + k))) (takeZ_yes q D N k p hD f hk0 (by omega) hN hp w h)
theorem numberZ_no (q D N k : Nat) (f : Nat → Nat) (hk : k ≤ 4) (w : World) (h : FewZ w q k) :
    Calls Try.prog 59 #[.pointer (some ⟨q, 0, none⟩), .int .i64 (k : Int)] w fun e w' => e = .returned (.int .i64 0) ∧ Rdz w' q D N f none ∧ OnlyB q w w' := by
  have := numberZ_of q k (fun _ => 0) (fun _ => by omega) hk w (fun w' => Rdz w' q D N f none) (takeZ_no q D N k f (by omega) w h)
  rw [valN_zero] at this
  exact this
set_option maxRecDepth 100000 in
set_option maxHeartbeats 2000000 in
theorem textZ_of (q k : Nat) (g : Nat → Nat) (w : World) (R : World → Prop)
    (ht : Calls Try.prog 91 #[.pointer (some ⟨q, 0, none⟩), .int .i64 (k : Int)] w fun e w' => TookZ w' e q k g ∧ R w' ∧ OnlyB q w w') :
    Calls Try.prog 60 #[.pointer (some ⟨q, 0, none⟩), .int .i64 (k : Int)] w fun e w' => e = .returned (.string (kstr g 0 k)) ∧ R w' ∧ OnlyB q w w' := by
  have HT : Hid (Calls Try.prog 91 #[.pointer (some ⟨q, 0, none⟩), .int .i64 (k : Int)] w fun e w' => TookZ w' e q k g ∧ R w' ∧ OnlyB q w w') := ht
  have KS : Hid (∀ (b o c : Nat) (w : World), Code8 w (some ⟨b, o, none⟩) k g → (convert 22 9 (.slice (some ⟨b, o, none⟩) k c)).run Try.prog w = .ok (.string (kstr g 0 k)) w) := fun b o c w h => kstr_of_code h
  generalize kstr g 0 k = s at *
  clear ht
  go_enter Try.func60, Try.ntmps60
  go_wp2_with fail
  refine HT.out.mono ?_
  rintro e w1 ⟨⟨b, o, c, rfl, hc, hb⟩, hr, ho⟩
  have hcv := KS.out b o c w1 hc
  have HR : Hid (R w1) := hr
  have HO : Hid (OnlyB q w w1) := ho
  clear hc hr ho hb HT KS
  go_wp2
  go_ret
  exact ⟨rfl, HR.out, HO.out⟩
def GotNZ (w' : World) (e : Ending) (q D N k : Nat) (f : Nat → Nat) (p : Option Nat) : Prop := ∃ (x : Nat) (p' : Option Nat), e = .returned (.int .i64 (x : Int)) ∧ Rdz w' q D N f p' ∧ Nxt N k p p' (fun P => x = valN (fun i => f (P + i)) k) ∧ x < 256 ^ k
theorem numberZ_any (q D N k : Nat) (hD : D ≤ q) (f : Nat → Nat) (hf : ∀ i, f i < 256) (hk0 : 0 < k) (hk : k ≤ 4) (hN : N ≤ 1048576) (p : Option Nat) (w : World) (h : Rdz w q D N f p) :
    Calls Try.prog 59 #[.pointer (some ⟨q, 0, none⟩), .int .i64 (k : Int)] w fun e w' => GotNZ w' e q D N k f p ∧ OnlyB q w w' := by
  have no : FewZ w q k → (p = none ∨ ∃ P, p = some P ∧ N < P + k) → Calls Try.prog 59 #[.pointer (some ⟨q, 0, none⟩), .int .i64 (k : Int)] w fun e w' => GotNZ w' e q D N k f p ∧ OnlyB q w w' := fun hF hX => (numberZ_no q D N k f hk w hF).mono fun e w' ⟨he, hr, ho⟩ => ⟨⟨0, none, he, hr, .inl ⟨rfl, hX⟩, Nat.pow_pos (by omega)⟩, ho⟩
  cases p with
  | none => exact no (fewZ_none hk0 h) (.inl rfl)
  | some P =>
    by_cases hP : P + k ≤ N
    · exact (numberZ_yes q D N k P hD f hf hk0 hk hN hP w h).mono fun e w' ⟨he, hr, ho⟩ => ⟨⟨_, some (P + k), he, hr, .inr ⟨P, rfl, hP, rfl, rfl⟩, valN_lt _ (fun i => hf _) k⟩, ho⟩
    · exact no (fewZ_some (by omega) h) (.inr ⟨P, rfl, by omega⟩)
def GotTZ (w' : World) (e : Ending) (q D N k : Nat) (f : Nat → Nat) (p : Option Nat) : Prop := ∃ (x : ByteArray) (p' : Option Nat), e = .returned (.string x) ∧ Rdz w' q D N f p' ∧ Nxt N k p p' (fun P => x = kstr (fun i => f (P + i)) 0 k) ∧ x.size = k
theorem textZ_any (q D N k : Nat) (hD : D ≤ q) (f : Nat → Nat) (hk0 : 0 < k) (hk : k ≤ 100000) (hN : N ≤ 1048576) (p : Option Nat) (w : World) (h : Rdz w q D N f p) :
    Calls Try.prog 60 #[.pointer (some ⟨q, 0, none⟩), .int .i64 (k : Int)] w fun e w' => GotTZ w' e q D N k f p ∧ OnlyB q w w' := by
  have no : FewZ w q k → (p = none ∨ ∃ P, p = some P ∧ N < P + k) → Calls Try.prog 60 #[.pointer (some ⟨q, 0, none⟩), .int .i64 (k : Int)] w fun e w' => GotTZ w' e q D N k f p ∧ OnlyB q w w' := fun hF hX => (textZ_of q k (fun _ => 0) w (fun w' => Rdz w' q D N f none) (takeZ_no q D N k f hk w hF)).mono fun e w' ⟨he, hr, ho⟩ => ⟨⟨_, none, he, hr, .inl ⟨rfl, hX⟩, kstr_size _ _ _⟩, ho⟩
  cases p with
  | none => exact no (fewZ_none hk0 h) (.inl rfl)
  | some P =>
    by_cases hP : P + k ≤ N
    · exact (textZ_of q k (fun i => f (P + i)) w (fun w' => Rdz w' q D N f (some (P + k))) (takeZ_yes q D N k P hD f hk0 hk hN hP w h)).mono fun e w' ⟨he, hr, ho⟩ => ⟨⟨_, some (P + k), he, hr, .inr ⟨P, rfl, hP, rfl, rfl⟩, kstr_size _ _ _⟩, ho⟩
    · exact no (fewZ_some (by omega) h) (.inr ⟨P, rfl, by omega⟩)
theorem convNone (a : Option Addr) (c : Nat) (w : World) : (convert 22 9 (.slice a 0 c)).run Try.prog w = .ok (.string ⟨#[]⟩) w := by
  rw [run_convert_bytes_string w 22 9 5 a 0 c Try.underlying22 Try.underlying5 Try.underlying9]
  cases a <;> rfl
set_option maxRecDepth 100000 in
set_option maxHeartbeats 2000000 in
theorem takeZ_zero (q m c : Nat) (a : Option Addr) (s : Bool) (ha : (a = none ∧ m = 0 ∧ c = 0) ∨ ∃ b o, a = some ⟨b, o, none⟩) (hm : m ≤ c) (w : World) (h : Box2 w q 81 (.slice a m c) (.bool s)) :
    Calls Try.prog 91 #[.pointer (some ⟨q, 0, none⟩), .int .i64 0] w fun e w' => (∃ a c, e = .returned (.slice a 0 c)) ∧ Box2 w' q 81 (.slice a m c) (.bool s) ∧ OnlyB q w w' := by
  have X : Hid (Box2 w q 81 (.slice a m c) (.bool s)) := h
  have x0 := X.out.c0
  have x1 := X.out.c1
  have f0 := X.out.fr 0
  have f1 := X.out.fr 1
  have Y : Hid (Box2 (w.setCell ⟨q, 0, none⟩ (.slice a m c)) q 81 (.slice a m c) (.bool s)) := X.out.set0 _
  have O : Hid (OnlyB q w (w.setCell ⟨q, 0, none⟩ (.slice a m c))) := (OnlyB.refl q w).setCell 0 _
  have k1 : ¬ (m : Int) < 0 := by omega
  clear h
  rcases ha with ⟨rfl, rfl, rfl⟩ | ⟨b, o, rfl⟩
  · go_enter Try.func91, Try.ntmps91
    go_wp2
    go_ret
    exact ⟨⟨_, _, rfl⟩, Y.out, O.out⟩
  · have k2 : (m : Int) ≤ (c : Int) := by omega
    by_cases hc : c = 0
    · subst hc
      obtain rfl : m = 0 := by omega
      go_enter Try.func91, Try.ntmps91
      go_wp2
      go_ret
      exact ⟨⟨_, _, rfl⟩, Y.out, O.out⟩
    · have hc' : ¬ 0 = c := fun e => hc e.symm
      go_enter Try.func91, Try.ntmps91
      go_wp2
      go_ret
      exact ⟨⟨_, _, rfl⟩, Y.out, O.out⟩
set_option maxRecDepth 100000 in
set_option maxHeartbeats 2000000 in
theorem textZ_zero (q D N : Nat) (f : Nat → Nat) (p : Option Nat) (hD : D ≤ q) (hp : ∀ P, p = some P → 0 < P) (w : World) (h : Rdz w q D N f p) :
    Calls Try.prog 60 #[.pointer (some ⟨q, 0, none⟩), .int .i64 0] w fun e w' => e = .returned (.string ⟨#[]⟩) ∧ Rdz w' q D N f p ∧ OnlyB q w w' := by
  have HT : Hid (Calls Try.prog 91 #[.pointer (some ⟨q, 0, none⟩), .int .i64 0] w fun e w' => (∃ a c, e = .returned (.slice a 0 c)) ∧ Rdz w' q D N f p ∧ OnlyB q w w') := by
    cases p with
    | none => exact takeZ_zero q 0 0 none true (.inl ⟨rfl, rfl, rfl⟩) (Nat.le_refl _) w h
    | some P =>
      have hR := h
      obtain ⟨h1, a, c, h2, h3, h4, h5, h6⟩ := h
      obtain ⟨b, o, rfl⟩ := h6 (hp P rfl)
      by_cases hz : 0 < N - P
      · refine (takeZ_zero q (N - P) c (some ⟨b, o, none⟩) false (.inr ⟨b, o, rfl⟩) h2 w h3).mono fun e w' z => ⟨z.1, ⟨h1, _, c, h2, z.2.1, ?_, h5, fun _ => ⟨b, o, rfl⟩⟩, z.2.2⟩
        exact h4.onlyB z.2.2 (fun x _ hx => by cases hx; have h7 : b < D := h5 _ hz rfl; show b ≠ q; omega)
      · refine (takeZ_zero q (N - P) c (some ⟨b, o, none⟩) false (.inr ⟨b, o, rfl⟩) h2 w h3).mono fun e w' z => ⟨z.1, ⟨h1, _, c, h2, z.2.1, fun i hi => absurd hi (by omega), fun x h0 => absurd h0 (by omega), fun _ => ⟨b, o, rfl⟩⟩, z.2.2⟩
  clear h hp
  have KS := convNone
  go_enter Try.func60, Try.ntmps60
  go_wp2_with fail
  refine HT.out.mono ?_
  rintro e w1 ⟨⟨a, c, rfl⟩, hr, ho⟩
  have hcv := KS a c w1
  have HR : Hid (Rdz w1 q D N f p) := hr
  have HO : Hid (OnlyB q w w1) := ho
  clear hr ho HT KS
  go_wp2
  go_ret
  exact ⟨rfl, HR.out, HO.out⟩
/-- Any text: of k bytes, nought too. -/
theorem textZ_all (q D N k : Nat) (hD : D ≤ q) (f : Nat → Nat) (hk : k ≤ 100000) (hN : N ≤ 1048576) (p : Option Nat) (hp : ∀ P, p = some P → 0 < P) (w : World) (h : Rdz w q D N f p) :
    Calls Try.prog 60 #[.pointer (some ⟨q, 0, none⟩), .int .i64 (k : Int)] w fun e w' => (∃ (x : ByteArray) (p' : Option Nat), e = .returned (.string x) ∧ Rdz w' q D N f p' ∧ Nxt N k p p' (fun P => x = kstr f P k) ∧ x.size = k) ∧ OnlyB q w w' := by
  rcases Nat.eq_zero_or_pos k with rfl | h0
  · refine (textZ_zero q D N f p hD hp w h).mono fun e w' z => ⟨⟨_, p, z.1, z.2.1, ?_, rfl⟩, z.2.2⟩
    cases p with
    | none => exact .inl ⟨rfl, .inl rfl⟩
    | some P => exact .inr ⟨P, rfl, h.1, rfl, rfl⟩
  · refine (textZ_any q D N k hD f h0 hk hN p w h).mono fun e w' z => ⟨?_, z.2⟩
    obtain ⟨x, p', he, hr, hx, hs⟩ := z.1
    refine ⟨x, p', he, hr, ?_, hs⟩
    rcases hx with hx | ⟨P, h1, h2, h3, h4⟩
    · exact .inl hx
    · exact .inr ⟨P, h1, h2, h3, by rw [h4]; exact kstr_congr (fun i hi => by rw [Nat.zero_add])⟩
end Go.Proofs.Ytbdoablokoghbaa

/-
  Rows of bytes of a call's own, told by a list: what is appended to them; numbers and texts behind them.
-/
namespace Go.Proofs.Ytbdoablokoghbaa
open Go.ChangeShapes Go.WideShapes Go.ChangeAt Go.RowKit
set_option linter.unusedVariables false
/-- Bytes as cells. -/
def lv (L : List Nat) : List Value := L.map fun b => .int .u8 ((b : Nat) : Int)
theorem lv_append (L N : List Nat) : lv (L ++ N) = lv L ++ lv N := List.map_append
theorem lv_length (L : List Nat) : (lv L).length = L.length := List.length_map _
/-- A row of bytes of the call's own, in block g. -/
def RL (w : World) (B g c : Nat) (L : List Nat) : Prop := w.ownsRow B 5 1 (.slice (some ⟨g, 0, none⟩) L.length c) L.length (lv L)
theorem RL.ge {w : World} {B g c : Nat} {L : List Nat} (h : RL w B g c L) : B ≤ g ∧ g < w.heap.size := World.ownsRow.lt h g rfl
theorem RL.ofBlock {w w' : World} {B g c : Nat} {L : List Nat} (h : RL w B g c L) (e : w'.heap[g]? = w.heap[g]?) : RL w' B g c L := by
  obtain ⟨hl, ⟨h1, h2⟩ | ⟨g', cap, cur, hv, hB, hh, hr⟩⟩ := h
  · cases h1
  · have hg : g' = g := by cases hv; rfl
    exact ⟨hl, .inr ⟨g', cap, cur, hv, hB, by rw [hg, e, ← hg]; exact hh, hr⟩⟩
theorem RL.below {w w' : World} {B g c : Nat} {L : List Nat} (h : RL w B g c L) (hb : Below w.heap.size w w') : RL w' B g c L := h.ofBlock (hb.block g h.ge.2)
theorem RL.onlyB {w w' : World} {B g c q : Nat} {L : List Nat} (h : RL w B g c L) (ho : OnlyB q w w') (hne : g ≠ q) : RL w' B g c L := h.ofBlock (ho.block g h.ge.2 hne)
theorem RL.mono {w : World} {B B' g c : Nat} {L : List Nat} (h : RL w B g c L) (hb : B' ≤ B) : RL w B' g c L := by
  obtain ⟨hl, h0 | ⟨g', cap, cur, hv, h1, h2⟩⟩ := h
  · exact ⟨hl, .inl h0⟩
  · exact ⟨hl, .inr ⟨g', cap, cur, hv, Nat.le_trans hb h1, h2⟩⟩
theorem RL.cell {w : World} {B g c : Nat} {L : List Nat} (h : RL w B g c L) (i : Nat) (hi : i < L.length) : w.cell? ⟨g, i, none⟩ = some (.int .u8 ((L[i] : Nat) : Int)) := by
  obtain ⟨hl, ⟨h1, h2⟩ | ⟨g', cap, cur, hv, hB, hh, hn, hm, hs, ht⟩⟩ := h
  · cases h1
  · cases hv
    have h1 : (cur.toList.take (L.length * 1))[i]? = some (.int .u8 ((L[i] : Nat) : Int)) := by rw [ht]; simp [lv, hi]
    rw [List.getElem?_take, if_pos (by omega), Array.getElem?_toList] at h1
    simp [World.cell?, hh, h1]
theorem RL.frozen {w : World} {B g c : Nat} {L : List Nat} (h : RL w B g c L) (i : Nat) : w.frozen? ⟨g, i, none⟩ = false := by
  obtain ⟨hl, ⟨h1, h2⟩ | ⟨g', cap, cur, hv, hB, hh, hr⟩⟩ := h
  · cases h1
  · cases hv
    simp [World.frozen?, hh]
/-- A literal. -/
theorem RL.made (w : World) (cs : Array Value) (L : List Nat) (n : Nat) (hn : L.length = n) (hm : n ≤ 1000000) (e : cs.toList = lv L) : RL (w.alloc (.cells cs 5)) w.heap.size w.heap.size n L := by
  have hs : cs.size = L.length := by rw [← Array.length_toList, e, lv_length]
  refine ⟨by rw [lv_length, Nat.mul_one], .inr ⟨w.heap.size, n, cs, rfl, Nat.le_refl _, (MapKept.heap_alloc w _).1, by omega, by unfold maxLen; omega, by omega, by rw [Nat.mul_one, e, List.take_of_length_le (by rw [lv_length]; omega)]⟩⟩
theorem Try.infoB8 : (Try.prog.info? 5).map (fun i => (i.zero, i.size, i.bytes)) = some (some (.int .u8 0), 1, 1) := by kernel_rfl
theorem onlyB_of_grown {w w' : World} {g : Nat} (h : w.grownBy w' (some g)) : OnlyB g w w' := ⟨h.os, h.tape, h.output, h.size, fun b hb hne => h.block b hb (fun e => hne (Option.some.inj e))⟩
theorem OnlyB.behind {g g' : Nat} {w w1 w2 : World} (h : OnlyB g w w1) (h' : OnlyB g' w1 w2) (hg : g' = g ∨ w.heap.size ≤ g') : OnlyB g w w2 :=
  ⟨h'.os.trans h.os, h'.tape.trans h.tape, h'.output.trans h.output, Nat.le_trans h.size h'.size, fun b hb hne => (h'.block b (Nat.lt_of_lt_of_le hb h.size) (by rcases hg with rfl | hg <;> omega)).trans (h.block b hb hne)⟩
set_option maxRecDepth 100000 in
/-- append of bytes that lie at ⟨q, o⟩. -/
theorem appL (w : World) (B g c : Nat) (L N : List Nat) (q o cq : Nat) (ty : TypeId) (hB : B ≤ w.heap.size) (hl : L.length + N.length ≤ 1000000) (h : RL w B g c L) (hN : ∀ j (hj : j < N.length), w.cell? ⟨q, o + j, none⟩ = some (.int .u8 ((N[j] : Nat) : Int))) :
    ∃ g' c' w', (Builtin.append_ #[22, 22] ty #[.slice (some ⟨g, 0, none⟩) L.length c, .slice (some ⟨q, o, none⟩) N.length cq]).run Try.prog w = .ok (.slice (some ⟨g', 0, none⟩) (L ++ N).length c') w' ∧ RL w' B g' c' (L ++ N) ∧ OnlyB g w w' ∧ (g' = g ∨ g' = w.heap.size) := by
  obtain ⟨i, hi, hz, hsz, hby⟩ := info_parts Try.infoB8
  obtain ⟨v', w', hr, ho, hg, hne, hloc⟩ := run_append_own_at (P := Try.prog) w B 22 ty 5 i (.int .u8 0) 1 1 Try.underlying22 hi hz hsz hby rfl (by decide) _ L.length _ h ⟨q, o, none⟩ N.length cq (lv N) (by rw [lv_length, Nat.mul_one]) (fun j u hj => by
    rw [Go.WideShapes.add_plain]
    unfold lv at hj
    rw [List.getElem?_map, Option.map_eq_some_iff] at hj
    obtain ⟨b, hb, rfl⟩ := hj
    obtain ⟨hj', rfl⟩ := List.getElem?_eq_some_iff.1 hb
    exact hN j hj') (fun u hu => by
      obtain ⟨_, _, rfl⟩ := List.mem_map.1 hu
      rfl) (by unfold maxLen; omega) (by omega) hB
  rw [← lv_append, ← List.length_append] at ho
  have hform : ∃ g2 c2, v' = .slice (some ⟨g2, 0, none⟩) (L ++ N).length c2 := by
    obtain ⟨hl, ⟨h1, h2⟩ | ⟨g', cap, cur, hv, _⟩⟩ := ho
    · have := hne.1 h1
      cases this.1
    · exact ⟨g', cap, hv⟩
  obtain ⟨g2, c2, rfl⟩ := hform
  refine ⟨g2, c2, w', hr, ho, onlyB_of_grown hg, ?_⟩
  rcases hloc with e | e
  · exact .inl (Option.some.inj e)
  · exact .inr (Option.some.inj e)
/-- The bytes of a text. -/
def strL (s : ByteArray) : List Nat := s.data.toList.map UInt8.toNat
theorem strL_length (s : ByteArray) : (strL s).length = s.size := by unfold strL; rw [List.length_map, Array.length_toList]; rfl
set_option maxRecDepth 100000 in
/-- append of a text. -/
theorem appT (w : World) (B g c : Nat) (L : List Nat) (s : ByteArray) (ty : TypeId) (hB : B ≤ w.heap.size) (hl : L.length + s.size ≤ 1000000) (h : RL w B g c L) :
    ∃ g' c' w', (Builtin.append_ #[22, 9] ty #[.slice (some ⟨g, 0, none⟩) L.length c, .string s]).run Try.prog w = .ok (.slice (some ⟨g', 0, none⟩) (L ++ strL s).length c') w' ∧ RL w' B g' c' (L ++ strL s) ∧ OnlyB g w w' := by
  obtain ⟨i, hi, hz, hsz, hby⟩ := info_parts Try.infoB8
  obtain ⟨v', w', hr, ho, hg, hne⟩ := Lib.run_append_own_string (P := Try.prog) w B 22 9 ty 5 i Try.underlying22 Try.underlying9 hi hz hsz hby _ L.length _ h s (by unfold maxLen; omega) (by omega) hB
  have e1 : Lib.strCells s = lv (strL s) := by
    unfold Lib.strCells lv strL
    simp
  rw [e1, ← lv_append, ← strL_length s, ← List.length_append] at ho
  have hform : ∃ g2 c2, v' = .slice (some ⟨g2, 0, none⟩) (L ++ strL s).length c2 := by
    obtain ⟨hl, ⟨h1, h2⟩ | ⟨g', cap, cur, hv, _⟩⟩ := ho
    · have := hne.1 h1
      cases this.1
    · exact ⟨g', cap, hv⟩
  obtain ⟨g2, c2, rfl⟩ := hform
  exact ⟨g2, c2, w', hr, ho, onlyB_of_grown hg⟩
/-- The first r of sz bytes of a number, the higher ones first. -/
def numP (sz x r : Nat) : List Nat := (List.range r).map fun j => x / 2 ^ (8 * (sz - 1 - j)) % 256
def numL (sz x : Nat) : List Nat := numP sz x sz
theorem numP_succ (sz x r : Nat) : numP sz x (r + 1) = numP sz x r ++ [x / 2 ^ (8 * (sz - 1 - r)) % 256] := by unfold numP; rw [List.range_succ, List.map_append]; rfl
theorem numP_length (sz x r : Nat) : (numP sz x r).length = r := by unfold numP; simp
theorem numL_length (sz x : Nat) : (numL sz x).length = sz := numP_length sz x sz
theorem numEqL {a b : Int} (h : a = b) : Value.int .i64 a = .int .i64 b := by rw [h]
set_option maxRecDepth 100000 in
set_option maxHeartbeats 2000000 in
/-- impl.appendNumber onto a row of the call's own. -/
theorem appendNumberL (B g c x sz : Nat) (L : List Nat) (hsz : sz ≤ 8) (hk : L.length ≤ 900000) (w : World) (hB : B ≤ w.heap.size) (h : RL w B g c L) (n : Nat) (hn : n = L.length) :
    Calls Try.prog 56 #[.slice (some ⟨g, 0, none⟩) n c, .int .i64 (x : Int), .int .i64 (sz : Int)] w fun e w' => (∃ g' c', e = .returned (.slice (some ⟨g', 0, none⟩) (n + sz) c') ∧ RL w' B g' c' (L ++ numL sz x) ∧ (g' = g ∨ w.heap.size ≤ g')) ∧ OnlyB g w w' := by
  have HR : Hid (RL w B g c L) := h
  have HN : Hid (n = L.length) := hn
  have HK : Hid (L.length ≤ 900000) := hk
  have HBB : Hid (B ≤ w.heap.size) := hB
  clear h hn hk hB
  go_enter Try.func56, Try.ntmps56
  go_wp2
  go_loopw [0, 7] (fun s i wr => ∃ r g2 c2 : Nat, r ≤ sz ∧ i = .int .i64 ((sz : Int) - 1 - (r : Int)) ∧ s = .slice (some ⟨g2, 0, none⟩) (n + r) c2 ∧ RL wr B g2 c2 (L ++ numP sz x r) ∧ (g2 = g ∨ w.heap.size ≤ g2) ∧ OnlyB g w wr) (fun _ i _ => (intOf i + 1).toNat)
  case atStart => exact ⟨0, g, c, by omega, numEqL (by omega), rfl, by unfold numP; simpa using HR.out, .inl rfl, OnlyB.refl _ _⟩
  case round =>
    clear HR
    obtain ⟨r, g2, c2, hr, rfl, rfl, hrow, hg, ho⟩ := hrel
    have HR : Hid (RL wr B g2 c2 (L ++ numP sz x r)) := hrow
    have HG : Hid (g2 = g ∨ w.heap.size ≤ g2) := hg
    have HO : Hid (OnlyB g w wr) := ho
    clear hrow hg ho
    by_cases hlt : r < sz
    · have x0 : (0 : Int) ≤ (sz : Int) - 1 - (r : Int) := by omega
      obtain ⟨s, hs⟩ : ∃ s, s = 8 * (sz - 1 - r) := ⟨_, rfl⟩
      have e8 : (8 : Int) * ((sz : Int) - 1 - (r : Int)) = (s : Int) := by omega
      have s0 : (0 : Int) ≤ (s : Int) := by omega
      have s1 : (s : Int) ≤ 64 := by omega
      have eX : (x : Int) / 2 ^ s = ((x / 2 ^ s : Nat) : Int) := by simp
      have HX : Hid (numP sz x (r + 1) = numP sz x r ++ [x / 2 ^ s % 256]) := by show _ = _; rw [numP_succ, hs]
      generalize x / 2 ^ s = y at *
      have eY : (y : Int) % 256 = ((y % 256 : Nat) : Int) := by omega
      generalize y % 256 = Y at *
      have hw : (w.heap.size ≤ wr.heap.size) := HO.out.size
      obtain ⟨g3, c3, w3, hr3, hrow3, ho3, hg3⟩ := appL (wr.alloc (.cells #[.int .u8 (Y : Nat)] 5)) B g2 c2 (L ++ numP sz x r) [Y] wr.heap.size 0 1 22 (by have := HBB.out; simp; omega) (by have := HK.out; rw [List.length_append, numP_length]; simp; omega) (HR.out.below ((Below.refl _ _).alloc (Nat.le_refl _) _)) (fun j hj => by
        obtain rfl : j = 0 := by simpa using hj
        have : ((wr.alloc (.cells #[.int .u8 (Y : Nat)] 5)).rowIs wr.heap.size 5 1 (fun _ => .int .u8 (Y : Nat))) := World.rowIs_alloc wr #[.int .u8 (Y : Nat)] 5 _ (fun i hi => by
          obtain rfl : i = 0 := by simpa using hi
          rfl)
        exact this.cell (by omega))
      have el : (L ++ numP sz x r).length = n + r := by rw [List.length_append, numP_length, HN.out]
      have el2 : (L ++ numP sz x r ++ [Y]).length = n + r + 1 := by rw [List.length_append, el]; rfl
      rw [el, el2] at hr3
      have hr4 : ∀ ty, (Builtin.append_ #[22, 22] ty #[.slice (some ⟨g2, 0, none⟩) (n + r) c2, .slice (some ⟨wr.heap.size, 0, none⟩) 1 1]).run Try.prog (wr.alloc (.cells #[.int .u8 (Y : Nat)] 5)) = .ok (.slice (some ⟨g3, 0, none⟩) (n + r + 1) c3) w3 := fun ty => hr3
      have HR3 : Hid (RL w3 B g3 c3 (L ++ numP sz x (r + 1))) := by show RL _ _ _ _ _; rw [HX.out, ← List.append_assoc]; exact hrow3
      have HO3 : Hid (OnlyB g w w3) := (HO.out.below ((Below.refl _ _).alloc (Nat.le_refl _) _)).behind ho3 HG.out
      have HG3 : Hid (g3 = g ∨ w.heap.size ≤ g3) := by
        show _ ∨ _
        rcases hg3 with e | e
        · rw [e]; exact HG.out
        · right; rw [e]; simp; omega
      have hHK : Hid ((sz : Int) - 1 - (r : Int) - 1 = (sz : Int) - 1 - ((r + 1 : Nat) : Int)) := by show _ = _; omega
      clear hrow3 ho3 hg3 hs HR HO HX hr3 el el2
      go_wp2_with (at_builtin; refine Lib.wpList_append_run _ rfl (.tmp 14) (.tmp 20) 22 22 rfl (.slice (some ⟨g2, 0, none⟩) (n + r) c2) (.slice (some ⟨wr.heap.size, 0, none⟩) 1 1) rfl rfl _ _ (hr4 _) ?_)
      go_roundw
      case rel => exact ⟨r + 1, g3, c3, by omega, numEqL hHK.out, rfl, HR3.out, HG3.out, HO3.out⟩
      case measure => simp [intOf]; omega
    · obtain rfl : r = sz := by omega
      have x0 : ¬ (0 : Int) ≤ (r : Int) - 1 - (r : Int) := by omega
      go_wp2
      go_ret
      exact ⟨⟨g2, c2, rfl, HR.out, HG.out⟩, HO.out⟩
end Go.Proofs.Ytbdoablokoghbaa

/-
  Files' bytes: FilesBytes of the program.
-/
namespace Go.Proofs.Ytbdoablokoghbaa
open Go.ChangeShapes Go.WideShapes Go.ChangeAt Go.RowKit
set_option linter.unusedVariables false
def flatF {T : Type} (f : T → List Nat) (F : Nat → T) : Nat → List Nat
  | 0 => []
  | n + 1 => flatF f F n ++ f (F n)
def bitN (b : Bool) : Nat := if b then 1 else 0
/-- A file's bytes. -/
def fiL (x : Fi) : List Nat := [x.p.size] ++ strL x.p ++ [bitN x.d] ++ numL 2 x.t.size ++ strL x.t
/-- Files' bytes. -/
def filL (n : Nat) (F : Nat → Fi) : List Nat := [n] ++ flatF fiL F n
theorem fiL_length {x : Fi} (h : x.Ok) : (fiL x).length ≤ 244 := by
  have h1 := h.1.1
  have h2 := h.2.1
  unfold fiL
  simp only [List.length_append, List.length_cons, List.length_nil, numL_length, strL_length]
  omega
theorem flatF_le {n : Nat} {F : Nat → Fi} (h : ∀ i, i < n → (F i).Ok) : (flatF fiL F n).length ≤ n * 244 := by
  induction n with
  | zero => simp [flatF]
  | succ n ih =>
    have h1 := ih (fun i hi => h i (by omega))
    have h2 := fiL_length (h n (by omega))
    show (flatF fiL F n ++ fiL (F n)).length ≤ _
    rw [List.length_append]
    omega
theorem lit1F (w : World) (x : Nat) : ∀ j (hj : j < [x].length), (w.alloc (.cells #[.int .u8 ((x : Nat) : Int)] 5)).cell? ⟨w.heap.size, 0 + j, none⟩ = some (.int .u8 (([x][j] : Nat) : Int)) := fun j hj => by
  obtain rfl : j = 0 := by simpa using hj
  have : ((w.alloc (.cells #[.int .u8 ((x : Nat) : Int)] 5)).rowIs w.heap.size 5 1 (fun _ => .int .u8 ((x : Nat) : Int))) := World.rowIs_alloc w #[.int .u8 ((x : Nat) : Int)] 5 _ (fun i hi => by
    obtain rfl : i = 0 := by simpa using hi
    rfl)
  exact this.cell (by omega)
/-- On the way: the row so far, and the variable of the file. -/
structure StF (v0 W : World) (rb g c q : Nat) (L : List Nat) (x : Fi) : Prop where
  row : RL W v0.heap.size g c L
  len : q = L.length
  ne : g ≠ rb
  box : Box3 W rb 37 (.string x.p) (.bool x.d) (.string x.t)
  hb : Below v0.heap.size v0 W
theorem StF.below {v0 W W' : World} {rb g c q : Nat} {L : List Nat} {x : Fi} (h : StF v0 W rb g c q L x) (hb : Below W.heap.size W W') : StF v0 W' rb g c q L x := ⟨h.row.below hb, h.len, h.ne, h.box.below hb, h.hb.trans (hb.mono h.hb.size)⟩
theorem StF.add1 {v0 W : World} {rb g c q : Nat} {L : List Nat} {x : Fi} (h : StF v0 W rb g c q L x) (z : Nat) (hq : q ≤ 900000) :
    ∃ g' c' W', (∀ ty, (Builtin.append_ #[22, 22] ty #[.slice (some ⟨g, 0, none⟩) q c, .slice (some ⟨W.heap.size, 0, none⟩) 1 1]).run Try.prog (W.alloc (.cells #[.int .u8 ((z : Nat) : Int)] 5)) = .ok (.slice (some ⟨g', 0, none⟩) (q + 1) c') W') ∧ StF v0 W' rb g' c' (q + 1) (L ++ [z]) x := by
  have hb : Below W.heap.size W (W.alloc (.cells #[.int .u8 ((z : Nat) : Int)] 5)) := (Below.refl _ _).alloc (Nat.le_refl _) _
  have hl := h.len
  obtain ⟨g3, c3, w3, hr3, hrow3, ho3, hg3⟩ := appL (W.alloc (.cells #[.int .u8 ((z : Nat) : Int)] 5)) v0.heap.size g c L [z] W.heap.size 0 1 22 (by have := h.hb.size; simp; omega) (by simp; omega) (h.row.below hb) (lit1F W z)
  have el2 : (L ++ [z]).length = q + 1 := by rw [List.length_append, hl]; rfl
  rw [← hl, el2] at hr3
  have bl := h.box.lt
  have h2 := h.below hb
  refine ⟨g3, c3, w3, fun ty => hr3, hrow3, el2.symm, ?_, h2.box.ofBlock (ho3.block _ h2.box.lt h.ne.symm), h2.hb.trans (ho3.toBelow h.row.ge.1 h2.hb.size)⟩
  rcases hg3 with e | e
  · rw [e]; exact h.ne
  · rw [e, World.size_alloc]; omega
theorem StF.addT {v0 W : World} {rb g c q : Nat} {L : List Nat} {x : Fi} (h : StF v0 W rb g c q L x) (s : ByteArray) (hq : q + s.size ≤ 900000) :
    ∃ g' c' W', (∀ ty, (Builtin.append_ #[22, 9] ty #[.slice (some ⟨g, 0, none⟩) q c, .string s]).run Try.prog W = .ok (.slice (some ⟨g', 0, none⟩) (q + s.size) c') W') ∧ StF v0 W' rb g' c' (q + s.size) (L ++ strL s) x := by
  have hl := h.len
  obtain ⟨i, hi, hz, hsz, hby⟩ := info_parts Try.infoB8
  obtain ⟨g3, c3, w3, hr3, hrow3, ho3⟩ := appT W v0.heap.size g c L s 22 h.hb.size (by omega) h.row
  have el2 : (L ++ strL s).length = q + s.size := by rw [List.length_append, hl, strL_length]
  rw [← hl, el2] at hr3
  have bl := h.box.lt
  have hB := h.box.ofBlock (ho3.block _ bl h.ne.symm)
  refine ⟨g3, c3, w3, fun ty => hr3, hrow3, el2.symm, ?_, hB, h.hb.trans (ho3.toBelow h.row.ge.1 h.hb.size)⟩
  intro e
  have c1 := hB.c0
  obtain ⟨hl', ⟨h1, h2⟩ | ⟨g', cap, cur, hv, hBB, hh, _⟩⟩ := hrow3
  · cases h1
  · cases hv
    obtain ⟨cur', hh', _⟩ := hB
    rw [e] at hh
    rw [hh'] at hh
    cases hh
set_option maxRecDepth 100000 in
theorem dirByte_any (b : Bool) (w : World) : Calls Try.prog 55 #[.bool b] w fun e w' => e = .returned (.int .u8 ((bitN b : Nat) : Int)) ∧ w' = w := by
  cases b with
  | true =>
    go_enter Try.func55, Try.ntmps55
    go_wp2
    go_ret
    exact ⟨rfl, rfl⟩
  | false =>
    go_enter Try.func55, Try.ntmps55
    go_wp2
    go_ret
    exact ⟨rfl, rfl⟩
theorem StF.num {v0 W : World} {rb g c q : Nat} {L : List Nat} {x : Fi} (h : StF v0 W rb g c q L x) (z : Nat) (hq : q ≤ 800000) :
    Calls Try.prog 56 #[.slice (some ⟨g, 0, none⟩) q c, .int .i64 (z : Int), .int .i64 2] W fun e w' => ∃ g' c', e = .returned (.slice (some ⟨g', 0, none⟩) (q + 2) c') ∧ StF v0 w' rb g' c' (q + 2) (L ++ numL 2 z) x := by
  have hl := h.len
  refine (appendNumberL v0.heap.size g c z 2 L (by omega) (by omega) W h.hb.size h.row q hl).mono ?_
  rintro e w' ⟨⟨g', c', rfl, hr, hg⟩, ho⟩
  have bl := h.box.lt
  refine ⟨g', c', rfl, hr, by rw [List.length_append, numL_length, hl], ?_, h.box.ofBlock (ho.block _ bl h.ne.symm), h.hb.trans (ho.toBelow h.row.ge.1 h.hb.size)⟩
  rcases hg with e | e
  · rw [e]; exact h.ne
  · omega
/-- What FilesBytes does. -/
def ByIs (n : Nat) (F : Nat → Fi) (L : List Nat) (c : Int) : Prop := (4096 < n ∧ c = 2 ∧ L = []) ∨ (¬ 4096 < n ∧ ((¬ FsOk n F ∧ c = 1 ∧ L = []) ∨ (FsOk n F ∧ c = 0 ∧ L = filL n F)))
theorem FtIs.none {n : Nat} {F : Nat → Fi} {t : Nat → ByteArray} {c : Int} (h : FtIs n F 0 t c) : (c ≠ 0 ∧ ByIs n F [] c) ∨ (c = 0 ∧ FsOk n F ∧ ¬ 4096 < n) := by
  have hnl : ¬ LongT 0 t := fun ⟨i, hi, _⟩ => absurd hi (by omega)
  rcases h with ⟨a, rfl⟩ | ⟨a, ⟨b, rfl⟩ | ⟨b, ⟨⟨i, hi, _⟩, _⟩ | ⟨g, rfl⟩⟩⟩
  · exact .inl ⟨by decide, .inl ⟨a.resolve_right hnl, rfl, rfl⟩⟩
  · exact .inl ⟨by decide, .inr ⟨fun q => a (.inl q), .inl ⟨b, rfl, rfl⟩⟩⟩
  · exact absurd hi (by omega)
  · exact .inr ⟨rfl, b, fun q => a (.inl q)⟩
/-- A row handed back: of the call's own, or none. -/
def RetBy (L : List Nat) (cd : Int) (B : Nat) (e : Ending) (w : World) : Prop := (L = [] ∧ (∃ a, e = .returned (.tuple #[.slice a 0 0, .int .i64 cd]))) ∨ ∃ g c, e = .returned (.tuple #[.slice (some ⟨g, 0, none⟩) L.length c, .int .i64 cd]) ∧ RL w B g c L
set_option maxRecDepth 100000 in
set_option maxHeartbeats 4000000 in
theorem implBy_any (a : Option Addr) (n c : Nat) (F : Nat → Fi) (hsz : ∀ i, i < n → (F i).p.size ≤ 1048576) (hnn : n ≤ 1048576) (hsl : SlP a n c) (w : World) (h : Els w 3 a n (fiF F)) :
    Calls Try.prog 25 #[.slice a n c] w fun e w' => (∃ L cd, ByIs n F L cd ∧ RetBy L cd w.heap.size e w') ∧ Below w.heap.size w w' := by
  have FF : Hid (Calls Try.prog 33 #[.slice a n c, .slice none 0 0] w fun e w' => (∃ x : Int, e = .returned (.int .i64 x) ∧ FtIs n F 0 (fun _ => ⟨#[]⟩) x) ∧ Below w.heap.size w w') := filesFault_any a n c F none 0 0 (fun _ => ⟨#[]⟩) hsz hnn hsl (by omega) w h (fun i hi => absurd hi (by omega))
  have H : Hid (Els w 3 a n (fiF F)) := h
  clear h hsz
  go_enter Try.func25, Try.ntmps25
  go_wp2_with fail
  refine (Calls.mono FF.out) ?_
  rintro e v0 ⟨⟨x, rfl, hx⟩, hb⟩
  have B0 : Hid (Below w.heap.size w v0) := hb
  clear hb FF
  rcases hx.none with ⟨h0, hB⟩ | ⟨rfl, hok, hn4⟩
  · have g : (x != 0) = true := by simpa using h0
    have HM : Hid (ByIs n F [] x) := hB
    clear h0 hB hx
    go_wp2
    go_ret2
    exact ⟨⟨_, _, HM.out, .inl ⟨rfl, _, rfl⟩⟩, B0.out⟩
  · have HO : Hid (FsOk n F) := hok
    have hn := hok.1
    have HM : Hid (ByIs n F (filL n F) 0) := .inr ⟨hn4, .inr ⟨hok, rfl, rfl⟩⟩
    have y0 : (n : Int) % 256 = (n : Int) := by omega
    have RB : Hid (RL (v0.alloc (.cells #[.int .u8 ((n : Nat) : Int)] 5)) v0.heap.size v0.heap.size 1 [n]) := RL.made v0 _ [n] 1 rfl (by omega) rfl
    have BB : Hid (Below v0.heap.size v0 (v0.alloc (.cells #[.int .u8 ((n : Nat) : Int)] 5))) := (Below.refl _ _).alloc (Nat.le_refl _) _
    have V0 : Hid (Els v0 3 a n (fiF F)) := H.out.below B0.out
    clear hx hok hn4 H
    go_wp2
    generalize (v0.alloc (.cells #[.int .u8 ((n : Nat) : Int)] 5)) = v1 at *
    go_loopw [5, 19] (fun s i wr => ∃ k g c q : Nat, k ≤ n ∧ i = .int .i64 k ∧ s = .slice (some ⟨g, 0, none⟩) q c ∧ q = ([n] ++ flatF fiL F k).length ∧ RL wr v0.heap.size g c ([n] ++ flatF fiL F k) ∧ Below v0.heap.size v0 wr) (fun _ i _ => n - (intOf i).toNat)
    case atStart => exact ⟨0, v0.heap.size, 1, 1, by omega, rfl, rfl, rfl, by simpa [flatF] using RB.out, BB.out⟩
    case round =>
      clear RB BB
      obtain ⟨k, g, c2, q, hk, rfl, rfl, hq, hrow, hb⟩ := hrel
      have HR : Hid (RL wr v0.heap.size g c2 ([n] ++ flatF fiL F k)) := hrow
      have HB : Hid (Below v0.heap.size v0 wr) := hb
      have HQ : Hid (q = ([n] ++ flatF fiL F k).length) := hq
      have hql : q ≤ 1 + 12 * 244 := by
        have := flatF_le (n := k) (F := F) (fun i hi => (HO.out.2 i (by omega)).1)
        rw [List.length_append] at hq
        simp at hq
        omega
      clear hrow hb hq
      by_cases hlt : k < n
      · have hlt' : (k : Int) < (n : Int) := by omega
        obtain ⟨b, off, rfl, hc⟩ := (V0.out.below HB.out).opened (by omega)
        obtain ⟨c0, c1, c2'⟩ := Els.fiC hc k hlt
        have hfo := (HO.out.2 k hlt).1
        have hps := hfo.1.1
        have hts := hfo.2.1
        have EF : Hid (flatF fiL F (k + 1) = flatF fiL F k ++ fiL (F k)) := rfl
        obtain ⟨v2, hv2⟩ : ∃ v2, v2 = wr.alloc (.cells #[.string (F k).p, .bool (F k).d, .string (F k).t] 37) := ⟨_, rfl⟩
        have hbr : Below wr.heap.size wr v2 := by rw [hv2]; exact (Below.refl _ _).alloc (Nat.le_refl _) _
        have S2 : Hid (StF v0 v2 wr.heap.size g c2 q ([n] ++ flatF fiL F k) (F k)) := ⟨HR.out.below hbr, HQ.out, by have := HR.out.ge; omega, by rw [hv2]; exact Box3.made _ _ _ _ _, HB.out.trans (hbr.mono HB.out.size)⟩
        have HV2 : Hid (wr.alloc (.cells #[.string (F k).p, .bool (F k).d, .string (F k).t] 37) = v2) := hv2.symm
        have EL : Hid ([n] ++ flatF fiL F k ++ [(F k).p.size] ++ strL (F k).p ++ [bitN (F k).d] ++ numL 2 (F k).t.size ++ strL (F k).t = [n] ++ flatF fiL F (k + 1)) := by
          show _ = _
          rw [EF.out]
          unfold fiL
          simp only [List.append_assoc]
        have hp256 : ((F k).p.size : Int) % 256 = ((F k).p.size : Int) := by omega
        generalize [n] ++ flatF fiL F k = L at *
        generalize F k = y at *
        clear hfo hc hbr hv2 EF HQ HR HB
        go_upto_region 8 with fail
        rw [HV2.out]
        clear c0 c1 c2' HV2
        generalize wr.heap.size = rb at *
        obtain ⟨g3, c3, v3, r3, s3⟩ := S2.out.add1 y.p.size (by omega)
        have S3 : Hid (StF v0 v3 rb g3 c3 (q + 1) (L ++ [y.p.size]) y) := s3
        have x0 := S2.out.box.c0
        clear s3
        go_upto_region 9 with (at_builtin; refine Lib.wpList_append_run _ rfl (.tmp 23) (.tmp 28) 22 22 rfl (.slice (some ⟨g, 0, none⟩) q c2) (.slice (some ⟨v2.heap.size, 0, none⟩) 1 1) rfl rfl _ _ (r3 _) ?_)
        clear r3 x0 S2
        obtain ⟨g4, c4, v4, r4, s4⟩ := S3.out.addT y.p (by omega)
        have S4 : Hid (StF v0 v4 rb g4 c4 (q + 1 + y.p.size) (L ++ [y.p.size] ++ strL y.p) y) := s4
        have x0 := S3.out.box.c0
        clear s4
        go_upto_region 10 with (at_builtin; refine Lib.wpList_append_run _ rfl (.tmp 30) (.tmp 32) 22 9 rfl (.slice (some ⟨g3, 0, none⟩) (q + 1) c3) (.string y.p) rfl rfl _ _ (r4 _) ?_)
        clear r4 x0 S3
        have x1 := S4.out.box.c1
        go_wp2_with fail
        refine (dirByte_any y.d _).mono ?_
        rintro e v4' ⟨rfl, hw⟩
        cases hw
        obtain ⟨g5, c5, v5, r5, s5⟩ := S4.out.add1 (bitN y.d) (by omega)
        have S5 : Hid (StF v0 v5 rb g5 c5 (q + 1 + y.p.size + 1) (L ++ [y.p.size] ++ strL y.p ++ [bitN y.d]) y) := s5
        clear s5 x1
        generalize bitN y.d = bd at *
        go_upto_region 11 with (at_builtin; refine Lib.wpList_append_run _ rfl (.tmp 34) (.tmp 38) 22 22 rfl (.slice (some ⟨g4, 0, none⟩) (q + 1 + y.p.size) c4) (.slice (some ⟨v4.heap.size, 0, none⟩) 1 1) rfl rfl _ _ (r5 _) ?_)
        clear r5 S4
        have x2 := S5.out.box.c2
        have NU : Hid (Calls Try.prog 56 #[.slice (some ⟨g5, 0, none⟩) (q + 1 + y.p.size + 1) c5, .int .i64 (y.t.size : Int), .int .i64 2] v5 fun e w' => ∃ g' c', e = .returned (.slice (some ⟨g', 0, none⟩) (q + 1 + y.p.size + 1 + 2) c') ∧ StF v0 w' rb g' c' (q + 1 + y.p.size + 1 + 2) (L ++ [y.p.size] ++ strL y.p ++ [bd] ++ numL 2 y.t.size) y) := S5.out.num y.t.size (by omega)
        go_wp2_with fail
        refine (Calls.mono NU.out) ?_
        rintro e v6 ⟨g6, c6, rfl, s6⟩
        clear NU S5 x2
        have S6 : Hid (StF v0 v6 rb g6 c6 (q + 1 + y.p.size + 1 + 2) (L ++ [y.p.size] ++ strL y.p ++ [bd] ++ numL 2 y.t.size) y) := s6
        obtain ⟨g7, c7, v7, r7, s7⟩ := S6.out.addT y.t (by omega)
        rw [EL.out] at s7
        have S7 : Hid (StF v0 v7 rb g7 c7 (q + 1 + y.p.size + 1 + 2 + y.t.size) ([n] ++ flatF fiL F (k + 1)) y) := s7
        have x2 := S6.out.box.c2
        clear s6 s7 S6
        go_wp2_with (at_builtin; refine Lib.wpList_append_run _ rfl (.tmp 45) (.tmp 47) 22 9 rfl (.slice (some ⟨g6, 0, none⟩) (q + 1 + y.p.size + 1 + 2) c6) (.string y.t) rfl rfl _ _ (r7 _) ?_)
        go_roundw
        case rel => exact ⟨k + 1, g7, c7, _, by omega, by go_num, rfl, S7.out.len, S7.out.row, S7.out.hb⟩
        case measure => simp [intOf]; omega
      · obtain rfl : k = n := by omega
        have hlt' : ¬ (k : Int) < (k : Int) := by omega
        have HE : Hid (RetBy (filL k F) 0 w.heap.size (.returned (.tuple #[.slice (some ⟨g, 0, none⟩) q c2, .int .i64 0])) wr) := .inr ⟨g, c2, by rw [HQ.out]; rfl, HR.out.mono B0.out.size⟩
        have BE : Hid (Below w.heap.size w wr) := B0.out.trans (HB.out.mono B0.out.size)
        clear HQ HR HB
        go_wp2
        go_ret2
        exact ⟨⟨_, _, HM.out, HE.out⟩, BE.out⟩
end Go.Proofs.Ytbdoablokoghbaa

/-
  What bytes tell of files: the mathematics of ReadFiles.
-/
namespace Go.Proofs.Ytbdoablokoghbaa
open Go.ChangeShapes Go.WideShapes Go.ChangeAt Go.RowKit
set_option linter.unusedVariables false
/-- How long the Data is of a file that begins at s. -/
def nDR (f : Nat → Nat) (s : Nat) : Nat := f (s + 2 + f s) * 256 + f (s + 3 + f s)
/-- Where the next file begins. -/
def nxR (f : Nat → Nat) (s : Nat) : Nat := s + 4 + f s + nDR f s
/-- Where file k begins. -/
def stR (f : Nat → Nat) : Nat → Nat
  | 0 => 1
  | k + 1 => nxR f (stR f k)
/-- The file that begins at s. -/
def atR (f : Nat → Nat) (s : Nat) : Fi := ⟨kstr f (s + 1) (f s), decide (f (s + 1 + f s) = 1), kstr f (s + 4 + f s) (nDR f s)⟩
def fiR (f : Nat → Nat) (k : Nat) : Fi := atR f (stR f k)
theorem stR_le (f : Nat → Nat) (k : Nat) : ∀ m, stR f k ≤ stR f (k + m)
  | 0 => Nat.le_refl _
  | m + 1 => by
    have h := stR_le f k m
    show stR f k ≤ nxR f (stR f (k + m))
    unfold nxR
    omega
theorem stR_pos (f : Nat → Nat) (k : Nat) : 0 < stR f k := by have := stR_le f 0 k; rw [Nat.zero_add] at this; exact this
/-- The bytes as a list. -/
def byL (N : Nat) (f : Nat → Nat) : List Nat := (List.range N).map f
theorem byL_length (N : Nat) (f : Nat → Nat) : (byL N f).length = N := by unfold byL; simp
/-- N bytes f are just those of right files. -/
def GoodR (N : Nat) (f : Nat → Nat) : Prop := 0 < N ∧ stR f (f 0) ≤ N ∧ FsOk (f 0) (fiR f) ∧ filL (f 0) (fiR f) = byL N f
/-- What ReadFiles answers. -/
def RfIs (N : Nat) (f : Nat → Nat) (m : Nat) (G : Nat → Fi) (c : Int) : Prop :=
  (65536 < N ∧ c = 2 ∧ m = 0) ∨ (¬ 65536 < N ∧ ((GoodR N f ∧ c = 0 ∧ m = f 0 ∧ ∀ i, i < m → G i = fiR f i) ∨ (¬ GoodR N f ∧ c = 3 ∧ m = 0)))
theorem RfIs.uniq {N : Nat} {f : Nat → Nat} {m m' : Nat} {G G' : Nat → Fi} {c c' : Int} (h : RfIs N f m G c) (h' : RfIs N f m' G' c') : m = m' ∧ c = c' ∧ ∀ i, i < m → G i = G' i := by
  rcases h with ⟨a, rfl, rfl⟩ | ⟨a, ⟨b, rfl, rfl, g⟩ | ⟨b, rfl, rfl⟩⟩ <;> rcases h' with ⟨a', rfl, rfl⟩ | ⟨a', ⟨b', rfl, rfl, g'⟩ | ⟨b', rfl, rfl⟩⟩
  · exact ⟨rfl, rfl, fun i hi => absurd hi (by omega)⟩
  · exact absurd a a'
  · exact absurd a a'
  · exact absurd a' a
  · exact ⟨rfl, rfl, fun i hi => (g i hi).trans (g' i hi).symm⟩
  · exact absurd b b'
  · exact absurd a' a
  · exact absurd b' b
  · exact ⟨rfl, rfl, fun i hi => absurd hi (by omega)⟩
theorem RfIs.bound {N : Nat} {f : Nat → Nat} {m : Nat} {G : Nat → Fi} {c : Int} (h : RfIs N f m G c) : m ≤ 13 := by
  rcases h with ⟨_, _, rfl⟩ | ⟨_, ⟨b, _, rfl, _⟩ | ⟨_, _, rfl⟩⟩
  · omega
  · have := b.2.2.1.1; omega
  · omega
/-- A reader stands behind L bytes, or is short of them. -/
def InvR (N : Nat) (p : Option Nat) (L : Nat) : Prop := (p = some L ∧ L ≤ N) ∨ (p = none ∧ N < L)
theorem InvR.next {N : Nat} {p p' : Option Nat} {L k : Nat} {Q : Nat → Prop} (h : InvR N p L) (n : Nxt N k p p' Q) : InvR N p' (L + k) ∧ (p' ≠ none → p = some L ∧ Q L) := by
  rcases n with ⟨rfl, rfl | ⟨P, rfl, hP⟩⟩ | ⟨P, rfl, hP, rfl, hQ⟩
  · rcases h with ⟨e, _⟩ | ⟨_, h⟩
    · cases e
    · exact ⟨.inr ⟨rfl, by omega⟩, fun q => absurd rfl q⟩
  · rcases h with ⟨e, _⟩ | ⟨e, _⟩
    · cases e; exact ⟨.inr ⟨rfl, hP⟩, fun q => absurd rfl q⟩
    · cases e
  · rcases h with ⟨e, _⟩ | ⟨e, _⟩
    · cases e; exact ⟨.inl ⟨rfl, hP⟩, fun _ => ⟨rfl, hQ⟩⟩
    · cases e
theorem InvR.pos {N : Nat} {p : Option Nat} {L : Nat} (h : InvR N p L) (hL : 0 < L) (P : Nat) (e : p = some P) : 0 < P := by
  rcases h with ⟨e', _⟩ | ⟨e', _⟩
  · rw [e'] at e; cases e; exact hL
  · rw [e'] at e; cases e
theorem valN1 (f : Nat → Nat) (P : Nat) : valN (fun i => f (P + i)) 1 = f P := by show (0 * 256 + f (P + 0)) = _; simp
theorem valN2 (f : Nat → Nat) (P : Nat) : valN (fun i => f (P + i)) 2 = f P * 256 + f (P + 1) := by show ((0 * 256 + f (P + 0)) * 256 + f (P + 1)) = _; simp
/-- A file that was read, of so many bytes as it has. -/
theorem file_next {N s : Nat} {f : Nat → Nat} {p0 p1 p2 p3 p4 p5 : Option Nat} {x1 x2 x3 : Nat} {t1 t2 : ByteArray} (h : InvR N p0 s)
    (n1 : Nxt N 1 p0 p1 (fun P => x1 = valN (fun i => f (P + i)) 1)) (n2 : Nxt N x1 p1 p2 (fun P => t1 = kstr f P x1)) (n3 : Nxt N 1 p2 p3 (fun P => x2 = valN (fun i => f (P + i)) 1)) (n4 : Nxt N 2 p3 p4 (fun P => x3 = valN (fun i => f (P + i)) 2)) (n5 : Nxt N x3 p4 p5 (fun P => t2 = kstr f P x3)) :
    InvR N p5 (s + (4 + x1 + x3)) ∧ (p5 ≠ none → (⟨t1, decide (x2 = 1), t2⟩ : Fi) = atR f s ∧ s + (4 + x1 + x3) = nxR f s) := by
  obtain ⟨i1, q1⟩ := h.next n1
  obtain ⟨i2, q2⟩ := i1.next n2
  obtain ⟨i3, q3⟩ := i2.next n3
  obtain ⟨i4, q4⟩ := i3.next n4
  obtain ⟨i5, q5⟩ := i4.next n5
  refine ⟨by rw [show s + (4 + x1 + x3) = s + 1 + x1 + 1 + 2 + x3 by omega]; exact i5, fun hp => ?_⟩
  obtain ⟨e5, h5⟩ := q5 hp
  obtain ⟨e4, h4⟩ := q4 (by rw [e5]; simp)
  obtain ⟨e3, h3⟩ := q3 (by rw [e4]; simp)
  obtain ⟨e2, h2⟩ := q2 (by rw [e3]; simp)
  obtain ⟨e1, h1⟩ := q1 (by rw [e2]; simp)
  rw [valN1] at h1 h3
  rw [valN2] at h4
  subst h1
  have hx3 : x3 = nDR f s := by
    rw [h4]
    unfold nDR
    rw [show s + 1 + f s + 1 = s + 2 + f s by omega, show s + 2 + f s + 1 = s + 3 + f s by omega]
  refine ⟨?_, by unfold nxR; omega⟩
  unfold atR
  rw [h2, h3, h5, hx3, show s + 1 + f s + 1 + 2 = s + 4 + f s by omega]
theorem Nxt.yes {N k P : Nat} {p' : Option Nat} {Q : Nat → Prop} (n : Nxt N k (some P) p' Q) (h : P + k ≤ N) : p' = some (P + k) ∧ Q P := by
  rcases n with ⟨rfl, e | ⟨P', e, hP⟩⟩ | ⟨P', e, hP, rfl, hQ⟩
  · cases e
  · cases e; omega
  · cases e; exact ⟨rfl, hQ⟩
/-- Where a whole file is, it is read. -/
theorem file_whole {N s : Nat} {f : Nat → Nat} {p1 p2 p3 p4 p5 : Option Nat} {x1 x2 x3 : Nat} {t1 t2 : ByteArray}
    (n1 : Nxt N 1 (some s) p1 (fun P => x1 = valN (fun i => f (P + i)) 1)) (n2 : Nxt N x1 p1 p2 (fun P => t1 = kstr f P x1)) (n3 : Nxt N 1 p2 p3 (fun P => x2 = valN (fun i => f (P + i)) 1)) (n4 : Nxt N 2 p3 p4 (fun P => x3 = valN (fun i => f (P + i)) 2)) (n5 : Nxt N x3 p4 p5 (fun P => t2 = kstr f P x3)) (h : nxR f s ≤ N) : p5 ≠ none := by
  unfold nxR nDR at h
  obtain ⟨rfl, h1⟩ := n1.yes (by omega)
  rw [valN1] at h1
  subst h1
  obtain ⟨rfl, _⟩ := n2.yes (by omega)
  obtain ⟨rfl, _⟩ := n3.yes (by omega)
  obtain ⟨rfl, h4⟩ := n4.yes (by omega)
  rw [valN2, show s + 1 + f s + 1 = s + 2 + f s by omega, show s + 2 + f s + 1 = s + 3 + f s by omega] at h4
  obtain ⟨rfl, _⟩ := n5.yes (by omega)
  simp
theorem fiL_len (x : Fi) : (fiL x).length = 4 + x.p.size + x.t.size := by
  unfold fiL
  simp [strL_length, numL_length]
  omega
theorem flatF_succ_len (F : Nat → Fi) (k : Nat) : (flatF fiL F (k + 1)).length = (flatF fiL F k).length + (4 + (F k).p.size + (F k).t.size) := by
  show (flatF fiL F k ++ fiL (F k)).length = _
  rw [List.length_append, fiL_len]
theorem flatF_congr {F G : Nat → Fi} : ∀ {n : Nat}, (∀ i, i < n → F i = G i) → flatF fiL F n = flatF fiL G n
  | 0, _ => rfl
  | n + 1, h => by
    show flatF fiL F n ++ fiL (F n) = flatF fiL G n ++ fiL (G n)
    rw [flatF_congr (fun i hi => h i (by omega)), h n (by omega)]
theorem fsOk_congr {n : Nat} {F G : Nat → Fi} (h : ∀ i, i < n → F i = G i) (hF : FsOk n F) : FsOk n G := by
  refine ⟨hF.1, fun i hi => ?_⟩
  obtain ⟨h1, h2, h3⟩ := hF.2 i hi
  refine ⟨by rw [← h i hi]; exact h1, fun h0 => by rw [← h i hi, ← h (i - 1) (by omega)]; exact h2 h0, ?_⟩
  rw [← h i hi]
  rcases h3 with q | ⟨j, hj, e, d⟩
  · exact .inl q
  · exact .inr ⟨j, hj, by rw [← h j hj]; exact e, by rw [← h j hj]; exact d⟩
/-- What a reader of files has come to. -/
def SoFar (N : Nat) (f : Nat → Nat) (k : Nat) (G : Nat → Fi) (p : Option Nat) : Prop := (p = some (stR f k) ∧ stR f k ≤ N ∧ ∀ i, i < k → G i = fiR f i) ∨ (p = none ∧ N < 1 + (flatF fiL G k).length ∧ N < stR f k)
theorem SoFar.inv {N : Nat} {f : Nat → Nat} {k : Nat} {G : Nat → Fi} {p : Option Nat} (h : SoFar N f k G p) : ∃ s, 0 < s ∧ InvR N p s ∧ (p = none → s = 1 + (flatF fiL G k).length) ∧ (p ≠ none → s = stR f k ∧ ∀ i, i < k → G i = fiR f i) := by
  rcases h with ⟨rfl, h1, h2⟩ | ⟨rfl, h1, _⟩
  · exact ⟨_, stR_pos f k, .inl ⟨rfl, h1⟩, (fun e => by cases e), fun _ => ⟨rfl, h2⟩⟩
  · exact ⟨1 + (flatF fiL G k).length, by omega, .inr ⟨rfl, h1⟩, fun _ => rfl, fun q => absurd rfl q⟩
theorem flat_fiR (f : Nat → Nat) : ∀ k, 1 + (flatF fiL (fiR f) k).length = stR f k
  | 0 => rfl
  | k + 1 => by
    have h := flat_fiR f k
    rw [flatF_succ_len]
    show _ = nxR f (stR f k)
    unfold nxR
    have h1 : (fiR f k).p.size = f (stR f k) := kstr_size _ _ _
    have h2 : (fiR f k).t.size = nDR f (stR f k) := kstr_size _ _ _
    omega
theorem SoFar.step {N k : Nat} {f : Nat → Nat} {G G' : Nat → Fi} {p p' : Option Nat} {x : Fi} {s : Nat} (h : SoFar N f k G p) (hs : InvR N p s) (hi : InvR N p' (s + (4 + x.p.size + x.t.size))) (hx : p' ≠ none → x = atR f s ∧ s + (4 + x.p.size + x.t.size) = nxR f s)
    (hp : p ≠ none → s = stR f k) (hp0 : p = none → s = 1 + (flatF fiL G k).length) (hG : ∀ i, i < k → G' i = G i) (hk : G' k = x) (hw : p = some s → nxR f s ≤ N → p' ≠ none) : SoFar N f (k + 1) G' p' := by
  rcases hi with ⟨rfl, h1⟩ | ⟨rfl, h1⟩
  · obtain ⟨e1, e2⟩ := hx (by simp)
    have hpn : p ≠ none := fun e => by
      rcases hs with ⟨e', _⟩ | ⟨_, h⟩
      · rw [e] at e'; cases e'
      · omega
    have hss := hp hpn
    refine .inl ⟨by rw [e2, hss]; rfl, by show nxR f (stR f k) ≤ N; rw [← hss, ← e2]; exact h1, fun i hi => ?_⟩
    rcases h with ⟨_, _, h3⟩ | ⟨e, _⟩
    · rcases Nat.lt_or_ge i k with hl | hl
      · rw [hG i hl]; exact h3 i hl
      · obtain rfl : i = k := by omega
        rw [hk, e1, hss]; rfl
    · exact absurd e hpn
  · refine .inr ⟨rfl, ?_, ?_⟩
    rotate_left
    · rcases h with ⟨e, h2, _⟩ | ⟨_, _, h2⟩
      · have hss := hp (by rw [e]; simp)
        rcases Nat.lt_or_ge N (nxR f s) with q | q
        · show N < nxR f (stR f k)
          rw [← hss]; exact q
        · exact absurd rfl (hw (by rw [e, hss]) q)
      · have := stR_le f k 1; omega
    rw [flatF_succ_len, hk, flatF_congr hG]
    by_cases hpn : p = none
    · have := hp0 hpn; omega
    · have := hp hpn
      rcases h with ⟨_, _, h3⟩ | ⟨e, _⟩
      · have h4 := flat_fiR f k
        rw [flatF_congr h3]
        omega
      · exact absurd e hpn
/-- Behind all files: right bytes are told. -/
theorem SoFar.good {N m : Nat} {f : Nat → Nat} {G : Nat → Fi} {p : Option Nat} (hN : 0 < N) (hm : m = f 0) (h : SoFar N f m G p) : (FsOk m G ∧ filL m G = byL N f) ↔ (GoodR N f ∧ ∀ i, i < m → G i = fiR f i) := by
  subst hm
  constructor
  · rintro ⟨h1, h2⟩
    rcases h with ⟨_, h3, h4⟩ | ⟨_, h3, _⟩
    · exact ⟨⟨hN, h3, fsOk_congr h4 h1, by rw [← h2]; unfold filL; rw [flatF_congr h4]⟩, h4⟩
    · have := congrArg List.length h2
      rw [byL_length] at this
      unfold filL at this
      rw [List.length_append] at this
      simp at this
      omega
  · rintro ⟨⟨_, h1, h2, h3⟩, h4⟩
    exact ⟨fsOk_congr (fun i hi => (h4 i hi).symm) h2, by rw [← h3]; unfold filL; rw [flatF_congr h4]⟩
theorem SoFar.bad {N m : Nat} {f : Nat → Nat} {G : Nat → Fi} {p : Option Nat} (hN : 0 < N) (hm : m = f 0) (h : SoFar N f m G p) (hb : ¬ (FsOk m G ∧ filL m G = byL N f)) : ¬ GoodR N f := fun hg => by
  subst hm
  rcases h with ⟨_, h3, h4⟩ | ⟨_, _, h3⟩
  · exact hb ⟨fsOk_congr (fun i hi => (h4 i hi).symm) hg.2.2.1, by rw [← hg.2.2.2]; unfold filL; rw [flatF_congr h4]⟩
  · have := hg.2.1; omega
end Go.Proofs.Ytbdoablokoghbaa

/-
  What FilesBytes wrote of right files is read back as they are (the mathematics of FnFileBytes).
-/
namespace Go.Proofs.Ytbdoablokoghbaa
open Go.ChangeShapes Go.WideShapes Go.ChangeAt Go.RowKit
set_option linter.unusedVariables false
theorem gdL (A B : List Nat) (i : Nat) (h : i < A.length) : (A ++ B).getD i 0 = A.getD i 0 := by
  simp [List.getD, List.getElem?_append_left h]
theorem gdR (A B : List Nat) (i j : Nat) (h : i = A.length + j) : (A ++ B).getD i 0 = B.getD j 0 := by
  subst h
  simp only [List.getD]
  rw [List.getElem?_append_right (by omega), show A.length + j - A.length = j from by omega]
theorem numL2T (x : Nat) : numL 2 x = [x / 256 % 256, x % 256] := by
  unfold numL numP
  simp [List.range_succ]
theorem strL_gd (r : ByteArray) (i : Nat) (h : i < r.size) : (strL r).getD i 0 = strB r i := by
  have h2 : i < r.data.toList.length := by rw [Array.length_toList]; exact h
  unfold strL strB
  rw [List.getD, List.getElem?_map, List.getElem?_eq_getElem h2]
  simp
  rw [dif_pos h]
  rfl
/-- The bytes of files, as a function. -/
def filF (n : Nat) (F : Nat → Fi) (i : Nat) : Nat := (filL n F).getD i 0
theorem flatF_at (F : Nat → Fi) : ∀ (n k j : Nat), k < n → j < (fiL (F k)).length → (flatF fiL F n).getD ((flatF fiL F k).length + j) 0 = (fiL (F k)).getD j 0
  | 0, k, j, hk, _ => absurd hk (by omega)
  | n + 1, k, j, hk, hj => by
    show (flatF fiL F n ++ fiL (F n)).getD _ 0 = _
    by_cases h : k < n
    · have hl : (flatF fiL F k).length + j < (flatF fiL F n).length := by
        have : ∀ m, k + 1 ≤ m → (flatF fiL F (k + 1)).length ≤ (flatF fiL F m).length := by
          intro m hm
          obtain ⟨d, rfl⟩ : ∃ d, m = k + 1 + d := ⟨m - (k + 1), by omega⟩
          clear hm
          induction d with
          | zero => exact Nat.le_refl _
          | succ d ih => rw [← Nat.add_assoc, flatF_succ_len F (k + 1 + d)]; omega
        have h1 := this n (by omega)
        rw [flatF_succ_len] at h1
        rw [fiL_len] at hj
        omega
      rw [gdL _ _ _ hl]
      exact flatF_at F n k j h hj
    · obtain rfl : k = n := by omega
      exact gdR _ _ _ j rfl
theorem filF_at {n : Nat} {F : Nat → Fi} {k j : Nat} (hk : k < n) (hj : j < (fiL (F k)).length) : filF n F (1 + (flatF fiL F k).length + j) = (fiL (F k)).getD j 0 := by
  unfold filF filL
  rw [gdR [n] _ _ ((flatF fiL F k).length + j) (by simp; omega)]
  exact flatF_at F n k j hk hj
theorem filF_zero (n : Nat) (F : Nat → Fi) : filF n F 0 = n := rfl
theorem bitN_dec (b : Bool) : decide (bitN b = 1) = b := by cases b <;> rfl
/-- The file that begins where file k was put is it. -/
theorem atR_filF {n : Nat} {F : Nat → Fi} {k : Nat} (hk : k < n) (ho : (F k).Ok) : atR (filF n F) (1 + (flatF fiL F k).length) = F k ∧ nxR (filF n F) (1 + (flatF fiL F k).length) = 1 + (flatF fiL F (k + 1)).length := by
  obtain ⟨S, hS⟩ : ∃ S, S = 1 + (flatF fiL F k).length := ⟨_, rfl⟩
  have at_ : ∀ j, j < 4 + (F k).p.size + (F k).t.size → filF n F (S + j) = (fiL (F k)).getD j 0 := fun j hj => by
    rw [hS]; exact filF_at hk (by rw [fiL_len]; exact hj)
  rw [← hS]
  have hp : (F k).p.size ≤ 40 := ho.1.1
  have ht : (F k).t.size ≤ 200 := ho.2.1
  have hsu : 1 + (flatF fiL F (k + 1)).length = S + (4 + (F k).p.size + (F k).t.size) := by rw [flatF_succ_len]; omega
  rw [hsu]
  clear hsu hS ho
  generalize F k = x at *
  obtain ⟨p, d, t⟩ := x
  simp only at *
  have e0 : filF n F S = p.size := by
    have := at_ 0 (by omega)
    rw [Nat.add_zero] at this
    rw [this]; rfl
  have eP : ∀ i, i < p.size → filF n F (S + 1 + i) = strB p i := fun i hi => by
    rw [Nat.add_assoc, at_ (1 + i) (by omega)]
    unfold fiL
    rw [gdL _ _ _ (by simp [strL_length, numL_length]; omega), gdL _ _ _ (by simp [strL_length]; omega), gdL _ _ _ (by simp [strL_length]; omega), gdR _ _ _ i (by simp), strL_gd _ _ hi]
  have eD : filF n F (S + 1 + p.size) = bitN d := by
    rw [Nat.add_assoc, at_ (1 + p.size) (by omega)]
    unfold fiL
    rw [gdL _ _ _ (by simp [strL_length, numL_length]; omega), gdL _ _ _ (by simp [strL_length]; omega), gdR _ _ _ 0 (by simp [strL_length]; omega)]
    rfl
  have e2 : filF n F (S + 2 + p.size) = t.size / 256 % 256 := by
    rw [Nat.add_assoc, at_ (2 + p.size) (by omega)]
    unfold fiL
    rw [gdL _ _ _ (by simp [strL_length, numL_length]; omega), gdR _ _ _ 0 (by simp [strL_length]; omega), numL2T]
    rfl
  have e3 : filF n F (S + 3 + p.size) = t.size % 256 := by
    rw [Nat.add_assoc, at_ (3 + p.size) (by omega)]
    unfold fiL
    rw [gdL _ _ _ (by simp [strL_length, numL_length]; omega), gdR _ _ _ 1 (by simp [strL_length]; omega), numL2T]
    rfl
  have eT : ∀ i, i < t.size → filF n F (S + 4 + p.size + i) = strB t i := fun i hi => by
    rw [show S + 4 + p.size + i = S + (4 + p.size + i) by omega, at_ (4 + p.size + i) (by omega)]
    unfold fiL
    rw [gdR _ _ _ i (by simp [strL_length, numL_length]; omega), strL_gd _ _ hi]
  have eN : nDR (filF n F) S = t.size := by
    unfold nDR
    rw [e0, e2, e3]
    omega
  refine ⟨?_, by unfold nxR; rw [e0, eN]; omega⟩
  unfold atR
  rw [eN, e0, eD, bitN_dec]
  have h1 : kstr (filF n F) (S + 1) p.size = p := by
    conv => rhs; rw [← kstr_self p]
    exact kstr_congr (fun i hi => by rw [eP i hi, Nat.zero_add])
  have h2 : kstr (filF n F) (S + 4 + p.size) t.size = t := by
    conv => rhs; rw [← kstr_self t]
    exact kstr_congr (fun i hi => by rw [eT i hi, Nat.zero_add])
  rw [h1, h2]
theorem stR_filF {n : Nat} {F : Nat → Fi} (ho : FsOk n F) : ∀ k, k ≤ n → stR (filF n F) k = 1 + (flatF fiL F k).length
  | 0, _ => rfl
  | k + 1, hk => by
    show nxR _ (stR _ k) = _
    rw [stR_filF ho k (by omega)]
    exact (atR_filF (by omega) (ho.2 k (by omega)).1).2
theorem fiR_filF {n : Nat} {F : Nat → Fi} (ho : FsOk n F) (k : Nat) (hk : k < n) : fiR (filF n F) k = F k := by
  unfold fiR
  rw [stR_filF ho k (by omega)]
  exact (atR_filF hk (ho.2 k hk).1).1
theorem byL_filF (n : Nat) (F : Nat → Fi) : byL (filL n F).length (filF n F) = filL n F := by
  refine List.ext_getElem (byL_length _ _) (fun i h1 h2 => ?_)
  unfold byL filF
  simp [h2]
theorem good_filF {n : Nat} {F : Nat → Fi} (ho : FsOk n F) : GoodR (filL n F).length (filF n F) := by
  refine ⟨by unfold filL; simp, ?_, ?_, ?_⟩
  · rw [filF_zero, stR_filF ho n (Nat.le_refl _)]
    unfold filL; simp; omega
  · rw [filF_zero]
    exact fsOk_congr (fun i hi => (fiR_filF ho i hi).symm) ho
  · rw [byL_filF, filF_zero]
    unfold filL
    rw [flatF_congr (fun i hi => fiR_filF ho i hi)]
/-- So ReadFiles answers the files themselves. -/
theorem rfIs_filF {n : Nat} {F : Nat → Fi} (ho : FsOk n F) (hl : (filL n F).length ≤ 65536) : RfIs (filL n F).length (filF n F) n F 0 :=
  .inr ⟨by omega, .inl ⟨good_filF ho, rfl, rfl, fun i hi => (fiR_filF ho i hi).symm⟩⟩
theorem filL_le {n : Nat} {F : Nat → Fi} (ho : FsOk n F) : (filL n F).length ≤ 3000 := by
  have h := flatF_le (n := n) (F := F) (fun i hi => (ho.2 i hi).1)
  have := ho.1
  unfold filL
  simp
  omega
theorem filF_text {n : Nat} {F : Nat → Fi} {N : Nat} {z : Nat → Nat} (h : filL n F = byL N z) : kstr (filF n F) 0 (filL n F).length = kstr z 0 N := by
  have hl : (filL n F).length = N := by rw [h, byL_length]
  rw [hl]
  refine kstr_congr (fun i hi => ?_)
  rw [Nat.zero_add]
  unfold filF
  rw [h]
  unfold byL
  simp [List.getD, List.getElem?_range hi]
end Go.Proofs.Ytbdoablokoghbaa
