/-
  ReadBank of the program (written by tools/mkrb.py).
-/
import Derived.Test.YtmejmpdnmhnheabDoorRdr
import Derived.Test.YtmejmpdnmhnheabDoorRowEO
import Derived.Test.YtmejmpdnmhnheabDoorBankOk3
import Derived.Test.YtmejmpdnmhnheabDoorBankTo
import Derived.Lib.AppendZeros
namespace Go.Proofs.YtmejmpdnmhnheabDoor
open Go.ChangeShapes Go.WideShapes Go.ChangeAt Go.RowKit
set_option linter.unusedVariables false
/-- What the bytes f tell: registers, sessions. -/
def pNr (f : Nat → Nat) : Nat := valN (fun j => f (0 + j)) 1
def pRg (f : Nat → Nat) (i : Nat) : Rg := ⟨((valN (fun j => f (1 + 37 * i + j)) 1 : Nat) : Int), ((valN (fun j => f (1 + 37 * i + 1 + j)) 4 : Nat) : Int), kstr (fun j => f (1 + 37 * i + 1 + 4 + j)) 0 32⟩
def pNs (f : Nat → Nat) : Nat := valN (fun j => f (1 + 37 * pNr f + j)) 1
def pSe (f : Nat → Nat) (i : Nat) : Se := ⟨((valN (fun j => f (1 + 37 * pNr f + 1 + 9 * i + j)) 2 : Nat) : Int), ((valN (fun j => f (1 + 37 * pNr f + 1 + 9 * i + 2 + j)) 2 : Nat) : Int), ((valN (fun j => f (1 + 37 * pNr f + 1 + 9 * i + 2 + 2 + j)) 1 : Nat) : Int), ((valN (fun j => f (1 + 37 * pNr f + 1 + 9 * i + 2 + 2 + 1 + j)) 4 : Nat) : Int)⟩
def pB (f : Nat → Nat) : Bk := ⟨pNr f, pRg f, pNs f, pSe f⟩
/-- N bytes f are just as many as they tell. -/
def Whole (N : Nat) (f : Nat → Nat) : Prop := 1 + 37 * pNr f + 1 + 9 * pNs f = N
theorem rgsOk_congr {n : Nat} {R R' : Nat → Rg} (h : ∀ i, i < n → R i = R' i) : RgsOk n R ↔ RgsOk n R' := by
  have one : ∀ {R R' : Nat → Rg}, (∀ i, i < n → R i = R' i) → RgsOk n R → RgsOk n R' := fun h q => ⟨q.1, fun i hi => by
    have := q.2 i hi
    rw [h i hi] at this
    refine ⟨this.1, fun hp => ?_⟩
    have g := this.2 hp
    rwa [h (i - 1) (by omega)] at g⟩
  exact ⟨one h, one (fun i hi => (h i hi).symm)⟩
theorem sesOk_congr {n : Nat} {R R' : Nat → Se} (h : ∀ i, i < n → R i = R' i) : SesOk n R ↔ SesOk n R' := by
  have one : ∀ {R R' : Nat → Se}, (∀ i, i < n → R i = R' i) → SesOk n R → SesOk n R' := fun h q => ⟨q.1, fun i hi => by
    have := q.2 i hi
    rw [h i hi] at this
    refine ⟨this.1, fun hp => ?_⟩
    have g := this.2 hp
    rwa [h (i - 1) (by omega)] at g⟩
  exact ⟨one h, one (fun i hi => (h i hi).symm)⟩
/-- A bank of the call's own is handed back, with no code. -/
def RetBk (w w' : World) (e : Ending) (d : Bk) : Prop := ∃ a0 c0 a1 c1, e = .returned (.tuple #[.agg #[.slice a0 d.nr c0, .slice a1 d.ns c1], .int .i64 0]) ∧ EO w' w.heap.size 63 3 (.slice a0 d.nr c0) d.nr (rgF d.R) ∧ EO w' w.heap.size 66 4 (.slice a1 d.ns c1) d.ns (seF d.S) ∧ (∀ g, (Value.slice a0 d.nr c0).ownBlock = some g → (Value.slice a1 d.ns c1).ownBlock ≠ some g)
/-- An empty one, with a code. -/
def RetNo (e : Ending) (cd : Int) : Prop := e = .returned (.tuple #[.agg #[.slice none 0 0, .slice none 0 0], .int .i64 cd])
theorem grown_block {w w' : World} {o : Option Nat} (h : w.grownBy w' o) {b : Nat} (hb : b < w.heap.size) (hne : ∀ g, o = some g → b ≠ g) : w'.heap[b]? = w.heap[b]? := h.block b hb (fun e => hne b e.symm rfl)
theorem grown_belowE {w w' : World} {o : Option Nat} {B : Nat} (h : w.grownBy w' o) (hB : B ≤ w.heap.size) (hg : ∀ g, o = some g → B ≤ g) : Below B w w' := ⟨h.os, h.tape, h.output, h.size, fun b hb => grown_block h (Nat.lt_of_lt_of_le hb hB) (fun g e q => by have := hg g e; omega)⟩
theorem litCells {w : World} {t : TypeId} {cs : Array Value} {m : Nat} (F : Nat → Value) (hm : cs.size = m) (h : ∀ i, i < m → cs[i]? = some (F i)) : ∀ j, j < m → (w.alloc (.cells cs t)).cell? ⟨w.heap.size, 0 + j, none⟩ = some (F j) := fun j hj => by
  rw [Nat.zero_add]
  have : (w.alloc (.cells cs t)).rowIs w.heap.size t m F := ⟨cs, (MapKept.heap_alloc w _).1, hm, h⟩
  exact this.cell hj
theorem heap_setOther {w : World} {b : Nat} (p : Addr) (v : Value) (h : b ≠ p.block) : (w.setCell p v).heap[b]? = w.heap[b]? := by
  simp [World.setCell, Array.getElem?_modify]
  intro e
  exact absurd e.symm h
theorem ended_other (q D N : Nat) (f : Nat → Nat) (p : Option Nat) (hp : p ≠ some N) (w : World) (h : Rdr w q D N f p) :
    Calls Tryd.prog 47 #[.pointer (some ⟨q, 0, none⟩)] w fun e w' => e = .returned (.bool false) ∧ w = w' := by
  cases p with
  | none => exact ended_short q D N f w h
  | some P =>
    have h1 := h.1
    have h2 : P ≠ N := fun e => hp (by rw [e])
    exact ended_no q D N P f (by omega) w h
theorem ownsRow_monoE {w : World} {B B' : Nat} {t : TypeId} {s : Nat} {v : Value} {n : Nat} {F : Nat → Nat → Value} (h : EO w B t s v n F) (hb : B' ≤ B) : EO w B' t s v n F := by
  obtain ⟨hl, h0 | ⟨g, cap, cur, hv, h1, h2⟩⟩ := h
  · exact ⟨hl, .inl h0⟩
  · exact ⟨hl, .inr ⟨g, cap, cur, hv, Nat.le_trans hb h1, h2⟩⟩
set_option maxRecDepth 100000 in
set_option maxHeartbeats 8000000 in
theorem implReadBank_is (a : Option Addr) (N c : Nat) (f : Nat → Nat) (hf : ∀ i, f i < 256) (hN : N ≤ 65536) (hc : N ≤ c) (w : World) (h : Code8 w a N f) (hT : TabW w) :
    Calls Tryd.prog 22 #[.slice a N c] w fun e w' => (((Whole N f ∧ (pB f).Ok) ∧ RetBk w w' e (pB f)) ∨ (¬ (Whole N f ∧ (pB f).Ok) ∧ RetNo e 3)) ∧ Below w.heap.size w w' := by
  have HF : Hid (∀ i, f i < 256) := hf
  have NU1 : Hid (∀ (u : World) (p : Option Nat), Rdr u (w.heap.size + 1) w.heap.size N f p → Calls Tryd.prog 45 #[.pointer (some ⟨w.heap.size + 1, 0, none⟩), .int .i64 1] u fun e w' => GotN w' e (w.heap.size + 1) w.heap.size N 1 f p ∧ OnlyB (w.heap.size + 1) u w') := fun u p h => number_any (w.heap.size + 1) w.heap.size N 1 (by omega) f hf (by omega) (by omega) (by omega) p u h
  have NU2 : Hid (∀ (u : World) (p : Option Nat), Rdr u (w.heap.size + 1) w.heap.size N f p → Calls Tryd.prog 45 #[.pointer (some ⟨w.heap.size + 1, 0, none⟩), .int .i64 2] u fun e w' => GotN w' e (w.heap.size + 1) w.heap.size N 2 f p ∧ OnlyB (w.heap.size + 1) u w') := fun u p h => number_any (w.heap.size + 1) w.heap.size N 2 (by omega) f hf (by omega) (by omega) (by omega) p u h
  have NU4 : Hid (∀ (u : World) (p : Option Nat), Rdr u (w.heap.size + 1) w.heap.size N f p → Calls Tryd.prog 45 #[.pointer (some ⟨w.heap.size + 1, 0, none⟩), .int .i64 4] u fun e w' => GotN w' e (w.heap.size + 1) w.heap.size N 4 f p ∧ OnlyB (w.heap.size + 1) u w') := fun u p h => number_any (w.heap.size + 1) w.heap.size N 4 (by omega) f hf (by omega) (by omega) (by omega) p u h
  have TX : Hid (∀ (u : World) (p : Option Nat), Rdr u (w.heap.size + 1) w.heap.size N f p → Calls Tryd.prog 46 #[.pointer (some ⟨w.heap.size + 1, 0, none⟩), .int .i64 32] u fun e w' => GotT w' e (w.heap.size + 1) w.heap.size N 32 f p ∧ OnlyB (w.heap.size + 1) u w') := fun u p h => text_any (w.heap.size + 1) w.heap.size N 32 (by omega) f (by omega) (by omega) (by omega) p u h
  have TT : Hid (TabW w) := hT
  have n1 : ¬ (65536 : Int) < (N : Int) := by omega
  have AB : Hid (Below w.heap.size w (((w.alloc (.cells #[.slice none 0 0, .slice none 0 0] 33)).alloc (.cells #[.slice a N c, .bool false] 77)).alloc (.cells #[.slice none 0 0, .slice none 0 0] 33))) := (((Below.refl w.heap.size w).alloc (Nat.le_refl _) _).alloc (by simp) _).alloc (by simp; omega) _
  have X0 : Hid (Box2 (((w.alloc (.cells #[.slice none 0 0, .slice none 0 0] 33)).alloc (.cells #[.slice a N c, .bool false] 77)).alloc (.cells #[.slice none 0 0, .slice none 0 0] 33)) w.heap.size 33 (.slice none 0 0) (.slice none 0 0)) := ((Box2.made w _ _ _).alloc _).alloc _
  have XR : Hid (Box2 (((w.alloc (.cells #[.slice none 0 0, .slice none 0 0] 33)).alloc (.cells #[.slice a N c, .bool false] 77)).alloc (.cells #[.slice none 0 0, .slice none 0 0] 33)) (w.heap.size + 1) 77 (.slice a N c) (.bool false)) := (Box2.madeAt (by simp) _ _ _).alloc _
  have BV : Hid (Box2 (((w.alloc (.cells #[.slice none 0 0, .slice none 0 0] 33)).alloc (.cells #[.slice a N c, .bool false] 77)).alloc (.cells #[.slice none 0 0, .slice none 0 0] 33)) (w.heap.size + 1 + 1) 33 (.slice none 0 0) (.slice none 0 0)) := Box2.madeAt (by simp) _ _ _
  have SZ : Hid (w.heap.size + 1 + 1 + 1 ≤ ((((w.alloc (.cells #[.slice none 0 0, .slice none 0 0] 33)).alloc (.cells #[.slice a N c, .bool false] 77)).alloc (.cells #[.slice none 0 0, .slice none 0 0] 33))).heap.size) := by show _ ≤ _; simp
  have HC : Hid (Code8 w a N f) := h
  clear h hT hf
  go_enter Tryd.func22, Tryd.ntmps22
  go_wp2_with fail
  generalize (((w.alloc (.cells #[.slice none 0 0, .slice none 0 0] 33)).alloc (.cells #[.slice a N c, .bool false] 77)).alloc (.cells #[.slice none 0 0, .slice none 0 0] 33)) = v at *
  have RD : Hid (Rdr v (w.heap.size + 1) w.heap.size N f (some 0)) := ⟨by omega, a, c, hc, XR.out, (HC.out.below AB.out).congr (fun i hi => by rw [Nat.zero_add]), fun x h0 hx => HC.out.lt x (by omega) hx⟩
  have RV : Hid (EO v (w.heap.size + 1 + 1 + 1) 63 3 (.slice none 0 0) 0 (rgF (fun _ => rgZ))) := EO.nil _ _ _ _ _
  have SV : Hid (EO v (w.heap.size + 1 + 1 + 1) 66 4 (.slice none 0 0) 0 (seF (fun _ => seZ))) := EO.nil _ _ _ _ _
  clear XR HC hc
  refine (NU1.out _ (some 0) RD.out).mono ?_
  rintro e u0 ⟨⟨x0, p0, rfl, hrd, hnx, hlt0⟩, ho⟩
  replace RD : Hid (Rdr u0 (w.heap.size + 1) w.heap.size N f p0) := hrd
  have I0 : Hid ((p0 = none ∧ ¬ Whole N f) ∨ (p0 = some 1 ∧ x0 = pNr f)) := by
    show _ ∨ _
    rcases hnx with ⟨e, e5⟩ | ⟨P, e1, e2, e3, e4⟩
    · refine .inl ⟨e, fun q => ?_⟩
      unfold Whole at q
      rcases e5 with e5 | ⟨P, e5, e6⟩
      · cases e5
      · cases e5
        omega
    · cases e1
      exact .inr ⟨e3, e4⟩
  replace X0 : Hid (Box2 u0 w.heap.size 33 (.slice none 0 0) (.slice none 0 0)) := X0.out.onlyB ho (by omega)
  replace BV : Hid (Box2 u0 (w.heap.size + 1 + 1) 33 (.slice none 0 0) (.slice none 0 0)) := BV.out.onlyB ho (by omega)
  replace RV : Hid (EO u0 (w.heap.size + 1 + 1 + 1) 63 3 (.slice none 0 0) 0 (rgF (fun _ => rgZ))) := RV.out.onlyB ho (by omega)
  replace SV : Hid (EO u0 (w.heap.size + 1 + 1 + 1) 66 4 (.slice none 0 0) 0 (seF (fun _ => seZ))) := SV.out.onlyB ho (by omega)
  replace AB : Hid (Below w.heap.size w u0) := AB.out.trans (ho.toBelow (by omega) AB.out.size)
  replace SZ : Hid (w.heap.size + 1 + 1 + 1 ≤ u0.heap.size) := Nat.le_trans SZ.out ho.size
  clear hrd hnx ho
  have x0b : x0 ≤ 255 := by omega
  clear hlt0
  go_wp2
  go_loopw [15] (fun i wr => ∃ (k : Nat) (v0 : Value) (R : Nat → Rg) (p : Option Nat), k ≤ x0 ∧ i = .int .i64 k ∧ Box2 wr w.heap.size 33 (.slice none 0 0) (.slice none 0 0) ∧ Box2 wr (w.heap.size + 1 + 1) 33 v0 (.slice none 0 0) ∧ EO wr (w.heap.size + 1 + 1 + 1) 63 3 v0 k (rgF R) ∧ Rdr wr (w.heap.size + 1) w.heap.size N f p ∧ ((p = none ∧ ¬ Whole N f) ∨ (p = some (1 + 37 * k) ∧ x0 = pNr f ∧ ∀ i, i < k → R i = pRg f i)) ∧ w.heap.size + 1 + 1 + 1 ≤ wr.heap.size ∧ Below w.heap.size w wr) (fun i _ => x0 - (intOf i).toNat)
  case atStart =>
    refine ⟨0, _, _, p0, by omega, rfl, X0.out, BV.out, RV.out, RD.out, ?_, SZ.out, AB.out⟩
    rcases I0.out with e | ⟨e, e2⟩
    · exact .inl e
    · exact .inr ⟨e, e2, fun i hi => absurd hi (by omega)⟩
  case round =>
    clear X0 BV RV SV RD I0 SZ AB
    obtain ⟨k, v0, R, p, hk, rfl, X0, BV, RV, RD, IV, SZ, AB⟩ := hrel
    replace X0 : Hid (Box2 wr w.heap.size 33 (.slice none 0 0) (.slice none 0 0)) := X0
    replace BV : Hid (Box2 wr (w.heap.size + 1 + 1) 33 v0 (.slice none 0 0)) := BV
    replace RV : Hid (EO wr (w.heap.size + 1 + 1 + 1) 63 3 v0 k (rgF R)) := RV
    replace RD : Hid (Rdr wr (w.heap.size + 1) w.heap.size N f p) := RD
    replace IV : Hid (((p = none ∧ ¬ Whole N f) ∨ (p = some (1 + 37 * k) ∧ x0 = pNr f ∧ ∀ i, i < k → R i = pRg f i))) := IV
    replace SZ : Hid (w.heap.size + 1 + 1 + 1 ≤ wr.heap.size) := SZ
    replace AB : Hid (Below w.heap.size w wr) := AB
    have SV : Hid (EO wr (w.heap.size + 1 + 1 + 1) 66 4 (.slice none 0 0) 0 (seF (fun _ => seZ))) := EO.nil _ _ _ _ _
    by_cases hlt : k < x0
    · have hlt' : (k : Int) < (x0 : Int) := by omega
      go_wp2_with fail
      refine (NU1.out _ p RD.out).mono ?_
      rintro e u1 ⟨⟨x1, p1, rfl, hrd, hnx, hlt1⟩, ho⟩
      replace RD : Hid (Rdr u1 (w.heap.size + 1) w.heap.size N f p1) := hrd
      have NX1 : Hid (Nxt N 1 p p1 (fun P => x1 = valN (fun i => f (P + i)) 1)) := hnx
      replace X0 : Hid (Box2 u1 w.heap.size 33 (.slice none 0 0) (.slice none 0 0)) := X0.out.onlyB ho (by omega)
      replace BV : Hid (Box2 u1 (w.heap.size + 1 + 1) 33 v0 (.slice none 0 0)) := BV.out.onlyB ho (by omega)
      replace RV : Hid (EO u1 (w.heap.size + 1 + 1 + 1) 63 3 v0 k (rgF R)) := RV.out.onlyB ho (by omega)
      replace SV : Hid (EO u1 (w.heap.size + 1 + 1 + 1) 66 4 (.slice none 0 0) 0 (seF (fun _ => seZ))) := SV.out.onlyB ho (by omega)
      replace AB : Hid (Below w.heap.size w u1) := AB.out.trans (ho.toBelow (by omega) AB.out.size)
      replace SZ : Hid (w.heap.size + 1 + 1 + 1 ≤ u1.heap.size) := Nat.le_trans SZ.out ho.size
      clear hrd hnx ho
      go_wp2_with fail
      refine (NU4.out _ p1 RD.out).mono ?_
      rintro e u2 ⟨⟨x2, p2, rfl, hrd, hnx, hlt2⟩, ho⟩
      replace RD : Hid (Rdr u2 (w.heap.size + 1) w.heap.size N f p2) := hrd
      have NX2 : Hid (Nxt N 4 p1 p2 (fun P => x2 = valN (fun i => f (P + i)) 4)) := hnx
      replace X0 : Hid (Box2 u2 w.heap.size 33 (.slice none 0 0) (.slice none 0 0)) := X0.out.onlyB ho (by omega)
      replace BV : Hid (Box2 u2 (w.heap.size + 1 + 1) 33 v0 (.slice none 0 0)) := BV.out.onlyB ho (by omega)
      replace RV : Hid (EO u2 (w.heap.size + 1 + 1 + 1) 63 3 v0 k (rgF R)) := RV.out.onlyB ho (by omega)
      replace SV : Hid (EO u2 (w.heap.size + 1 + 1 + 1) 66 4 (.slice none 0 0) 0 (seF (fun _ => seZ))) := SV.out.onlyB ho (by omega)
      replace AB : Hid (Below w.heap.size w u2) := AB.out.trans (ho.toBelow (by omega) AB.out.size)
      replace SZ : Hid (w.heap.size + 1 + 1 + 1 ≤ u2.heap.size) := Nat.le_trans SZ.out ho.size
      clear hrd hnx ho
      go_wp2_with fail
      refine (TX.out _ p2 RD.out).mono ?_
      rintro e u3 ⟨⟨x3, p3, rfl, hrd, hnx⟩, ho⟩
      replace RD : Hid (Rdr u3 (w.heap.size + 1) w.heap.size N f p3) := hrd
      have NX3 : Hid (Nxt N 32 p2 p3 (fun P => x3 = kstr (fun i => f (P + i)) 0 32)) := hnx
      replace X0 : Hid (Box2 u3 w.heap.size 33 (.slice none 0 0) (.slice none 0 0)) := X0.out.onlyB ho (by omega)
      replace BV : Hid (Box2 u3 (w.heap.size + 1 + 1) 33 v0 (.slice none 0 0)) := BV.out.onlyB ho (by omega)
      replace RV : Hid (EO u3 (w.heap.size + 1 + 1 + 1) 63 3 v0 k (rgF R)) := RV.out.onlyB ho (by omega)
      replace SV : Hid (EO u3 (w.heap.size + 1 + 1 + 1) 66 4 (.slice none 0 0) 0 (seF (fun _ => seZ))) := SV.out.onlyB ho (by omega)
      replace AB : Hid (Below w.heap.size w u3) := AB.out.trans (ho.toBelow (by omega) AB.out.size)
      replace SZ : Hid (w.heap.size + 1 + 1 + 1 ≤ u3.heap.size) := Nat.le_trans SZ.out ho.size
      clear hrd hnx ho
      have hb1 : Below u3.heap.size u3 (u3.alloc (.cells #[.int .i64 (x1 : Int), .int .i64 (x2 : Int), .string x3] 63)) := (Below.refl _ _).alloc (Nat.le_refl _) _
      have hb2 : Below u3.heap.size u3 ((u3.alloc (.cells #[.int .i64 (x1 : Int), .int .i64 (x2 : Int), .string x3] 63)).alloc (.cells #[.int .i64 (x1 : Int), .int .i64 (x2 : Int), .string x3] 63)) := ((Below.refl u3.heap.size u3).alloc (Nat.le_refl _) _).alloc (by simp) _
      have b0 := (BV.out.below hb1).c0
      have hs1 : (u3.alloc (.cells #[.int .i64 (x1 : Int), .int .i64 (x2 : Int), .string x3] 63)).heap.size = u3.heap.size + 1 := by simp
      have lc : ∀ j, j < 3 → ((u3.alloc (.cells #[.int .i64 (x1 : Int), .int .i64 (x2 : Int), .string x3] 63)).alloc (.cells #[.int .i64 (x1 : Int), .int .i64 (x2 : Int), .string x3] 63)).cell? ⟨u3.heap.size + 1, 0 + j, none⟩ = some (rgV (⟨(x1 : Int), (x2 : Int), x3⟩ : Rg) j) := by
        have := litCells (w := (u3.alloc (.cells #[.int .i64 (x1 : Int), .int .i64 (x2 : Int), .string x3] 63))) (t := 63) (cs := #[.int .i64 (x1 : Int), .int .i64 (x2 : Int), .string x3]) (m := 3) (rgV (⟨(x1 : Int), (x2 : Int), x3⟩ : Rg)) rfl (fun i hi => by rcases (show i = 0 ∨ i = 1 ∨ i = 2 by omega) with rfl | rfl | rfl <;> rfl)
        rw [hs1] at this
        exact this
      have szu := SZ.out
      obtain ⟨nv, w5, hr5, hE5, hg5, hl5⟩ := appRg ((u3.alloc (.cells #[.int .i64 (x1 : Int), .int .i64 (x2 : Int), .string x3] 63)).alloc (.cells #[.int .i64 (x1 : Int), .int .i64 (x2 : Int), .string x3] 63)) (w.heap.size + 1 + 1 + 1) v0 k (u3.heap.size + 1) R (⟨(x1 : Int), (x2 : Int), x3⟩ : Rg) (by simp; omega) (by omega) (RV.out.below hb2) lc
      obtain ⟨na, nc, rfl⟩ := hE5.form
      have ob : ∀ g, (v0 : Value).ownBlock = some g → w.heap.size + 1 + 1 + 1 ≤ g := fun g e => (RV.out.ge g e).1
      have sz2 : ((u3.alloc (.cells #[.int .i64 (x1 : Int), .int .i64 (x2 : Int), .string x3] 63)).alloc (.cells #[.int .i64 (x1 : Int), .int .i64 (x2 : Int), .string x3] 63)).heap.size = u3.heap.size + 1 + 1 := by simp
      have k5 : ∀ b, b < w.heap.size + 1 + 1 + 1 → w5.heap[b]? = u3.heap[b]? := fun b hb => (grown_block hg5 (by rw [sz2]; omega) (fun g e q => by have := ob g e; omega)).trans (hb2.block b (by omega))
      have BV5 := BV.out.ofBlock (k5 _ (by omega))
      have f5 := BV5.fr 0
      have c5 := BV5.c0
      have X6 : Hid (Box2 (w5.setCell ⟨w.heap.size + 1 + 1, 0, none⟩ (.slice na (k + 1) nc)) w.heap.size 33 (.slice none 0 0) (.slice none 0 0)) := (X0.out.ofBlock (k5 _ (by omega))).other (by simp; omega) _
      have BV6 : Hid (Box2 (w5.setCell ⟨w.heap.size + 1 + 1, 0, none⟩ (.slice na (k + 1) nc)) (w.heap.size + 1 + 1) 33 (.slice na (k + 1) nc) (.slice none 0 0)) := BV5.set0 _
      have E6 : Hid (EO (w5.setCell ⟨w.heap.size + 1 + 1, 0, none⟩ (.slice na (k + 1) nc)) (w.heap.size + 1 + 1 + 1) 63 3 (.slice na (k + 1) nc) (k + 1) (rgF (updE R k (⟨(x1 : Int), (x2 : Int), x3⟩ : Rg)))) := hE5.keep (fun g e => by
        have := (hE5.ge g e).1
        exact heap_setOther _ _ (by show g ≠ w.heap.size + 1 + 1; omega))
      have RD6 : Hid (Rdr (w5.setCell ⟨w.heap.size + 1 + 1, 0, none⟩ (.slice na (k + 1) nc)) (w.heap.size + 1) w.heap.size N f p3) := RD.out.keep ((heap_setOther _ _ (by show w.heap.size + 1 ≠ w.heap.size + 1 + 1; omega)).trans (k5 _ (by omega))) (fun b hb => (heap_setOther _ _ (by show b ≠ w.heap.size + 1 + 1; omega)).trans (k5 _ (by omega)))
      have SZ6 : Hid (w.heap.size + 1 + 1 + 1 ≤ (w5.setCell ⟨w.heap.size + 1 + 1, 0, none⟩ (.slice na (k + 1) nc)).heap.size) := by
        have := hg5.size
        rw [sz2] at this
        show _ ≤ _
        simp
        omega
      have AB6 : Hid (Below w.heap.size w (w5.setCell ⟨w.heap.size + 1 + 1, 0, none⟩ (.slice na (k + 1) nc))) := (AB.out.trans ((hb2.mono AB.out.size).trans (grown_belowE hg5 (by rw [sz2]; omega) (fun g e => by have := ob g e; omega)))).setCell (by simp; omega) _
      have IV6 : Hid ((p3 = none ∧ ¬ Whole N f) ∨ (p3 = some (1 + 37 * (k + 1)) ∧ x0 = pNr f ∧ ∀ i, i < k + 1 → updE R k ⟨(x1 : Int), (x2 : Int), x3⟩ i = pRg f i)) := by
        show _ ∨ _
        have W3 : p3 = none → ¬ Whole N f := fun z q => by
          unfold Whole at q
          rcases NX3.out with ⟨_, e | ⟨P, e, e9⟩⟩ | ⟨P3, e1, e2, e3, e4⟩
          · rcases NX2.out with ⟨_, d | ⟨P, d, d9⟩⟩ | ⟨P2, d1, d2, d3, d4⟩
            · rcases NX1.out with ⟨_, b | ⟨P, b, b9⟩⟩ | ⟨P1, b1, b2, b3, b4⟩
              · rcases IV.out with ⟨_, i1⟩ | ⟨i1, i2, i3⟩
                · exact i1 q
                · rw [b] at i1; cases i1
              · rcases IV.out with ⟨i0, _⟩ | ⟨i1, i2, i3⟩
                · rw [b] at i0; cases i0
                · rw [b] at i1; cases i1; omega
              · rw [d] at b3; cases b3
            · rcases NX1.out with ⟨b0, _⟩ | ⟨P1, b1, b2, b3, b4⟩
              · rw [d] at b0; cases b0
              · rcases IV.out with ⟨i0, _⟩ | ⟨i1, i2, i3⟩
                · rw [b1] at i0; cases i0
                · rw [b1] at i1; cases i1; rw [d] at b3; cases b3; omega
            · rw [e] at d3; cases d3
          · rcases NX2.out with ⟨d0, _⟩ | ⟨P2, d1, d2, d3, d4⟩
            · rw [e] at d0; cases d0
            · rcases NX1.out with ⟨b0, _⟩ | ⟨P1, b1, b2, b3, b4⟩
              · rw [d1] at b0; cases b0
              · rcases IV.out with ⟨i0, _⟩ | ⟨i1, i2, i3⟩
                · rw [b1] at i0; cases i0
                · rw [b1] at i1; cases i1; rw [d1] at b3; cases b3; rw [e] at d3; cases d3; omega
          · rw [z] at e3; cases e3
        rcases NX3.out with ⟨e, _⟩ | ⟨P3, e1, e2, e3, e4⟩
        · exact .inl ⟨e, W3 e⟩
        rcases NX2.out with ⟨e, _⟩ | ⟨P2, d1, d2, d3, d4⟩
        · rw [e] at e1; cases e1
        rcases NX1.out with ⟨e, _⟩ | ⟨P1, b1, b2, b3, b4⟩
        · rw [e] at d1; cases d1
        rcases IV.out with ⟨e, _⟩ | ⟨i1, i2, i3⟩
        · rw [e] at b1; cases b1
        rw [b1] at i1
        cases i1
        rw [b3] at d1
        cases d1
        rw [d3] at e1
        cases e1
        refine .inr ⟨e3.trans (congrArg some (by omega)), i2, fun i hi => ?_⟩
        unfold updE
        by_cases q : i = k
        · rw [if_pos q, q, b4, d4, e4]
          rfl
        · rw [if_neg q]; exact i3 i (by omega)
      clear hE5 hg5 hl5 k5 BV5 ob lc hb1 hb2 X0 BV RV SV RD AB SZ NX1 NX2 NX3 IV sz2 hs1 szu
      go_wp2_with (at_builtin; refine Lib.wpList_append_run _ rfl (.tmp 22) (.tmp 24) 30 30 rfl v0 (.slice (some ⟨u3.heap.size + 1, 0, none⟩) 1 1) rfl rfl _ _ (hr5 _) ?_)
      go_roundw
      case rel => exact ⟨k + 1, _, _, p3, by omega, by go_num, X6.out, BV6.out, E6.out, RD6.out, IV6.out, SZ6.out, AB6.out⟩
      case measure => simp [intOf]; omega
    · obtain rfl : k = x0 := by omega
      have hlt' : ¬ (k : Int) < (k : Int) := by omega
      clear hlt hk
      go_wp2_with fail
      refine (NU1.out _ p RD.out).mono ?_
      rintro e u4 ⟨⟨x4, p4, rfl, hrd, hnx, hlt4⟩, ho⟩
      replace RD : Hid (Rdr u4 (w.heap.size + 1) w.heap.size N f p4) := hrd
      have NX4 : Hid (Nxt N 1 p p4 (fun P => x4 = valN (fun i => f (P + i)) 1)) := hnx
      replace X0 : Hid (Box2 u4 w.heap.size 33 (.slice none 0 0) (.slice none 0 0)) := X0.out.onlyB ho (by omega)
      replace BV : Hid (Box2 u4 (w.heap.size + 1 + 1) 33 v0 (.slice none 0 0)) := BV.out.onlyB ho (by omega)
      replace RV : Hid (EO u4 (w.heap.size + 1 + 1 + 1) 63 3 v0 k (rgF R)) := RV.out.onlyB ho (by omega)
      replace SV : Hid (EO u4 (w.heap.size + 1 + 1 + 1) 66 4 (.slice none 0 0) 0 (seF (fun _ => seZ))) := SV.out.onlyB ho (by omega)
      replace AB : Hid (Below w.heap.size w u4) := AB.out.trans (ho.toBelow (by omega) AB.out.size)
      replace SZ : Hid (w.heap.size + 1 + 1 + 1 ≤ u4.heap.size) := Nat.le_trans SZ.out ho.size
      clear hrd hnx ho
      have I4 : Hid ((p4 = none ∧ ¬ Whole N f) ∨ (p4 = some (1 + 37 * pNr f + 1) ∧ k = pNr f ∧ (∀ i, i < k → R i = pRg f i) ∧ x4 = pNs f)) := by
        show _ ∨ _
        rcases NX4.out with ⟨e, e9⟩ | ⟨P, e1, e2, e3, e4⟩
        · refine .inl ⟨e, fun q => ?_⟩
          rcases IV.out with ⟨_, i0⟩ | ⟨i1, i2, i3⟩
          · exact i0 q
          · unfold Whole at q
            rcases e9 with e9 | ⟨P, e9, e8⟩
            · rw [e9] at i1; cases i1
            · rw [e9] at i1; cases i1; omega
        rcases IV.out with ⟨e, _⟩ | ⟨i1, i2, i3⟩
        · rw [e] at e1; cases e1
        rw [e1] at i1
        cases i1
        refine .inr ⟨by rw [← i2]; exact e3, i2, i3, ?_⟩
        rw [e4]
        unfold pNs
        rw [← i2]
      have x4b : x4 ≤ 255 := by omega
      clear hlt4 NX4 IV
      go_wp2
      go_loopw [29] (fun i wr => ∃ (m : Nat) (v1 : Value) (S : Nat → Se) (p : Option Nat), m ≤ x4 ∧ i = .int .i64 m ∧ Box2 wr w.heap.size 33 (.slice none 0 0) (.slice none 0 0) ∧ Box2 wr (w.heap.size + 1 + 1) 33 v0 v1 ∧ EO wr (w.heap.size + 1 + 1 + 1) 63 3 v0 k (rgF R) ∧ EO wr (w.heap.size + 1 + 1 + 1) 66 4 v1 m (seF S) ∧ (∀ g, v0.ownBlock = some g → v1.ownBlock ≠ some g) ∧ Rdr wr (w.heap.size + 1) w.heap.size N f p ∧ ((p = none ∧ ¬ Whole N f) ∨ (p = some (1 + 37 * pNr f + 1 + 9 * m) ∧ k = pNr f ∧ (∀ i, i < k → R i = pRg f i) ∧ x4 = pNs f ∧ ∀ i, i < m → S i = pSe f i)) ∧ w.heap.size + 1 + 1 + 1 ≤ wr.heap.size ∧ Below w.heap.size w wr) (fun i _ => x4 - (intOf i).toNat)
      case atStart =>
        refine ⟨0, _, _, p4, by omega, rfl, X0.out, BV.out, RV.out, SV.out, (fun g _ q => by cases q), RD.out, ?_, SZ.out, AB.out⟩
        rcases I4.out with e | ⟨e, e2, e3, e4⟩
        · exact .inl e
        · exact .inr ⟨e, e2, e3, e4, fun i hi => absurd hi (by omega)⟩
      case round =>
        clear X0 BV RV SV RD I4 SZ AB
        obtain ⟨m, v1, S, p, hm, rfl, X0, BV, RV, SV, AP, RD, IV, SZ, AB⟩ := hrel
        replace X0 : Hid (Box2 wr w.heap.size 33 (.slice none 0 0) (.slice none 0 0)) := X0
        replace BV : Hid (Box2 wr (w.heap.size + 1 + 1) 33 v0 v1) := BV
        replace RV : Hid (EO wr (w.heap.size + 1 + 1 + 1) 63 3 v0 k (rgF R)) := RV
        replace SV : Hid (EO wr (w.heap.size + 1 + 1 + 1) 66 4 v1 m (seF S)) := SV
        replace AP : Hid (∀ g, v0.ownBlock = some g → v1.ownBlock ≠ some g) := AP
        replace RD : Hid (Rdr wr (w.heap.size + 1) w.heap.size N f p) := RD
        replace IV : Hid (((p = none ∧ ¬ Whole N f) ∨ (p = some (1 + 37 * pNr f + 1 + 9 * m) ∧ k = pNr f ∧ (∀ i, i < k → R i = pRg f i) ∧ x4 = pNs f ∧ ∀ i, i < m → S i = pSe f i))) := IV
        replace SZ : Hid (w.heap.size + 1 + 1 + 1 ≤ wr.heap.size) := SZ
        replace AB : Hid (Below w.heap.size w wr) := AB
        by_cases hlt : m < x4
        · have hlt' : (m : Int) < (x4 : Int) := by omega
          go_wp2_with fail
          refine (NU2.out _ p RD.out).mono ?_
          rintro e u5 ⟨⟨x5, p5, rfl, hrd, hnx, hlt5⟩, ho⟩
          replace RD : Hid (Rdr u5 (w.heap.size + 1) w.heap.size N f p5) := hrd
          have NX5 : Hid (Nxt N 2 p p5 (fun P => x5 = valN (fun i => f (P + i)) 2)) := hnx
          replace X0 : Hid (Box2 u5 w.heap.size 33 (.slice none 0 0) (.slice none 0 0)) := X0.out.onlyB ho (by omega)
          replace BV : Hid (Box2 u5 (w.heap.size + 1 + 1) 33 v0 v1) := BV.out.onlyB ho (by omega)
          replace RV : Hid (EO u5 (w.heap.size + 1 + 1 + 1) 63 3 v0 k (rgF R)) := RV.out.onlyB ho (by omega)
          replace SV : Hid (EO u5 (w.heap.size + 1 + 1 + 1) 66 4 v1 m (seF S)) := SV.out.onlyB ho (by omega)
          replace AB : Hid (Below w.heap.size w u5) := AB.out.trans (ho.toBelow (by omega) AB.out.size)
          replace SZ : Hid (w.heap.size + 1 + 1 + 1 ≤ u5.heap.size) := Nat.le_trans SZ.out ho.size
          clear hrd hnx ho
          go_wp2_with fail
          refine (NU2.out _ p5 RD.out).mono ?_
          rintro e u6 ⟨⟨x6, p6, rfl, hrd, hnx, hlt6⟩, ho⟩
          replace RD : Hid (Rdr u6 (w.heap.size + 1) w.heap.size N f p6) := hrd
          have NX6 : Hid (Nxt N 2 p5 p6 (fun P => x6 = valN (fun i => f (P + i)) 2)) := hnx
          replace X0 : Hid (Box2 u6 w.heap.size 33 (.slice none 0 0) (.slice none 0 0)) := X0.out.onlyB ho (by omega)
          replace BV : Hid (Box2 u6 (w.heap.size + 1 + 1) 33 v0 v1) := BV.out.onlyB ho (by omega)
          replace RV : Hid (EO u6 (w.heap.size + 1 + 1 + 1) 63 3 v0 k (rgF R)) := RV.out.onlyB ho (by omega)
          replace SV : Hid (EO u6 (w.heap.size + 1 + 1 + 1) 66 4 v1 m (seF S)) := SV.out.onlyB ho (by omega)
          replace AB : Hid (Below w.heap.size w u6) := AB.out.trans (ho.toBelow (by omega) AB.out.size)
          replace SZ : Hid (w.heap.size + 1 + 1 + 1 ≤ u6.heap.size) := Nat.le_trans SZ.out ho.size
          clear hrd hnx ho
          go_wp2_with fail
          refine (NU1.out _ p6 RD.out).mono ?_
          rintro e u7 ⟨⟨x7, p7, rfl, hrd, hnx, hlt7⟩, ho⟩
          replace RD : Hid (Rdr u7 (w.heap.size + 1) w.heap.size N f p7) := hrd
          have NX7 : Hid (Nxt N 1 p6 p7 (fun P => x7 = valN (fun i => f (P + i)) 1)) := hnx
          replace X0 : Hid (Box2 u7 w.heap.size 33 (.slice none 0 0) (.slice none 0 0)) := X0.out.onlyB ho (by omega)
          replace BV : Hid (Box2 u7 (w.heap.size + 1 + 1) 33 v0 v1) := BV.out.onlyB ho (by omega)
          replace RV : Hid (EO u7 (w.heap.size + 1 + 1 + 1) 63 3 v0 k (rgF R)) := RV.out.onlyB ho (by omega)
          replace SV : Hid (EO u7 (w.heap.size + 1 + 1 + 1) 66 4 v1 m (seF S)) := SV.out.onlyB ho (by omega)
          replace AB : Hid (Below w.heap.size w u7) := AB.out.trans (ho.toBelow (by omega) AB.out.size)
          replace SZ : Hid (w.heap.size + 1 + 1 + 1 ≤ u7.heap.size) := Nat.le_trans SZ.out ho.size
          clear hrd hnx ho
          go_wp2_with fail
          refine (NU4.out _ p7 RD.out).mono ?_
          rintro e u8 ⟨⟨x8, p8, rfl, hrd, hnx, hlt8⟩, ho⟩
          replace RD : Hid (Rdr u8 (w.heap.size + 1) w.heap.size N f p8) := hrd
          have NX8 : Hid (Nxt N 4 p7 p8 (fun P => x8 = valN (fun i => f (P + i)) 4)) := hnx
          replace X0 : Hid (Box2 u8 w.heap.size 33 (.slice none 0 0) (.slice none 0 0)) := X0.out.onlyB ho (by omega)
          replace BV : Hid (Box2 u8 (w.heap.size + 1 + 1) 33 v0 v1) := BV.out.onlyB ho (by omega)
          replace RV : Hid (EO u8 (w.heap.size + 1 + 1 + 1) 63 3 v0 k (rgF R)) := RV.out.onlyB ho (by omega)
          replace SV : Hid (EO u8 (w.heap.size + 1 + 1 + 1) 66 4 v1 m (seF S)) := SV.out.onlyB ho (by omega)
          replace AB : Hid (Below w.heap.size w u8) := AB.out.trans (ho.toBelow (by omega) AB.out.size)
          replace SZ : Hid (w.heap.size + 1 + 1 + 1 ≤ u8.heap.size) := Nat.le_trans SZ.out ho.size
          clear hrd hnx ho
          have hb1 : Below u8.heap.size u8 (u8.alloc (.cells #[.int .i64 (x5 : Int), .int .i64 (x6 : Int), .int .i64 (x7 : Int), .int .i64 (x8 : Int)] 66)) := (Below.refl _ _).alloc (Nat.le_refl _) _
          have hb2 : Below u8.heap.size u8 ((u8.alloc (.cells #[.int .i64 (x5 : Int), .int .i64 (x6 : Int), .int .i64 (x7 : Int), .int .i64 (x8 : Int)] 66)).alloc (.cells #[.int .i64 (x5 : Int), .int .i64 (x6 : Int), .int .i64 (x7 : Int), .int .i64 (x8 : Int)] 66)) := ((Below.refl u8.heap.size u8).alloc (Nat.le_refl _) _).alloc (by simp) _
          have b0 := (BV.out.below hb1).c1
          have hs1 : (u8.alloc (.cells #[.int .i64 (x5 : Int), .int .i64 (x6 : Int), .int .i64 (x7 : Int), .int .i64 (x8 : Int)] 66)).heap.size = u8.heap.size + 1 := by simp
          have lc : ∀ j, j < 4 → ((u8.alloc (.cells #[.int .i64 (x5 : Int), .int .i64 (x6 : Int), .int .i64 (x7 : Int), .int .i64 (x8 : Int)] 66)).alloc (.cells #[.int .i64 (x5 : Int), .int .i64 (x6 : Int), .int .i64 (x7 : Int), .int .i64 (x8 : Int)] 66)).cell? ⟨u8.heap.size + 1, 0 + j, none⟩ = some (seV (⟨(x5 : Int), (x6 : Int), (x7 : Int), (x8 : Int)⟩ : Se) j) := by
            have := litCells (w := (u8.alloc (.cells #[.int .i64 (x5 : Int), .int .i64 (x6 : Int), .int .i64 (x7 : Int), .int .i64 (x8 : Int)] 66))) (t := 66) (cs := #[.int .i64 (x5 : Int), .int .i64 (x6 : Int), .int .i64 (x7 : Int), .int .i64 (x8 : Int)]) (m := 4) (seV (⟨(x5 : Int), (x6 : Int), (x7 : Int), (x8 : Int)⟩ : Se)) rfl (fun i hi => by rcases (show i = 0 ∨ i = 1 ∨ i = 2 ∨ i = 3 by omega) with rfl | rfl | rfl | rfl <;> rfl)
            rw [hs1] at this
            exact this
          have szu := SZ.out
          obtain ⟨nv, w5, hr5, hE5, hg5, hl5⟩ := appSe ((u8.alloc (.cells #[.int .i64 (x5 : Int), .int .i64 (x6 : Int), .int .i64 (x7 : Int), .int .i64 (x8 : Int)] 66)).alloc (.cells #[.int .i64 (x5 : Int), .int .i64 (x6 : Int), .int .i64 (x7 : Int), .int .i64 (x8 : Int)] 66)) (w.heap.size + 1 + 1 + 1) v1 m (u8.heap.size + 1) S (⟨(x5 : Int), (x6 : Int), (x7 : Int), (x8 : Int)⟩ : Se) (by simp; omega) (by omega) (SV.out.below hb2) lc
          obtain ⟨na, nc, rfl⟩ := hE5.form
          have ob : ∀ g, (v1 : Value).ownBlock = some g → w.heap.size + 1 + 1 + 1 ≤ g := fun g e => (SV.out.ge g e).1
          have sz2 : ((u8.alloc (.cells #[.int .i64 (x5 : Int), .int .i64 (x6 : Int), .int .i64 (x7 : Int), .int .i64 (x8 : Int)] 66)).alloc (.cells #[.int .i64 (x5 : Int), .int .i64 (x6 : Int), .int .i64 (x7 : Int), .int .i64 (x8 : Int)] 66)).heap.size = u8.heap.size + 1 + 1 := by simp
          have k5 : ∀ b, b < w.heap.size + 1 + 1 + 1 → w5.heap[b]? = u8.heap[b]? := fun b hb => (grown_block hg5 (by rw [sz2]; omega) (fun g e q => by have := ob g e; omega)).trans (hb2.block b (by omega))
          have BV5 := BV.out.ofBlock (k5 _ (by omega))
          have f5 := BV5.fr 1
          have c5 := BV5.c1
          have X6 : Hid (Box2 (w5.setCell ⟨w.heap.size + 1 + 1, 1, none⟩ (.slice na (m + 1) nc)) w.heap.size 33 (.slice none 0 0) (.slice none 0 0)) := (X0.out.ofBlock (k5 _ (by omega))).other (by simp; omega) _
          have BV6 : Hid (Box2 (w5.setCell ⟨w.heap.size + 1 + 1, 1, none⟩ (.slice na (m + 1) nc)) (w.heap.size + 1 + 1) 33 v0 (.slice na (m + 1) nc)) := BV5.set1 _
          have E6 : Hid (EO (w5.setCell ⟨w.heap.size + 1 + 1, 1, none⟩ (.slice na (m + 1) nc)) (w.heap.size + 1 + 1 + 1) 66 4 (.slice na (m + 1) nc) (m + 1) (seF (updE S m (⟨(x5 : Int), (x6 : Int), (x7 : Int), (x8 : Int)⟩ : Se)))) := hE5.keep (fun g e => by
            have := (hE5.ge g e).1
            exact heap_setOther _ _ (by show g ≠ w.heap.size + 1 + 1; omega))
          have RD6 : Hid (Rdr (w5.setCell ⟨w.heap.size + 1 + 1, 1, none⟩ (.slice na (m + 1) nc)) (w.heap.size + 1) w.heap.size N f p8) := RD.out.keep ((heap_setOther _ _ (by show w.heap.size + 1 ≠ w.heap.size + 1 + 1; omega)).trans (k5 _ (by omega))) (fun b hb => (heap_setOther _ _ (by show b ≠ w.heap.size + 1 + 1; omega)).trans (k5 _ (by omega)))
          have SZ6 : Hid (w.heap.size + 1 + 1 + 1 ≤ (w5.setCell ⟨w.heap.size + 1 + 1, 1, none⟩ (.slice na (m + 1) nc)).heap.size) := by
            have := hg5.size
            rw [sz2] at this
            show _ ≤ _
            simp
            omega
          have AB6 : Hid (Below w.heap.size w (w5.setCell ⟨w.heap.size + 1 + 1, 1, none⟩ (.slice na (m + 1) nc))) := (AB.out.trans ((hb2.mono AB.out.size).trans (grown_belowE hg5 (by rw [sz2]; omega) (fun g e => by have := ob g e; omega)))).setCell (by simp; omega) _
          have RV6 : Hid (EO (w5.setCell ⟨w.heap.size + 1 + 1, 1, none⟩ (.slice na (m + 1) nc)) (w.heap.size + 1 + 1 + 1) 63 3 v0 k (rgF R)) := RV.out.keep (fun g e => by
            have q1 := RV.out.ge g e
            have q2 : w5.heap[g]? = u8.heap[g]? := (grown_block hg5 (by rw [sz2]; omega) (fun g2 e2 q => AP.out g e (by rw [e2, q]))).trans (hb2.block g q1.2)
            exact (heap_setOther _ _ (by show g ≠ w.heap.size + 1 + 1; omega)).trans q2)
          have AP6 : Hid (∀ g, v0.ownBlock = some g → (Value.slice na (m + 1) nc).ownBlock ≠ some g) := fun g e q => by
            rcases hl5 with e5 | e5
            · exact AP.out g e (by rw [← e5]; exact q)
            · have q1 := RV.out.ge g e
              rw [e5] at q
              have := Option.some.inj q
              rw [sz2] at this
              omega
          have IV6 : Hid ((p8 = none ∧ ¬ Whole N f) ∨ (p8 = some (1 + 37 * pNr f + 1 + 9 * (m + 1)) ∧ k = pNr f ∧ (∀ i, i < k → R i = pRg f i) ∧ x4 = pNs f ∧ ∀ i, i < m + 1 → updE S m (⟨(x5 : Int), (x6 : Int), (x7 : Int), (x8 : Int)⟩ : Se) i = pSe f i)) := by
            show _ ∨ _
            have W8 : p8 = none → ¬ Whole N f := fun z q => by
              unfold Whole at q
              rcases IV.out with ⟨i0, i1⟩ | ⟨i1, i2, i3, i4, i5⟩
              · exact i1 q
              rcases NX5.out with ⟨_, b | ⟨P, b, b9⟩⟩ | ⟨P1, b1, b2, b3, b4⟩
              · rw [b] at i1; cases i1
              · rw [b] at i1; cases i1; omega
              rw [b1] at i1
              cases i1
              rcases NX6.out with ⟨_, c | ⟨P, c, c9⟩⟩ | ⟨P2, c1, c2, c3, c4⟩
              · rw [c] at b3; cases b3
              · rw [c] at b3; cases b3; omega
              rw [c1] at b3
              cases b3
              rcases NX7.out with ⟨_, d | ⟨P, d, d9⟩⟩ | ⟨P3, d1, d2, d3, d4⟩
              · rw [d] at c3; cases c3
              · rw [d] at c3; cases c3; omega
              rw [d1] at c3
              cases c3
              rcases NX8.out with ⟨_, e | ⟨P, e, e9⟩⟩ | ⟨P4, e1, e2, e3, e4⟩
              · rw [e] at d3; cases d3
              · rw [e] at d3; cases d3; omega
              rw [z] at e3; cases e3
            rcases NX8.out with ⟨e, _⟩ | ⟨P4, e1, e2, e3, e4⟩
            · exact .inl ⟨e, W8 e⟩
            rcases NX7.out with ⟨e, _⟩ | ⟨P3, d1, d2, d3, d4⟩
            · rw [e] at e1; cases e1
            rcases NX6.out with ⟨e, _⟩ | ⟨P2, c1, c2, c3, c4⟩
            · rw [e] at d1; cases d1
            rcases NX5.out with ⟨e, _⟩ | ⟨P1, b1, b2, b3, b4⟩
            · rw [e] at c1; cases c1
            rcases IV.out with ⟨e, _⟩ | ⟨i1, i2, i3, i4, i5⟩
            · rw [e] at b1; cases b1
            rw [b1] at i1
            cases i1
            rw [b3] at c1
            cases c1
            rw [c3] at d1
            cases d1
            rw [d3] at e1
            cases e1
            refine .inr ⟨e3.trans (congrArg some (by omega)), i2, i3, i4, fun i hi => ?_⟩
            unfold updE
            by_cases q : i = m
            · rw [if_pos q, q, b4, c4, d4, e4]
              rfl
            · rw [if_neg q]; exact i5 i (by omega)
          clear hE5 hg5 hl5 k5 BV5 ob lc hb1 hb2 X0 BV RV SV RD AB SZ NX5 NX6 NX7 NX8 IV sz2 hs1 szu AP
          go_wp2_with (at_builtin; refine Lib.wpList_append_run _ rfl (.tmp 37) (.tmp 39) 31 31 rfl v1 (.slice (some ⟨u8.heap.size + 1, 0, none⟩) 1 1) rfl rfl _ _ (hr5 _) ?_)
          go_roundw
          case rel => exact ⟨m + 1, _, _, p8, by omega, by go_num, X6.out, BV6.out, RV6.out, E6.out, AP6.out, RD6.out, IV6.out, SZ6.out, AB6.out⟩
          case measure => simp [intOf]; omega
        · obtain rfl : m = x4 := by omega
          have hlt' : ¬ (m : Int) < (m : Int) := by omega
          clear hlt hm
          obtain ⟨ra, rc, rfl⟩ := RV.out.form
          obtain ⟨sa, sc, rfl⟩ := SV.out.form
          have HQ : Hid (p = some N ∨ p ≠ some N) := Classical.em _
          rcases HQ.out with hp | hp
          · subst hp
            have EN : Hid (Calls Tryd.prog 47 #[.pointer (some ⟨w.heap.size + 1, 0, none⟩)] wr fun e w' => e = .returned (.bool true) ∧ wr = w') := ended_yes (w.heap.size + 1) w.heap.size N f wr RD.out
            obtain ⟨i1, i2, i3, i4, i5⟩ : some N = some (1 + 37 * pNr f + 1 + 9 * m) ∧ k = pNr f ∧ (∀ i, i < k → R i = pRg f i) ∧ m = pNs f ∧ ∀ i, i < m → S i = pSe f i := by
              rcases IV.out with ⟨e, _⟩ | q
              · cases e
              · exact q
            have WH : Hid (Whole N f) := by show _ = _; injection i1 with i1; rw [← i4]; exact i1.symm
            have OKI : Hid ((⟨k, R, m, S⟩ : Bk).Ok ↔ (pB f).Ok) := by
              show (RgsOk k R ∧ SesOk m S) ↔ (RgsOk (pNr f) (pRg f) ∧ SesOk (pNs f) (pSe f))
              rw [← i2, ← i4]
              exact and_congr (rgsOk_congr i3) (sesOk_congr i5)
            have BO : Hid (Calls Tryd.prog 31 #[.agg #[.slice ra k rc, .slice sa m sc]] wr fun e w' => e = .returned (.bool (okB (⟨k, R, m, S⟩ : Bk).Ok)) ∧ Below wr.heap.size wr w') := implBankOK_any ⟨k, R, m, S⟩ ra sa rc sc wr ⟨RV.out.els, SV.out.els⟩ (TT.out.below AB.out)
            have EQ : Hid (k = pNr f ∧ (∀ i, i < k → R i = pRg f i) ∧ m = pNs f ∧ ∀ i, i < m → S i = pSe f i) := ⟨i2, i3, i4, i5⟩
            clear i1 i2 i3 i4 i5 IV HQ
            go_wp2_with fail
            refine EN.out.mono ?_
            rintro e _ ⟨rfl, rfl⟩
            have b0 := BV.out.c0
            have b1 := BV.out.c1
            clear EN
            go_wp2_with fail
            refine BO.out.mono ?_
            rintro e z1 ⟨rfl, hb⟩
            clear BO b0 b1
            replace X0 : Hid (Box2 z1 w.heap.size 33 (.slice none 0 0) (.slice none 0 0)) := X0.out.below hb
            replace BV : Hid (Box2 z1 (w.heap.size + 1 + 1) 33 (.slice ra k rc) (.slice sa m sc)) := BV.out.below hb
            replace RV : Hid (EO z1 (w.heap.size + 1 + 1 + 1) 63 3 (.slice ra k rc) k (rgF R)) := RV.out.below hb
            replace SV : Hid (EO z1 (w.heap.size + 1 + 1 + 1) 66 4 (.slice sa m sc) m (seF S)) := SV.out.below hb
            replace AB : Hid (Below w.heap.size w z1) := AB.out.trans (hb.mono AB.out.size)
            replace SZ : Hid (w.heap.size + 1 + 1 + 1 ≤ z1.heap.size) := Nat.le_trans SZ.out hb.size
            clear hb
            have HO : Hid ((⟨k, R, m, S⟩ : Bk).Ok ∨ ¬ (⟨k, R, m, S⟩ : Bk).Ok) := Classical.em _
            have b0 := BV.out.c0
            have b1 := BV.out.c1
            have r0 := X0.out.c0
            have r1 := X0.out.c1
            have f0 := X0.out.fr 0
            have f1 := X0.out.fr 1
            rcases HO.out with ho | ho
            · rw [okB_yes ho]
              have GD : Hid (Whole N f ∧ (pB f).Ok) := ⟨WH.out, OKI.out.1 ho⟩
              clear ho HO OKI WH
              go_wp2
              have Y : Box2 ((z1.setCell ⟨w.heap.size, 0, none⟩ (.slice ra k rc)).setCell ⟨w.heap.size, 1, none⟩ (.slice sa m sc)) w.heap.size 33 (.slice ra k rc) (.slice sa m sc) := (X0.out.set0 _).set1 _
              have kk : ∀ g, w.heap.size + 1 + 1 + 1 ≤ g → (((z1.setCell ⟨w.heap.size, 0, none⟩ (.slice ra k rc)).setCell ⟨w.heap.size, 1, none⟩ (.slice sa m sc))).heap[g]? = z1.heap[g]? := fun g hg => (heap_setOther _ _ (by show g ≠ w.heap.size; omega)).trans (heap_setOther _ _ (by show g ≠ w.heap.size; omega))
              refine ret_cell2 (b := w.heap.size) Tryd.results22 rfl rfl (Box2.loadB Y) ⟨.inl ⟨GD.out, ?_⟩, (AB.out.setCell (by simp) _).setCell (by simp) _⟩
              obtain ⟨i2, i3, i4, i5⟩ := EQ.out
              have RR := (RV.out.keep (w' := ((z1.setCell ⟨w.heap.size, 0, none⟩ (.slice ra k rc)).setCell ⟨w.heap.size, 1, none⟩ (.slice sa m sc))) (fun g e => kk g (RV.out.ge g e).1)).congr (G := rgF (pRg f)) (fun i hi j hj => by unfold rgF; rw [i3 i hi])
              have SS := (SV.out.keep (w' := ((z1.setCell ⟨w.heap.size, 0, none⟩ (.slice ra k rc)).setCell ⟨w.heap.size, 1, none⟩ (.slice sa m sc))) (fun g e => kk g (SV.out.ge g e).1)).congr (G := seF (pSe f)) (fun i hi j hj => by unfold seF; rw [i5 i hi])
              have AQ := AP.out
              unfold RetBk pB
              dsimp only
              rw [← i2, ← i4]
              exact ⟨ra, rc, sa, sc, rfl, ownsRow_monoE RR (by omega), ownsRow_monoE SS (by omega), AQ⟩
            · rw [okB_no ho]
              have GD : Hid (¬ (Whole N f ∧ (pB f).Ok)) := fun q => ho (OKI.out.2 q.2)
              clear ho HO OKI WH EQ
              go_wp2
              exact ret_cell2 (b := w.heap.size) Tryd.results22 rfl rfl (Box2.loadB ((X0.out.set0 _).set1 _)) ⟨.inr ⟨GD.out, rfl⟩, (AB.out.setCell (by simp) _).setCell (by simp) _⟩
          · have GD : Hid (¬ (Whole N f ∧ (pB f).Ok)) := fun q => by
              rcases IV.out with ⟨_, e⟩ | ⟨i1, i2, i3, i4, i5⟩
              · exact e q.1
              · apply hp
                rw [i1, i4]
                exact congrArg some q.1
            have EN : Hid (Calls Tryd.prog 47 #[.pointer (some ⟨w.heap.size + 1, 0, none⟩)] wr fun e w' => e = .returned (.bool false) ∧ wr = w') := ended_other (w.heap.size + 1) w.heap.size N f p hp wr RD.out
            have r0 := X0.out.c0
            have r1 := X0.out.c1
            have f0 := X0.out.fr 0
            have f1 := X0.out.fr 1
            clear HQ hp IV
            go_wp2_with fail
            refine EN.out.mono ?_
            rintro e _ ⟨rfl, rfl⟩
            clear EN
            go_wp2
            exact ret_cell2 (b := w.heap.size) Tryd.results22 rfl rfl (Box2.loadB ((X0.out.set0 _).set1 _)) ⟨.inr ⟨GD.out, rfl⟩, (AB.out.setCell (by simp) _).setCell (by simp) _⟩
end Go.Proofs.YtmejmpdnmhnheabDoor
