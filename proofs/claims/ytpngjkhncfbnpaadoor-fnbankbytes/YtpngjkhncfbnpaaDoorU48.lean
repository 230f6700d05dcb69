/-
  Texts of the proof, joined: ReadB, ReadM, BankRt.
-/
import Derived.Test.YtpngjkhncfbnpaaDoorU09
import Derived.Test.YtpngjkhncfbnpaaDoorU14
import Derived.Test.YtpngjkhncfbnpaaDoorU21
import Derived.Test.YtpngjkhncfbnpaaDoorU24
import Derived.Lib.AppendZeros
import Derived.Test.YtpngjkhncfbnpaaDoorU46
namespace Go.Proofs.YtpngjkhncfbnpaaDoor
open Go.ChangeShapes Go.WideShapes Go.ChangeAt Go.RowKit
set_option linter.unusedVariables false
def pNr (f : Nat → Nat) : Nat := valN (fun j => f (0 + j)) 1
def pRg (f : Nat → Nat) (i : Nat) : Rg := ⟨((valN (fun j => f (1 + 37 * i + j)) 1 : Nat) : Int), ((valN (fun j => f (1 + 37 * i + 1 + j)) 4 : Nat) : Int), kstr (fun j => f (1 + 37 * i + 1 + 4 + j)) 0 32⟩
def pNs (f : Nat → Nat) : Nat := valN (fun j => f (1 + 37 * pNr f + j)) 1
def pSe (f : Nat → Nat) (i : Nat) : Se := ⟨((valN (fun j => f (1 + 37 * pNr f + 1 + 9 * i + j)) 2 : Nat) : Int), ((valN (fun j => f (1 + 37 * pNr f + 1 + 9 * i + 2 + j)) 2 : Nat) : Int), ((valN (fun j => f (1 + 37 * pNr f + 1 + 9 * i + 2 + 2 + j)) 1 : Nat) : Int), ((valN (fun j => f (1 + 37 * pNr f + 1 + 9 * i + 2 + 2 + 1 + j)) 4 : Nat) : Int)⟩
def pB (f : Nat → Nat) : Bk := ⟨pNr f, pRg f, pNs f, pSe f⟩
def Whole (N : Nat) (f : Nat → Nat) : Prop := 1 + 37 * pNr f + 1 + 9 * pNs f = N
theorem rgsOk_congr {n : Nat} {R R' : Nat → Rg} (h : ∀ i, i < n → R i = R' i) : RgsOk n R ↔ RgsOk n R' := by
  have one : ∀ {R R' : Nat → Rg}, (∀ i, i < n → R i = R' i) → RgsOk n R → RgsOk n R' := fun h q => ⟨q.1, fun i hi => by
    have := q.2 i hi
    rw [h i hi] at this
    refine ⟨this.1, fun hp => ?_⟩
    have g := this.2 hp
    rwa [h (i - 1) (by omega)] at g⟩
  exact ⟨one h, one (fun i hi => (h i hi).symm)⟩
theorem sesOk_congr {n : Nat} {R R' : Nat → Se} (h : ∀ i, i < n → R i = R' i) : SesOk n R ↔ SesOk n R' := by
  have one : ∀ {R R' : Nat → Se}, (∀ i, i < n → R i = R' i) → SesOk n R → SesOk n R' := fun h q => ⟨q.1, fun i hi => by
    have := q.2 i hi
    rw [h i hi] at this
    refine ⟨this.1, fun hp => ?_⟩
    have g := this.2 hp
    rwa [h (i - 1) (by omega)] at g⟩
  exact ⟨one h, one (fun i hi => (h i hi).symm)⟩
def RetBk (w w' : World) (e : Ending) (d : Bk) : Prop := ∃ a0 c0 a1 c1, e = .returned (.tuple #[.agg #[.slice a0 d.nr c0, .slice a1 d.ns c1], .int .i64 0]) ∧ EO w' w.heap.size 54 3 (.slice a0 d.nr c0) d.nr (rgF d.R) ∧ EO w' w.heap.size 100 4 (.slice a1 d.ns c1) d.ns (seF d.S) ∧ (∀ g, (Value.slice a0 d.nr c0).ownBlock = some g → (Value.slice a1 d.ns c1).ownBlock ≠ some g)
def RetNo (e : Ending) (cd : Int) : Prop := e = .returned (.tuple #[.agg #[.slice none 0 0, .slice none 0 0], .int .i64 cd])
theorem grown_block {w w' : World} {o : Option Nat} (h : w.grownBy w' o) {b : Nat} (hb : b < w.heap.size) (hne : ∀ g, o = some g → b ≠ g) : w'.heap[b]? = w.heap[b]? := h.block b hb (fun e => hne b e.symm rfl)
theorem grown_belowE {w w' : World} {o : Option Nat} {B : Nat} (h : w.grownBy w' o) (hB : B ≤ w.heap.size) (hg : ∀ g, o = some g → B ≤ g) : Below B w w' := ⟨h.os, h.tape, h.output, h.size, fun b hb => grown_block h (Nat.lt_of_lt_of_le hb hB) (fun g e q => by have := hg g e; omega)⟩
theorem litCells {w : World} {t : TypeId} {cs : Array Value} {m : Nat} (F : Nat → Value) (hm : cs.size = m) (h : ∀ i, i < m → cs[i]? = some (F i)) : ∀ j, j < m → (w.alloc (.cells cs t)).cell? ⟨w.heap.size, 0 + j, none⟩ = some (F j) := fun j hj => by
  rw [Nat.zero_add]
  have : (w.alloc (.cells cs t)).rowIs w.heap.size t m F := ⟨cs, (MapKept.heap_alloc w _).1, hm, h⟩
  exact this.cell hj
theorem heap_setOther {w : World} {b : Nat} (p : Addr) (v : Value) (h : b ≠ p.block) : (w.setCell p v).heap[b]? = w.heap[b]? := by
  simp [World.setCell, Array.getElem?_modify]
  intro e
  exact absurd e.symm h
theorem ended_other (q D N : Nat) (f : Nat → Nat) (p : Option Nat) (hp : p ≠ some N) (w : World) (h : Rdr w q D N f p) :
    Calls Tryd.prog 66 #[.pointer (some ⟨q, 0, none⟩)] w fun e w' => e = .returned (.bool false) ∧ w = w' := by
  cases p with
  | none => exact ended_short q D N f w h
  | some P =>
    have h1 := h.1
    have h2 : P ≠ N := fun e => hp (by rw [e])
    exact ended_no q D N P f (by omega) w h
theorem ownsRow_monoE {w : World} {B B' : Nat} {t : TypeId} {s : Nat} {v : Value} {n : Nat} {F : Nat → Nat → Value} (h : EO w B t s v n F) (hb : B' ≤ B) : EO w B' t s v n F := by
  obtain ⟨hl, h0 | ⟨g, cap, cur, hv, h1, h2⟩⟩ := h
  · exact ⟨hl, .inl h0⟩
  · exact ⟨hl, .inr ⟨g, cap, cur, hv, Nat.le_trans hb h1, h2⟩⟩
set_option maxRecDepth 100000 in
set_option maxHeartbeats 8000000 in
theorem implReadBank_is (a : Option Addr) (N c : Nat) (f : Nat → Nat) (hf : ∀ i, f i < 256) (hN : N ≤ 65536) (hc : N ≤ c) (w : World) (h : Code8 w a N f) (hT : TabW w) :
    Calls Tryd.prog 28 #[.slice a N c] w fun e w' => (((Whole N f ∧ (pB f).Ok) ∧ RetBk w w' e (pB f)) ∨ (¬ (Whole N f ∧ (pB f).Ok) ∧ RetNo e 3)) ∧ Below w.heap.size w w' := by
  have HF : Hid (∀ i, f i < 256) := hf
  have NU1 : Hid (∀ (u : World) (p : Option Nat), Rdr u (w.heap.size + 1) w.heap.size N f p → Calls Tryd.prog 64 #[.pointer (some ⟨w.heap.size + 1, 0, none⟩), .int .i64 1] u fun e w' => GotN w' e (w.heap.size + 1) w.heap.size N 1 f p ∧ OnlyB (w.heap.size + 1) u w') := fun u p h => number_any (w.heap.size + 1) w.heap.size N 1 (by omega) f hf (by omega) (by omega) (by omega) p u h
  have NU2 : Hid (∀ (u : World) (p : Option Nat), Rdr u (w.heap.size + 1) w.heap.size N f p → Calls Tryd.prog 64 #[.pointer (some ⟨w.heap.size + 1, 0, none⟩), .int .i64 2] u fun e w' => GotN w' e (w.heap.size + 1) w.heap.size N 2 f p ∧ OnlyB (w.heap.size + 1) u w') := fun u p h => number_any (w.heap.size + 1) w.heap.size N 2 (by omega) f hf (by omega) (by omega) (by omega) p u h
  have NU4 : Hid (∀ (u : World) (p : Option Nat), Rdr u (w.heap.size + 1) w.heap.size N f p → Calls Tryd.prog 64 #[.pointer (some ⟨w.heap.size + 1, 0, none⟩), .int .i64 4] u fun e w' => GotN w' e (w.heap.size + 1) w.heap.size N 4 f p ∧ OnlyB (w.heap.size + 1) u w') := fun u p h => number_any (w.heap.size + 1) w.heap.size N 4 (by omega) f hf (by omega) (by omega) (by omega) p u h
  have TX : Hid (∀ (u : World) (p : Option Nat), Rdr u (w.heap.size + 1) w.heap.size N f p → Calls Tryd.prog 65 #[.pointer (some ⟨w.heap.size + 1, 0, none⟩), .int .i64 32] u fun e w' => GotT w' e (w.heap.size + 1) w.heap.size N 32 f p ∧ OnlyB (w.heap.size + 1) u w') := fun u p h => text_any (w.heap.size + 1) w.heap.size N 32 (by omega) f (by omega) (by omega) (by omega) p u h
  have TT : Hid (TabW w) := hT
  have n1 : ¬ (65536 : Int) < (N : Int) := by omega
  have AB : Hid (Below w.heap.size w (((w.alloc (.cells #[.slice none 0 0, .slice none 0 0] 46)).alloc (.cells #[.slice a N c, .bool false] 110)).alloc (.cells #[.slice none 0 0, .slice none 0 0] 46))) := (((Below.refl w.heap.size w).alloc (Nat.le_refl _) _).alloc (by simp) _).alloc (by simp; omega) _
  have X0 : Hid (Box2 (((w.alloc (.cells #[.slice none 0 0, .slice none 0 0] 46)).alloc (.cells #[.slice a N c, .bool false] 110)).alloc (.cells #[.slice none 0 0, .slice none 0 0] 46)) w.heap.size 46 (.slice none 0 0) (.slice none 0 0)) := ((Box2.made w _ _ _).alloc _).alloc _
  have XR : Hid (Box2 (((w.alloc (.cells #[.slice none 0 0, .slice none 0 0] 46)).alloc (.cells #[.slice a N c, .bool false] 110)).alloc (.cells #[.slice none 0 0, .slice none 0 0] 46)) (w.heap.size + 1) 110 (.slice a N c) (.bool false)) := (Box2.madeAt (by simp) _ _ _).alloc _
  have BV : Hid (Box2 (((w.alloc (.cells #[.slice none 0 0, .slice none 0 0] 46)).alloc (.cells #[.slice a N c, .bool false] 110)).alloc (.cells #[.slice none 0 0, .slice none 0 0] 46)) (w.heap.size + 1 + 1) 46 (.slice none 0 0) (.slice none 0 0)) := Box2.madeAt (by simp) _ _ _
  have SZ : Hid (w.heap.size + 1 + 1 + 1 ≤ ((((w.alloc (.cells #[.slice none 0 0, .slice none 0 0] 46)).alloc (.cells #[.slice a N c, .bool false] 110)).alloc (.cells #[.slice none 0 0, .slice none 0 0] 46))).heap.size) := by show _ ≤ _; simp
  have HC : Hid (Code8 w a N f) := h
  clear h hT hf
  go_enter Tryd.func28, Tryd.ntmps28
  go_wp2_with fail
  generalize (((w.alloc (.cells #[.slice none 0 0, .slice none 0 0] 46)).alloc (.cells #[.slice a N c, .bool false] 110)).alloc (.cells #[.slice none 0 0, .slice none 0 0] 46)) = v at *
  have RD : Hid (Rdr v (w.heap.size + 1) w.heap.size N f (some 0)) := ⟨by omega, a, c, hc, XR.out, (HC.out.below AB.out).congr (fun i hi => by rw [Nat.zero_add]), fun x h0 hx => HC.out.lt x (by omega) hx⟩
  have RV : Hid (EO v (w.heap.size + 1 + 1 + 1) 54 3 (.slice none 0 0) 0 (rgF (fun _ => rgZ))) := EO.nil _ _ _ _ _
  have SV : Hid (EO v (w.heap.size + 1 + 1 + 1) 100 4 (.slice none 0 0) 0 (seF (fun _ => seZ))) := EO.nil _ _ _ _ _
  clear XR HC hc
  refine (NU1.out _ (some 0) RD.out).mono ?_
  rintro e u0 ⟨⟨x0, p0, rfl, hrd, hnx, hlt0⟩, ho⟩
  replace RD : Hid (Rdr u0 (w.heap.size + 1) w.heap.size N f p0) := hrd
  have I0 : Hid ((p0 = none ∧ ¬ Whole N f) ∨ (p0 = some 1 ∧ x0 = pNr f)) := by
    show _ ∨ _
    rcases hnx with ⟨e, e5⟩ | ⟨P, e1, e2, e3, e4⟩
    · refine .inl ⟨e, fun q => ?_⟩
      unfold Whole at q
      rcases e5 with e5 | ⟨P, e5, e6⟩
      · cases e5
      · cases e5
        omega
    · cases e1
      exact .inr ⟨e3, e4⟩
  replace X0 : Hid (Box2 u0 w.heap.size 46 (.slice none 0 0) (.slice none 0 0)) := X0.out.onlyB ho (by omega)
  replace BV : Hid (Box2 u0 (w.heap.size + 1 + 1) 46 (.slice none 0 0) (.slice none 0 0)) := BV.out.onlyB ho (by omega)
  replace RV : Hid (EO u0 (w.heap.size + 1 + 1 + 1) 54 3 (.slice none 0 0) 0 (rgF (fun _ => rgZ))) := RV.out.onlyB ho (by omega)
  replace SV : Hid (EO u0 (w.heap.size + 1 + 1 + 1) 100 4 (.slice none 0 0) 0 (seF (fun _ => seZ))) := SV.out.onlyB ho (by omega)
  replace AB : Hid (Below w.heap.size w u0) := AB.out.trans (ho.toBelow (by omega) AB.out.size)
  replace SZ : Hid (w.heap.size + 1 + 1 + 1 ≤ u0.heap.size) := Nat.le_trans SZ.out ho.size
  clear hrd hnx ho
  have x0b : x0 ≤ 255 := by omega
  clear hlt0
  go_wp2
  go_loopw [15] (fun i wr => ∃ (k : Nat) (v0 : Value) (R : Nat → Rg) (p : Option Nat), k ≤ x0 ∧ i = .int .i64 k ∧ Box2 wr w.heap.size 46 (.slice none 0 0) (.slice none 0 0) ∧ Box2 wr (w.heap.size + 1 + 1) 46 v0 (.slice none 0 0) ∧ EO wr (w.heap.size + 1 + 1 + 1) 54 3 v0 k (rgF R) ∧ Rdr wr (w.heap.size + 1) w.heap.size N f p ∧ ((p = none ∧ ¬ Whole N f) ∨ (p = some (1 + 37 * k) ∧ x0 = pNr f ∧ ∀ i, i < k → R i = pRg f i)) ∧ w.heap.size + 1 + 1 + 1 ≤ wr.heap.size ∧ Below w.heap.size w wr) (fun i _ => x0 - (intOf i).toNat)
  case atStart =>
    refine ⟨0, _, _, p0, by omega, rfl, X0.out, BV.out, RV.out, RD.out, ?_, SZ.out, AB.out⟩
    rcases I0.out with e | ⟨e, e2⟩
    · exact .inl e
    · exact .inr ⟨e, e2, fun i hi => absurd hi (by omega)⟩
  case round =>
    clear X0 BV RV SV RD I0 SZ AB
    obtain ⟨k, v0, R, p, hk, rfl, X0, BV, RV, RD, IV, SZ, AB⟩ := hrel
    replace X0 : Hid (Box2 wr w.heap.size 46 (.slice none 0 0) (.slice none 0 0)) := X0
    replace BV : Hid (Box2 wr (w.heap.size + 1 + 1) 46 v0 (.slice none 0 0)) := BV
    replace RV : Hid (EO wr (w.heap.size + 1 + 1 + 1) 54 3 v0 k (rgF R)) := RV
    replace RD : Hid (Rdr wr (w.heap.size + 1) w.heap.size N f p) := RD
    replace IV : Hid (((p = none ∧ ¬ Whole N f) ∨ (p = some (1 + 37 * k) ∧ x0 = pNr f ∧ ∀ i, i < k → R i = pRg f i))) := IV
    replace SZ : Hid (w.heap.size + 1 + 1 + 1 ≤ wr.heap.size) := SZ
    replace AB : Hid (Below w.heap.size w wr) := AB
    have SV : Hid (EO wr (w.heap.size + 1 + 1 + 1) 100 4 (.slice none 0 0) 0 (seF (fun _ => seZ))) := EO.nil _ _ _ _ _
    by_cases hlt : k < x0
    · have hlt' : (k : Int) < (x0 : Int) := by omega
      go_wp2_with fail
      refine (NU1.out _ p RD.out).mono ?_
      rintro e u1 ⟨⟨x1, p1, rfl, hrd, hnx, hlt1⟩, ho⟩
      replace RD : Hid (Rdr u1 (w.heap.size + 1) w.heap.size N f p1) := hrd
      have NX1 : Hid (Nxt N 1 p p1 (fun P => x1 = valN (fun i => f (P + i)) 1)) := hnx
      replace X0 : Hid (Box2 u1 w.heap.size 46 (.slice none 0 0) (.slice none 0 0)) := X0.out.onlyB ho (by omega)
      replace BV : Hid (Box2 u1 (w.heap.size + 1 + 1) 46 v0 (.slice none 0 0)) := BV.out.onlyB ho (by omega)
      replace RV : Hid (EO u1 (w.heap.size + 1 + 1 + 1) 54 3 v0 k (rgF R)) := RV.out.onlyB ho (by omega)
      replace SV : Hid (EO u1 (w.heap.size + 1 + 1 + 1) 100 4 (.slice none 0 0) 0 (seF (fun _ => seZ))) := SV.out.onlyB ho (by omega)
      replace AB : Hid (Below w.heap.size w u1) := AB.out.trans (ho.toBelow (by omega) AB.out.size)
      replace SZ : Hid (w.heap.size + 1 + 1 + 1 ≤ u1.heap.size) := Nat.le_trans SZ.out ho.size
      clear hrd hnx ho
      go_wp2_with fail
      refine (NU4.out _ p1 RD.out).mono ?_
      rintro e u2 ⟨⟨x2, p2, rfl, hrd, hnx, hlt2⟩, ho⟩
      replace RD : Hid (Rdr u2 (w.heap.size + 1) w.heap.size N f p2) := hrd
      have NX2 : Hid (Nxt N 4 p1 p2 (fun P => x2 = valN (fun i => f (P + i)) 4)) := hnx
      replace X0 : Hid (Box2 u2 w.heap.size 46 (.slice none 0 0) (.slice none 0 0)) := X0.out.onlyB ho (by omega)
      replace BV : Hid (Box2 u2 (w.heap.size + 1 + 1) 46 v0 (.slice none 0 0)) := BV.out.onlyB ho (by omega)
      replace RV : Hid (EO u2 (w.heap.size + 1 + 1 + 1) 54 3 v0 k (rgF R)) := RV.out.onlyB ho (by omega)
      replace SV : Hid (EO u2 (w.heap.size + 1 + 1 + 1) 100 4 (.slice none 0 0) 0 (seF (fun _ => seZ))) := SV.out.onlyB ho (by omega)
      replace AB : Hid (Below w.heap.size w u2) := AB.out.trans (ho.toBelow (by omega) AB.out.size)
      replace SZ : Hid (w.heap.size + 1 + 1 + 1 ≤ u2.heap.size) := Nat.le_trans SZ.out ho.size
      clear hrd hnx ho
      go_wp2_with fail
      refine (TX.out _ p2 RD.out).mono ?_
      rintro e u3 ⟨⟨x3, p3, rfl, hrd, hnx⟩, ho⟩
      replace RD : Hid (Rdr u3 (w.heap.size + 1) w.heap.size N f p3) := hrd
      have NX3 : Hid (Nxt N 32 p2 p3 (fun P => x3 = kstr (fun i => f (P + i)) 0 32)) := hnx
      replace X0 : Hid (Box2 u3 w.heap.size 46 (.slice none 0 0) (.slice none 0 0)) := X0.out.onlyB ho (by omega)
      replace BV : Hid (Box2 u3 (w.heap.size + 1 + 1) 46 v0 (.slice none 0 0)) := BV.out.onlyB ho (by omega)
      replace RV : Hid (EO u3 (w.heap.size + 1 + 1 + 1) 54 3 v0 k (rgF R)) := RV.out.onlyB ho (by omega)
      replace SV : Hid (EO u3 (w.heap.size + 1 + 1 + 1) 100 4 (.slice none 0 0) 0 (seF (fun _ => seZ))) := SV.out.onlyB ho (by omega)
      replace AB : Hid (Below w.heap.size w u3) := AB.out.trans (ho.toBelow (by omega) AB.out.size)
      replace SZ : Hid (w.heap.size + 1 + 1 + 1 ≤ u3.heap.size) := Nat.le_trans SZ.out ho.size
      clear hrd hnx ho
      have hb1 : Below u3.heap.size u3 (u3.alloc (.cells #[.int .i64 (x1 : Int), .int .i64 (x2 : Int), .string x3] 54)) := (Below.refl _ _).alloc (Nat.le_refl _) _
      have hb2 : Below u3.heap.size u3 ((u3.alloc (.cells #[.int .i64 (x1 : Int), .int .i64 (x2 : Int), .string x3] 54)).alloc (.cells #[.int .i64 (x1 : Int), .int .i64 (x2 : Int), .string x3] 54)) := ((Below.refl u3.heap.size u3).alloc (Nat.le_refl _) _).alloc (by simp) _
      have b0 := (BV.out.below hb1).c0
      have hs1 : (u3.alloc (.cells #[.int .i64 (x1 : Int), .int .i64 (x2 : Int), .string x3] 54)).heap.size = u3.heap.size + 1 := by simp
      have lc : ∀ j, j < 3 → ((u3.alloc (.cells #[.int .i64 (x1 : Int), .int .i64 (x2 : Int), .string x3] 54)).alloc (.cells #[.int .i64 (x1 : Int), .int .i64 (x2 : Int), .string x3] 54)).cell? ⟨u3.heap.size + 1, 0 + j, none⟩ = some (rgV (⟨(x1 : Int), (x2 : Int), x3⟩ : Rg) j) := by
        have := litCells (w := (u3.alloc (.cells #[.int .i64 (x1 : Int), .int .i64 (x2 : Int), .string x3] 54))) (t := 54) (cs := #[.int .i64 (x1 : Int), .int .i64 (x2 : Int), .string x3]) (m := 3) (rgV (⟨(x1 : Int), (x2 : Int), x3⟩ : Rg)) rfl (fun i hi => by rcases (show i = 0 ∨ i = 1 ∨ i = 2 by omega) with rfl | rfl | rfl <;> rfl)
        rw [hs1] at this
        exact this
      have szu := SZ.out
      obtain ⟨nv, w5, hr5, hE5, hg5, hl5⟩ := appRg ((u3.alloc (.cells #[.int .i64 (x1 : Int), .int .i64 (x2 : Int), .string x3] 54)).alloc (.cells #[.int .i64 (x1 : Int), .int .i64 (x2 : Int), .string x3] 54)) (w.heap.size + 1 + 1 + 1) v0 k (u3.heap.size + 1) R (⟨(x1 : Int), (x2 : Int), x3⟩ : Rg) (by simp; omega) (by omega) (RV.out.below hb2) lc
      obtain ⟨na, nc, rfl⟩ := hE5.form
      have ob : ∀ g, (v0 : Value).ownBlock = some g → w.heap.size + 1 + 1 + 1 ≤ g := fun g e => (RV.out.ge g e).1
      have sz2 : ((u3.alloc (.cells #[.int .i64 (x1 : Int), .int .i64 (x2 : Int), .string x3] 54)).alloc (.cells #[.int .i64 (x1 : Int), .int .i64 (x2 : Int), .string x3] 54)).heap.size = u3.heap.size + 1 + 1 := by simp
      have k5 : ∀ b, b < w.heap.size + 1 + 1 + 1 → w5.heap[b]? = u3.heap[b]? := fun b hb => (grown_block hg5 (by rw [sz2]; omega) (fun g e q => by have := ob g e; omega)).trans (hb2.block b (by omega))
      have BV5 := BV.out.ofBlock (k5 _ (by omega))
      have f5 := BV5.fr 0
      have c5 := BV5.c0
      have X6 : Hid (Box2 (w5.setCell ⟨w.heap.size + 1 + 1, 0, none⟩ (.slice na (k + 1) nc)) w.heap.size 46 (.slice none 0 0) (.slice none 0 0)) := (X0.out.ofBlock (k5 _ (by omega))).other (by simp; omega) _
      have BV6 : Hid (Box2 (w5.setCell ⟨w.heap.size + 1 + 1, 0, none⟩ (.slice na (k + 1) nc)) (w.heap.size + 1 + 1) 46 (.slice na (k + 1) nc) (.slice none 0 0)) := BV5.set0 _
      have E6 : Hid (EO (w5.setCell ⟨w.heap.size + 1 + 1, 0, none⟩ (.slice na (k + 1) nc)) (w.heap.size + 1 + 1 + 1) 54 3 (.slice na (k + 1) nc) (k + 1) (rgF (updE R k (⟨(x1 : Int), (x2 : Int), x3⟩ : Rg)))) := hE5.keep (fun g e => by
        have := (hE5.ge g e).1
        exact heap_setOther _ _ (by show g ≠ w.heap.size + 1 + 1; omega))
      have RD6 : Hid (Rdr (w5.setCell ⟨w.heap.size + 1 + 1, 0, none⟩ (.slice na (k + 1) nc)) (w.heap.size + 1) w.heap.size N f p3) := RD.out.keep ((heap_setOther _ _ (by show w.heap.size + 1 ≠ w.heap.size + 1 + 1; omega)).trans (k5 _ (by omega))) (fun b hb => (heap_setOther _ _ (by show b ≠ w.heap.size + 1 + 1; omega)).trans (k5 _ (by omega)))
      have SZ6 : Hid (w.heap.size + 1 + 1 + 1 ≤ (w5.setCell ⟨w.heap.size + 1 + 1, 0, none⟩ (.slice na (k + 1) nc)).heap.size) := by
        have := hg5.size
        rw [sz2] at this
        show _ ≤ _
        simp
        omega
      have AB6 : Hid (Below w.heap.size w (w5.setCell ⟨w.heap.size + 1 + 1, 0, none⟩ (.slice na (k + 1) nc))) := (AB.out.trans ((hb2.mono AB.out.size).trans (grown_belowE hg5 (by rw [sz2]; omega) (fun g e => by have := ob g e; omega)))).setCell (by simp; omega) _
      have IV6 : Hid ((p3 = none ∧ ¬ Whole N f) ∨ (p3 = some (1 + 37 * (k + 1)) ∧ x0 = pNr f ∧ ∀ i, i < k + 1 → updE R k ⟨(x1 : Int), (x2 : Int), x3⟩ i = pRg f i)) := by
        show _ ∨ _
        have W3 : p3 = none → ¬ Whole N f := fun z q => by
          unfold Whole at q
          rcases NX3.out with ⟨_, e | ⟨P, e, e9⟩⟩ | ⟨P3, e1, e2, e3, e4⟩
          · rcases NX2.out with ⟨_, d | ⟨P, d, d9⟩⟩ | ⟨P2, d1, d2, d3, d4⟩
            · rcases NX1.out with ⟨_, b | ⟨P, b, b9⟩⟩ | ⟨P1, b1, b2, b3, b4⟩
              · rcases IV.out with ⟨_, i1⟩ | ⟨i1, i2, i3⟩
                · exact i1 q
                · rw [b] at i1; cases i1
              · rcases IV.out with ⟨i0, _⟩ | ⟨i1, i2, i3⟩
                · rw [b] at i0; cases i0
                · rw [b] at i1; cases i1; omega
              · rw [d] at b3; cases b3
            · rcases NX1.out with ⟨b0, _⟩ | ⟨P1, b1, b2, b3, b4⟩
              · rw [d] at b0; cases b0
              · rcases IV.out with ⟨i0, _⟩ | ⟨i1, i2, i3⟩
                · rw [b1] at i0; cases i0
                · rw [b1] at i1; cases i1; rw [d] at b3; cases b3; omega
            · rw [e] at d3; cases d3
          · rcases NX2.out with ⟨d0, _⟩ | ⟨P2, d1, d2, d3, d4⟩
            · rw [e] at d0; cases d0
            · rcases NX1.out with ⟨b0, _⟩ | ⟨P1, b1, b2, b3, b4⟩
              · rw [d1] at b0; cases b0
              · rcases IV.out with ⟨i0, _⟩ | ⟨i1, i2, i3⟩
                · rw [b1] at i0; cases i0
                · rw [b1] at i1; cases i1; rw [d1] at b3; cases b3; rw [e] at d3; cases d3; omega
          · rw [z] at e3; cases e3
        rcases NX3.out with ⟨e, _⟩ | ⟨P3, e1, e2, e3, e4⟩
        · exact .inl ⟨e, W3 e⟩
        rcases NX2.out with ⟨e, _⟩ | ⟨P2, d1, d2, d3, d4⟩
        · rw [e] at e1; cases e1
        rcases NX1.out with ⟨e, _⟩ | ⟨P1, b1, b2, b3, b4⟩
        · rw [e] at d1; cases d1
        rcases IV.out with ⟨e, _⟩ | ⟨i1, i2, i3⟩
        · rw [e] at b1; cases b1
        rw [b1] at i1
        cases i1
        rw [b3] at d1
        cases d1
        rw [d3] at e1
        cases e1
        refine .inr ⟨e3.trans (congrArg some (by omega)), i2, fun i hi => ?_⟩
        unfold updE
        by_cases q : i = k
        · rw [if_pos q, q, b4, d4, e4]
          rfl
        · rw [if_neg q]; exact i3 i (by omega)
      clear hE5 hg5 hl5 k5 BV5 ob lc hb1 hb2 X0 BV RV SV RD AB SZ NX1 NX2 NX3 IV sz2 hs1 szu
      go_wp2_with (at_builtin; refine Lib.wpList_append_run _ rfl (.tmp 22) (.tmp 24) 43 43 rfl v0 (.slice (some ⟨u3.heap.size + 1, 0, none⟩) 1 1) rfl rfl _ _ (hr5 _) ?_)
      go_roundw
      case rel => exact ⟨k + 1, _, _, p3, by omega, by go_num, X6.out, BV6.out, E6.out, RD6.out, IV6.out, SZ6.out, AB6.out⟩
      case measure => simp [intOf]; omega
    · obtain rfl : k = x0 := by omega
      have hlt' : ¬ (k : Int) < (k : Int) := by omega
      clear hlt hk
      go_wp2_with fail
      refine (NU1.out _ p RD.out).mono ?_
      rintro e u4 ⟨⟨x4, p4, rfl, hrd, hnx, hlt4⟩, ho⟩
      replace RD : Hid (Rdr u4 (w.heap.size + 1) w.heap.size N f p4) := hrd
      have NX4 : Hid (Nxt N 1 p p4 (fun P => x4 = valN (fun i => f (P + i)) 1)) := hnx
      replace X0 : Hid (Box2 u4 w.heap.size 46 (.slice none 0 0) (.slice none 0 0)) := X0.out.onlyB ho (by omega)
      replace BV : Hid (Box2 u4 (w.heap.size + 1 + 1) 46 v0 (.slice none 0 0)) := BV.out.onlyB ho (by omega)
      replace RV : Hid (EO u4 (w.heap.size + 1 + 1 + 1) 54 3 v0 k (rgF R)) := RV.out.onlyB ho (by omega)
      replace SV : Hid (EO u4 (w.heap.size + 1 + 1 + 1) 100 4 (.slice none 0 0) 0 (seF (fun _ => seZ))) := SV.out.onlyB ho (by omega)
      replace AB : Hid (Below w.heap.size w u4) := AB.out.trans (ho.toBelow (by omega) AB.out.size)
      replace SZ : Hid (w.heap.size + 1 + 1 + 1 ≤ u4.heap.size) := Nat.le_trans SZ.out ho.size
      clear hrd hnx ho
      have I4 : Hid ((p4 = none ∧ ¬ Whole N f) ∨ (p4 = some (1 + 37 * pNr f + 1) ∧ k = pNr f ∧ (∀ i, i < k → R i = pRg f i) ∧ x4 = pNs f)) := by
        show _ ∨ _
        rcases NX4.out with ⟨e, e9⟩ | ⟨P, e1, e2, e3, e4⟩
        · refine .inl ⟨e, fun q => ?_⟩
          rcases IV.out with ⟨_, i0⟩ | ⟨i1, i2, i3⟩
          · exact i0 q
          · unfold Whole at q
            rcases e9 with e9 | ⟨P, e9, e8⟩
            · rw [e9] at i1; cases i1
            · rw [e9] at i1; cases i1; omega
        rcases IV.out with ⟨e, _⟩ | ⟨i1, i2, i3⟩
        · rw [e] at e1; cases e1
        rw [e1] at i1
        cases i1
        refine .inr ⟨by rw [← i2]; exact e3, i2, i3, ?_⟩
        rw [e4]
        unfold pNs
        rw [← i2]
      have x4b : x4 ≤ 255 := by omega
      clear hlt4 NX4 IV
      go_wp2
      go_loopw [29] (fun i wr => ∃ (m : Nat) (v1 : Value) (S : Nat → Se) (p : Option Nat), m ≤ x4 ∧ i = .int .i64 m ∧ Box2 wr w.heap.size 46 (.slice none 0 0) (.slice none 0 0) ∧ Box2 wr (w.heap.size + 1 + 1) 46 v0 v1 ∧ EO wr (w.heap.size + 1 + 1 + 1) 54 3 v0 k (rgF R) ∧ EO wr (w.heap.size + 1 + 1 + 1) 100 4 v1 m (seF S) ∧ (∀ g, v0.ownBlock = some g → v1.ownBlock ≠ some g) ∧ Rdr wr (w.heap.size + 1) w.heap.size N f p ∧ ((p = none ∧ ¬ Whole N f) ∨ (p = some (1 + 37 * pNr f + 1 + 9 * m) ∧ k = pNr f ∧ (∀ i, i < k → R i = pRg f i) ∧ x4 = pNs f ∧ ∀ i, i < m → S i = pSe f i)) ∧ w.heap.size + 1 + 1 + 1 ≤ wr.heap.size ∧ Below w.heap.size w wr) (fun i _ => x4 - (intOf i).toNat)
      case atStart =>
        refine ⟨0, _, _, p4, by omega, rfl, X0.out, BV.out, RV.out, SV.out, (fun g _ q => by cases q), RD.out, ?_, SZ.out, AB.out⟩
        rcases I4.out with e | ⟨e, e2, e3, e4⟩
        · exact .inl e
        · exact .inr ⟨e, e2, e3, e4, fun i hi => absurd hi (by omega)⟩
      case round =>
        clear X0 BV RV SV RD I4 SZ AB
        obtain ⟨m, v1, S, p, hm, rfl, X0, BV, RV, SV, AP, RD, IV, SZ, AB⟩ := hrel
        replace X0 : Hid (Box2 wr w.heap.size 46 (.slice none 0 0) (.slice none 0 0)) := X0
        replace BV : Hid (Box2 wr (w.heap.size + 1 + 1) 46 v0 v1) := BV
        replace RV : Hid (EO wr (w.heap.size + 1 + 1 + 1) 54 3 v0 k (rgF R)) := RV
        replace SV : Hid (EO wr (w.heap.size + 1 + 1 + 1) 100 4 v1 m (seF S)) := SV
        replace AP : Hid (∀ g, v0.ownBlock = some g → v1.ownBlock ≠ some g) := AP
        replace RD : Hid (Rdr wr (w.heap.size + 1) w.heap.size N f p) := RD
        replace IV : Hid (((p = none ∧ ¬ Whole N f) ∨ (p = some (1 + 37 * pNr f + 1 + 9 * m) ∧ k = pNr f ∧ (∀ i, i < k → R i = pRg f i) ∧ x4 = pNs f ∧ ∀ i, i < m → S i = pSe f i))) := IV
        replace SZ : Hid (w.heap.size + 1 + 1 + 1 ≤ wr.heap.size) := SZ
        replace AB : Hid (Below w.heap.size w wr) := AB
        by_cases hlt : m < x4
        · have hlt' : (m : Int) < (x4 : Int) := by omega
          go_wp2_with fail
          refine (NU2.out _ p RD.out).mono ?_
          rintro e u5 ⟨⟨x5, p5, rfl, hrd, hnx, hlt5⟩, ho⟩
          replace RD : Hid (Rdr u5 (w.heap.size + 1) w.heap.size N f p5) := hrd
          have NX5 : Hid (Nxt N 2 p p5 (fun P => x5 = valN (fun i => f (P + i)) 2)) := hnx
          replace X0 : Hid (Box2 u5 w.heap.size 46 (.slice none 0 0) (.slice none 0 0)) := X0.out.onlyB ho (by omega)
          replace BV : Hid (Box2 u5 (w.heap.size + 1 + 1) 46 v0 v1) := BV.out.onlyB ho (by omega)
          replace RV : Hid (EO u5 (w.heap.size + 1 + 1 + 1) 54 3 v0 k (rgF R)) := RV.out.onlyB ho (by omega)
          replace SV : Hid (EO u5 (w.heap.size + 1 + 1 + 1) 100 4 v1 m (seF S)) := SV.out.onlyB ho (by omega)
          replace AB : Hid (Below w.heap.size w u5) := AB.out.trans (ho.toBelow (by omega) AB.out.size)
          replace SZ : Hid (w.heap.size + 1 + 1 + 1 ≤ u5.heap.size) := Nat.le_trans SZ.out ho.size
          clear hrd hnx ho
          go_wp2_with fail
          refine (NU2.out _ p5 RD.out).mono ?_
          rintro e u6 ⟨⟨x6, p6, rfl, hrd, hnx, hlt6⟩, ho⟩
          replace RD : Hid (Rdr u6 (w.heap.size + 1) w.heap.size N f p6) := hrd
          have NX6 : Hid (Nxt N 2 p5 p6 (fun P => x6 = valN (fun i => f (P + i)) 2)) := hnx
          replace X0 : Hid (Box2 u6 w.heap.size 46 (.slice none 0 0) (.slice none 0 0)) := X0.out.onlyB ho (by omega)
          replace BV : Hid (Box2 u6 (w.heap.size + 1 + 1) 46 v0 v1) := BV.out.onlyB ho (by omega)
          replace RV : Hid (EO u6 (w.heap.size + 1 + 1 + 1) 54 3 v0 k (rgF R)) := RV.out.onlyB ho (by omega)
          replace SV : Hid (EO u6 (w.heap.size + 1 + 1 + 1) 100 4 v1 m (seF S)) := SV.out.onlyB ho (by omega)
          replace AB : Hid (Below w.heap.size w u6) := AB.out.trans (ho.toBelow (by omega) AB.out.size)
          replace SZ : Hid (w.heap.size + 1 + 1 + 1 ≤ u6.heap.size) := Nat.le_trans SZ.out ho.size
          clear hrd hnx ho
          go_wp2_with fail
          refine (NU1.out _ p6 RD.out).mono ?_
          rintro e u7 ⟨⟨x7, p7, rfl, hrd, hnx, hlt7⟩, ho⟩
          replace RD : Hid (Rdr u7 (w.heap.size + 1) w.heap.size N f p7) := hrd
          have NX7 : Hid (Nxt N 1 p6 p7 (fun P => x7 = valN (fun i => f (P + i)) 1)) := hnx
          replace X0 : Hid (Box2 u7 w.heap.size 46 (.slice none 0 0) (.slice none 0 0)) := X0.out.onlyB ho (by omega)
          replace BV : Hid (Box2 u7 (w.heap.size + 1 + 1) 46 v0 v1) := BV.out.onlyB ho (by omega)
          replace RV : Hid (EO u7 (w.heap.size + 1 + 1 + 1) 54 3 v0 k (rgF R)) := RV.out.onlyB ho (by omega)
          replace SV : Hid (EO u7 (w.heap.size + 1 + 1 + 1) 100 4 v1 m (seF S)) := SV.out.onlyB ho (by omega)
          replace AB : Hid (Below w.heap.size w u7) := AB.out.trans (ho.toBelow (by omega) AB.out.size)
          replace SZ : Hid (w.heap.size + 1 + 1 + 1 ≤ u7.heap.size) := Nat.le_trans SZ.out ho.size
          clear hrd hnx ho
          go_wp2_with fail
          refine (NU4.out _ p7 RD.out).mono ?_
          rintro e u8 ⟨⟨x8, p8, rfl, hrd, hnx, hlt8⟩, ho⟩
          replace RD : Hid (Rdr u8 (w.heap.size + 1) w.heap.size N f p8) := hrd
          have NX8 : Hid (Nxt N 4 p7 p8 (fun P => x8 = valN (fun i => f (P + i)) 4)) := hnx
          replace X0 : Hid (Box2 u8 w.heap.size 46 (.slice none 0 0) (.slice none 0 0)) := X0.out.onlyB ho (by omega)
          replace BV : Hid (Box2 u8 (w.heap.size + 1 + 1) 46 v0 v1) := BV.out.onlyB ho (by omega)
          replace RV : Hid (EO u8 (w.heap.size + 1 + 1 + 1) 54 3 v0 k (rgF R)) := RV.out.onlyB ho (by omega)
          replace SV : Hid (EO u8 (w.heap.size + 1 + 1 + 1) 100 4 v1 m (seF S)) := SV.out.onlyB ho (by omega)
          replace AB : Hid (Below w.heap.size w u8) := AB.out.trans (ho.toBelow (by omega) AB.out.size)
          replace SZ : Hid (w.heap.size + 1 + 1 + 1 ≤ u8.heap.size) := Nat.le_trans SZ.out ho.size
          clear hrd hnx ho
          have hb1 : Below u8.heap.size u8 (u8.alloc (.cells #[.int .i64 (x5 : Int), .int .i64 (x6 : Int), .int .i64 (x7 : Int), .int .i64 (x8 : Int)] 100)) := (Below.refl _ _).alloc (Nat.le_refl _) _
          have hb2 : Below u8.heap.size u8 ((u8.alloc (.cells #[.int .i64 (x5 : Int), .int .i64 (x6 : Int), .int .i64 (x7 : Int), .int .i64 (x8 : Int)] 100)).alloc (.cells #[.int .i64 (x5 : Int), .int .i64 (x6 : Int), .int .i64 (x7 : Int), .int .i64 (x8 : Int)] 100)) := ((Below.refl u8.heap.size u8).alloc (Nat.le_refl _) _).alloc (by simp) _
          have b0 := (BV.out.below hb1).c1
          have hs1 : (u8.alloc (.cells #[.int .i64 (x5 : Int), .int .i64 (x6 : Int), .int .i64 (x7 : Int), .int .i64 (x8 : Int)] 100)).heap.size = u8.heap.size + 1 := by simp
          have lc : ∀ j, j < 4 → ((u8.alloc (.cells #[.int .i64 (x5 : Int), .int .i64 (x6 : Int), .int .i64 (x7 : Int), .int .i64 (x8 : Int)] 100)).alloc (.cells #[.int .i64 (x5 : Int), .int .i64 (x6 : Int), .int .i64 (x7 : Int), .int .i64 (x8 : Int)] 100)).cell? ⟨u8.heap.size + 1, 0 + j, none⟩ = some (seV (⟨(x5 : Int), (x6 : Int), (x7 : Int), (x8 : Int)⟩ : Se) j) := by
            have := litCells (w := (u8.alloc (.cells #[.int .i64 (x5 : Int), .int .i64 (x6 : Int), .int .i64 (x7 : Int), .int .i64 (x8 : Int)] 100))) (t := 100) (cs := #[.int .i64 (x5 : Int), .int .i64 (x6 : Int), .int .i64 (x7 : Int), .int .i64 (x8 : Int)]) (m := 4) (seV (⟨(x5 : Int), (x6 : Int), (x7 : Int), (x8 : Int)⟩ : Se)) rfl (fun i hi => by rcases (show i = 0 ∨ i = 1 ∨ i = 2 ∨ i = 3 by omega) with rfl | rfl | rfl | rfl <;> rfl)
            rw [hs1] at this
            exact this
          have szu := SZ.out
          obtain ⟨nv, w5, hr5, hE5, hg5, hl5⟩ := appSe ((u8.alloc (.cells #[.int .i64 (x5 : Int), .int .i64 (x6 : Int), .int .i64 (x7 : Int), .int .i64 (x8 : Int)] 100)).alloc (.cells #[.int .i64 (x5 : Int), .int .i64 (x6 : Int), .int .i64 (x7 : Int), .int .i64 (x8 : Int)] 100)) (w.heap.size + 1 + 1 + 1) v1 m (u8.heap.size + 1) S (⟨(x5 : Int), (x6 : Int), (x7 : Int), (x8 : Int)⟩ : Se) (by simp; omega) (by omega) (SV.out.below hb2) lc
          obtain ⟨na, nc, rfl⟩ := hE5.form
          have ob : ∀ g, (v1 : Value).ownBlock = some g → w.heap.size + 1 + 1 + 1 ≤ g := fun g e => (SV.out.ge g e).1
          have sz2 : ((u8.alloc (.cells #[.int .i64 (x5 : Int), .int .i64 (x6 : Int), .int .i64 (x7 : Int), .int .i64 (x8 : Int)] 100)).alloc (.cells #[.int .i64 (x5 : Int), .int .i64 (x6 : Int), .int .i64 (x7 : Int), .int .i64 (x8 : Int)] 100)).heap.size = u8.heap.size + 1 + 1 := by simp
          have k5 : ∀ b, b < w.heap.size + 1 + 1 + 1 → w5.heap[b]? = u8.heap[b]? := fun b hb => (grown_block hg5 (by rw [sz2]; omega) (fun g e q => by have := ob g e; omega)).trans (hb2.block b (by omega))
          have BV5 := BV.out.ofBlock (k5 _ (by omega))
          have f5 := BV5.fr 1
          have c5 := BV5.c1
          have X6 : Hid (Box2 (w5.setCell ⟨w.heap.size + 1 + 1, 1, none⟩ (.slice na (m + 1) nc)) w.heap.size 46 (.slice none 0 0) (.slice none 0 0)) := (X0.out.ofBlock (k5 _ (by omega))).other (by simp; omega) _
          have BV6 : Hid (Box2 (w5.setCell ⟨w.heap.size + 1 + 1, 1, none⟩ (.slice na (m + 1) nc)) (w.heap.size + 1 + 1) 46 v0 (.slice na (m + 1) nc)) := BV5.set1 _
          have E6 : Hid (EO (w5.setCell ⟨w.heap.size + 1 + 1, 1, none⟩ (.slice na (m + 1) nc)) (w.heap.size + 1 + 1 + 1) 100 4 (.slice na (m + 1) nc) (m + 1) (seF (updE S m (⟨(x5 : Int), (x6 : Int), (x7 : Int), (x8 : Int)⟩ : Se)))) := hE5.keep (fun g e => by
            have := (hE5.ge g e).1
            exact heap_setOther _ _ (by show g ≠ w.heap.size + 1 + 1; omega))
          have RD6 : Hid (Rdr (w5.setCell ⟨w.heap.size + 1 + 1, 1, none⟩ (.slice na (m + 1) nc)) (w.heap.size + 1) w.heap.size N f p8) := RD.out.keep ((heap_setOther _ _ (by show w.heap.size + 1 ≠ w.heap.size + 1 + 1; omega)).trans (k5 _ (by omega))) (fun b hb => (heap_setOther _ _ (by show b ≠ w.heap.size + 1 + 1; omega)).trans (k5 _ (by omega)))
          have SZ6 : Hid (w.heap.size + 1 + 1 + 1 ≤ (w5.setCell ⟨w.heap.size + 1 + 1, 1, none⟩ (.slice na (m + 1) nc)).heap.size) := by
            have := hg5.size
            rw [sz2] at this
            show _ ≤ _
            simp
            omega
          have AB6 : Hid (Below w.heap.size w (w5.setCell ⟨w.heap.size + 1 + 1, 1, none⟩ (.slice na (m + 1) nc))) := (AB.out.trans ((hb2.mono AB.out.size).trans (grown_belowE hg5 (by rw [sz2]; omega) (fun g e => by have := ob g e; omega)))).setCell (by simp; omega) _
          have RV6 : Hid (EO (w5.setCell ⟨w.heap.size + 1 + 1, 1, none⟩ (.slice na (m + 1) nc)) (w.heap.size + 1 + 1 + 1) 54 3 v0 k (rgF R)) := RV.out.keep (fun g e => by
            have q1 := RV.out.ge g e
            have q2 : w5.heap[g]? = u8.heap[g]? := (grown_block hg5 (by rw [sz2]; omega) (fun g2 e2 q => AP.out g e (by rw [e2, q]))).trans (hb2.block g q1.2)
            exact (heap_setOther _ _ (by show g ≠ w.heap.size + 1 + 1; omega)).trans q2)
          have AP6 : Hid (∀ g, v0.ownBlock = some g → (Value.slice na (m + 1) nc).ownBlock ≠ some g) := fun g e q => by
            rcases hl5 with e5 | e5
            · exact AP.out g e (by rw [← e5]; exact q)
            · have q1 := RV.out.ge g e
              rw [e5] at q
              have := Option.some.inj q
              rw [sz2] at this
              omega
          have IV6 : Hid ((p8 = none ∧ ¬ Whole N f) ∨ (p8 = some (1 + 37 * pNr f + 1 + 9 * (m + 1)) ∧ k = pNr f ∧ (∀ i, i < k → R i = pRg f i) ∧ x4 = pNs f ∧ ∀ i, i < m + 1 → updE S m (⟨(x5 : Int), (x6 : Int), (x7 : Int), (x8 : Int)⟩ : Se) i = pSe f i)) := by
            show _ ∨ _
            have W8 : p8 = none → ¬ Whole N f := fun z q => by
              unfold Whole at q
              rcases IV.out with ⟨i0, i1⟩ | ⟨i1, i2, i3, i4, i5⟩
              · exact i1 q
              rcases NX5.out with ⟨_, b | ⟨P, b, b9⟩⟩ | ⟨P1, b1, b2, b3, b4⟩
              · rw [b] at i1; cases i1
              · rw [b] at i1; cases i1; omega
              rw [b1] at i1
              cases i1
              rcases NX6.out with ⟨_, c | ⟨P, c, c9⟩⟩ | ⟨P2, c1, c2, c3, c4⟩
              · rw [c] at b3; cases b3
              · rw [c] at b3; cases b3; omega
              rw [c1] at b3
              cases b3
              rcases NX7.out with ⟨_, d | ⟨P, d, d9⟩⟩ | ⟨P3, d1, d2, d3, d4⟩
              · rw [d] at c3; cases c3
              · rw [d] at c3; cases c3; omega
              rw [d1] at c3
              cases c3
              rcases NX8.out with ⟨_, e | ⟨P, e, e9⟩⟩ | ⟨P4, e1, e2, e3, e4⟩
              · rw [e] at d3; cases d3
              · rw [e] at d3; cases d3; omega
              rw [z] at e3; cases e3
            rcases NX8.out with ⟨e, _⟩ | ⟨P4, e1, e2, e3, e4⟩
            · exact .inl ⟨e, W8 e⟩
            rcases NX7.out with ⟨e, _⟩ | ⟨P3, d1, d2, d3, d4⟩
            · rw [e] at e1; cases e1
            rcases NX6.out with ⟨e, _⟩ | ⟨P2, c1, c2, c3, c4⟩
            · rw [e] at d1; cases d1
            rcases NX5.out with ⟨e, _⟩ | ⟨P1, b1, b2, b3, b4⟩
            · rw [e] at c1; cases c1
            rcases IV.out with ⟨e, _⟩ | ⟨i1, i2, i3, i4, i5⟩
            · rw [e] at b1; cases b1
            rw [b1] at i1
            cases i1
            rw [b3] at c1
            cases c1
            rw [c3] at d1
            cases d1
            rw [d3] at e1
            cases e1
            refine .inr ⟨e3.trans (congrArg some (by omega)), i2, i3, i4, fun i hi => ?_⟩
            unfold updE
            by_cases q : i = m
            · rw [if_pos q, q, b4, c4, d4, e4]
              rfl
            · rw [if_neg q]; exact i5 i (by omega)
          clear hE5 hg5 hl5 k5 BV5 ob lc hb1 hb2 X0 BV RV SV RD AB SZ NX5 NX6 NX7 NX8 IV sz2 hs1 szu AP
          go_wp2_with (at_builtin; refine Lib.wpList_append_run _ rfl (.tmp 37) (.tmp 39) 44 44 rfl v1 (.slice (some ⟨u8.heap.size + 1, 0, none⟩) 1 1) rfl rfl _ _ (hr5 _) ?_)
          go_roundw
          case rel => exact ⟨m + 1, _, _, p8, by omega, by go_num, X6.out, BV6.out, RV6.out, E6.out, AP6.out, RD6.out, IV6.out, SZ6.out, AB6.out⟩
          case measure => simp [intOf]; omega
        · obtain rfl : m = x4 := by omega
          have hlt' : ¬ (m : Int) < (m : Int) := by omega
          clear hlt hm
          obtain ⟨ra, rc, rfl⟩ := RV.out.form
          obtain ⟨sa, sc, rfl⟩ := SV.out.form
          have HQ : Hid (p = some N ∨ p ≠ some N) := Classical.em _
          rcases HQ.out with hp | hp
          · subst hp
            have EN : Hid (Calls Tryd.prog 66 #[.pointer (some ⟨w.heap.size + 1, 0, none⟩)] wr fun e w' => e = .returned (.bool true) ∧ wr = w') := ended_yes (w.heap.size + 1) w.heap.size N f wr RD.out
            obtain ⟨i1, i2, i3, i4, i5⟩ : some N = some (1 + 37 * pNr f + 1 + 9 * m) ∧ k = pNr f ∧ (∀ i, i < k → R i = pRg f i) ∧ m = pNs f ∧ ∀ i, i < m → S i = pSe f i := by
              rcases IV.out with ⟨e, _⟩ | q
              · cases e
              · exact q
            have WH : Hid (Whole N f) := by show _ = _; injection i1 with i1; rw [← i4]; exact i1.symm
            have OKI : Hid ((⟨k, R, m, S⟩ : Bk).Ok ↔ (pB f).Ok) := by
              show (RgsOk k R ∧ SesOk m S) ↔ (RgsOk (pNr f) (pRg f) ∧ SesOk (pNs f) (pSe f))
              rw [← i2, ← i4]
              exact and_congr (rgsOk_congr i3) (sesOk_congr i5)
            have BO : Hid (Calls Tryd.prog 23 #[.agg #[.slice ra k rc, .slice sa m sc]] wr fun e w' => e = .returned (.bool (okB (⟨k, R, m, S⟩ : Bk).Ok)) ∧ Below wr.heap.size wr w') := implBankOK_any ⟨k, R, m, S⟩ ra sa rc sc wr ⟨RV.out.els, SV.out.els⟩ (TT.out.below AB.out)
            have EQ : Hid (k = pNr f ∧ (∀ i, i < k → R i = pRg f i) ∧ m = pNs f ∧ ∀ i, i < m → S i = pSe f i) := ⟨i2, i3, i4, i5⟩
            clear i1 i2 i3 i4 i5 IV HQ
            go_wp2_with fail
            refine EN.out.mono ?_
            rintro e _ ⟨rfl, rfl⟩
            have b0 := BV.out.c0
            have b1 := BV.out.c1
            clear EN
            go_wp2_with fail
            refine BO.out.mono ?_
            rintro e z1 ⟨rfl, hb⟩
            clear BO b0 b1
            replace X0 : Hid (Box2 z1 w.heap.size 46 (.slice none 0 0) (.slice none 0 0)) := X0.out.below hb
            replace BV : Hid (Box2 z1 (w.heap.size + 1 + 1) 46 (.slice ra k rc) (.slice sa m sc)) := BV.out.below hb
            replace RV : Hid (EO z1 (w.heap.size + 1 + 1 + 1) 54 3 (.slice ra k rc) k (rgF R)) := RV.out.below hb
            replace SV : Hid (EO z1 (w.heap.size + 1 + 1 + 1) 100 4 (.slice sa m sc) m (seF S)) := SV.out.below hb
            replace AB : Hid (Below w.heap.size w z1) := AB.out.trans (hb.mono AB.out.size)
            replace SZ : Hid (w.heap.size + 1 + 1 + 1 ≤ z1.heap.size) := Nat.le_trans SZ.out hb.size
            clear hb
            have HO : Hid ((⟨k, R, m, S⟩ : Bk).Ok ∨ ¬ (⟨k, R, m, S⟩ : Bk).Ok) := Classical.em _
            have b0 := BV.out.c0
            have b1 := BV.out.c1
            have r0 := X0.out.c0
            have r1 := X0.out.c1
            have f0 := X0.out.fr 0
            have f1 := X0.out.fr 1
            rcases HO.out with ho | ho
            · rw [okB_yes ho]
              have GD : Hid (Whole N f ∧ (pB f).Ok) := ⟨WH.out, OKI.out.1 ho⟩
              clear ho HO OKI WH
              go_wp2
              have Y : Box2 ((z1.setCell ⟨w.heap.size, 0, none⟩ (.slice ra k rc)).setCell ⟨w.heap.size, 1, none⟩ (.slice sa m sc)) w.heap.size 46 (.slice ra k rc) (.slice sa m sc) := (X0.out.set0 _).set1 _
              have kk : ∀ g, w.heap.size + 1 + 1 + 1 ≤ g → (((z1.setCell ⟨w.heap.size, 0, none⟩ (.slice ra k rc)).setCell ⟨w.heap.size, 1, none⟩ (.slice sa m sc))).heap[g]? = z1.heap[g]? := fun g hg => (heap_setOther _ _ (by show g ≠ w.heap.size; omega)).trans (heap_setOther _ _ (by show g ≠ w.heap.size; omega))
              refine ret_cell2 (b := w.heap.size) Tryd.results28 rfl rfl (Box2.loadB Y) ⟨.inl ⟨GD.out, ?_⟩, (AB.out.setCell (by simp) _).setCell (by simp) _⟩
              obtain ⟨i2, i3, i4, i5⟩ := EQ.out
              have RR := (RV.out.keep (w' := ((z1.setCell ⟨w.heap.size, 0, none⟩ (.slice ra k rc)).setCell ⟨w.heap.size, 1, none⟩ (.slice sa m sc))) (fun g e => kk g (RV.out.ge g e).1)).congr (G := rgF (pRg f)) (fun i hi j hj => by unfold rgF; rw [i3 i hi])
              have SS := (SV.out.keep (w' := ((z1.setCell ⟨w.heap.size, 0, none⟩ (.slice ra k rc)).setCell ⟨w.heap.size, 1, none⟩ (.slice sa m sc))) (fun g e => kk g (SV.out.ge g e).1)).congr (G := seF (pSe f)) (fun i hi j hj => by unfold seF; rw [i5 i hi])
              have AQ := AP.out
              unfold RetBk pB
              dsimp only
              rw [← i2, ← i4]
              exact ⟨ra, rc, sa, sc, rfl, ownsRow_monoE RR (by omega), ownsRow_monoE SS (by omega), AQ⟩
            · rw [okB_no ho]
              have GD : Hid (¬ (Whole N f ∧ (pB f).Ok)) := fun q => ho (OKI.out.2 q.2)
              clear ho HO OKI WH EQ
              go_wp2
              exact ret_cell2 (b := w.heap.size) Tryd.results28 rfl rfl (Box2.loadB ((X0.out.set0 _).set1 _)) ⟨.inr ⟨GD.out, rfl⟩, (AB.out.setCell (by simp) _).setCell (by simp) _⟩
          · have GD : Hid (¬ (Whole N f ∧ (pB f).Ok)) := fun q => by
              rcases IV.out with ⟨_, e⟩ | ⟨i1, i2, i3, i4, i5⟩
              · exact e q.1
              · apply hp
                rw [i1, i4]
                exact congrArg some q.1
            have EN : Hid (Calls Tryd.prog 66 #[.pointer (some ⟨w.heap.size + 1, 0, none⟩)] wr fun e w' => e = .returned (.bool false) ∧ wr = w') := ended_other (w.heap.size + 1) w.heap.size N f p hp wr RD.out
            have r0 := X0.out.c0
            have r1 := X0.out.c1
            have f0 := X0.out.fr 0
            have f1 := X0.out.fr 1
            clear HQ hp IV
            go_wp2_with fail
            refine EN.out.mono ?_
            rintro e _ ⟨rfl, rfl⟩
            clear EN
            go_wp2
            exact ret_cell2 (b := w.heap.size) Tryd.results28 rfl rfl (Box2.loadB ((X0.out.set0 _).set1 _)) ⟨.inr ⟨GD.out, rfl⟩, (AB.out.setCell (by simp) _).setCell (by simp) _⟩
end Go.Proofs.YtpngjkhncfbnpaaDoor
namespace Go.Proofs.YtpngjkhncfbnpaaDoor
open Go.ChangeShapes Go.WideShapes Go.ChangeAt Go.RowKit
set_option linter.unusedVariables false
def seg (F : Nat → Nat) (o n : Nat) : List Nat := (List.range n).map fun i => F (o + i)
theorem seg_length (F : Nat → Nat) (o n : Nat) : (seg F o n).length = n := by unfold seg; simp
theorem seg_append (F : Nat → Nat) (o a b : Nat) : seg F o (a + b) = seg F o a ++ seg F (o + a) b := by
  unfold seg
  rw [List.range_add, List.map_append, List.map_map]
  congr 1
  exact List.map_congr_left (fun i _ => by show F (o + (a + i)) = F (o + a + i); rw [Nat.add_assoc])
theorem seg_one (F : Nat → Nat) (o : Nat) : seg F o 1 = [F o] := by unfold seg; simp [List.range, List.range.loop]
theorem valN_div (g : Nat → Nat) (hg : ∀ i, g i < 256) : ∀ (k j : Nat), j ≤ k → valN g k / 256 ^ (k - j) = valN g j
  | 0, j, h => by
    obtain rfl : j = 0 := by omega
    simp [valN]
  | k + 1, j, h => by
    rcases Nat.lt_or_ge j (k + 1) with q | q
    · have ih := valN_div g hg k j (by omega)
      have h1 : valN g (k + 1) / 256 = valN g k := by
        have := hg k
        show (valN g k * 256 + g k) / 256 = valN g k
        omega
      rw [show k + 1 - j = (k - j) + 1 from by omega, Nat.pow_succ, Nat.mul_comm, ← Nat.div_div_eq_div_mul, h1, ih]
    · obtain rfl : j = k + 1 := by omega
      simp
theorem numL_valN (g : Nat → Nat) (hg : ∀ i, g i < 256) (k : Nat) : numL k (valN g k) = (List.range k).map g := by
  unfold numL numP
  refine List.map_congr_left (fun j hj => ?_)
  have hj' := List.mem_range.1 hj
  have e : (2 : Nat) ^ (8 * (k - 1 - j)) = 256 ^ (k - (j + 1)) := by
    rw [Nat.pow_mul, show (2 : Nat) ^ 8 = 256 from by decide, show k - 1 - j = k - (j + 1) from by omega]
  rw [e, valN_div g hg k (j + 1) (by omega)]
  have := hg j
  show (valN g j * 256 + g j) % 256 = g j
  omega
theorem strL_kstr (K : Nat → Nat) (hK : ∀ i, K i < 256) (n : Nat) : strL (kstr K 0 n) = (List.range n).map K := by
  unfold strL
  rw [kstr_data, List.map_map]
  refine List.map_congr_left (fun i hi => ?_)
  show (UInt8.ofNat (K (0 + i))).toNat = K i
  rw [Nat.zero_add]
  have := hK i
  simp
  omega
theorem strL_at (s : ByteArray) : strL s = seg (strB s) 0 s.size := by
  have := strL_kstr (strB s) (strB_lt s) s.size
  rw [kstr_self] at this
  rw [this]
  unfold seg
  exact List.map_congr_left (fun i _ => by rw [Nat.zero_add])
theorem rgL_pRg (F : Nat → Nat) (hF : ∀ i, F i < 256) (i : Nat) : rgL (pRg F i) = seg F (1 + 37 * i) 37 := by
  unfold rgL pRg
  dsimp only
  rw [Int.toNat_natCast, Int.toNat_natCast, numL_valN _ (fun j => hF _) 4, strL_kstr _ (fun j => hF _) 32]
  have e1 : [valN (fun j => F (1 + 37 * i + j)) 1] = seg F (1 + 37 * i) 1 := by rw [seg_one]; simp [valN]
  rw [e1]
  have e2 : (List.range 4).map (fun j => F (1 + 37 * i + 1 + j)) = seg F (1 + 37 * i + 1) 4 := rfl
  have e3 : (List.range 32).map (fun j => F (1 + 37 * i + 1 + 4 + j)) = seg F (1 + 37 * i + 5) 32 := rfl
  rw [e2, e3, ← seg_append F (1 + 37 * i) 1 4, show 1 + 37 * i + 5 = 1 + 37 * i + (1 + 4) from rfl, ← seg_append F (1 + 37 * i) (1 + 4) 32]
def pSeO (F : Nat → Nat) (o i : Nat) : Se := ⟨((valN (fun j => F (o + 9 * i + j)) 2 : Nat) : Int), ((valN (fun j => F (o + 9 * i + 2 + j)) 2 : Nat) : Int), ((valN (fun j => F (o + 9 * i + 2 + 2 + j)) 1 : Nat) : Int), ((valN (fun j => F (o + 9 * i + 2 + 2 + 1 + j)) 4 : Nat) : Int)⟩
theorem seL_pSeO (F : Nat → Nat) (hF : ∀ i, F i < 256) (o i : Nat) : seL (pSeO F o i) = seg F (o + 9 * i) 9 := by
  unfold seL pSeO
  dsimp only
  rw [Int.toNat_natCast, Int.toNat_natCast, Int.toNat_natCast, Int.toNat_natCast, numL_valN _ (fun j => hF _) 2, numL_valN _ (fun j => hF _) 2, numL_valN _ (fun j => hF _) 4]
  have e1 : [valN (fun j => F (o + 9 * i + 2 + 2 + j)) 1] = seg F (o + 9 * i + (2 + 2)) 1 := by rw [seg_one]; simp [valN, Nat.add_assoc]
  rw [e1]
  have e2 : (List.range 2).map (fun j => F (o + 9 * i + j)) = seg F (o + 9 * i) 2 := rfl
  have e3 : (List.range 2).map (fun j => F (o + 9 * i + 2 + j)) = seg F (o + 9 * i + 2) 2 := rfl
  have e4 : (List.range 4).map (fun j => F (o + 9 * i + 2 + 2 + 1 + j)) = seg F (o + 9 * i + (2 + 2 + 1)) 4 := rfl
  rw [e2, e3, e4, ← seg_append F (o + 9 * i) 2 2, ← seg_append F (o + 9 * i) (2 + 2) 1, ← seg_append F (o + 9 * i) (2 + 2 + 1) 4]
theorem flatL_seg {T : Type} (g : T → List Nat) (G : Nat → T) (F : Nat → Nat) (o c : Nat) (h : ∀ i, g (G i) = seg F (o + c * i) c) (n : Nat) : flatL g G n = seg F o (c * n) := by
  induction n with
  | zero => simp [flatL, seg]
  | succ n ih =>
    unfold flatL
    rw [ih, h n, Nat.mul_succ, seg_append]
def pK (F : Nat → Nat) (k m : Nat) : Bk := ⟨k, pRg F, m, pSeO F (1 + 37 * k + 1)⟩
theorem pB_K (F : Nat → Nat) : pB F = pK F (pNr F) (pNs F) := rfl
theorem pNr_at (F : Nat → Nat) : pNr F = F 0 := by simp [pNr, valN]
theorem pNs_at (F : Nat → Nat) : pNs F = F (1 + 37 * pNr F) := by simp [pNs, valN]
theorem bankL_pK (F : Nat → Nat) (hF : ∀ i, F i < 256) (k m : Nat) : bankL (pK F k m) = [k] ++ seg F 1 (37 * k) ++ [m] ++ seg F (1 + 37 * k + 1) (9 * m) := by
  unfold bankL pK
  dsimp only
  rw [flatL_seg rgL (pRg F) F 1 37 (fun i => rgL_pRg F hF i) k, flatL_seg seL (pSeO F (1 + 37 * k + 1)) F (1 + 37 * k + 1) 9 (fun i => seL_pSeO F hF _ i) m]
theorem bytes_whole (F : Nat → Nat) (hF : ∀ i, F i < 256) (N : Nat) (h : Whole N F) : bankL (pB F) = seg F 0 N := by
  rw [pB_K, bankL_pK F hF]
  unfold Whole at h
  have e1 : [pNr F] = seg F 0 1 := by rw [seg_one, pNr_at]
  have e2 : [pNs F] = seg F (0 + (1 + 37 * pNr F)) 1 := by rw [seg_one, pNs_at, Nat.zero_add]
  have a1 := seg_append F 0 1 (37 * pNr F)
  have a2 := seg_append F 0 (1 + 37 * pNr F) 1
  have a3 := seg_append F 0 (1 + 37 * pNr F + 1) (9 * pNs F)
  rw [Nat.zero_add] at a1 a3
  rw [e1, e2, ← a1, ← a2, ← a3, h]
theorem whole_of {F : Nat → Nat} {hF : ∀ i, F i < 256} {N k m : Nat} (h : bankL (pK F k m) = seg F 0 N) : k = pNr F ∧ m = pNs F ∧ Whole N F := by
  have hl := congrArg List.length h
  rw [bankL_pK F hF, seg_length] at hl
  simp only [List.length_append, List.length_cons, List.length_nil, seg_length] at hl
  have h0 := congrArg (fun L => L.getD 0 999) h
  have h1 := congrArg (fun L => L.getD (1 + 37 * k) 999) h
  rw [bankL_pK F hF] at h0 h1
  have g0 : (seg F 0 N).getD 0 999 = F 0 := by unfold seg; simp [show 0 < N by omega]
  have g1 : (seg F 0 N).getD (1 + 37 * k) 999 = F (1 + 37 * k) := by unfold seg; simp [show 1 + 37 * k < N by omega]
  rw [g0] at h0
  rw [g1] at h1
  have k0 : ([k] ++ seg F 1 (37 * k) ++ [m] ++ seg F (1 + 37 * k + 1) (9 * m)).getD 0 999 = k := by simp
  have k1 : ([k] ++ seg F 1 (37 * k) ++ [m] ++ seg F (1 + 37 * k + 1) (9 * m)).getD (1 + 37 * k) 999 = m := by
    rw [List.append_assoc ([k] ++ seg F 1 (37 * k))]
    have hlen : ([k] ++ seg F 1 (37 * k)).length = 1 + 37 * k := by simp [seg_length]; omega
    rw [List.getD_eq_getElem?_getD, List.getElem?_append_right (by omega), hlen, Nat.sub_self]
    simp
  rw [k0] at h0
  rw [k1] at h1
  have e0 : k = pNr F := by rw [pNr_at]; exact h0
  have e1 : m = pNs F := by rw [pNs_at, ← e0]; exact h1
  refine ⟨e0, e1, ?_⟩
  unfold Whole
  rw [← e0, ← e1]
  omega
end Go.Proofs.YtpngjkhncfbnpaaDoor
namespace Go.Proofs.YtpngjkhncfbnpaaDoor
open Go.ChangeShapes Go.WideShapes Go.ChangeAt Go.RowKit
set_option linter.unusedVariables false
theorem getD_leftB (A B : List Nat) (i : Nat) (h : i < A.length) : (A ++ B).getD i 0 = A.getD i 0 := by
  simp [List.getD, List.getElem?_append_left h]
theorem getD_rightB (A B : List Nat) (i j : Nat) (h : i = A.length + j) : (A ++ B).getD i 0 = B.getD j 0 := by
  subst h
  simp only [List.getD]
  rw [List.getElem?_append_right (by omega), show A.length + j - A.length = j from by omega]
theorem numL2B (x : Nat) : numL 2 x = [x / 256 % 256, x % 256] := by
  unfold numL numP
  simp [List.range_succ]
theorem numL4B (x : Nat) : numL 4 x = [x / 16777216 % 256, x / 65536 % 256, x / 256 % 256, x % 256] := by
  unfold numL numP
  simp [List.range_succ]
theorem strL_getB (r : ByteArray) (i : Nat) (h : i < r.size) : (strL r).getD i 0 = strB r i := by
  have h2 : i < r.data.toList.length := by rw [Array.length_toList]; exact h
  unfold strL strB
  rw [List.getD, List.getElem?_map, List.getElem?_eq_getElem h2]
  simp
  rw [dif_pos h]
  rfl
theorem flatL_at {T : Type} (g : T → List Nat) (G : Nat → T) (c : Nat) : ∀ (k : Nat), (∀ i, i < k → (g (G i)).length = c) → ∀ i j, i < k → j < c → (flatL g G k).getD (c * i + j) 0 = (g (G i)).getD j 0
  | 0, _, i, j, hi, hj => absurd hi (by omega)
  | k + 1, hl, i, j, hi, hj => by
    have hk : (flatL g G k).length = k * c := flatL_length g G c k (fun i hi => hl i (by omega))
    rw [flatL]
    by_cases h : i < k
    · have : c * i + j < k * c := by
        have h1 : c * (i + 1) ≤ c * k := Nat.mul_le_mul_left c h
        rw [Nat.mul_comm k c]
        rw [Nat.mul_succ] at h1
        omega
      rw [getD_leftB _ _ _ (by rw [hk]; exact this)]
      exact flatL_at g G c k (fun i hi => hl i (by omega)) i j h hj
    · obtain rfl : i = k := by omega
      exact getD_rightB _ _ _ j (by rw [hk, Nat.mul_comm])
def bkF (d : Bk) (i : Nat) : Nat := (bankL d).getD i 0
theorem bkF_nr {d : Bk} (h : d.Ok) : bkF d 0 = d.nr := by
  unfold bkF bankL
  rfl
theorem bkF_rg {d : Bk} (h : d.Ok) (i j : Nat) (hi : i < d.nr) (hj : j < 37) : bkF d (1 + 37 * i + j) = (rgL (d.R i)).getD j 0 := by
  have hl : ∀ i, i < d.nr → (rgL (d.R i)).length = 37 := fun i hi => rgL_length (h.1.2 i hi).1
  have hk : (flatL rgL d.R d.nr).length = d.nr * 37 := flatL_length _ _ 37 _ hl
  unfold bkF bankL
  rw [List.append_assoc, List.append_assoc, getD_rightB _ _ _ (37 * i + j) (by simp; omega), getD_leftB _ _ _ (by rw [hk]; omega)]
  exact flatL_at rgL d.R 37 d.nr hl i j hi hj
theorem bkF_ns {d : Bk} (h : d.Ok) : bkF d (1 + 37 * d.nr) = d.ns := by
  have hl : ∀ i, i < d.nr → (rgL (d.R i)).length = 37 := fun i hi => rgL_length (h.1.2 i hi).1
  have hk : (flatL rgL d.R d.nr).length = d.nr * 37 := flatL_length _ _ 37 _ hl
  unfold bkF bankL
  rw [List.append_assoc, getD_rightB _ _ _ 0 (by simp [hk]; omega)]
  rfl
theorem bkF_se {d : Bk} (h : d.Ok) (i j : Nat) (hi : i < d.ns) (hj : j < 9) : bkF d (1 + 37 * d.nr + 1 + 9 * i + j) = (seL (d.S i)).getD j 0 := by
  have hl : ∀ i, i < d.nr → (rgL (d.R i)).length = 37 := fun i hi => rgL_length (h.1.2 i hi).1
  have hk : (flatL rgL d.R d.nr).length = d.nr * 37 := flatL_length _ _ 37 _ hl
  unfold bkF bankL
  rw [getD_rightB _ _ _ (9 * i + j) (by simp [hk]; omega)]
  exact flatL_at seL d.S 9 d.ns (fun i _ => seL_length _) i j hi hj
theorem pNr_bk {d : Bk} (h : d.Ok) : pNr (bkF d) = d.nr := by rw [pNr_at]; exact bkF_nr h
theorem pNs_bk {d : Bk} (h : d.Ok) : pNs (bkF d) = d.ns := by rw [pNs_at, pNr_bk h]; exact bkF_ns h
theorem pRg_bk {d : Bk} (h : d.Ok) (i : Nat) (hi : i < d.nr) : pRg (bkF d) i = d.R i := by
  obtain ⟨⟨v0, v1⟩, ⟨c0, c1⟩, r32⟩ := (h.1.2 i hi).1
  have hb : ∀ j, j < 37 → bkF d (1 + 37 * i + j) = (rgL (d.R i)).getD j 0 := fun j hj => bkF_rg h i j hi hj
  have e0 := hb 0 (by omega)
  have e1 := hb 1 (by omega)
  have e2 := hb 2 (by omega)
  have e3 := hb 3 (by omega)
  have e4 := hb 4 (by omega)
  have es : ∀ j, j < 32 → bkF d (1 + 37 * i + 1 + 4 + j) = strB (d.R i).r j := fun j hj => by
    have := hb (5 + j) (by omega)
    rw [show 1 + 37 * i + 1 + 4 + j = 1 + 37 * i + (5 + j) from by omega, this]
    unfold rgL
    rw [getD_rightB _ _ _ j (by simp [numL_length])]
    exact strL_getB _ _ (by omega)
  unfold rgL at e0 e1 e2 e3 e4
  rw [numL4B] at e0 e1 e2 e3 e4
  simp only [List.cons_append, List.nil_append, List.getD_cons_zero, List.getD_cons_succ] at e0 e1 e2 e3 e4
  generalize d.R i = x at *
  obtain ⟨xv, xc, xr⟩ := x
  have k1 : kstr (fun j => bkF d (1 + 37 * i + 1 + 4 + j)) 0 32 = xr := by
    have := kstr_self xr
    rw [← this]
    dsimp only at r32 ⊢
    rw [r32]
    exact kstr_congr (fun j hj => by rw [Nat.zero_add, es j hj])
  unfold pRg
  rw [k1]
  dsimp only at *
  simp only [valN, Nat.add_zero, show 1 + 37 * i + 1 + 0 = 1 + 37 * i + 1 from by omega, show 1 + 37 * i + 1 + 1 = 1 + 37 * i + 2 from by omega, show 1 + 37 * i + 1 + 2 = 1 + 37 * i + 3 from by omega, show 1 + 37 * i + 1 + 3 = 1 + 37 * i + 4 from by omega, e0, e1, e2, e3, e4, Rg.mk.injEq, and_true] at *
  omega
theorem pSe_bk {d : Bk} (h : d.Ok) (i : Nat) (hi : i < d.ns) : pSe (bkF d) i = d.S i := by
  have hOk := (h.2.2 i hi).1
  have hb : ∀ j, j < 9 → bkF d (1 + 37 * d.nr + 1 + 9 * i + j) = (seL (d.S i)).getD j 0 := fun j hj => bkF_se h i j hi hj
  have e0 := hb 0 (by omega)
  have e1 := hb 1 (by omega)
  have e2 := hb 2 (by omega)
  have e3 := hb 3 (by omega)
  have e4 := hb 4 (by omega)
  have e5 := hb 5 (by omega)
  have e6 := hb 6 (by omega)
  have e7 := hb 7 (by omega)
  have e8 := hb 8 (by omega)
  unfold seL at e0 e1 e2 e3 e4 e5 e6 e7 e8
  rw [numL4B, numL2B, numL2B] at e0 e1 e2 e3 e4 e5 e6 e7 e8
  simp only [List.cons_append, List.nil_append, List.getD_cons_zero, List.getD_cons_succ] at e0 e1 e2 e3 e4 e5 e6 e7 e8
  unfold pSe
  rw [pNr_bk h]
  generalize d.S i = x at *
  obtain ⟨x1, x2, x3, x4⟩ := x
  generalize 1 + 37 * d.nr + 1 + 9 * i = o at *
  unfold Se.Ok at hOk
  dsimp only at *
  simp only [valN, Nat.add_zero, show o + 2 + 0 = o + 2 from rfl, show o + 2 + 1 = o + 3 from rfl, show o + 2 + 2 = o + 4 from rfl, show o + 4 + 1 = o + 5 from rfl, show o + 5 + 1 = o + 6 from rfl, show o + 5 + 2 = o + 7 from rfl, show o + 5 + 3 = o + 8 from rfl, e0, e1, e2, e3, e4, e5, e6, e7, e8, Se.mk.injEq] at *
  omega
theorem whole_bk {d : Bk} (h : d.Ok) : Whole (bankL d).length (bkF d) := by
  unfold Whole
  rw [pNr_bk h, pNs_bk h, bankL_length h]
  omega
theorem pB_ok {d : Bk} (h : d.Ok) : (pB (bkF d)).Ok := by
  refine ⟨?_, ?_⟩
  · show RgsOk (pNr (bkF d)) (pRg (bkF d))
    rw [pNr_bk h]
    exact (rgsOk_congr (fun i hi => pRg_bk h i hi)).2 h.1
  · show SesOk (pNs (bkF d)) (pSe (bkF d))
    rw [pNs_bk h]
    exact (sesOk_congr (fun i hi => pSe_bk h i hi)).2 h.2
end Go.Proofs.YtpngjkhncfbnpaaDoor
