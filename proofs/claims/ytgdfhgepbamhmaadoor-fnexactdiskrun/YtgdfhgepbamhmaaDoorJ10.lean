/-
  An act among the arguments, opened.
-/
import Derived.Test.YtgdfhgepbamhmaaDoorOpenDisk
import Derived.Test.YtgdfhgepbamhmaaDoorBoolS
import Derived.Test.YtgdfhgepbamhmaaDoorDriveDo
import Derived.Deep.Grids
import Derived.Test.YtgdfhgepbamhmaaDoorJ07
import Derived.Deep.Slices
import Derived.Deep.SlicePairs
namespace Go.Proofs.YtgdfhgepbamhmaaDoor
open Go.ChangeShapes Go.WideShapes Go.ChangeAt Go.RowKit
/-- What is known of an act that came in. -/
structure CameA (W : World) (a : Ac) (ak : Option Addr) : Prop where
  v : Bools W ak a.nk a.K
  l : a.nk ≤ maxLen
  m : a.s.size ≤ maxLen
theorem bools_came {H : Type} {enc : TypeId × Value → H} {W : World} {fuel : Nat} {x : Value} {y : DataW H × List MemPlace} (h : DataW.trod enc Tryd.prog W 0 (fun _ => true) true fuel 41 [x] = some y) :
    ∃ (a : Option Addr) (n c : Nat) (f : Nat → Bool), x = .slice a n c ∧ Bools W a n f ∧ n ≤ maxLen := by
  rcases Deep.open_bools Tryd.underlying41 Tryd.underlying4 (by kernel_rfl) h with ⟨hcs, _⟩ | ⟨a, len, cap, B, hcs, _, hl, hm, _, hcell⟩
  · cases hcs
    exact ⟨none, 0, 0, fun _ => false, rfl, fun i hi => absurd hi (by omega), Nat.zero_le _⟩
  · cases hcs
    refine ⟨some a, len, cap, B, rfl, fun i hi => ?_, Nat.le_trans hl hm⟩
    obtain ⟨b, off, spot⟩ := a
    have h0 := hcell i (by omega)
    have hspot : spot = none := by simpa [Addr.add] using World.cell?_spot (hcell 0 (by omega))
    subst hspot
    exact ⟨b, off, rfl, by rw [← Go.WideShapes.add_plain]; exact h0⟩
theorem trod_struct5 {H : Type} {enc : TypeId × Value → H} {W : World} {t : TypeId} {f0 f1 f2 f3 f4 : Field} {fuel : Nat} {cs : List Value} {x : DataW H × List MemPlace} (ht : Tryd.prog.underlying t = some (.struct #[f0, f1, f2, f3, f4])) (h : DataW.trod enc Tryd.prog W 0 (fun _ => true) true fuel t cs = some x) :
    ∃ y0 y1 y2 y3 y4 n, DataW.trod enc Tryd.prog W 0 (fun _ => true) true n f0.type ((cs.drop f0.offset).take (Tryd.prog.cellsOf f0.type)) = some y0 ∧ DataW.trod enc Tryd.prog W 0 (fun _ => true) true n f1.type ((cs.drop f1.offset).take (Tryd.prog.cellsOf f1.type)) = some y1 ∧ DataW.trod enc Tryd.prog W 0 (fun _ => true) true n f2.type ((cs.drop f2.offset).take (Tryd.prog.cellsOf f2.type)) = some y2 ∧ DataW.trod enc Tryd.prog W 0 (fun _ => true) true n f3.type ((cs.drop f3.offset).take (Tryd.prog.cellsOf f3.type)) = some y3 ∧ DataW.trod enc Tryd.prog W 0 (fun _ => true) true n f4.type ((cs.drop f4.offset).take (Tryd.prog.cellsOf f4.type)) = some y4 := by
  obtain ⟨xs, n, _, rfl, hl, hlen, hf⟩ := DataW.trod_struct ht h
  match xs, hlen with
  | [y0, y1, y2, y3, y4], _ => exact ⟨y0, y1, y2, y3, y4, n, by simpa using hf 0 f0 rfl, by simpa using hf 1 f1 rfl, by simpa using hf 2 f2 rfl, by simpa using hf 3 f3 rfl, by simpa using hf 4 f4 rfl⟩
set_option maxRecDepth 100000 in
/-- An act among the arguments. -/
theorem openAct {H : Type} {enc : TypeId × Value → H} {W : World} {base : Nat} {v : Value} {d : DataW H} {ps : List MemPlace} (hok : Value.okWide Tryd.prog W .any base 43 v) (h : DataW.Trod enc Tryd.prog W 0 (fun _ => true) true 43 v d ps) :
    ∃ (a : Ac) (ak : Option Addr) (ck : Nat), v = .agg #[.int .i64 a.kd, .int .i64 a.x, .string a.s, .slice ak a.nk ck, .int .i64 a.t] ∧ CameA W a ak := by
  obtain ⟨cs, rfl, hsz⟩ := okWide_struct Tryd.underlying43 hok
  obtain ⟨fuel, hf⟩ := h
  obtain ⟨y0, y1, y2, y3, y4, n, h0, h1, h2, h3, h4⟩ := trod_struct5 Tryd.underlying43 hf
  have hc5 : Tryd.prog.cellsOf 43 = 5 := by kernel_rfl
  have hcB : Tryd.prog.cellsOf 41 = 1 := by kernel_rfl
  have hcS : Tryd.prog.cellsOf 9 = 1 := cStr
  have hcI : Tryd.prog.cellsOf 3 = 1 := cInt
  rw [hc5] at hsz
  obtain ⟨l⟩ := cs
  match l, hsz with
  | [c0, c1, c2, c3, c4], _ =>
    simp only [Value.cells, hcS, hcI, hcB, List.drop_zero, List.take_succ_cons, List.take_zero, List.drop_succ_cons] at h0 h1 h2 h3 h4
    obtain ⟨x0, e0, _⟩ := DataW.trod_int Tryd.underlying3 h0
    obtain ⟨x1, e1, _⟩ := DataW.trod_int Tryd.underlying3 h1
    obtain ⟨s, e2, _, hz⟩ := DataW.trod_string Tryd.underlying9 h2
    obtain ⟨ak, nk, ck, K, e3, hb, hn⟩ := bools_came h3
    obtain ⟨x4, e4, _⟩ := DataW.trod_int Tryd.underlying3 h4
    obtain rfl := (List.cons.inj e0).1
    obtain rfl := (List.cons.inj e1).1
    obtain rfl := (List.cons.inj e2).1
    obtain rfl := (List.cons.inj e4).1
    subst e3
    exact ⟨⟨x0, x1, s, nk, K, x4⟩, ak, ck, rfl, hb, hn, hz⟩
end Go.Proofs.YtgdfhgepbamhmaaDoor

/-
  A slice of acts among the arguments, opened.
-/
namespace Go.Proofs.YtgdfhgepbamhmaaDoor
open Go.ChangeShapes Go.WideShapes Go.ChangeAt Go.RowKit
set_option linter.unusedVariables false
set_option maxRecDepth 100000 in
theorem acs_came {H : Type} {enc : TypeId × Value → H} {W : World} {fuel : Nat} {x : Value} {y : DataW H × List MemPlace} (h : DataW.trod enc Tryd.prog W 0 (fun _ => true) true fuel 22 [x] = some y) :
    ∃ (a : Option Addr) (n c : Nat) (R : Nat → Ac) (A : Nat → Option Addr) (X : Nat → Nat), x = .slice a n c ∧ AcV W a n R A X ∧ n ≤ maxLen ∧ ∀ i, i < n → (R i).nk ≤ maxLen ∧ (R i).s.size ≤ maxLen := by
  rcases Deep.open_slice Tryd.underlying22 h with ⟨hcs, _⟩ | ⟨a, len, cap, m, n, D, Pl, hcs, _, hl, hm, hmm, _, hx⟩
  · cases hcs
    exact ⟨none, 0, 0, fun _ => acZ, fun _ => none, fun _ => 0, rfl, ⟨fun i hi => absurd hi (by omega), fun i hi => absurd hi (by omega)⟩, Nat.zero_le _, fun i hi => absurd hi (by omega)⟩
  · cases hcs
    have hmm' : m = cap := by simpa using hmm
    have ce : Tryd.prog.cellsOf 43 = 5 := by kernel_rfl
    have cI : Tryd.prog.cellsOf 3 = 1 := by kernel_rfl
    have cS : Tryd.prog.cellsOf 9 = 1 := by kernel_rfl
    have cL : Tryd.prog.cellsOf 41 = 1 := by kernel_rfl
    have each : ∀ i, i < len → ∃ r : Ac × Option Addr × Nat, ((r.1.nk ≤ maxLen ∧ r.1.s.size ≤ maxLen) ∧ Bools W r.2.1 r.1.nk r.1.K) ∧ ∀ j, j < 5 → W.cell? (a.add (i * 5 + j)) = some (acE r.1 (.slice r.2.1 r.1.nk r.2.2) j) := fun i hi => by
      obtain ⟨cs', h1, h2⟩ := hx i (by omega)
      rw [ce] at h1
      obtain ⟨_, hlen, hcell⟩ := World.cells?_some h1
      obtain ⟨xs, k, hk, hxy, _, hxl, hf⟩ := DataW.trod_struct Tryd.underlying43 h2
      match xs, hxl, cs', hlen with
      | [y0, y1, y2, y3, y4], _, [v0, v1, v2, v3, v4], _ =>
        have g0 := hf 0 _ rfl
        simp [cI] at g0
        have g1 := hf 1 _ rfl
        simp [cI] at g1
        have g2 := hf 2 _ rfl
        simp [cS] at g2
        have g3 := hf 3 _ rfl
        simp [cL] at g3
        have g4 := hf 4 _ rfl
        simp [cI] at g4
        obtain ⟨x0, q0, _⟩ := DataW.trod_int Tryd.underlying3 g0
        obtain rfl := (List.cons.inj q0).1
        obtain ⟨x1, q1, _⟩ := DataW.trod_int Tryd.underlying3 g1
        obtain rfl := (List.cons.inj q1).1
        obtain ⟨x2, q2, _, z2⟩ := DataW.trod_string Tryd.underlying9 g2
        obtain rfl := (List.cons.inj q2).1
        obtain ⟨nA, nn, nc, nC, rfl, nh, nl⟩ := bools_came g3
        obtain ⟨x4, q4, _⟩ := DataW.trod_int Tryd.underlying3 g4
        obtain rfl := (List.cons.inj q4).1
        refine ⟨(⟨x0, x1, x2, nn, nC, x4⟩, nA, nc), ⟨⟨nl, z2⟩, nh⟩, fun j hj => ?_⟩
        have e := hcell j (by simpa using hj)
        rw [Deep.add_add] at e
        rw [e]
        rcases (show j = 0 ∨ j = 1 ∨ j = 2 ∨ j = 3 ∨ j = 4 by omega) with rfl | rfl | rfl | rfl | rfl <;> rfl
    have : Inhabited (Ac × Option Addr × Nat) := ⟨(acZ, none, 0)⟩
    obtain ⟨RR, hR⟩ := Deep.choose_lt each
    refine ⟨some a, len, cap, fun i => (RR i).1, fun i => (RR i).2.1, fun i => (RR i).2.2, rfl, ⟨fun i hi => ?_, fun i hi => (hR i hi).1.2⟩, Nat.le_trans hl hm, fun i hi => (hR i hi).1.1⟩
    obtain ⟨b, off, spot⟩ := a
    have hspot : spot = none := by simpa [Addr.add] using World.cell?_spot ((hR 0 (by omega)).2 0 (by omega))
    subst hspot
    refine ⟨b, off, rfl, fun j hj => ?_⟩
    have e := (hR i hi).2 j hj
    rw [Go.WideShapes.add_plain] at e
    rw [Nat.add_assoc]
    exact e
end Go.Proofs.YtgdfhgepbamhmaaDoor
