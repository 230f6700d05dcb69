/-
  Places and supers among the arguments, opened (written by tools/mkplace.py).
-/
import Derived.Test.YtiagpeefambggabPlaceS
import Derived.ProofKit
import Derived.OpenShut
import Derived.ShutString
import Derived.ChangeOld
import Derived.Below
import Derived.Carry
import Derived.ChangeSame
import Derived.Deep.Slices
import Derived.Deep.SlicePairs
import Derived.Deep.Grids
namespace Go.Proofs.Ytiagpeefambggab
open Go.ChangeShapes Go.WideShapes Go.ChangeAt Go.RowKit
set_option linter.unusedVariables false
set_option maxRecDepth 100000 in
theorem pc_came {H : Type} {enc : TypeId × Value → H} {W : World} {fuel : Nat} {x : Value} {y : DataW H × List MemPlace} (h : DataW.trod enc Try.prog W 0 (fun _ => true) true fuel 22 [x] = some y) :
    ∃ (a : Option Addr) (n c : Nat) (PC : Nat → Plc), x = .slice a n c ∧ Els W 2 a n (pcF PC) ∧ n ≤ maxLen ∧ ∀ i, i < n → True := by
  rcases Deep.open_slice Try.underlying22 h with ⟨hcs, _⟩ | ⟨a, len, cap, m, n, D, Pl, hcs, _, hl, hm, hmm, _, hx⟩
  · cases hcs
    exact ⟨none, 0, 0, fun _ => pcZ, rfl, fun i hi => absurd hi (by omega), Nat.zero_le _, fun i hi => absurd hi (by omega)⟩
  · cases hcs
    have hmm' : m = cap := by simpa using hmm
    have ce : Try.prog.cellsOf 50 = 2 := by kernel_rfl
    have cI : Try.prog.cellsOf 3 = 1 := by kernel_rfl
    have each : ∀ i, i < len → ∃ r : Plc, (True) ∧ ∀ j, j < 2 → W.cell? (a.add (i * 2 + j)) = some (pcV r j) := fun i hi => by
      obtain ⟨cs', h1, h2⟩ := hx i (by omega)
      rw [ce] at h1
      obtain ⟨_, hlen, hcell⟩ := World.cells?_some h1
      obtain ⟨xs, k, hk, hxy, _, hxl, hf⟩ := DataW.trod_struct Try.underlying50 h2
      match xs, hxl, cs', hlen with
      | [y0, y1], _, [v0, v1], _ =>
        have g0 := hf 0 _ rfl
        have g1 := hf 1 _ rfl
        simp [cI] at g0
        simp [cI] at g1
        obtain ⟨x0, q0, _⟩ := DataW.trod_int Try.underlying3 g0
        obtain rfl := (List.cons.inj q0).1
        obtain ⟨x1, q1, _⟩ := DataW.trod_int Try.underlying3 g1
        obtain rfl := (List.cons.inj q1).1
        refine ⟨⟨x0, x1⟩, trivial, fun j hj => ?_⟩
        have e := hcell j (by simpa using hj)
        rw [Deep.add_add] at e
        rw [e]
        rcases (show j = 0 ∨ j = 1 by omega) with rfl | rfl <;> rfl
    have : Inhabited Plc := ⟨pcZ⟩
    obtain ⟨PC, hR⟩ := Deep.choose_lt each
    refine ⟨some a, len, cap, PC, rfl, fun i hi => ?_, Nat.le_trans hl hm, fun i hi => (hR i hi).1⟩
    obtain ⟨b, off, spot⟩ := a
    have hspot : spot = none := by simpa [Addr.add] using World.cell?_spot ((hR 0 (by omega)).2 0 (by omega))
    subst hspot
    refine ⟨b, off, rfl, fun j hj => ?_⟩
    have e := (hR i hi).2 j hj
    rw [Go.WideShapes.add_plain] at e
    rw [Nat.add_assoc]
    exact e
set_option maxRecDepth 100000 in
/-- A super among the arguments. -/
theorem openSuper {H : Type} {enc : TypeId × Value → H} {W : World} {base : Nat} {v : Value} {d : DataW H} {ps : List MemPlace} (hok : Value.okWide Try.prog W .any base 24 v) (h : DataW.Trod enc Try.prog W 0 (fun _ => true) true 24 v d ps) :
    ∃ (z : Int) (a : Option Addr) (n c : Nat) (PC : Nat → Plc) (r : ByteArray), v = .agg #[.int .i64 z, .slice a n c, .string r] ∧ Els W 2 a n (pcF PC) ∧ n ≤ maxLen ∧ r.size ≤ maxLen := by
  obtain ⟨cs, rfl, hsz⟩ := okWide_struct Try.underlying24 hok
  obtain ⟨fuel, hf⟩ := h
  obtain ⟨xs, n, _, _, hl, hlen, hx⟩ := DataW.trod_struct Try.underlying24 hf
  have hc : Try.prog.cellsOf 24 = 3 := by kernel_rfl
  have cI : Try.prog.cellsOf 3 = 1 := by kernel_rfl
  have cP : Try.prog.cellsOf 22 = 1 := by kernel_rfl
  have cS : Try.prog.cellsOf 9 = 1 := by kernel_rfl
  rw [hc] at hsz
  obtain ⟨l⟩ := cs
  match xs, hlen, l, hsz with
  | [y0, y1, y2], _, [v0, v1, v2], _ =>
    have g0 := hx 0 _ rfl
    have g1 := hx 1 _ rfl
    have g2 := hx 2 _ rfl
    simp [Value.cells, cI] at g0
    simp [Value.cells, cP] at g1
    simp [Value.cells, cS] at g2
    obtain ⟨x0, q0, _⟩ := DataW.trod_int Try.underlying3 g0
    obtain ⟨x2, q2, _, z2⟩ := DataW.trod_string Try.underlying9 g2
    obtain ⟨a, m, c, PC, rfl, e, hm, _⟩ := pc_came g1
    obtain rfl := (List.cons.inj q0).1
    obtain rfl := (List.cons.inj q2).1
    exact ⟨x0, a, m, c, PC, x2, rfl, e, hm, z2⟩
end Go.Proofs.Ytiagpeefambggab
