/-
  Files among the arguments, opened (written by tools/mkfile.py).
-/
import Derived.Test.YtgcdoabcopihlaaGreatFileS
import Derived.ProofKit
import Derived.OpenShut
import Derived.ShutString
import Derived.ChangeOld
import Derived.Below
import Derived.Carry
import Derived.ChangeSame
import Derived.Deep.Slices
import Derived.Deep.SlicePairs
import Derived.Deep.Grids
namespace Go.Proofs.YtgcdoabcopihlaaGreat
open Go.ChangeShapes Go.WideShapes Go.ChangeAt Go.RowKit
set_option linter.unusedVariables false
set_option maxRecDepth 100000 in
theorem fi_came {H : Type} {enc : TypeId × Value → H} {W : World} {fuel : Nat} {x : Value} {y : DataW H × List MemPlace} (h : DataW.trod enc Tryz.prog W 0 (fun _ => true) true fuel 35 [x] = some y) :
    ∃ (a : Option Addr) (n c : Nat) (FI : Nat → Fi), x = .slice a n c ∧ Els W 3 a n (fiF FI) ∧ n ≤ maxLen ∧ ∀ i, i < n → (FI i).p.size ≤ maxLen ∧ (FI i).t.size ≤ maxLen := by
  rcases Deep.open_slice Tryz.underlying35 h with ⟨hcs, _⟩ | ⟨a, len, cap, m, n, D, Pl, hcs, _, hl, hm, hmm, _, hx⟩
  · cases hcs
    exact ⟨none, 0, 0, fun _ => fiZ, rfl, fun i hi => absurd hi (by omega), Nat.zero_le _, fun i hi => absurd hi (by omega)⟩
  · cases hcs
    have hmm' : m = cap := by simpa using hmm
    have ce : Tryz.prog.cellsOf 63 = 3 := by kernel_rfl
    have cI : Tryz.prog.cellsOf 3 = 1 := by kernel_rfl
    have cS : Tryz.prog.cellsOf 9 = 1 := by kernel_rfl
    have cB : Tryz.prog.cellsOf 4 = 1 := by kernel_rfl
    have each : ∀ i, i < len → ∃ r : Fi, (r.p.size ≤ maxLen ∧ r.t.size ≤ maxLen) ∧ ∀ j, j < 3 → W.cell? (a.add (i * 3 + j)) = some (fiV r j) := fun i hi => by
      obtain ⟨cs', h1, h2⟩ := hx i (by omega)
      rw [ce] at h1
      obtain ⟨_, hlen, hcell⟩ := World.cells?_some h1
      obtain ⟨xs, k, hk, hxy, _, hxl, hf⟩ := DataW.trod_struct Tryz.underlying63 h2
      match xs, hxl, cs', hlen with
      | [y0, y1, y2], _, [v0, v1, v2], _ =>
        have g0 := hf 0 _ rfl
        have g1 := hf 1 _ rfl
        have g2 := hf 2 _ rfl
        simp [cS] at g0
        simp [cB] at g1
        simp [cS] at g2
        obtain ⟨x0, q0, _, z0⟩ := DataW.trod_string Tryz.underlying9 g0
        obtain rfl := (List.cons.inj q0).1
        obtain ⟨x1, q1, _⟩ := DataW.trod_bool Tryz.underlying4 g1
        obtain rfl := (List.cons.inj q1).1
        obtain ⟨x2, q2, _, z2⟩ := DataW.trod_string Tryz.underlying9 g2
        obtain rfl := (List.cons.inj q2).1
        refine ⟨⟨x0, x1, x2⟩, ⟨z0, z2⟩, fun j hj => ?_⟩
        have e := hcell j (by simpa using hj)
        rw [Deep.add_add] at e
        rw [e]
        rcases (show j = 0 ∨ j = 1 ∨ j = 2 by omega) with rfl | rfl | rfl <;> rfl
    have : Inhabited Fi := ⟨fiZ⟩
    obtain ⟨FI, hR⟩ := Deep.choose_lt each
    refine ⟨some a, len, cap, FI, rfl, fun i hi => ?_, Nat.le_trans hl hm, fun i hi => (hR i hi).1⟩
    obtain ⟨b, off, spot⟩ := a
    have hspot : spot = none := by simpa [Addr.add] using World.cell?_spot ((hR 0 (by omega)).2 0 (by omega))
    subst hspot
    refine ⟨b, off, rfl, fun j hj => ?_⟩
    have e := (hR i hi).2 j hj
    rw [Go.WideShapes.add_plain] at e
    rw [Nat.add_assoc]
    exact e
end Go.Proofs.YtgcdoabcopihlaaGreat
