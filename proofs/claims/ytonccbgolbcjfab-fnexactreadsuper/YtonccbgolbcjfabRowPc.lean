/-
  Rows of places of a call's own, nil ones too: append (written by tools/mkplace.py).
-/
import Derived.Test.YtonccbgolbcjfabPlaceS
import Derived.Test.YtonccbgolbcjfabEOg
import Derived.Lib.SliceRun
import Derived.Lib.AppendZeros
namespace Go.Proofs.Ytonccbgolbcjfab
open Go.ChangeShapes Go.WideShapes Go.ChangeAt Go.RowKit
set_option linter.unusedVariables false
set_option maxRecDepth 100000 in
theorem appPlc (w : World) (B : Nat) (v : Value) (n q : Nat) (R : Nat → Plc) (x : Plc) (hB : B ≤ w.heap.size) (hn : n ≤ 100000) (h : EO w B 53 2 v n (pcF R)) (hx : ∀ j, j < 2 → w.cell? ⟨q, 0 + j, none⟩ = some (pcV x j)) :
    ∃ v' w', (∀ ty, (Builtin.append_ #[27, 27] ty #[v, .slice (some ⟨q, 0, none⟩) 1 1]).run Try.prog w = .ok v' w') ∧ EO w' B 53 2 v' (n + 1) (pcF (updE R n x)) ∧ w.grownBy w' v.ownBlock ∧ (v'.ownBlock = v.ownBlock ∨ v'.ownBlock = some w.heap.size) := by
  obtain ⟨i, hi, hz, hsz, hby⟩ := info_parts Try.infoPlc
  obtain ⟨v', w', hr, ho, hg, _, hloc⟩ := run_append_own_at (P := Try.prog) w B 27 27 53 i _ 2 16 Try.underlying27 hi hz hsz hby rfl (by decide) v n _ h ⟨q, 0, none⟩ 1 1 ((List.range 2).map (pcV x)) (by simp) (fun j u hj => by
    rw [Go.WideShapes.add_plain]
    rw [List.getElem?_map, Option.map_eq_some_iff] at hj
    obtain ⟨b, hb, rfl⟩ := hj
    obtain ⟨hj', rfl⟩ := List.getElem?_eq_some_iff.1 hb
    rw [List.getElem_range]
    exact hx j (by simpa using hj')) (fun u hu => by
      obtain ⟨j, hj, rfl⟩ := List.mem_map.1 hu
      have := List.mem_range.1 hj
      rcases (show j = 0 ∨ j = 1 by omega) with rfl | rfl <;> rfl) (by unfold maxLen; omega) (by omega) hB
  refine ⟨v', w', fun ty => hr, ?_, hg, hloc⟩
  unfold EO
  rw [elv_snoc, elv_congr (G := pcF R) (fun i hi j hj => by unfold pcF updE; rw [if_neg (by omega)])]
  have e : (List.range 2).map (pcF (updE R n x) n) = (List.range 2).map (pcV x) := by unfold pcF updE; simp
  rw [e]
  exact ho
end Go.Proofs.Ytonccbgolbcjfab
