/-
  Texts of the proof, joined: RowEO.
-/
import Derived.Test.YtpngjkhncfbnpaaDoorR15
import Derived.Test.YtpngjkhncfbnpaaDoorR16
import Derived.Test.YtpngjkhncfbnpaaDoorR12
namespace Go.Proofs.YtpngjkhncfbnpaaDoor
open Go.ChangeShapes Go.WideShapes Go.ChangeAt Go.RowKit
set_option linter.unusedVariables false
set_option maxRecDepth 100000 in
theorem appRg (w : World) (B : Nat) (v : Value) (n q : Nat) (R : Nat → Rg) (x : Rg) (hB : B ≤ w.heap.size) (hn : n ≤ 100000) (h : EO w B 54 3 v n (rgF R)) (hx : ∀ j, j < 3 → w.cell? ⟨q, 0 + j, none⟩ = some (rgV x j)) :
    ∃ v' w', (∀ ty, (Builtin.append_ #[43, 43] ty #[v, .slice (some ⟨q, 0, none⟩) 1 1]).run Tryd.prog w = .ok v' w') ∧ EO w' B 54 3 v' (n + 1) (rgF (updE R n x)) ∧ w.grownBy w' v.ownBlock ∧ (v'.ownBlock = v.ownBlock ∨ v'.ownBlock = some w.heap.size) := by
  obtain ⟨i, hi, hz, hsz, hby⟩ := info_parts Tryd.infoRg
  obtain ⟨v', w', hr, ho, hg, _, hloc⟩ := run_append_own_at (P := Tryd.prog) w B 43 43 54 i _ 3 32 Tryd.underlying43 hi hz hsz hby rfl (by decide) v n _ h ⟨q, 0, none⟩ 1 1 ((List.range 3).map (rgV x)) (by simp) (fun j u hj => by
    rw [Go.WideShapes.add_plain]
    rw [List.getElem?_map, Option.map_eq_some_iff] at hj
    obtain ⟨b, hb, rfl⟩ := hj
    obtain ⟨hj', rfl⟩ := List.getElem?_eq_some_iff.1 hb
    rw [List.getElem_range]
    exact hx j (by simpa using hj')) (fun u hu => by
      obtain ⟨j, hj, rfl⟩ := List.mem_map.1 hu
      have := List.mem_range.1 hj
      rcases (show j = 0 ∨ j = 1 ∨ j = 2 by omega) with rfl | rfl | rfl <;> rfl) (by unfold maxLen; omega) (by omega) hB
  refine ⟨v', w', fun ty => hr, ?_, hg, hloc⟩
  unfold EO
  rw [elv_snoc, elv_congr (G := rgF R) (fun i hi j hj => by unfold rgF updE; rw [if_neg (by omega)])]
  have e : (List.range 3).map (rgF (updE R n x) n) = (List.range 3).map (rgV x) := by unfold rgF updE; simp
  rw [e]
  exact ho
set_option maxRecDepth 100000 in
theorem appSe (w : World) (B : Nat) (v : Value) (n q : Nat) (R : Nat → Se) (x : Se) (hB : B ≤ w.heap.size) (hn : n ≤ 100000) (h : EO w B 100 4 v n (seF R)) (hx : ∀ j, j < 4 → w.cell? ⟨q, 0 + j, none⟩ = some (seV x j)) :
    ∃ v' w', (∀ ty, (Builtin.append_ #[44, 44] ty #[v, .slice (some ⟨q, 0, none⟩) 1 1]).run Tryd.prog w = .ok v' w') ∧ EO w' B 100 4 v' (n + 1) (seF (updE R n x)) ∧ w.grownBy w' v.ownBlock ∧ (v'.ownBlock = v.ownBlock ∨ v'.ownBlock = some w.heap.size) := by
  obtain ⟨i, hi, hz, hsz, hby⟩ := info_parts Tryd.infoSe
  obtain ⟨v', w', hr, ho, hg, _, hloc⟩ := run_append_own_at (P := Tryd.prog) w B 44 44 100 i _ 4 32 Tryd.underlying44 hi hz hsz hby rfl (by decide) v n _ h ⟨q, 0, none⟩ 1 1 ((List.range 4).map (seV x)) (by simp) (fun j u hj => by
    rw [Go.WideShapes.add_plain]
    rw [List.getElem?_map, Option.map_eq_some_iff] at hj
    obtain ⟨b, hb, rfl⟩ := hj
    obtain ⟨hj', rfl⟩ := List.getElem?_eq_some_iff.1 hb
    rw [List.getElem_range]
    exact hx j (by simpa using hj')) (fun u hu => by
      obtain ⟨j, hj, rfl⟩ := List.mem_map.1 hu
      have := List.mem_range.1 hj
      rcases (show j = 0 ∨ j = 1 ∨ j = 2 ∨ j = 3 by omega) with rfl | rfl | rfl | rfl <;> rfl) (by unfold maxLen; omega) (by omega) hB
  refine ⟨v', w', fun ty => hr, ?_, hg, hloc⟩
  unfold EO
  rw [elv_snoc, elv_congr (G := seF R) (fun i hi j hj => by unfold seF updE; rw [if_neg (by omega)])]
  have e : (List.range 4).map (seF (updE R n x) n) = (List.range 4).map (seV x) := by unfold seF updE; simp
  rw [e]
  exact ho
end Go.Proofs.YtpngjkhncfbnpaaDoor
