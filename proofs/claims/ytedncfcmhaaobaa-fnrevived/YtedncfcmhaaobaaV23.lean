/-
  Texts of the proof, joined: QuP.
-/
import Derived.Test.YtedncfcmhaaobaaV22
import Derived.Test.YtedncfcmhaaobaaV12
namespace Go.Proofs.Ytedncfcmhaaobaa
open Go.ChangeShapes Go.WideShapes Go.ChangeAt Go.RowKit
set_option linter.unusedVariables false
theorem Try.infoWo : (Try.prog.info? 37).map (fun i => (i.zero, i.size, i.bytes)) = some (some (.agg #[.int .i64 0, .int .i64 0, .slice none 0 0, .int .i64 0, .int .i64 0]), 5, 56) := by kernel_rfl
set_option maxRecDepth 100000 in
theorem appWo (w : World) (B : Nat) (v : Value) (n q : Nat) (R : Nat → Wo) (V : Nat → Value) (x : Wo) (y : Value) (hy : y.oneCell' = true) (hB : B ≤ w.heap.size) (hn : n ≤ 100000) (h : EO w B 37 5 v n (woF R V)) (hx : ∀ j, j < 5 → w.cell? ⟨q, 0 + j, none⟩ = some (woV x y j)) :
  ∃ v' w', (∀ ty, (Builtin.append_ #[25, 25] ty #[v, .slice (some ⟨q, 0, none⟩) 1 1]).run Try.prog w = .ok v' w') ∧ EO w' B 37 5 v' (n + 1) (woF (updE R n x) (updE V n y)) ∧ w.grownBy w' v.ownBlock ∧ (v'.ownBlock = v.ownBlock ∨ v'.ownBlock = some w.heap.size) := by
 obtain ⟨i, hi, hz, hsz, hby⟩ := info_parts Try.infoWo
 obtain ⟨v', w', hr, ho, hg, _, hloc⟩ := run_append_own_at (P := Try.prog) w B 25 25 37 i _ 5 56 Try.underlying25 hi hz hsz hby rfl (by decide) v n _ h ⟨q, 0, none⟩ 1 1 ((List.range 5).map (woV x y)) (by simp) (fun j u hj => by
  rw [Go.WideShapes.add_plain]
  rw [List.getElem?_map, Option.map_eq_some_iff] at hj
  obtain ⟨b, hb, rfl⟩ := hj
  obtain ⟨hj', rfl⟩ := List.getElem?_eq_some_iff.1 hb
  rw [List.getElem_range]
  exact hx j (by simpa using hj')) (fun u hu => by
   obtain ⟨j, hj, rfl⟩ := List.mem_map.1 hu
   have := List.mem_range.1 hj
   rcases (show j = 0 ∨ j = 1 ∨ j = 2 ∨ j = 3 ∨ j = 4 by omega) with rfl | rfl | rfl | rfl | rfl
   all_goals first | rfl | exact hy) (by unfold maxLen; omega) (by omega) hB
 refine ⟨v', w', fun ty => hr, ?_, hg, hloc⟩
 unfold EO
 rw [elv_snoc, elv_congr (G := woF R V) (fun i hi j hj => by unfold woF updE; rw [if_neg (by omega), if_neg (by omega)])]
 have e : (List.range 5).map (woF (updE R n x) (updE V n y) n) = (List.range 5).map (woV x y) := by unfold woF updE; simp
 rw [e]
 exact ho
theorem Try.infoRo : (Try.prog.info? 90).map (fun i => (i.zero, i.size, i.bytes)) = some (some (.agg #[.slice none 0 0, .int .i64 0, .int .i64 0, .int .i64 0, .int .i64 0]), 5, 56) := by kernel_rfl
set_option maxRecDepth 100000 in
theorem appRo (w : World) (B : Nat) (v : Value) (n q : Nat) (R : Nat → Ro) (V : Nat → Value) (x : Ro) (y : Value) (hy : y.oneCell' = true) (hB : B ≤ w.heap.size) (hn : n ≤ 100000) (h : EO w B 90 5 v n (roF R V)) (hx : ∀ j, j < 5 → w.cell? ⟨q, 0 + j, none⟩ = some (roV x y j)) :
  ∃ v' w', (∀ ty, (Builtin.append_ #[26, 26] ty #[v, .slice (some ⟨q, 0, none⟩) 1 1]).run Try.prog w = .ok v' w') ∧ EO w' B 90 5 v' (n + 1) (roF (updE R n x) (updE V n y)) ∧ w.grownBy w' v.ownBlock ∧ (v'.ownBlock = v.ownBlock ∨ v'.ownBlock = some w.heap.size) := by
 obtain ⟨i, hi, hz, hsz, hby⟩ := info_parts Try.infoRo
 obtain ⟨v', w', hr, ho, hg, _, hloc⟩ := run_append_own_at (P := Try.prog) w B 26 26 90 i _ 5 56 Try.underlying26 hi hz hsz hby rfl (by decide) v n _ h ⟨q, 0, none⟩ 1 1 ((List.range 5).map (roV x y)) (by simp) (fun j u hj => by
  rw [Go.WideShapes.add_plain]
  rw [List.getElem?_map, Option.map_eq_some_iff] at hj
  obtain ⟨b, hb, rfl⟩ := hj
  obtain ⟨hj', rfl⟩ := List.getElem?_eq_some_iff.1 hb
  rw [List.getElem_range]
  exact hx j (by simpa using hj')) (fun u hu => by
   obtain ⟨j, hj, rfl⟩ := List.mem_map.1 hu
   have := List.mem_range.1 hj
   rcases (show j = 0 ∨ j = 1 ∨ j = 2 ∨ j = 3 ∨ j = 4 by omega) with rfl | rfl | rfl | rfl | rfl
   all_goals first | rfl | exact hy) (by unfold maxLen; omega) (by omega) hB
 refine ⟨v', w', fun ty => hr, ?_, hg, hloc⟩
 unfold EO
 rw [elv_snoc, elv_congr (G := roF R V) (fun i hi j hj => by unfold roF updE; rw [if_neg (by omega), if_neg (by omega)])]
 have e : (List.range 5).map (roF (updE R n x) (updE V n y) n) = (List.range 5).map (roV x y) := by unfold roF updE; simp
 rw [e]
 exact ho
end Go.Proofs.Ytedncfcmhaaobaa
