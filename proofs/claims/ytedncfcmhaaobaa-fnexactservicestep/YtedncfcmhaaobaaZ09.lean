/-
  Texts of the proof, joined: SvcS.
-/
import Derived.Test.YtedncfcmhaaobaaZ08
namespace Go.Proofs.Ytedncfcmhaaobaa
open Go.ChangeShapes Go.WideShapes Go.ChangeAt Go.RowKit
set_option linter.unusedVariables false
set_option maxRecDepth 100000 in
theorem appRp (w : World) (B : Nat) (v : Value) (n q : Nat) (R : Nat → Rp) (V : Nat → Value) (x : Rp) (y : Value) (hy : y.oneCell' = true) (hB : B ≤ w.heap.size) (hn : n ≤ 100000) (h : EO w B 43 8 v n (rpF R V)) (hx : ∀ j, j < 8 → w.cell? ⟨q, 0 + j, none⟩ = some (rpV x y j)) :
  ∃ v' w', (∀ ty, (Builtin.append_ #[24, 24] ty #[v, .slice (some ⟨q, 0, none⟩) 1 1]).run Try.prog w = .ok v' w') ∧ EO w' B 43 8 v' (n + 1) (rpF (updE R n x) (updE V n y)) ∧ w.grownBy w' v.ownBlock ∧ (v'.ownBlock = v.ownBlock ∨ v'.ownBlock = some w.heap.size) := by
 obtain ⟨i, hi, hz, hsz, hby⟩ := info_parts Try.infoRp
 obtain ⟨v', w', hr, ho, hg, _, hloc⟩ := run_append_own_at (P := Try.prog) w B 24 24 43 i _ 8 80 Try.underlying24 hi hz hsz hby rfl (by decide) v n _ h ⟨q, 0, none⟩ 1 1 ((List.range 8).map (rpV x y)) (by simp) (fun j u hj => by
  rw [Go.WideShapes.add_plain]
  rw [List.getElem?_map, Option.map_eq_some_iff] at hj
  obtain ⟨b, hb, rfl⟩ := hj
  obtain ⟨hj', rfl⟩ := List.getElem?_eq_some_iff.1 hb
  rw [List.getElem_range]
  exact hx j (by simpa using hj')) (fun u hu => by
   obtain ⟨j, hj, rfl⟩ := List.mem_map.1 hu
   have := List.mem_range.1 hj
   rcases (show j = 0 ∨ j = 1 ∨ j = 2 ∨ j = 3 ∨ j = 4 ∨ j = 5 ∨ j = 6 ∨ j = 7 by omega) with rfl | rfl | rfl | rfl | rfl | rfl | rfl | rfl
   all_goals first | rfl | exact hy) (by unfold maxLen; omega) (by omega) hB
 refine ⟨v', w', fun ty => hr, ?_, hg, hloc⟩
 unfold EO
 rw [elv_snoc, elv_congr (G := rpF R V) (fun i hi j hj => by unfold rpF updE; rw [if_neg (by omega), if_neg (by omega)])]
 have e : (List.range 8).map (rpF (updE R n x) (updE V n y) n) = (List.range 8).map (rpV x y) := by unfold rpF updE; simp
 rw [e]
 exact ho
theorem EO.notIs {w : World} {B : Nat} {e : TypeId} {s : Nat} {v : Value} {n : Nat} {F : Nat → Nat → Value} (h : EO w B e s v n F) {p m : Nat} {t : TypeId} {f : Nat → Value} (hp : w.rowIs p t m f) (ht : t ≠ e) : v.ownBlock ≠ some p := fun hg => by
 obtain ⟨hl, ⟨h1, _⟩ | ⟨g', cap, cur, hv, _, hh, _⟩⟩ := h
 ·rw [h1] at hg; cases hg
 ·rw [hv] at hg
  have q2 : g' = p := Option.some.inj hg
  obtain ⟨c, hc, _⟩ := hp
  rw [q2, hc] at hh
  cases hh
  exact ht rfl
end Go.Proofs.Ytedncfcmhaaobaa
