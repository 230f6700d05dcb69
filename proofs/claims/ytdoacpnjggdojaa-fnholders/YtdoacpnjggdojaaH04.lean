/-
  The quorum: a service in rows of a call's own (lists of numbers too); rows of other types lie apart.
-/
import Derived.Test.YtdoacpnjggdojaaH03
import Derived.Test.YtdoacpnjggdojaaSvcG
import Derived.Test.YtdoacpnjggdojaaSvcZ
namespace Go.Proofs.Ytdoacpnjggdojaa
open Go.ChangeShapes Go.WideShapes Go.ChangeAt Go.RowKit
set_option linter.unusedVariables false
/-- Rows of two types lie in two blocks. -/
theorem EO.apart {w : World} {B B' : Nat} {t t' : TypeId} {s s' n n' : Nat} {v v' : Value} {F F' : Nat → Nat → Value} (h : EO w B t s v n F) (h' : EO w B' t' s' v' n' F') (ht : t ≠ t') (g : Nat) (e : v.ownBlock = some g) : v'.ownBlock ≠ some g := fun e' => by
  obtain ⟨hl, ⟨h1, _⟩ | ⟨g1, cap, cur, hv, _, hh, _⟩⟩ := h
  · rw [h1] at e; cases e
  · obtain ⟨hl', ⟨h1', _⟩ | ⟨g2, cap', cur', hv', _, hh', _⟩⟩ := h'
    · rw [h1'] at e'; cases e'
    · rw [hv] at e
      rw [hv'] at e'
      have e1 : g1 = g := Option.some.inj e
      have e2 : g2 = g := Option.some.inj e'
      rw [e1] at hh
      rw [e2, hh] at hh'
      cases hh'
      exact ht rfl
/-- A service in rows of a call's own. -/
structure SvO (w : World) (B : Nat) (s : Sv) (vr vw vq : Value) (VR VW VQ : Nat → Value) : Prop where
  r : EO w B 50 8 vr s.n (rpF s.R VR)
  x : EO w B 43 5 vw s.m (woF s.W VW)
  q : EO w B 41 5 vq s.l (roF s.Q VQ)
  e : ∀ i, i < s.n → IE w B (VR i) (s.R i).ne (s.R i).E
  a : ∀ i, i < s.m → IE w B (VW i) (s.W i).ne (s.W i).E
  f : ∀ i, i < s.l → IE w B (VQ i) (s.Q i).ne (s.Q i).E
theorem SvO.below {w w' : World} {B : Nat} {s : Sv} {vr vw vq : Value} {VR VW VQ : Nat → Value} (h : SvO w B s vr vw vq VR VW VQ) (hb : Below w.heap.size w w') : SvO w' B s vr vw vq VR VW VQ :=
  ⟨h.r.below hb, h.x.below hb, h.q.below hb, fun i hi => EO.below (h.e i hi) hb, fun i hi => EO.below (h.a i hi) hb, fun i hi => EO.below (h.f i hi) hb⟩
theorem SvO.mono {w : World} {B B' : Nat} {s : Sv} {vr vw vq : Value} {VR VW VQ : Nat → Value} (h : SvO w B s vr vw vq VR VW VQ) (hB : B' ≤ B) : SvO w B' s vr vw vq VR VW VQ :=
  ⟨h.r.mono hB, h.x.mono hB, h.q.mono hB, fun i hi => EO.mono (h.e i hi) hB, fun i hi => EO.mono (h.a i hi) hB, fun i hi => EO.mono (h.f i hi) hB⟩
/-- Each list of numbers has a block of its own. -/
def SvD (s : Sv) (VR VW VQ : Nat → Value) : Prop :=
  (∀ i j g, i < s.n → j < s.n → (VR i).ownBlock = some g → (VR j).ownBlock = some g → i = j) ∧
  (∀ i j g, i < s.m → j < s.m → (VW i).ownBlock = some g → (VW j).ownBlock = some g → i = j) ∧
  (∀ i j g, i < s.l → j < s.l → (VQ i).ownBlock = some g → (VQ j).ownBlock = some g → i = j) ∧
  (∀ i j g, i < s.n → j < s.m → (VR i).ownBlock = some g → (VW j).ownBlock ≠ some g) ∧
  (∀ i j g, i < s.n → j < s.l → (VR i).ownBlock = some g → (VQ j).ownBlock ≠ some g) ∧
  (∀ i j g, i < s.m → j < s.l → (VW i).ownBlock = some g → (VQ j).ownBlock ≠ some g)
end Go.Proofs.Ytdoacpnjggdojaa

/-
  Rows of writes and of reads that grow (written by tools/mkqup.py).
-/
namespace Go.Proofs.Ytdoacpnjggdojaa
open Go.ChangeShapes Go.WideShapes Go.ChangeAt Go.RowKit
set_option linter.unusedVariables false
theorem Try.infoWo : (Try.prog.info? 43).map (fun i => (i.zero, i.size, i.bytes)) = some (some (.agg #[.int .i64 0, .int .i64 0, .slice none 0 0, .int .i64 0, .int .i64 0]), 5, 56) := by kernel_rfl
set_option maxRecDepth 100000 in
theorem appWo (w : World) (B : Nat) (v : Value) (n q : Nat) (R : Nat → Wo) (V : Nat → Value) (x : Wo) (y : Value) (hy : y.oneCell' = true) (hB : B ≤ w.heap.size) (hn : n ≤ 100000) (h : EO w B 43 5 v n (woF R V)) (hx : ∀ j, j < 5 → w.cell? ⟨q, 0 + j, none⟩ = some (woV x y j)) :
    ∃ v' w', (∀ ty, (Builtin.append_ #[27, 27] ty #[v, .slice (some ⟨q, 0, none⟩) 1 1]).run Try.prog w = .ok v' w') ∧ EO w' B 43 5 v' (n + 1) (woF (updE R n x) (updE V n y)) ∧ w.grownBy w' v.ownBlock ∧ (v'.ownBlock = v.ownBlock ∨ v'.ownBlock = some w.heap.size) := by
  obtain ⟨i, hi, hz, hsz, hby⟩ := info_parts Try.infoWo
  obtain ⟨v', w', hr, ho, hg, _, hloc⟩ := run_append_own_at (P := Try.prog) w B 27 27 43 i _ 5 56 Try.underlying27 hi hz hsz hby rfl (by decide) v n _ h ⟨q, 0, none⟩ 1 1 ((List.range 5).map (woV x y)) (by simp) (fun j u hj => by
    rw [Go.WideShapes.add_plain]
    rw [List.getElem?_map, Option.map_eq_some_iff] at hj
    obtain ⟨b, hb, rfl⟩ := hj
    obtain ⟨hj', rfl⟩ := List.getElem?_eq_some_iff.1 hb
    rw [List.getElem_range]
    exact hx j (by simpa using hj')) (fun u hu => by
      obtain ⟨j, hj, rfl⟩ := List.mem_map.1 hu
      have := List.mem_range.1 hj
      rcases (show j = 0 ∨ j = 1 ∨ j = 2 ∨ j = 3 ∨ j = 4 by omega) with rfl | rfl | rfl | rfl | rfl
      all_goals first | rfl | exact hy) (by unfold maxLen; omega) (by omega) hB
  refine ⟨v', w', fun ty => hr, ?_, hg, hloc⟩
  unfold EO
  rw [elv_snoc, elv_congr (G := woF R V) (fun i hi j hj => by unfold woF updE; rw [if_neg (by omega), if_neg (by omega)])]
  have e : (List.range 5).map (woF (updE R n x) (updE V n y) n) = (List.range 5).map (woV x y) := by unfold woF updE; simp
  rw [e]
  exact ho
theorem Try.infoRo : (Try.prog.info? 41).map (fun i => (i.zero, i.size, i.bytes)) = some (some (.agg #[.slice none 0 0, .int .i64 0, .int .i64 0, .int .i64 0, .int .i64 0]), 5, 56) := by kernel_rfl
set_option maxRecDepth 100000 in
theorem appRo (w : World) (B : Nat) (v : Value) (n q : Nat) (R : Nat → Ro) (V : Nat → Value) (x : Ro) (y : Value) (hy : y.oneCell' = true) (hB : B ≤ w.heap.size) (hn : n ≤ 100000) (h : EO w B 41 5 v n (roF R V)) (hx : ∀ j, j < 5 → w.cell? ⟨q, 0 + j, none⟩ = some (roV x y j)) :
    ∃ v' w', (∀ ty, (Builtin.append_ #[28, 28] ty #[v, .slice (some ⟨q, 0, none⟩) 1 1]).run Try.prog w = .ok v' w') ∧ EO w' B 41 5 v' (n + 1) (roF (updE R n x) (updE V n y)) ∧ w.grownBy w' v.ownBlock ∧ (v'.ownBlock = v.ownBlock ∨ v'.ownBlock = some w.heap.size) := by
  obtain ⟨i, hi, hz, hsz, hby⟩ := info_parts Try.infoRo
  obtain ⟨v', w', hr, ho, hg, _, hloc⟩ := run_append_own_at (P := Try.prog) w B 28 28 41 i _ 5 56 Try.underlying28 hi hz hsz hby rfl (by decide) v n _ h ⟨q, 0, none⟩ 1 1 ((List.range 5).map (roV x y)) (by simp) (fun j u hj => by
    rw [Go.WideShapes.add_plain]
    rw [List.getElem?_map, Option.map_eq_some_iff] at hj
    obtain ⟨b, hb, rfl⟩ := hj
    obtain ⟨hj', rfl⟩ := List.getElem?_eq_some_iff.1 hb
    rw [List.getElem_range]
    exact hx j (by simpa using hj')) (fun u hu => by
      obtain ⟨j, hj, rfl⟩ := List.mem_map.1 hu
      have := List.mem_range.1 hj
      rcases (show j = 0 ∨ j = 1 ∨ j = 2 ∨ j = 3 ∨ j = 4 by omega) with rfl | rfl | rfl | rfl | rfl
      all_goals first | rfl | exact hy) (by unfold maxLen; omega) (by omega) hB
  refine ⟨v', w', fun ty => hr, ?_, hg, hloc⟩
  unfold EO
  rw [elv_snoc, elv_congr (G := roF R V) (fun i hi j hj => by unfold roF updE; rw [if_neg (by omega), if_neg (by omega)])]
  have e : (List.range 5).map (roF (updE R n x) (updE V n y) n) = (List.range 5).map (roV x y) := by unfold roF updE; simp
  rw [e]
  exact ho
end Go.Proofs.Ytdoacpnjggdojaa
