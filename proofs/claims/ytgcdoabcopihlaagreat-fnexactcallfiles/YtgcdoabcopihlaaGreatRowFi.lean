/-
  Rows of files of a call's own, nil ones too: append; slices.Clone (written by tools/mkfile.py).
-/
import Derived.Test.YtgcdoabcopihlaaGreatFileS
import Derived.Test.YtgcdoabcopihlaaGreatEOg
import Derived.Lib.SliceRun
import Derived.Lib.AppendZeros
namespace Go.Proofs.YtgcdoabcopihlaaGreat
open Go.ChangeShapes Go.WideShapes Go.ChangeAt Go.RowKit
set_option linter.unusedVariables false
set_option maxRecDepth 100000 in
theorem appFi (w : World) (B : Nat) (v : Value) (n q : Nat) (R : Nat → Fi) (x : Fi) (hB : B ≤ w.heap.size) (hn : n ≤ 100000) (h : EO w B 51 3 v n (fiF R)) (hx : ∀ j, j < 3 → w.cell? ⟨q, 0 + j, none⟩ = some (fiV x j)) :
    ∃ v' w', (∀ ty, (Builtin.append_ #[23, 23] ty #[v, .slice (some ⟨q, 0, none⟩) 1 1]).run Tryz.prog w = .ok v' w') ∧ EO w' B 51 3 v' (n + 1) (fiF (updE R n x)) ∧ w.grownBy w' v.ownBlock ∧ (v'.ownBlock = v.ownBlock ∨ v'.ownBlock = some w.heap.size) := by
  obtain ⟨i, hi, hz, hsz, hby⟩ := info_parts Tryz.infoFi
  obtain ⟨v', w', hr, ho, hg, _, hloc⟩ := run_append_own_at (P := Tryz.prog) w B 23 23 51 i _ 3 40 Tryz.underlying23 hi hz hsz hby rfl (by decide) v n _ h ⟨q, 0, none⟩ 1 1 ((List.range 3).map (fiV x)) (by simp) (fun j u hj => by
    rw [Go.WideShapes.add_plain]
    rw [List.getElem?_map, Option.map_eq_some_iff] at hj
    obtain ⟨b, hb, rfl⟩ := hj
    obtain ⟨hj', rfl⟩ := List.getElem?_eq_some_iff.1 hb
    rw [List.getElem_range]
    exact hx j (by simpa using hj')) (fun u hu => by
      obtain ⟨j, hj, rfl⟩ := List.mem_map.1 hu
      have := List.mem_range.1 hj
      rcases (show j = 0 ∨ j = 1 ∨ j = 2 by omega) with rfl | rfl | rfl <;> rfl) (by unfold maxLen; omega) (by omega) hB
  refine ⟨v', w', fun ty => hr, ?_, hg, hloc⟩
  unfold EO
  rw [elv_snoc, elv_congr (G := fiF R) (fun i hi j hj => by unfold fiF updE; rw [if_neg (by omega)])]
  have e : (List.range 3).map (fiF (updE R n x) n) = (List.range 3).map (fiV x) := by unfold fiF updE; simp
  rw [e]
  exact ho
set_option maxRecDepth 100000 in
theorem oneFi (Q : Nat → Fi) (m : Nat) : ∀ u ∈ elv 3 m (fiF Q), u.oneCell' = true := fun u hu => by
  unfold elv at hu
  obtain ⟨i, _, rfl⟩ := List.mem_map.1 hu
  have hj : i % 3 < 3 := Nat.mod_lt _ (by omega)
  generalize i % 3 = j at hj
  rcases (show j = 0 ∨ j = 1 ∨ j = 2 by omega) with rfl | rfl | rfl <;> rfl
set_option maxRecDepth 100000 in
theorem allFi (w : World) (B : Nat) (v : Value) (n : Nat) (R : Nat → Fi) (a : Option Addr) (m c : Nat) (Q : Nat → Fi) (hB : B ≤ w.heap.size) (hn : n + m ≤ 100000) (h : EO w B 51 3 v n (fiF R)) (hs : Els w 3 a m (fiF Q)) (ha : a = none → c = 0) :
    ∃ v' w', (∀ ty, (Builtin.append_ #[23, 23] ty #[v, .slice a m c]).run Tryz.prog w = .ok v' w') ∧ EO w' B 51 3 v' (n + m) (fiF (catE n R Q)) ∧ w.grownBy w' v.ownBlock ∧ (v'.ownBlock = v.ownBlock ∨ v'.ownBlock = some w.heap.size) := by
  obtain ⟨i, hi, hz, hsz, hby⟩ := info_parts Tryz.infoFi
  have hcat : elv 3 (n + m) (fiF (catE n R Q)) = elv 3 n (fiF R) ++ elv 3 m (fiF Q) := elv_cat 3 n (fiF R) (fiF Q) _ (fun i hi => by unfold fiF; rw [catE_lt _ _ hi]) (fun i => by unfold fiF; rw [catE_at]) m
  have some_ : ∀ ad : Addr, (∀ (j : Nat) (u : Value), (elv 3 m (fiF Q))[j]? = some u → w.cell? (ad.add j) = some u) → ∃ v' w', (∀ ty, (Builtin.append_ #[23, 23] ty #[v, .slice (some ad) m c]).run Tryz.prog w = .ok v' w') ∧ EO w' B 51 3 v' (n + m) (fiF (catE n R Q)) ∧ w.grownBy w' v.ownBlock ∧ (v'.ownBlock = v.ownBlock ∨ v'.ownBlock = some w.heap.size) := fun ad hnews => by
    obtain ⟨v', w', hr, ho, hg, _, hloc⟩ := run_append_own_at (P := Tryz.prog) w B 23 23 51 i _ 3 40 Tryz.underlying23 hi hz hsz hby rfl (by decide) v n _ h ad m c (elv 3 m (fiF Q)) (elv_length _ _ _) hnews (oneFi Q m) (by unfold maxLen; omega) (by omega) hB
    exact ⟨v', w', fun ty => hr, by unfold EO; rw [hcat]; exact ho, hg, hloc⟩
  by_cases h0 : m = 0
  · subst h0
    cases a with
    | none =>
      obtain rfl := ha rfl
      exact ⟨v, w, fun ty => run_append_owned_none w B 23 ty 51 i 3 Tryz.underlying23 hi v n _ h, by unfold EO; rw [hcat]; simpa [elv, EO] using h, ⟨rfl, rfl, rfl, Nat.le_refl _, fun _ _ _ => rfl⟩, .inl rfl⟩
    | some ad => exact some_ ad (fun j u hj => by simp [elv] at hj)
  · obtain ⟨b, off, rfl, hc⟩ := hs.opened (by omega)
    exact some_ _ (elv_news hc)
/-- A row of one's own is handed back. -/
def RetFi (n : Nat) (Q : Nat → Fi) (B : Nat) (e : Ending) (w : World) : Prop := ∃ a c, e = .returned (.slice a n c) ∧ EO w B 51 3 (.slice a n c) n (fiF Q)
set_option maxRecDepth 100000 in
theorem cloneFi_any (a : Option Addr) (n c : Nat) (Q : Nat → Fi) (w : World) (hn : n ≤ 100000) (h : Els w 3 a n (fiF Q)) (ha : a = none → n = 0 ∧ c = 0) :
    Calls Tryz.prog 23 #[.slice a n c] w fun e w' => RetFi n Q w.heap.size e w' ∧ Below w.heap.size w w' := by
  have q : ∀ (w : World) (a : Option Addr) (n c n' c' : Nat), (binOp .eql 23 (.slice a n c) (.slice none n' c')).run Tryz.prog w = .ok (.bool a.isNone) w := fun w a n c n' c' => Lib.run_eql_slice_nil w _ _ a n c n' c' Tryz.underlying23
  cases a with
  | none =>
    obtain ⟨rfl, rfl⟩ := ha rfl
    have HR : Hid (RetFi 0 Q w.heap.size (.returned (.slice none 0 0)) w) := ⟨none, 0, rfl, EO.nil _ _ _ _ _⟩
    clear h ha
    go_enter Tryz.func23, Tryz.ntmps23
    go_wp2
    go_ret
    exact ⟨HR.out, Below.refl _ _⟩
  | some ad =>
    have h1 := h.below ((Below.refl w.heap.size w).alloc (Nat.le_refl _) (.cells #[] 51))
    have E0 : EO (w.alloc (.cells #[] 51)) w.heap.size 51 3 (.slice (some ⟨w.heap.size, 0, none⟩) 0 0) 0 (fiF Q) := by
      unfold EO
      exact World.ownsRow_made w #[] 0 (Nat.le_refl _) (Nat.zero_le _) (by simp)
    obtain ⟨v', w', hr, ho, hg, _⟩ := allFi _ w.heap.size _ 0 Q (some ad) n c Q (by simp) (by omega) E0 h1 (fun e => by cases e)
    rw [Nat.zero_add, catE_zero] at ho
    obtain ⟨a', c', rfl⟩ := ho.form
    have HR : Hid (RetFi n Q w.heap.size (.returned (.slice a' n c')) w') := ⟨_, _, rfl, ho⟩
    have HB : Hid (Below w.heap.size w w') := ((Below.refl _ w).alloc (Nat.le_refl _) _).grown hg (by simp) (by intro k hk; simp [Value.ownBlock] at hk; omega)
    clear h h1 E0 ha ho hg
    go_enter Tryz.func23, Tryz.ntmps23
    go_wp2_with (at_builtin; refine Lib.wpList_append_run _ rfl (.tmp 5) (.tmp 6) 23 23 rfl (.slice (some ⟨w.heap.size, 0, none⟩) 0 0) (.slice (some ad) n c) rfl rfl _ _ (hr _) ?_)
    go_ret
    exact ⟨HR.out, HB.out⟩
end Go.Proofs.YtgcdoabcopihlaaGreat
