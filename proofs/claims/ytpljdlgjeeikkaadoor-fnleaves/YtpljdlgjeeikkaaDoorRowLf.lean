/-
  Rows of leaves of a call's own, nil ones too: append; slices.Clone (written by tools/mkleaf.py).
-/
import Derived.Test.YtpljdlgjeeikkaaDoorLeafS
import Derived.Test.YtpljdlgjeeikkaaDoorEOg
import Derived.Lib.SliceRun
import Derived.Lib.AppendZeros
namespace Go.Proofs.YtpljdlgjeeikkaaDoor
open Go.ChangeShapes Go.WideShapes Go.ChangeAt Go.RowKit
set_option linter.unusedVariables false
set_option maxRecDepth 100000 in
theorem appLf (w : World) (B : Nat) (v : Value) (n q : Nat) (R : Nat → Lf) (x : Lf) (hB : B ≤ w.heap.size) (hn : n ≤ 100000) (h : EO w B 26 2 v n (lfF R)) (hx : ∀ j, j < 2 → w.cell? ⟨q, 0 + j, none⟩ = some (lfV x j)) :
    ∃ v' w', (∀ ty, (Builtin.append_ #[23, 23] ty #[v, .slice (some ⟨q, 0, none⟩) 1 1]).run Tryd.prog w = .ok v' w') ∧ EO w' B 26 2 v' (n + 1) (lfF (updE R n x)) ∧ w.grownBy w' v.ownBlock ∧ (v'.ownBlock = v.ownBlock ∨ v'.ownBlock = some w.heap.size) := by
  obtain ⟨i, hi, hz, hsz, hby⟩ := info_parts Tryd.infoLf
  obtain ⟨v', w', hr, ho, hg, _, hloc⟩ := run_append_own_at (P := Tryd.prog) w B 23 23 26 i _ 2 24 Tryd.underlying23 hi hz hsz hby rfl (by decide) v n _ h ⟨q, 0, none⟩ 1 1 ((List.range 2).map (lfV x)) (by simp) (fun j u hj => by
    rw [Go.WideShapes.add_plain]
    rw [List.getElem?_map, Option.map_eq_some_iff] at hj
    obtain ⟨b, hb, rfl⟩ := hj
    obtain ⟨hj', rfl⟩ := List.getElem?_eq_some_iff.1 hb
    rw [List.getElem_range]
    exact hx j (by simpa using hj')) (fun u hu => by
      obtain ⟨j, hj, rfl⟩ := List.mem_map.1 hu
      have := List.mem_range.1 hj
      rcases (show j = 0 ∨ j = 1 by omega) with rfl | rfl <;> rfl) (by unfold maxLen; omega) (by omega) hB
  refine ⟨v', w', fun ty => hr, ?_, hg, hloc⟩
  unfold EO
  rw [elv_snoc, elv_congr (G := lfF R) (fun i hi j hj => by unfold lfF updE; rw [if_neg (by omega)])]
  have e : (List.range 2).map (lfF (updE R n x) n) = (List.range 2).map (lfV x) := by unfold lfF updE; simp
  rw [e]
  exact ho
set_option maxRecDepth 100000 in
theorem oneLf (Q : Nat → Lf) (m : Nat) : ∀ u ∈ elv 2 m (lfF Q), u.oneCell' = true := fun u hu => by
  unfold elv at hu
  obtain ⟨i, _, rfl⟩ := List.mem_map.1 hu
  have hj : i % 2 < 2 := Nat.mod_lt _ (by omega)
  generalize i % 2 = j at hj
  rcases (show j = 0 ∨ j = 1 by omega) with rfl | rfl <;> rfl
set_option maxRecDepth 100000 in
theorem allLf (w : World) (B : Nat) (v : Value) (n : Nat) (R : Nat → Lf) (a : Option Addr) (m c : Nat) (Q : Nat → Lf) (hB : B ≤ w.heap.size) (hn : n + m ≤ 100000) (h : EO w B 26 2 v n (lfF R)) (hs : Els w 2 a m (lfF Q)) (ha : a = none → c = 0) :
    ∃ v' w', (∀ ty, (Builtin.append_ #[23, 23] ty #[v, .slice a m c]).run Tryd.prog w = .ok v' w') ∧ EO w' B 26 2 v' (n + m) (lfF (catE n R Q)) ∧ w.grownBy w' v.ownBlock ∧ (v'.ownBlock = v.ownBlock ∨ v'.ownBlock = some w.heap.size) := by
  obtain ⟨i, hi, hz, hsz, hby⟩ := info_parts Tryd.infoLf
  have hcat : elv 2 (n + m) (lfF (catE n R Q)) = elv 2 n (lfF R) ++ elv 2 m (lfF Q) := elv_cat 2 n (lfF R) (lfF Q) _ (fun i hi => by unfold lfF; rw [catE_lt _ _ hi]) (fun i => by unfold lfF; rw [catE_at]) m
  have some_ : ∀ ad : Addr, (∀ (j : Nat) (u : Value), (elv 2 m (lfF Q))[j]? = some u → w.cell? (ad.add j) = some u) → ∃ v' w', (∀ ty, (Builtin.append_ #[23, 23] ty #[v, .slice (some ad) m c]).run Tryd.prog w = .ok v' w') ∧ EO w' B 26 2 v' (n + m) (lfF (catE n R Q)) ∧ w.grownBy w' v.ownBlock ∧ (v'.ownBlock = v.ownBlock ∨ v'.ownBlock = some w.heap.size) := fun ad hnews => by
    obtain ⟨v', w', hr, ho, hg, _, hloc⟩ := run_append_own_at (P := Tryd.prog) w B 23 23 26 i _ 2 24 Tryd.underlying23 hi hz hsz hby rfl (by decide) v n _ h ad m c (elv 2 m (lfF Q)) (elv_length _ _ _) hnews (oneLf Q m) (by unfold maxLen; omega) (by omega) hB
    exact ⟨v', w', fun ty => hr, by unfold EO; rw [hcat]; exact ho, hg, hloc⟩
  by_cases h0 : m = 0
  · subst h0
    cases a with
    | none =>
      obtain rfl := ha rfl
      exact ⟨v, w, fun ty => run_append_owned_none w B 23 ty 26 i 2 Tryd.underlying23 hi v n _ h, by unfold EO; rw [hcat]; simpa [elv, EO] using h, ⟨rfl, rfl, rfl, Nat.le_refl _, fun _ _ _ => rfl⟩, .inl rfl⟩
    | some ad => exact some_ ad (fun j u hj => by simp [elv] at hj)
  · obtain ⟨b, off, rfl, hc⟩ := hs.opened (by omega)
    exact some_ _ (elv_news hc)
/-- A row of one's own is handed back. -/
def RetLf (n : Nat) (Q : Nat → Lf) (B : Nat) (e : Ending) (w : World) : Prop := ∃ a c, e = .returned (.slice a n c) ∧ EO w B 26 2 (.slice a n c) n (lfF Q)
set_option maxRecDepth 100000 in
theorem cloneLf_any (a : Option Addr) (n c : Nat) (Q : Nat → Lf) (w : World) (hn : n ≤ 100000) (h : Els w 2 a n (lfF Q)) (ha : a = none → n = 0 ∧ c = 0) :
    Calls Tryd.prog 36 #[.slice a n c] w fun e w' => RetLf n Q w.heap.size e w' ∧ Below w.heap.size w w' := by
  have q : ∀ (w : World) (a : Option Addr) (n c n' c' : Nat), (binOp .eql 23 (.slice a n c) (.slice none n' c')).run Tryd.prog w = .ok (.bool a.isNone) w := fun w a n c n' c' => Lib.run_eql_slice_nil w _ _ a n c n' c' Tryd.underlying23
  cases a with
  | none =>
    obtain ⟨rfl, rfl⟩ := ha rfl
    have HR : Hid (RetLf 0 Q w.heap.size (.returned (.slice none 0 0)) w) := ⟨none, 0, rfl, EO.nil _ _ _ _ _⟩
    clear h ha
    go_enter Tryd.func36, Tryd.ntmps36
    go_wp2
    go_ret
    exact ⟨HR.out, Below.refl _ _⟩
  | some ad =>
    have h1 := h.below ((Below.refl w.heap.size w).alloc (Nat.le_refl _) (.cells #[] 26))
    have E0 : EO (w.alloc (.cells #[] 26)) w.heap.size 26 2 (.slice (some ⟨w.heap.size, 0, none⟩) 0 0) 0 (lfF Q) := by
      unfold EO
      exact World.ownsRow_made w #[] 0 (Nat.le_refl _) (Nat.zero_le _) (by simp)
    obtain ⟨v', w', hr, ho, hg, _⟩ := allLf _ w.heap.size _ 0 Q (some ad) n c Q (by simp) (by omega) E0 h1 (fun e => by cases e)
    rw [Nat.zero_add, catE_zero] at ho
    obtain ⟨a', c', rfl⟩ := ho.form
    have HR : Hid (RetLf n Q w.heap.size (.returned (.slice a' n c')) w') := ⟨_, _, rfl, ho⟩
    have HB : Hid (Below w.heap.size w w') := ((Below.refl _ w).alloc (Nat.le_refl _) _).grown hg (by simp) (by intro k hk; simp [Value.ownBlock] at hk; omega)
    clear h h1 E0 ha ho hg
    go_enter Tryd.func36, Tryd.ntmps36
    go_wp2_with (at_builtin; refine Lib.wpList_append_run _ rfl (.tmp 5) (.tmp 6) 23 23 rfl (.slice (some ⟨w.heap.size, 0, none⟩) 0 0) (.slice (some ad) n c) rfl rfl _ _ (hr _) ?_)
    go_ret
    exact ⟨HR.out, HB.out⟩
end Go.Proofs.YtpljdlgjeeikkaaDoor
