/-
  Texts of the proof, joined: RowEO, RowEA.
-/
import Derived.Test.YtpngjkhncfbnpaaDoorV15
import Derived.Test.YtpngjkhncfbnpaaDoorV16
import Derived.Test.YtpngjkhncfbnpaaDoorV12
import Derived.Lib.SliceRun
import Derived.Lib.AppendZeros
namespace Go.Proofs.YtpngjkhncfbnpaaDoor
open Go.ChangeShapes Go.WideShapes Go.ChangeAt Go.RowKit
set_option linter.unusedVariables false
set_option maxRecDepth 100000 in
theorem appRg (w : World) (B : Nat) (v : Value) (n q : Nat) (R : Nat → Rg) (x : Rg) (hB : B ≤ w.heap.size) (hn : n ≤ 100000) (h : EO w B 54 3 v n (rgF R)) (hx : ∀ j, j < 3 → w.cell? ⟨q, 0 + j, none⟩ = some (rgV x j)) :
    ∃ v' w', (∀ ty, (Builtin.append_ #[43, 43] ty #[v, .slice (some ⟨q, 0, none⟩) 1 1]).run Tryd.prog w = .ok v' w') ∧ EO w' B 54 3 v' (n + 1) (rgF (updE R n x)) ∧ w.grownBy w' v.ownBlock ∧ (v'.ownBlock = v.ownBlock ∨ v'.ownBlock = some w.heap.size) := by
  obtain ⟨i, hi, hz, hsz, hby⟩ := info_parts Tryd.infoRg
  obtain ⟨v', w', hr, ho, hg, _, hloc⟩ := run_append_own_at (P := Tryd.prog) w B 43 43 54 i _ 3 32 Tryd.underlying43 hi hz hsz hby rfl (by decide) v n _ h ⟨q, 0, none⟩ 1 1 ((List.range 3).map (rgV x)) (by simp) (fun j u hj => by
    rw [Go.WideShapes.add_plain]
    rw [List.getElem?_map, Option.map_eq_some_iff] at hj
    obtain ⟨b, hb, rfl⟩ := hj
    obtain ⟨hj', rfl⟩ := List.getElem?_eq_some_iff.1 hb
    rw [List.getElem_range]
    exact hx j (by simpa using hj')) (fun u hu => by
      obtain ⟨j, hj, rfl⟩ := List.mem_map.1 hu
      have := List.mem_range.1 hj
      rcases (show j = 0 ∨ j = 1 ∨ j = 2 by omega) with rfl | rfl | rfl <;> rfl) (by unfold maxLen; omega) (by omega) hB
  refine ⟨v', w', fun ty => hr, ?_, hg, hloc⟩
  unfold EO
  rw [elv_snoc, elv_congr (G := rgF R) (fun i hi j hj => by unfold rgF updE; rw [if_neg (by omega)])]
  have e : (List.range 3).map (rgF (updE R n x) n) = (List.range 3).map (rgV x) := by unfold rgF updE; simp
  rw [e]
  exact ho
set_option maxRecDepth 100000 in
theorem appSe (w : World) (B : Nat) (v : Value) (n q : Nat) (R : Nat → Se) (x : Se) (hB : B ≤ w.heap.size) (hn : n ≤ 100000) (h : EO w B 100 4 v n (seF R)) (hx : ∀ j, j < 4 → w.cell? ⟨q, 0 + j, none⟩ = some (seV x j)) :
    ∃ v' w', (∀ ty, (Builtin.append_ #[44, 44] ty #[v, .slice (some ⟨q, 0, none⟩) 1 1]).run Tryd.prog w = .ok v' w') ∧ EO w' B 100 4 v' (n + 1) (seF (updE R n x)) ∧ w.grownBy w' v.ownBlock ∧ (v'.ownBlock = v.ownBlock ∨ v'.ownBlock = some w.heap.size) := by
  obtain ⟨i, hi, hz, hsz, hby⟩ := info_parts Tryd.infoSe
  obtain ⟨v', w', hr, ho, hg, _, hloc⟩ := run_append_own_at (P := Tryd.prog) w B 44 44 100 i _ 4 32 Tryd.underlying44 hi hz hsz hby rfl (by decide) v n _ h ⟨q, 0, none⟩ 1 1 ((List.range 4).map (seV x)) (by simp) (fun j u hj => by
    rw [Go.WideShapes.add_plain]
    rw [List.getElem?_map, Option.map_eq_some_iff] at hj
    obtain ⟨b, hb, rfl⟩ := hj
    obtain ⟨hj', rfl⟩ := List.getElem?_eq_some_iff.1 hb
    rw [List.getElem_range]
    exact hx j (by simpa using hj')) (fun u hu => by
      obtain ⟨j, hj, rfl⟩ := List.mem_map.1 hu
      have := List.mem_range.1 hj
      rcases (show j = 0 ∨ j = 1 ∨ j = 2 ∨ j = 3 by omega) with rfl | rfl | rfl | rfl <;> rfl) (by unfold maxLen; omega) (by omega) hB
  refine ⟨v', w', fun ty => hr, ?_, hg, hloc⟩
  unfold EO
  rw [elv_snoc, elv_congr (G := seF R) (fun i hi j hj => by unfold seF updE; rw [if_neg (by omega)])]
  have e : (List.range 4).map (seF (updE R n x) n) = (List.range 4).map (seV x) := by unfold seF updE; simp
  rw [e]
  exact ho
end Go.Proofs.YtpngjkhncfbnpaaDoor
namespace Go.Proofs.YtpngjkhncfbnpaaDoor
open Go.ChangeShapes Go.WideShapes Go.ChangeAt Go.RowKit
set_option linter.unusedVariables false
set_option maxRecDepth 100000 in
theorem oneRg (Q : Nat → Rg) (m : Nat) : ∀ u ∈ elv 3 m (rgF Q), u.oneCell' = true := fun u hu => by
  unfold elv at hu
  obtain ⟨i, _, rfl⟩ := List.mem_map.1 hu
  have hj : i % 3 < 3 := Nat.mod_lt _ (by omega)
  generalize i % 3 = j at hj
  rcases (show j = 0 ∨ j = 1 ∨ j = 2 by omega) with rfl | rfl | rfl <;> rfl
set_option maxRecDepth 100000 in
theorem allRg (w : World) (B : Nat) (v : Value) (n : Nat) (R : Nat → Rg) (a : Option Addr) (m c : Nat) (Q : Nat → Rg) (hB : B ≤ w.heap.size) (hn : n + m ≤ 100000) (h : EO w B 54 3 v n (rgF R)) (hs : Els w 3 a m (rgF Q)) (ha : a = none → c = 0) :
    ∃ v' w', (∀ ty, (Builtin.append_ #[43, 43] ty #[v, .slice a m c]).run Tryd.prog w = .ok v' w') ∧ EO w' B 54 3 v' (n + m) (rgF (catE n R Q)) ∧ w.grownBy w' v.ownBlock ∧ (v'.ownBlock = v.ownBlock ∨ v'.ownBlock = some w.heap.size) := by
  obtain ⟨i, hi, hz, hsz, hby⟩ := info_parts Tryd.infoRg
  have hcat : elv 3 (n + m) (rgF (catE n R Q)) = elv 3 n (rgF R) ++ elv 3 m (rgF Q) := elv_cat 3 n (rgF R) (rgF Q) _ (fun i hi => by unfold rgF; rw [catE_lt _ _ hi]) (fun i => by unfold rgF; rw [catE_at]) m
  have some_ : ∀ ad : Addr, (∀ (j : Nat) (u : Value), (elv 3 m (rgF Q))[j]? = some u → w.cell? (ad.add j) = some u) → ∃ v' w', (∀ ty, (Builtin.append_ #[43, 43] ty #[v, .slice (some ad) m c]).run Tryd.prog w = .ok v' w') ∧ EO w' B 54 3 v' (n + m) (rgF (catE n R Q)) ∧ w.grownBy w' v.ownBlock ∧ (v'.ownBlock = v.ownBlock ∨ v'.ownBlock = some w.heap.size) := fun ad hnews => by
    obtain ⟨v', w', hr, ho, hg, _, hloc⟩ := run_append_own_at (P := Tryd.prog) w B 43 43 54 i _ 3 32 Tryd.underlying43 hi hz hsz hby rfl (by decide) v n _ h ad m c (elv 3 m (rgF Q)) (elv_length _ _ _) hnews (oneRg Q m) (by unfold maxLen; omega) (by omega) hB
    exact ⟨v', w', fun ty => hr, by unfold EO; rw [hcat]; exact ho, hg, hloc⟩
  by_cases h0 : m = 0
  · subst h0
    cases a with
    | none =>
      obtain rfl := ha rfl
      exact ⟨v, w, fun ty => run_append_owned_none w B 43 ty 54 i 3 Tryd.underlying43 hi v n _ h, by unfold EO; rw [hcat]; simpa [elv, EO] using h, ⟨rfl, rfl, rfl, Nat.le_refl _, fun _ _ _ => rfl⟩, .inl rfl⟩
    | some ad => exact some_ ad (fun j u hj => by simp [elv] at hj)
  · obtain ⟨b, off, rfl, hc⟩ := hs.opened (by omega)
    exact some_ _ (elv_news hc)
def RetRg (n : Nat) (Q : Nat → Rg) (B : Nat) (e : Ending) (w : World) : Prop := ∃ a c, e = .returned (.slice a n c) ∧ EO w B 54 3 (.slice a n c) n (rgF Q)
set_option maxRecDepth 100000 in
theorem cloneRg_any (a : Option Addr) (n c : Nat) (Q : Nat → Rg) (w : World) (hn : n ≤ 100000) (h : Els w 3 a n (rgF Q)) (ha : a = none → n = 0 ∧ c = 0) :
    Calls Tryd.prog 59 #[.slice a n c] w fun e w' => RetRg n Q w.heap.size e w' ∧ Below w.heap.size w w' := by
  have q : ∀ (w : World) (a : Option Addr) (n c n' c' : Nat), (binOp .eql 43 (.slice a n c) (.slice none n' c')).run Tryd.prog w = .ok (.bool a.isNone) w := fun w a n c n' c' => Lib.run_eql_slice_nil w _ _ a n c n' c' Tryd.underlying43
  cases a with
  | none =>
    obtain ⟨rfl, rfl⟩ := ha rfl
    have HR : Hid (RetRg 0 Q w.heap.size (.returned (.slice none 0 0)) w) := ⟨none, 0, rfl, EO.nil _ _ _ _ _⟩
    clear h ha
    go_enter Tryd.func59, Tryd.ntmps59
    go_wp2
    go_ret
    exact ⟨HR.out, Below.refl _ _⟩
  | some ad =>
    have h1 := h.below ((Below.refl w.heap.size w).alloc (Nat.le_refl _) (.cells #[] 54))
    have E0 : EO (w.alloc (.cells #[] 54)) w.heap.size 54 3 (.slice (some ⟨w.heap.size, 0, none⟩) 0 0) 0 (rgF Q) := by
      unfold EO
      exact World.ownsRow_made w #[] 0 (Nat.le_refl _) (Nat.zero_le _) (by simp)
    obtain ⟨v', w', hr, ho, hg, _⟩ := allRg _ w.heap.size _ 0 Q (some ad) n c Q (by simp) (by omega) E0 h1 (fun e => by cases e)
    rw [Nat.zero_add, catE_zero] at ho
    obtain ⟨a', c', rfl⟩ := ho.form
    have HR : Hid (RetRg n Q w.heap.size (.returned (.slice a' n c')) w') := ⟨_, _, rfl, ho⟩
    have HB : Hid (Below w.heap.size w w') := ((Below.refl _ w).alloc (Nat.le_refl _) _).grown hg (by simp) (by intro k hk; simp [Value.ownBlock] at hk; omega)
    clear h h1 E0 ha ho hg
    go_enter Tryd.func59, Tryd.ntmps59
    go_wp2_with (at_builtin; refine Lib.wpList_append_run _ rfl (.tmp 5) (.tmp 6) 43 43 rfl (.slice (some ⟨w.heap.size, 0, none⟩) 0 0) (.slice (some ad) n c) rfl rfl _ _ (hr _) ?_)
    go_ret
    exact ⟨HR.out, HB.out⟩
set_option maxRecDepth 100000 in
theorem oneSe (Q : Nat → Se) (m : Nat) : ∀ u ∈ elv 4 m (seF Q), u.oneCell' = true := fun u hu => by
  unfold elv at hu
  obtain ⟨i, _, rfl⟩ := List.mem_map.1 hu
  have hj : i % 4 < 4 := Nat.mod_lt _ (by omega)
  generalize i % 4 = j at hj
  rcases (show j = 0 ∨ j = 1 ∨ j = 2 ∨ j = 3 by omega) with rfl | rfl | rfl | rfl <;> rfl
set_option maxRecDepth 100000 in
theorem allSe (w : World) (B : Nat) (v : Value) (n : Nat) (R : Nat → Se) (a : Option Addr) (m c : Nat) (Q : Nat → Se) (hB : B ≤ w.heap.size) (hn : n + m ≤ 100000) (h : EO w B 100 4 v n (seF R)) (hs : Els w 4 a m (seF Q)) (ha : a = none → c = 0) :
    ∃ v' w', (∀ ty, (Builtin.append_ #[44, 44] ty #[v, .slice a m c]).run Tryd.prog w = .ok v' w') ∧ EO w' B 100 4 v' (n + m) (seF (catE n R Q)) ∧ w.grownBy w' v.ownBlock ∧ (v'.ownBlock = v.ownBlock ∨ v'.ownBlock = some w.heap.size) := by
  obtain ⟨i, hi, hz, hsz, hby⟩ := info_parts Tryd.infoSe
  have hcat : elv 4 (n + m) (seF (catE n R Q)) = elv 4 n (seF R) ++ elv 4 m (seF Q) := elv_cat 4 n (seF R) (seF Q) _ (fun i hi => by unfold seF; rw [catE_lt _ _ hi]) (fun i => by unfold seF; rw [catE_at]) m
  have some_ : ∀ ad : Addr, (∀ (j : Nat) (u : Value), (elv 4 m (seF Q))[j]? = some u → w.cell? (ad.add j) = some u) → ∃ v' w', (∀ ty, (Builtin.append_ #[44, 44] ty #[v, .slice (some ad) m c]).run Tryd.prog w = .ok v' w') ∧ EO w' B 100 4 v' (n + m) (seF (catE n R Q)) ∧ w.grownBy w' v.ownBlock ∧ (v'.ownBlock = v.ownBlock ∨ v'.ownBlock = some w.heap.size) := fun ad hnews => by
    obtain ⟨v', w', hr, ho, hg, _, hloc⟩ := run_append_own_at (P := Tryd.prog) w B 44 44 100 i _ 4 32 Tryd.underlying44 hi hz hsz hby rfl (by decide) v n _ h ad m c (elv 4 m (seF Q)) (elv_length _ _ _) hnews (oneSe Q m) (by unfold maxLen; omega) (by omega) hB
    exact ⟨v', w', fun ty => hr, by unfold EO; rw [hcat]; exact ho, hg, hloc⟩
  by_cases h0 : m = 0
  · subst h0
    cases a with
    | none =>
      obtain rfl := ha rfl
      exact ⟨v, w, fun ty => run_append_owned_none w B 44 ty 100 i 4 Tryd.underlying44 hi v n _ h, by unfold EO; rw [hcat]; simpa [elv, EO] using h, ⟨rfl, rfl, rfl, Nat.le_refl _, fun _ _ _ => rfl⟩, .inl rfl⟩
    | some ad => exact some_ ad (fun j u hj => by simp [elv] at hj)
  · obtain ⟨b, off, rfl, hc⟩ := hs.opened (by omega)
    exact some_ _ (elv_news hc)
def RetSe (n : Nat) (Q : Nat → Se) (B : Nat) (e : Ending) (w : World) : Prop := ∃ a c, e = .returned (.slice a n c) ∧ EO w B 100 4 (.slice a n c) n (seF Q)
set_option maxRecDepth 100000 in
theorem cloneSe_any (a : Option Addr) (n c : Nat) (Q : Nat → Se) (w : World) (hn : n ≤ 100000) (h : Els w 4 a n (seF Q)) (ha : a = none → n = 0 ∧ c = 0) :
    Calls Tryd.prog 60 #[.slice a n c] w fun e w' => RetSe n Q w.heap.size e w' ∧ Below w.heap.size w w' := by
  have q : ∀ (w : World) (a : Option Addr) (n c n' c' : Nat), (binOp .eql 44 (.slice a n c) (.slice none n' c')).run Tryd.prog w = .ok (.bool a.isNone) w := fun w a n c n' c' => Lib.run_eql_slice_nil w _ _ a n c n' c' Tryd.underlying44
  cases a with
  | none =>
    obtain ⟨rfl, rfl⟩ := ha rfl
    have HR : Hid (RetSe 0 Q w.heap.size (.returned (.slice none 0 0)) w) := ⟨none, 0, rfl, EO.nil _ _ _ _ _⟩
    clear h ha
    go_enter Tryd.func60, Tryd.ntmps60
    go_wp2
    go_ret
    exact ⟨HR.out, Below.refl _ _⟩
  | some ad =>
    have h1 := h.below ((Below.refl w.heap.size w).alloc (Nat.le_refl _) (.cells #[] 100))
    have E0 : EO (w.alloc (.cells #[] 100)) w.heap.size 100 4 (.slice (some ⟨w.heap.size, 0, none⟩) 0 0) 0 (seF Q) := by
      unfold EO
      exact World.ownsRow_made w #[] 0 (Nat.le_refl _) (Nat.zero_le _) (by simp)
    obtain ⟨v', w', hr, ho, hg, _⟩ := allSe _ w.heap.size _ 0 Q (some ad) n c Q (by simp) (by omega) E0 h1 (fun e => by cases e)
    rw [Nat.zero_add, catE_zero] at ho
    obtain ⟨a', c', rfl⟩ := ho.form
    have HR : Hid (RetSe n Q w.heap.size (.returned (.slice a' n c')) w') := ⟨_, _, rfl, ho⟩
    have HB : Hid (Below w.heap.size w w') := ((Below.refl _ w).alloc (Nat.le_refl _) _).grown hg (by simp) (by intro k hk; simp [Value.ownBlock] at hk; omega)
    clear h h1 E0 ha ho hg
    go_enter Tryd.func60, Tryd.ntmps60
    go_wp2_with (at_builtin; refine Lib.wpList_append_run _ rfl (.tmp 5) (.tmp 6) 44 44 rfl (.slice (some ⟨w.heap.size, 0, none⟩) 0 0) (.slice (some ad) n c) rfl rfl _ _ (hr _) ?_)
    go_ret
    exact ⟨HR.out, HB.out⟩
end Go.Proofs.YtpngjkhncfbnpaaDoor
