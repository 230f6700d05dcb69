/-
  Texts of the proof, joined: QuCl.
-/
import Derived.Test.YtedncfcmhaaobaaV21
import Derived.Test.YtedncfcmhaaobaaV23
import Derived.Test.YtedncfcmhaaobaaV09
import Derived.Lib.SliceRun
import Derived.Lib.AppendZeros
namespace Go.Proofs.Ytedncfcmhaaobaa
open Go.ChangeShapes Go.WideShapes Go.ChangeAt Go.RowKit
set_option linter.unusedVariables false
set_option maxRecDepth 100000 in
theorem oneRp (Q : Nat → Rp) (U : Nat → Value) (hU : ∀ i, (U i).oneCell' = true) (m : Nat) : ∀ u ∈ elv 8 m (rpF Q U), u.oneCell' = true := fun u hu => by
 unfold elv at hu
 obtain ⟨i, _, rfl⟩ := List.mem_map.1 hu
 have hj : i % 8 < 8 := Nat.mod_lt _ (by omega)
 have hv := hU (i / 8)
 generalize i % 8 = j at hj
 rcases (show j = 0 ∨ j = 1 ∨ j = 2 ∨ j = 3 ∨ j = 4 ∨ j = 5 ∨ j = 6 ∨ j = 7 by omega) with rfl | rfl | rfl | rfl | rfl | rfl | rfl | rfl
 all_goals first | rfl | exact hv
set_option maxRecDepth 100000 in
theorem allRp (w : World) (B : Nat) (v : Value) (n : Nat) (R : Nat → Rp) (V : Nat → Value) (a : Option Addr) (m c : Nat) (Q : Nat → Rp) (U : Nat → Value) (hU : ∀ i, (U i).oneCell' = true) (hB : B ≤ w.heap.size) (hn : n + m ≤ 100000) (h : EO w B 43 8 v n (rpF R V)) (hs : Els w 8 a m (rpF Q U)) (ha : a = none → c = 0) :
  ∃ v' w', (∀ ty, (Builtin.append_ #[24, 24] ty #[v, .slice a m c]).run Try.prog w = .ok v' w') ∧ EO w' B 43 8 v' (n + m) (rpF (catE n R Q) (catE n V U)) ∧ w.grownBy w' v.ownBlock ∧ (v'.ownBlock = v.ownBlock ∨ v'.ownBlock = some w.heap.size) := by
 obtain ⟨i, hi, hz, hsz, hby⟩ := info_parts Try.infoRp
 have hcat : elv 8 (n + m) (rpF (catE n R Q) (catE n V U)) = elv 8 n (rpF R V) ++ elv 8 m (rpF Q U) := elv_cat 8 n (rpF R V) (rpF Q U) _ (fun i hi => by unfold rpF; rw [catE_lt _ _ hi, catE_lt _ _ hi]) (fun i => by unfold rpF; rw [catE_at, catE_at]) m
 have some_ : ∀ ad : Addr, (∀ (j : Nat) (u : Value), (elv 8 m (rpF Q U))[j]? = some u → w.cell? (ad.add j) = some u) → ∃ v' w', (∀ ty, (Builtin.append_ #[24, 24] ty #[v, .slice (some ad) m c]).run Try.prog w = .ok v' w') ∧ EO w' B 43 8 v' (n + m) (rpF (catE n R Q) (catE n V U)) ∧ w.grownBy w' v.ownBlock ∧ (v'.ownBlock = v.ownBlock ∨ v'.ownBlock = some w.heap.size) := fun ad hnews => by
  obtain ⟨v', w', hr, ho, hg, _, hloc⟩ := run_append_own_at (P := Try.prog) w B 24 24 43 i _ 8 80 Try.underlying24 hi hz hsz hby rfl (by decide) v n _ h ad m c (elv 8 m (rpF Q U)) (elv_length _ _ _) hnews (oneRp Q U hU m) (by unfold maxLen; omega) (by omega) hB
  exact ⟨v', w', fun ty => hr, by unfold EO; rw [hcat]; exact ho, hg, hloc⟩
 by_cases h0 : m = 0
 ·subst h0
  cases a with
  | none =>
   obtain rfl := ha rfl
   exact ⟨v, w, fun ty => run_append_owned_none w B 24 ty 43 i 8 Try.underlying24 hi v n _ h, by unfold EO; rw [hcat]; simpa [elv, EO] using h, ⟨rfl, rfl, rfl, Nat.le_refl _, fun _ _ _ => rfl⟩, .inl rfl⟩
  | some ad => exact some_ ad (fun j u hj => by simp [elv] at hj)
 ·obtain ⟨b, off, rfl, hc⟩ := hs.opened (by omega)
  exact some_ _ (elv_news hc)
def RetCRp (n : Nat) (Q : Nat → Rp) (U : Nat → Value) (B : Nat) (e : Ending) (w : World) : Prop := ∃ a c, e = .returned (.slice a n c) ∧ EO w B 43 8 (.slice a n c) n (rpF Q U)
set_option maxRecDepth 100000 in
theorem cloneRp_any (a : Option Addr) (n c : Nat) (Q : Nat → Rp) (U : Nat → Value) (hU : ∀ i, (U i).oneCell' = true) (w : World) (hn : n ≤ 100000) (h : Els w 8 a n (rpF Q U)) (ha : a = none → n = 0 ∧ c = 0) :
  Calls Try.prog 67 #[.slice a n c] w fun e w' => RetCRp n Q U w.heap.size e w' ∧ Below w.heap.size w w' := by
 have q : ∀ (w : World) (a : Option Addr) (n c n' c' : Nat), (binOp .eql 24 (.slice a n c) (.slice none n' c')).run Try.prog w = .ok (.bool a.isNone) w := fun w a n c n' c' => Lib.run_eql_slice_nil w _ _ a n c n' c' Try.underlying24
 cases a with
 | none =>
  obtain ⟨rfl, rfl⟩ := ha rfl
  have HR : Hid (RetCRp 0 Q U w.heap.size (.returned (.slice none 0 0)) w) := ⟨none, 0, rfl, EO.nil _ _ _ _ _⟩
  clear h ha
  go_enter Try.func67, Try.ntmps67
  go_wp2
  go_ret
  exact ⟨HR.out, Below.refl _ _⟩
 | some ad =>
  have h1 := Els.below h ((Below.refl w.heap.size w).alloc (Nat.le_refl _) (.cells #[] 43))
  have E0 : EO (w.alloc (.cells #[] 43)) w.heap.size 43 8 (.slice (some ⟨w.heap.size, 0, none⟩) 0 0) 0 (rpF Q U) := by
   unfold EO
   exact World.ownsRow_made w #[] 0 (Nat.le_refl _) (Nat.zero_le _) (by simp)
  obtain ⟨v', w', hr, ho, hg, hl⟩ := allRp _ w.heap.size _ 0 Q U (some ad) n c Q U hU (by simp) (by omega) E0 h1 (fun e => by cases e)
  rw [Nat.zero_add, catE_zero, catE_zero] at ho
  obtain ⟨a', c', rfl⟩ := EO.form ho
  have HR : Hid (RetCRp n Q U w.heap.size (.returned (.slice a' n c')) w') := ⟨_, _, rfl, ho⟩
  have HB : Hid (Below w.heap.size w w') := ((Below.refl _ w).alloc (Nat.le_refl _) _).grown hg (by simp) (by intro k hk; simp [Value.ownBlock] at hk; omega)
  clear h h1 E0 ha ho hg
  go_enter Try.func67, Try.ntmps67
  go_wp2_with (at_builtin; refine Lib.wpList_append_run _ rfl (.tmp 5) (.tmp 6) 24 24 rfl (.slice (some ⟨w.heap.size, 0, none⟩) 0 0) (.slice (some ad) n c) rfl rfl _ _ (hr _) ?_)
  go_ret
  exact ⟨HR.out, HB.out⟩
set_option maxRecDepth 100000 in
theorem oneWo (Q : Nat → Wo) (U : Nat → Value) (hU : ∀ i, (U i).oneCell' = true) (m : Nat) : ∀ u ∈ elv 5 m (woF Q U), u.oneCell' = true := fun u hu => by
 unfold elv at hu
 obtain ⟨i, _, rfl⟩ := List.mem_map.1 hu
 have hj : i % 5 < 5 := Nat.mod_lt _ (by omega)
 have hv := hU (i / 5)
 generalize i % 5 = j at hj
 rcases (show j = 0 ∨ j = 1 ∨ j = 2 ∨ j = 3 ∨ j = 4 by omega) with rfl | rfl | rfl | rfl | rfl
 all_goals first | rfl | exact hv
set_option maxRecDepth 100000 in
theorem allWo (w : World) (B : Nat) (v : Value) (n : Nat) (R : Nat → Wo) (V : Nat → Value) (a : Option Addr) (m c : Nat) (Q : Nat → Wo) (U : Nat → Value) (hU : ∀ i, (U i).oneCell' = true) (hB : B ≤ w.heap.size) (hn : n + m ≤ 100000) (h : EO w B 37 5 v n (woF R V)) (hs : Els w 5 a m (woF Q U)) (ha : a = none → c = 0) :
  ∃ v' w', (∀ ty, (Builtin.append_ #[25, 25] ty #[v, .slice a m c]).run Try.prog w = .ok v' w') ∧ EO w' B 37 5 v' (n + m) (woF (catE n R Q) (catE n V U)) ∧ w.grownBy w' v.ownBlock ∧ (v'.ownBlock = v.ownBlock ∨ v'.ownBlock = some w.heap.size) := by
 obtain ⟨i, hi, hz, hsz, hby⟩ := info_parts Try.infoWo
 have hcat : elv 5 (n + m) (woF (catE n R Q) (catE n V U)) = elv 5 n (woF R V) ++ elv 5 m (woF Q U) := elv_cat 5 n (woF R V) (woF Q U) _ (fun i hi => by unfold woF; rw [catE_lt _ _ hi, catE_lt _ _ hi]) (fun i => by unfold woF; rw [catE_at, catE_at]) m
 have some_ : ∀ ad : Addr, (∀ (j : Nat) (u : Value), (elv 5 m (woF Q U))[j]? = some u → w.cell? (ad.add j) = some u) → ∃ v' w', (∀ ty, (Builtin.append_ #[25, 25] ty #[v, .slice (some ad) m c]).run Try.prog w = .ok v' w') ∧ EO w' B 37 5 v' (n + m) (woF (catE n R Q) (catE n V U)) ∧ w.grownBy w' v.ownBlock ∧ (v'.ownBlock = v.ownBlock ∨ v'.ownBlock = some w.heap.size) := fun ad hnews => by
  obtain ⟨v', w', hr, ho, hg, _, hloc⟩ := run_append_own_at (P := Try.prog) w B 25 25 37 i _ 5 56 Try.underlying25 hi hz hsz hby rfl (by decide) v n _ h ad m c (elv 5 m (woF Q U)) (elv_length _ _ _) hnews (oneWo Q U hU m) (by unfold maxLen; omega) (by omega) hB
  exact ⟨v', w', fun ty => hr, by unfold EO; rw [hcat]; exact ho, hg, hloc⟩
 by_cases h0 : m = 0
 ·subst h0
  cases a with
  | none =>
   obtain rfl := ha rfl
   exact ⟨v, w, fun ty => run_append_owned_none w B 25 ty 37 i 5 Try.underlying25 hi v n _ h, by unfold EO; rw [hcat]; simpa [elv, EO] using h, ⟨rfl, rfl, rfl, Nat.le_refl _, fun _ _ _ => rfl⟩, .inl rfl⟩
  | some ad => exact some_ ad (fun j u hj => by simp [elv] at hj)
 ·obtain ⟨b, off, rfl, hc⟩ := hs.opened (by omega)
  exact some_ _ (elv_news hc)
def RetCWo (n : Nat) (Q : Nat → Wo) (U : Nat → Value) (B : Nat) (e : Ending) (w : World) : Prop := ∃ a c, e = .returned (.slice a n c) ∧ EO w B 37 5 (.slice a n c) n (woF Q U)
set_option maxRecDepth 100000 in
theorem cloneWo_any (a : Option Addr) (n c : Nat) (Q : Nat → Wo) (U : Nat → Value) (hU : ∀ i, (U i).oneCell' = true) (w : World) (hn : n ≤ 100000) (h : Els w 5 a n (woF Q U)) (ha : a = none → n = 0 ∧ c = 0) :
  Calls Try.prog 68 #[.slice a n c] w fun e w' => RetCWo n Q U w.heap.size e w' ∧ Below w.heap.size w w' := by
 have q : ∀ (w : World) (a : Option Addr) (n c n' c' : Nat), (binOp .eql 25 (.slice a n c) (.slice none n' c')).run Try.prog w = .ok (.bool a.isNone) w := fun w a n c n' c' => Lib.run_eql_slice_nil w _ _ a n c n' c' Try.underlying25
 cases a with
 | none =>
  obtain ⟨rfl, rfl⟩ := ha rfl
  have HR : Hid (RetCWo 0 Q U w.heap.size (.returned (.slice none 0 0)) w) := ⟨none, 0, rfl, EO.nil _ _ _ _ _⟩
  clear h ha
  go_enter Try.func68, Try.ntmps68
  go_wp2
  go_ret
  exact ⟨HR.out, Below.refl _ _⟩
 | some ad =>
  have h1 := Els.below h ((Below.refl w.heap.size w).alloc (Nat.le_refl _) (.cells #[] 37))
  have E0 : EO (w.alloc (.cells #[] 37)) w.heap.size 37 5 (.slice (some ⟨w.heap.size, 0, none⟩) 0 0) 0 (woF Q U) := by
   unfold EO
   exact World.ownsRow_made w #[] 0 (Nat.le_refl _) (Nat.zero_le _) (by simp)
  obtain ⟨v', w', hr, ho, hg, hl⟩ := allWo _ w.heap.size _ 0 Q U (some ad) n c Q U hU (by simp) (by omega) E0 h1 (fun e => by cases e)
  rw [Nat.zero_add, catE_zero, catE_zero] at ho
  obtain ⟨a', c', rfl⟩ := EO.form ho
  have HR : Hid (RetCWo n Q U w.heap.size (.returned (.slice a' n c')) w') := ⟨_, _, rfl, ho⟩
  have HB : Hid (Below w.heap.size w w') := ((Below.refl _ w).alloc (Nat.le_refl _) _).grown hg (by simp) (by intro k hk; simp [Value.ownBlock] at hk; omega)
  clear h h1 E0 ha ho hg
  go_enter Try.func68, Try.ntmps68
  go_wp2_with (at_builtin; refine Lib.wpList_append_run _ rfl (.tmp 5) (.tmp 6) 25 25 rfl (.slice (some ⟨w.heap.size, 0, none⟩) 0 0) (.slice (some ad) n c) rfl rfl _ _ (hr _) ?_)
  go_ret
  exact ⟨HR.out, HB.out⟩
set_option maxRecDepth 100000 in
theorem oneRo (Q : Nat → Ro) (U : Nat → Value) (hU : ∀ i, (U i).oneCell' = true) (m : Nat) : ∀ u ∈ elv 5 m (roF Q U), u.oneCell' = true := fun u hu => by
 unfold elv at hu
 obtain ⟨i, _, rfl⟩ := List.mem_map.1 hu
 have hj : i % 5 < 5 := Nat.mod_lt _ (by omega)
 have hv := hU (i / 5)
 generalize i % 5 = j at hj
 rcases (show j = 0 ∨ j = 1 ∨ j = 2 ∨ j = 3 ∨ j = 4 by omega) with rfl | rfl | rfl | rfl | rfl
 all_goals first | rfl | exact hv
set_option maxRecDepth 100000 in
theorem allRo (w : World) (B : Nat) (v : Value) (n : Nat) (R : Nat → Ro) (V : Nat → Value) (a : Option Addr) (m c : Nat) (Q : Nat → Ro) (U : Nat → Value) (hU : ∀ i, (U i).oneCell' = true) (hB : B ≤ w.heap.size) (hn : n + m ≤ 100000) (h : EO w B 90 5 v n (roF R V)) (hs : Els w 5 a m (roF Q U)) (ha : a = none → c = 0) :
  ∃ v' w', (∀ ty, (Builtin.append_ #[26, 26] ty #[v, .slice a m c]).run Try.prog w = .ok v' w') ∧ EO w' B 90 5 v' (n + m) (roF (catE n R Q) (catE n V U)) ∧ w.grownBy w' v.ownBlock ∧ (v'.ownBlock = v.ownBlock ∨ v'.ownBlock = some w.heap.size) := by
 obtain ⟨i, hi, hz, hsz, hby⟩ := info_parts Try.infoRo
 have hcat : elv 5 (n + m) (roF (catE n R Q) (catE n V U)) = elv 5 n (roF R V) ++ elv 5 m (roF Q U) := elv_cat 5 n (roF R V) (roF Q U) _ (fun i hi => by unfold roF; rw [catE_lt _ _ hi, catE_lt _ _ hi]) (fun i => by unfold roF; rw [catE_at, catE_at]) m
 have some_ : ∀ ad : Addr, (∀ (j : Nat) (u : Value), (elv 5 m (roF Q U))[j]? = some u → w.cell? (ad.add j) = some u) → ∃ v' w', (∀ ty, (Builtin.append_ #[26, 26] ty #[v, .slice (some ad) m c]).run Try.prog w = .ok v' w') ∧ EO w' B 90 5 v' (n + m) (roF (catE n R Q) (catE n V U)) ∧ w.grownBy w' v.ownBlock ∧ (v'.ownBlock = v.ownBlock ∨ v'.ownBlock = some w.heap.size) := fun ad hnews => by
  obtain ⟨v', w', hr, ho, hg, _, hloc⟩ := run_append_own_at (P := Try.prog) w B 26 26 90 i _ 5 56 Try.underlying26 hi hz hsz hby rfl (by decide) v n _ h ad m c (elv 5 m (roF Q U)) (elv_length _ _ _) hnews (oneRo Q U hU m) (by unfold maxLen; omega) (by omega) hB
  exact ⟨v', w', fun ty => hr, by unfold EO; rw [hcat]; exact ho, hg, hloc⟩
 by_cases h0 : m = 0
 ·subst h0
  cases a with
  | none =>
   obtain rfl := ha rfl
   exact ⟨v, w, fun ty => run_append_owned_none w B 26 ty 90 i 5 Try.underlying26 hi v n _ h, by unfold EO; rw [hcat]; simpa [elv, EO] using h, ⟨rfl, rfl, rfl, Nat.le_refl _, fun _ _ _ => rfl⟩, .inl rfl⟩
  | some ad => exact some_ ad (fun j u hj => by simp [elv] at hj)
 ·obtain ⟨b, off, rfl, hc⟩ := hs.opened (by omega)
  exact some_ _ (elv_news hc)
def RetCRo (n : Nat) (Q : Nat → Ro) (U : Nat → Value) (B : Nat) (e : Ending) (w : World) : Prop := ∃ a c, e = .returned (.slice a n c) ∧ EO w B 90 5 (.slice a n c) n (roF Q U)
set_option maxRecDepth 100000 in
theorem cloneRo_any (a : Option Addr) (n c : Nat) (Q : Nat → Ro) (U : Nat → Value) (hU : ∀ i, (U i).oneCell' = true) (w : World) (hn : n ≤ 100000) (h : Els w 5 a n (roF Q U)) (ha : a = none → n = 0 ∧ c = 0) :
  Calls Try.prog 69 #[.slice a n c] w fun e w' => RetCRo n Q U w.heap.size e w' ∧ Below w.heap.size w w' := by
 have q : ∀ (w : World) (a : Option Addr) (n c n' c' : Nat), (binOp .eql 26 (.slice a n c) (.slice none n' c')).run Try.prog w = .ok (.bool a.isNone) w := fun w a n c n' c' => Lib.run_eql_slice_nil w _ _ a n c n' c' Try.underlying26
 cases a with
 | none =>
  obtain ⟨rfl, rfl⟩ := ha rfl
  have HR : Hid (RetCRo 0 Q U w.heap.size (.returned (.slice none 0 0)) w) := ⟨none, 0, rfl, EO.nil _ _ _ _ _⟩
  clear h ha
  go_enter Try.func69, Try.ntmps69
  go_wp2
  go_ret
  exact ⟨HR.out, Below.refl _ _⟩
 | some ad =>
  have h1 := Els.below h ((Below.refl w.heap.size w).alloc (Nat.le_refl _) (.cells #[] 90))
  have E0 : EO (w.alloc (.cells #[] 90)) w.heap.size 90 5 (.slice (some ⟨w.heap.size, 0, none⟩) 0 0) 0 (roF Q U) := by
   unfold EO
   exact World.ownsRow_made w #[] 0 (Nat.le_refl _) (Nat.zero_le _) (by simp)
  obtain ⟨v', w', hr, ho, hg, hl⟩ := allRo _ w.heap.size _ 0 Q U (some ad) n c Q U hU (by simp) (by omega) E0 h1 (fun e => by cases e)
  rw [Nat.zero_add, catE_zero, catE_zero] at ho
  obtain ⟨a', c', rfl⟩ := EO.form ho
  have HR : Hid (RetCRo n Q U w.heap.size (.returned (.slice a' n c')) w') := ⟨_, _, rfl, ho⟩
  have HB : Hid (Below w.heap.size w w') := ((Below.refl _ w).alloc (Nat.le_refl _) _).grown hg (by simp) (by intro k hk; simp [Value.ownBlock] at hk; omega)
  clear h h1 E0 ha ho hg
  go_enter Try.func69, Try.ntmps69
  go_wp2_with (at_builtin; refine Lib.wpList_append_run _ rfl (.tmp 5) (.tmp 6) 26 26 rfl (.slice (some ⟨w.heap.size, 0, none⟩) 0 0) (.slice (some ad) n c) rfl rfl _ _ (hr _) ?_)
  go_ret
  exact ⟨HR.out, HB.out⟩
def RetCi (n : Nat) (E : Nat → Int) (B : Nat) (e : Ending) (w : World) : Prop := ∃ a c, e = .returned (.slice a n c) ∧ IE w B (.slice a n c) n E
set_option maxRecDepth 100000 in
theorem cloneIn_any (a : Option Addr) (n c : Nat) (E : Nat → Int) (w : World) (hn : n ≤ 100000) (h : Num w a n E) (ha : a = none → n = 0 ∧ c = 0) :
  Calls Try.prog 70 #[.slice a n c] w fun e w' => RetCi n E w.heap.size e w' ∧ Below w.heap.size w w' := by
 have q : ∀ (w : World) (a : Option Addr) (n c n' c' : Nat), (binOp .eql 29 (.slice a n c) (.slice none n' c')).run Try.prog w = .ok (.bool a.isNone) w := fun w a n c n' c' => Lib.run_eql_slice_nil w _ _ a n c n' c' Try.underlying29
 cases a with
 | none =>
  obtain ⟨rfl, rfl⟩ := ha rfl
  have HR : Hid (RetCi 0 E w.heap.size (.returned (.slice none 0 0)) w) := ⟨none, 0, rfl, EO.nil _ _ _ _ _⟩
  clear h ha
  go_enter Try.func70, Try.ntmps70
  go_wp2
  go_ret
  exact ⟨HR.out, Below.refl _ _⟩
 | some ad =>
  have h1 := Els.below h ((Below.refl w.heap.size w).alloc (Nat.le_refl _) (.cells #[] 3))
  have E0 : EO (w.alloc (.cells #[] 3)) w.heap.size 3 1 (.slice (some ⟨w.heap.size, 0, none⟩) 0 0) 0 (inF E) := by
   unfold EO
   exact World.ownsRow_made w #[] 0 (Nat.le_refl _) (Nat.zero_le _) (by simp)
  obtain ⟨v', w', hr, ho, hg, hl⟩ := allIn _ w.heap.size _ 0 E (some ad) n c E (by simp) (by omega) E0 h1 (fun e => by cases e)
  rw [Nat.zero_add, catE_zero] at ho
  obtain ⟨a', c', rfl⟩ := EO.form ho
  have HR : Hid (RetCi n E w.heap.size (.returned (.slice a' n c')) w') := ⟨_, _, rfl, ho⟩
  have HB : Hid (Below w.heap.size w w') := ((Below.refl _ w).alloc (Nat.le_refl _) _).grown hg (by simp) (by intro k hk; simp [Value.ownBlock] at hk; omega)
  clear h h1 E0 ha ho hg
  go_enter Try.func70, Try.ntmps70
  go_wp2_with (at_builtin; refine Lib.wpList_append_run _ rfl (.tmp 5) (.tmp 6) 29 29 rfl (.slice (some ⟨w.heap.size, 0, none⟩) 0 0) (.slice (some ad) n c) rfl rfl _ _ (hr _) ?_)
  go_ret
  exact ⟨HR.out, HB.out⟩
end Go.Proofs.Ytedncfcmhaaobaa
