/-
  The model: a line's call (l15Call).
-/
import Derived.Test.YthebbijbedffpaaDoorRlS
import Derived.Test.YthebbijbedffpaaDoorRlU
namespace Go.Proofs.YthebbijbedffpaaDoor
open Go.ChangeShapes Go.WideShapes Go.ChangeAt Go.RowKit
set_option linter.unusedVariables false
set_option linter.unusedSimpArgs false
theorem hasW_at {s : ByteArray} {q : Nat} (h : WdN s q) (j : Nat) : hasW s (oW s j) = decide (j < q) := by
  unfold hasW
  refine decide_eq_decide.2 ?_
  constructor
  · intro hj
    rcases Nat.lt_or_ge j q with z | z
    · exact z
    · exfalso
      have : ∀ d, aW s q ≤ aW s (q + d) := fun d => by
        induction d with
        | zero => exact Nat.le_refl _
        | succ d ih => have := aW_mono s (q + d); rw [show q + (d + 1) = q + d + 1 from rfl]; omega
      have h2 := this (j - q)
      rw [show q + (j - q) = j by omega] at h2
      have h3 := h.2
      unfold aW at h2 h3
      omega
  · intro hj
    exact h.1 j hj
theorem wT_out {s : ByteArray} {q j : Nat} (h : WdN s q) (hj : q ≤ j) : wT s j = ⟨#[]⟩ := wW_out (by rw [hasW_at h]; exact decide_eq_false (by omega))
def CallS (s : ByteArray) (i : Nat) (e : Ending) : Prop := ∃ (x : Cl) (ok : Bool), e = .returned (.tuple #[clA x, .bool ok]) ∧ ansI i s (oW s 1) = bif ok then some (2, 0, x) else none
/-- What an answer is, told by the count of words. -/
theorem ansQ {s : ByteArray} {q : Nat} (h : WdN s q) (i : Nat) : ansI i s (oW s 1) =
  if i = 0 then bif decide (1 < q) then none else some (1, 0, clZ)
  else if i = 1 then bif decide (1 < q) then none else some (3, 0, clZ)
  else if i = 2 then bif decide (1 < q) then none else some (3, 1, clZ)
  else if i = 3 then bif decide (1 < q) then none else some (4, 0, clZ)
  else if i = 4 then bif decide (1 < q) then none else some (5, 0, clZ)
  else if i = 5 then bif decide (1 < q) then none else some (6, 0, clZ)
  else if i = 6 then bif decide (1 < q) && !decide (2 < q) then some (2, 0, ⟨1, 0, 0, wT s 1, ⟨#[]⟩, ⟨#[]⟩⟩) else none
  else if i = 7 then (numL (wT s 2).data.toList).map fun v => (2, 0, ⟨2, v, 0, wT s 1, ⟨#[]⟩, tX s (oW s 3)⟩)
  else if i = 8 then bif decide (1 < q) && !decide (2 < q) then some (2, 0, ⟨3, 0, 200, wT s 1, ⟨#[]⟩, ⟨#[]⟩⟩) else none
  else if i = 9 then bif decide (3 < q) then none else (numL (wT s 2).data.toList).map fun v => (2, 0, ⟨4, 0, v, wT s 1, ⟨#[]⟩, ⟨#[]⟩⟩)
  else if i = 10 then bif decide (2 < q) && !decide (3 < q) then some (2, 0, ⟨5, 0, 0, wT s 1, wT s 2, ⟨#[]⟩⟩) else none
  else if i = 11 then bif decide (1 < q) && !decide (2 < q) then some (2, 0, ⟨6, 0, 0, wT s 1, ⟨#[]⟩, ⟨#[]⟩⟩) else none
  else bif decide (1 < q) && decide (2 < q) then none else some (2, 0, ⟨7, 0, 0, wT s 1, ⟨#[]⟩, ⟨#[]⟩⟩) := by
  rw [← hasW_at h 1, ← hasW_at h 2, ← hasW_at h 3]
  rfl
theorem litNe {t u : ByteArray} (h : t ≠ u) : (t.toList == u.data.toList) = false := by
  rw [beq_eq_false_iff_ne, ByteArray.toList_eq]
  exact fun e => h (ByteArray.ext (Array.toList_inj.1 e))
theorem num_emp : numL (⟨#[]⟩ : ByteArray).data.toList = none := num_nil
theorem wT_le (s : ByteArray) (hs : s.size ≤ 65536) (j : Nat) : (wT s j).size ≤ 65536 := by unfold wT; rw [ByteArray.size_extract]; omega
set_option maxRecDepth 100000 in
set_option maxHeartbeats 8000000 in
theorem sCall_mkdir (s : ByteArray) (hs : s.size ≤ 65536) (q c g : Nat) (hq : 0 < q) (hW : WdN s q) (w : World) (hg : g < w.heap.size) (ht : wT s 0 = ⟨#[109, 107, 100, 105, 114]⟩) (hc : ∀ j, j < q → w.cell? ⟨g, j, none⟩ = some (.string (wT s j))) :
    Calls Tryd.prog 31 #[.string s, .slice (some ⟨g, 0, none⟩) q c] w fun e w' => CallS s 6 e ∧ Below w.heap.size w w' := by
  have HA : Hid (ansI 6 s (oW s 1) = _) := ansQ hW 6
  have K2 : Hid (∀ j, j < q → ((w.alloc (.cells #[.int .i64 0, .int .i64 0, .int .i64 0, .string ⟨#[]⟩, .string ⟨#[]⟩, .string ⟨#[]⟩] 23)).alloc (.cells #[.int .i64 0, .int .i64 0, .int .i64 0, .string ⟨#[]⟩, .string ⟨#[]⟩, .string ⟨#[]⟩] 23)).cell? ⟨g, j, none⟩ = some (.string (wT s j))) := fun j hj => by rw [((Below.refl w.heap.size w).alloc (Nat.le_refl _) (.cells #[.int .i64 0, .int .i64 0, .int .i64 0, .string ⟨#[]⟩, .string ⟨#[]⟩, .string ⟨#[]⟩] 23) |>.alloc (by simp) (.cells #[.int .i64 0, .int .i64 0, .int .i64 0, .string ⟨#[]⟩, .string ⟨#[]⟩, .string ⟨#[]⟩] 23)).cell hg]; exact hc j hj
  have R2 : Hid (ClB ((w.alloc (.cells #[.int .i64 0, .int .i64 0, .int .i64 0, .string ⟨#[]⟩, .string ⟨#[]⟩, .string ⟨#[]⟩] 23)).alloc (.cells #[.int .i64 0, .int .i64 0, .int .i64 0, .string ⟨#[]⟩, .string ⟨#[]⟩, .string ⟨#[]⟩] 23)) w.heap.size clZ) := (ClB.madeOf (x := clZ) rfl).below ((Below.refl _ _).alloc (Nat.le_refl _) _)
  have C2 : Hid (ClB ((w.alloc (.cells #[.int .i64 0, .int .i64 0, .int .i64 0, .string ⟨#[]⟩, .string ⟨#[]⟩, .string ⟨#[]⟩] 23)).alloc (.cells #[.int .i64 0, .int .i64 0, .int .i64 0, .string ⟨#[]⟩, .string ⟨#[]⟩, .string ⟨#[]⟩] 23)) (w.heap.size + 1) clZ) := ClB.madeOf (x := clZ) (by simp)
  have A2 : Hid (Below w.heap.size w ((w.alloc (.cells #[.int .i64 0, .int .i64 0, .int .i64 0, .string ⟨#[]⟩, .string ⟨#[]⟩, .string ⟨#[]⟩] 23)).alloc (.cells #[.int .i64 0, .int .i64 0, .int .i64 0, .string ⟨#[]⟩, .string ⟨#[]⟩, .string ⟨#[]⟩] 23))) := ((Below.refl _ _).alloc (Nat.le_refl _) _).alloc (by simp) _
  have HW : Hid (WdN s q) := hW
  clear hc hW
  go_enter Tryd.func31, Tryd.ntmps31
  rcases (show q = 1 ∨ q = 2 ∨ q = 3 ∨ 4 ≤ q by omega) with rfl | rfl | rfl | hq4
  · skip
    have tok : True := trivial
    go_wp2_with (first | (show wpList _ _ _ ({ dst := some 13, op := _, type := _, pos := _, after := _, guard := _ } :: _) _ _; clear tok; generalize (w.alloc (.cells #[.int .i64 0, .int .i64 0, .int .i64 0, .string ⟨#[]⟩, .string ⟨#[]⟩, .string ⟨#[]⟩] 23)).alloc (.cells #[.int .i64 0, .int .i64 0, .int .i64 0, .string ⟨#[]⟩, .string ⟨#[]⟩, .string ⟨#[]⟩] 23) = w2 at *; have k0 := K2.out 0 (by omega); obtain ⟨c0, c1, c2, c3, c4, c5⟩ := C2.out.c; have g0 := C2.out.fr; obtain ⟨r0, r1, r2, r3, r4, r5⟩ := R2.out.c; have f0 := R2.out.fr) | (go_at_call 38; refine (l00Number_any (wT s 2) (wT_le s hs 2) _).mono ?_; rintro e w' ⟨rfl, hw⟩; rw [hw]; clear hw w') | (go_at_call 39; refine (l15Rest_any s hs _).mono ?_; rintro e w' ⟨rfl, hw⟩; rw [hw]; clear hw w'))
    change bodyPost _ _ _ .ret _ (clSt w2 w.heap.size ⟨0, 0, 0, ⟨#[]⟩, ⟨#[]⟩, ⟨#[]⟩⟩)
    refine ret_cell2 (b := w.heap.size) (v := clA ⟨0, 0, 0, ⟨#[]⟩, ⟨#[]⟩, ⟨#[]⟩⟩) (x := .bool false) Tryd.results31 rfl rfl (ClB.st R2.out ⟨0, 0, 0, ⟨#[]⟩, ⟨#[]⟩, ⟨#[]⟩⟩).load ⟨⟨⟨0, 0, 0, ⟨#[]⟩, ⟨#[]⟩, ⟨#[]⟩⟩, false, rfl, HA.out.trans ?_⟩, clSt_below A2.out (Nat.le_refl _) ⟨0, 0, 0, ⟨#[]⟩, ⟨#[]⟩, ⟨#[]⟩⟩⟩
    first | (simp; done) | (simp [wT_out HW.out (Nat.le_refl 1)]; done)
  · skip
    have tok : True := trivial
    go_wp2_with (first | (show wpList _ _ _ ({ dst := some 13, op := _, type := _, pos := _, after := _, guard := _ } :: _) _ _; clear tok; generalize (w.alloc (.cells #[.int .i64 0, .int .i64 0, .int .i64 0, .string ⟨#[]⟩, .string ⟨#[]⟩, .string ⟨#[]⟩] 23)).alloc (.cells #[.int .i64 0, .int .i64 0, .int .i64 0, .string ⟨#[]⟩, .string ⟨#[]⟩, .string ⟨#[]⟩] 23) = w2 at *; have k0 := K2.out 0 (by omega); have k1 := K2.out 1 (by omega); obtain ⟨c0, c1, c2, c3, c4, c5⟩ := C2.out.c; have g0 := C2.out.fr; obtain ⟨r0, r1, r2, r3, r4, r5⟩ := R2.out.c; have f0 := R2.out.fr) | (go_at_call 38; refine (l00Number_any (wT s 2) (wT_le s hs 2) _).mono ?_; rintro e w' ⟨rfl, hw⟩; rw [hw]; clear hw w') | (go_at_call 39; refine (l15Rest_any s hs _).mono ?_; rintro e w' ⟨rfl, hw⟩; rw [hw]; clear hw w'))
    change bodyPost _ _ _ .ret _ (clSt (World.setCell (World.setCell w2 ⟨w.heap.size + 1, 3, none⟩ (.string (wT s 1))) ⟨w.heap.size + 1, 0, none⟩ (.int .i64 1)) w.heap.size ⟨1, 0, 0, (wT s 1), ⟨#[]⟩, ⟨#[]⟩⟩)
    refine ret_cell2 (b := w.heap.size) (v := clA ⟨1, 0, 0, (wT s 1), ⟨#[]⟩, ⟨#[]⟩⟩) (x := .bool true) Tryd.results31 rfl rfl (ClB.st (ClB.ofBlock (ClB.ofBlock R2.out (Below.heap_setCell _ ⟨w.heap.size + 1, 3, none⟩ _ w.heap.size (by dsimp only; omega))) (Below.heap_setCell _ ⟨w.heap.size + 1, 0, none⟩ _ w.heap.size (by dsimp only; omega))) ⟨1, 0, 0, (wT s 1), ⟨#[]⟩, ⟨#[]⟩⟩).load ⟨⟨⟨1, 0, 0, (wT s 1), ⟨#[]⟩, ⟨#[]⟩⟩, true, rfl, HA.out.trans ?_⟩, clSt_below (Below.setCell (Below.setCell A2.out (Nat.le_succ _) _) (Nat.le_succ _) _) (Nat.le_refl _) ⟨1, 0, 0, (wT s 1), ⟨#[]⟩, ⟨#[]⟩⟩⟩
    simp
  · skip
    have tok : True := trivial
    go_wp2_with (first | (show wpList _ _ _ ({ dst := some 13, op := _, type := _, pos := _, after := _, guard := _ } :: _) _ _; clear tok; generalize (w.alloc (.cells #[.int .i64 0, .int .i64 0, .int .i64 0, .string ⟨#[]⟩, .string ⟨#[]⟩, .string ⟨#[]⟩] 23)).alloc (.cells #[.int .i64 0, .int .i64 0, .int .i64 0, .string ⟨#[]⟩, .string ⟨#[]⟩, .string ⟨#[]⟩] 23) = w2 at *; have k0 := K2.out 0 (by omega); have k1 := K2.out 1 (by omega); have k2 := K2.out 2 (by omega); obtain ⟨c0, c1, c2, c3, c4, c5⟩ := C2.out.c; have g0 := C2.out.fr; obtain ⟨r0, r1, r2, r3, r4, r5⟩ := R2.out.c; have f0 := R2.out.fr) | (go_at_call 38; refine (l00Number_any (wT s 2) (wT_le s hs 2) _).mono ?_; rintro e w' ⟨rfl, hw⟩; rw [hw]; clear hw w') | (go_at_call 39; refine (l15Rest_any s hs _).mono ?_; rintro e w' ⟨rfl, hw⟩; rw [hw]; clear hw w'))
    change bodyPost _ _ _ .ret _ (clSt (World.setCell w2 ⟨w.heap.size + 1, 3, none⟩ (.string (wT s 1))) w.heap.size ⟨0, 0, 0, (wT s 1), ⟨#[]⟩, ⟨#[]⟩⟩)
    refine ret_cell2 (b := w.heap.size) (v := clA ⟨0, 0, 0, (wT s 1), ⟨#[]⟩, ⟨#[]⟩⟩) (x := .bool false) Tryd.results31 rfl rfl (ClB.st (ClB.ofBlock R2.out (Below.heap_setCell _ ⟨w.heap.size + 1, 3, none⟩ _ w.heap.size (by dsimp only; omega))) ⟨0, 0, 0, (wT s 1), ⟨#[]⟩, ⟨#[]⟩⟩).load ⟨⟨⟨0, 0, 0, (wT s 1), ⟨#[]⟩, ⟨#[]⟩⟩, false, rfl, HA.out.trans ?_⟩, clSt_below (Below.setCell A2.out (Nat.le_succ _) _) (Nat.le_refl _) ⟨0, 0, 0, (wT s 1), ⟨#[]⟩, ⟨#[]⟩⟩⟩
    simp
  · skip
    have q1 : (1 : Int) < (q : Int) := by omega
    have q2 : ((q : Int) == 2) = false := by rw [beq_eq_false_iff_ne]; omega
    have q3 : ((q : Int) == 3) = false := by rw [beq_eq_false_iff_ne]; omega
    have q4 : ¬ (q : Int) ≤ 2 := by omega
    have q5 : (3 : Int) ≤ (q : Int) := by omega
    have tok : True := trivial
    go_wp2_with (first | (show wpList _ _ _ ({ dst := some 13, op := _, type := _, pos := _, after := _, guard := _ } :: _) _ _; clear tok; generalize (w.alloc (.cells #[.int .i64 0, .int .i64 0, .int .i64 0, .string ⟨#[]⟩, .string ⟨#[]⟩, .string ⟨#[]⟩] 23)).alloc (.cells #[.int .i64 0, .int .i64 0, .int .i64 0, .string ⟨#[]⟩, .string ⟨#[]⟩, .string ⟨#[]⟩] 23) = w2 at *; have k0 := K2.out 0 (by omega); have k1 := K2.out 1 (by omega); have k2 := K2.out 2 (by omega); obtain ⟨c0, c1, c2, c3, c4, c5⟩ := C2.out.c; have g0 := C2.out.fr; obtain ⟨r0, r1, r2, r3, r4, r5⟩ := R2.out.c; have f0 := R2.out.fr) | (go_at_call 38; refine (l00Number_any (wT s 2) (wT_le s hs 2) _).mono ?_; rintro e w' ⟨rfl, hw⟩; rw [hw]; clear hw w') | (go_at_call 39; refine (l15Rest_any s hs _).mono ?_; rintro e w' ⟨rfl, hw⟩; rw [hw]; clear hw w'))
    change bodyPost _ _ _ .ret _ (clSt (World.setCell w2 ⟨w.heap.size + 1, 3, none⟩ (.string (wT s 1))) w.heap.size ⟨0, 0, 0, (wT s 1), ⟨#[]⟩, ⟨#[]⟩⟩)
    refine ret_cell2 (b := w.heap.size) (v := clA ⟨0, 0, 0, (wT s 1), ⟨#[]⟩, ⟨#[]⟩⟩) (x := .bool false) Tryd.results31 rfl rfl (ClB.st (ClB.ofBlock R2.out (Below.heap_setCell _ ⟨w.heap.size + 1, 3, none⟩ _ w.heap.size (by dsimp only; omega))) ⟨0, 0, 0, (wT s 1), ⟨#[]⟩, ⟨#[]⟩⟩).load ⟨⟨⟨0, 0, 0, (wT s 1), ⟨#[]⟩, ⟨#[]⟩⟩, false, rfl, HA.out.trans ?_⟩, clSt_below (Below.setCell A2.out (Nat.le_succ _) _) (Nat.le_refl _) ⟨0, 0, 0, (wT s 1), ⟨#[]⟩, ⟨#[]⟩⟩⟩
    simp [show 1 < q by omega, show 2 < q by omega, show 3 < q by omega]
set_option maxRecDepth 100000 in
set_option maxHeartbeats 8000000 in
theorem sCall_write (s : ByteArray) (hs : s.size ≤ 65536) (q c g : Nat) (hq : 0 < q) (hW : WdN s q) (w : World) (hg : g < w.heap.size) (ht : wT s 0 = ⟨#[119, 114, 105, 116, 101]⟩) (hc : ∀ j, j < q → w.cell? ⟨g, j, none⟩ = some (.string (wT s j))) :
    Calls Tryd.prog 31 #[.string s, .slice (some ⟨g, 0, none⟩) q c] w fun e w' => CallS s 7 e ∧ Below w.heap.size w w' := by
  have HA : Hid (ansI 7 s (oW s 1) = _) := ansQ hW 7
  have K2 : Hid (∀ j, j < q → ((w.alloc (.cells #[.int .i64 0, .int .i64 0, .int .i64 0, .string ⟨#[]⟩, .string ⟨#[]⟩, .string ⟨#[]⟩] 23)).alloc (.cells #[.int .i64 0, .int .i64 0, .int .i64 0, .string ⟨#[]⟩, .string ⟨#[]⟩, .string ⟨#[]⟩] 23)).cell? ⟨g, j, none⟩ = some (.string (wT s j))) := fun j hj => by rw [((Below.refl w.heap.size w).alloc (Nat.le_refl _) (.cells #[.int .i64 0, .int .i64 0, .int .i64 0, .string ⟨#[]⟩, .string ⟨#[]⟩, .string ⟨#[]⟩] 23) |>.alloc (by simp) (.cells #[.int .i64 0, .int .i64 0, .int .i64 0, .string ⟨#[]⟩, .string ⟨#[]⟩, .string ⟨#[]⟩] 23)).cell hg]; exact hc j hj
  have R2 : Hid (ClB ((w.alloc (.cells #[.int .i64 0, .int .i64 0, .int .i64 0, .string ⟨#[]⟩, .string ⟨#[]⟩, .string ⟨#[]⟩] 23)).alloc (.cells #[.int .i64 0, .int .i64 0, .int .i64 0, .string ⟨#[]⟩, .string ⟨#[]⟩, .string ⟨#[]⟩] 23)) w.heap.size clZ) := (ClB.madeOf (x := clZ) rfl).below ((Below.refl _ _).alloc (Nat.le_refl _) _)
  have C2 : Hid (ClB ((w.alloc (.cells #[.int .i64 0, .int .i64 0, .int .i64 0, .string ⟨#[]⟩, .string ⟨#[]⟩, .string ⟨#[]⟩] 23)).alloc (.cells #[.int .i64 0, .int .i64 0, .int .i64 0, .string ⟨#[]⟩, .string ⟨#[]⟩, .string ⟨#[]⟩] 23)) (w.heap.size + 1) clZ) := ClB.madeOf (x := clZ) (by simp)
  have A2 : Hid (Below w.heap.size w ((w.alloc (.cells #[.int .i64 0, .int .i64 0, .int .i64 0, .string ⟨#[]⟩, .string ⟨#[]⟩, .string ⟨#[]⟩] 23)).alloc (.cells #[.int .i64 0, .int .i64 0, .int .i64 0, .string ⟨#[]⟩, .string ⟨#[]⟩, .string ⟨#[]⟩] 23))) := ((Below.refl _ _).alloc (Nat.le_refl _) _).alloc (by simp) _
  have HW : Hid (WdN s q) := hW
  clear hc hW
  go_enter Tryd.func31, Tryd.ntmps31
  rcases (show q = 1 ∨ q = 2 ∨ q = 3 ∨ 4 ≤ q by omega) with rfl | rfl | rfl | hq4
  · skip
    have tok : True := trivial
    go_wp2_with (first | (show wpList _ _ _ ({ dst := some 13, op := _, type := _, pos := _, after := _, guard := _ } :: _) _ _; clear tok; generalize (w.alloc (.cells #[.int .i64 0, .int .i64 0, .int .i64 0, .string ⟨#[]⟩, .string ⟨#[]⟩, .string ⟨#[]⟩] 23)).alloc (.cells #[.int .i64 0, .int .i64 0, .int .i64 0, .string ⟨#[]⟩, .string ⟨#[]⟩, .string ⟨#[]⟩] 23) = w2 at *; have k0 := K2.out 0 (by omega); obtain ⟨c0, c1, c2, c3, c4, c5⟩ := C2.out.c; have g0 := C2.out.fr; obtain ⟨r0, r1, r2, r3, r4, r5⟩ := R2.out.c; have f0 := R2.out.fr) | (go_at_call 38; refine (l00Number_any (wT s 2) (wT_le s hs 2) _).mono ?_; rintro e w' ⟨rfl, hw⟩; rw [hw]; clear hw w') | (go_at_call 39; refine (l15Rest_any s hs _).mono ?_; rintro e w' ⟨rfl, hw⟩; rw [hw]; clear hw w'))
    change bodyPost _ _ _ .ret _ (clSt w2 w.heap.size ⟨0, 0, 0, ⟨#[]⟩, ⟨#[]⟩, ⟨#[]⟩⟩)
    refine ret_cell2 (b := w.heap.size) (v := clA ⟨0, 0, 0, ⟨#[]⟩, ⟨#[]⟩, ⟨#[]⟩⟩) (x := .bool false) Tryd.results31 rfl rfl (ClB.st R2.out ⟨0, 0, 0, ⟨#[]⟩, ⟨#[]⟩, ⟨#[]⟩⟩).load ⟨⟨⟨0, 0, 0, ⟨#[]⟩, ⟨#[]⟩, ⟨#[]⟩⟩, false, rfl, HA.out.trans ?_⟩, clSt_below A2.out (Nat.le_refl _) ⟨0, 0, 0, ⟨#[]⟩, ⟨#[]⟩, ⟨#[]⟩⟩⟩
    have e2 : numL (wT s 2).data.toList = none := by rw [wT_out HW.out (by omega)]; exact num_nil
    simp [e2]
  · skip
    have tok : True := trivial
    go_wp2_with (first | (show wpList _ _ _ ({ dst := some 13, op := _, type := _, pos := _, after := _, guard := _ } :: _) _ _; clear tok; generalize (w.alloc (.cells #[.int .i64 0, .int .i64 0, .int .i64 0, .string ⟨#[]⟩, .string ⟨#[]⟩, .string ⟨#[]⟩] 23)).alloc (.cells #[.int .i64 0, .int .i64 0, .int .i64 0, .string ⟨#[]⟩, .string ⟨#[]⟩, .string ⟨#[]⟩] 23) = w2 at *; have k0 := K2.out 0 (by omega); have k1 := K2.out 1 (by omega); obtain ⟨c0, c1, c2, c3, c4, c5⟩ := C2.out.c; have g0 := C2.out.fr; obtain ⟨r0, r1, r2, r3, r4, r5⟩ := R2.out.c; have f0 := R2.out.fr) | (go_at_call 38; refine (l00Number_any (wT s 2) (wT_le s hs 2) _).mono ?_; rintro e w' ⟨rfl, hw⟩; rw [hw]; clear hw w') | (go_at_call 39; refine (l15Rest_any s hs _).mono ?_; rintro e w' ⟨rfl, hw⟩; rw [hw]; clear hw w'))
    change bodyPost _ _ _ .ret _ (clSt (World.setCell w2 ⟨w.heap.size + 1, 3, none⟩ (.string (wT s 1))) w.heap.size ⟨0, 0, 0, (wT s 1), ⟨#[]⟩, ⟨#[]⟩⟩)
    refine ret_cell2 (b := w.heap.size) (v := clA ⟨0, 0, 0, (wT s 1), ⟨#[]⟩, ⟨#[]⟩⟩) (x := .bool false) Tryd.results31 rfl rfl (ClB.st (ClB.ofBlock R2.out (Below.heap_setCell _ ⟨w.heap.size + 1, 3, none⟩ _ w.heap.size (by dsimp only; omega))) ⟨0, 0, 0, (wT s 1), ⟨#[]⟩, ⟨#[]⟩⟩).load ⟨⟨⟨0, 0, 0, (wT s 1), ⟨#[]⟩, ⟨#[]⟩⟩, false, rfl, HA.out.trans ?_⟩, clSt_below (Below.setCell A2.out (Nat.le_succ _) _) (Nat.le_refl _) ⟨0, 0, 0, (wT s 1), ⟨#[]⟩, ⟨#[]⟩⟩⟩
    have e2 : numL (wT s 2).data.toList = none := by rw [wT_out HW.out (by omega)]; exact num_nil
    simp [e2]
  · skip
    have tok : True := trivial
    go_wp2_with (first | (show wpList _ _ _ ({ dst := some 13, op := _, type := _, pos := _, after := _, guard := _ } :: _) _ _; clear tok; generalize (w.alloc (.cells #[.int .i64 0, .int .i64 0, .int .i64 0, .string ⟨#[]⟩, .string ⟨#[]⟩, .string ⟨#[]⟩] 23)).alloc (.cells #[.int .i64 0, .int .i64 0, .int .i64 0, .string ⟨#[]⟩, .string ⟨#[]⟩, .string ⟨#[]⟩] 23) = w2 at *; have k0 := K2.out 0 (by omega); have k1 := K2.out 1 (by omega); have k2 := K2.out 2 (by omega); obtain ⟨c0, c1, c2, c3, c4, c5⟩ := C2.out.c; have g0 := C2.out.fr; obtain ⟨r0, r1, r2, r3, r4, r5⟩ := R2.out.c; have f0 := R2.out.fr) | (go_at_call 38; refine (l00Number_any (wT s 2) (wT_le s hs 2) _).mono ?_; rintro e w' ⟨rfl, hw⟩; rw [hw]; clear hw w') | (go_at_call 39; refine (l15Rest_any s hs _).mono ?_; rintro e w' ⟨rfl, hw⟩; rw [hw]; clear hw w'))
    change bodyPost _ _ _ .ret _ (clSt (World.setCell (World.setCell (World.setCell (World.setCell w2 ⟨w.heap.size + 1, 3, none⟩ (.string (wT s 1))) ⟨w.heap.size + 1, 0, none⟩ (.int .i64 2)) ⟨w.heap.size + 1, 1, none⟩ (.int .i64 ((numL (wT s 2).data.toList).getD 0))) ⟨w.heap.size + 1, 5, none⟩ (.string (tX s (oW s 3)))) w.heap.size ⟨2, ((numL (wT s 2).data.toList).getD 0), 0, (wT s 1), ⟨#[]⟩, (tX s (oW s 3))⟩)
    refine ret_cell2 (b := w.heap.size) (v := clA ⟨2, ((numL (wT s 2).data.toList).getD 0), 0, (wT s 1), ⟨#[]⟩, (tX s (oW s 3))⟩) (x := .bool (numL (wT s 2).data.toList).isSome) Tryd.results31 rfl rfl (ClB.st (ClB.ofBlock (ClB.ofBlock (ClB.ofBlock (ClB.ofBlock R2.out (Below.heap_setCell _ ⟨w.heap.size + 1, 3, none⟩ _ w.heap.size (by dsimp only; omega))) (Below.heap_setCell _ ⟨w.heap.size + 1, 0, none⟩ _ w.heap.size (by dsimp only; omega))) (Below.heap_setCell _ ⟨w.heap.size + 1, 1, none⟩ _ w.heap.size (by dsimp only; omega))) (Below.heap_setCell _ ⟨w.heap.size + 1, 5, none⟩ _ w.heap.size (by dsimp only; omega))) ⟨2, ((numL (wT s 2).data.toList).getD 0), 0, (wT s 1), ⟨#[]⟩, (tX s (oW s 3))⟩).load ⟨⟨⟨2, ((numL (wT s 2).data.toList).getD 0), 0, (wT s 1), ⟨#[]⟩, (tX s (oW s 3))⟩, (numL (wT s 2).data.toList).isSome, rfl, HA.out.trans ?_⟩, clSt_below (Below.setCell (Below.setCell (Below.setCell (Below.setCell A2.out (Nat.le_succ _) _) (Nat.le_succ _) _) (Nat.le_succ _) _) (Nat.le_succ _) _) (Nat.le_refl _) ⟨2, ((numL (wT s 2).data.toList).getD 0), 0, (wT s 1), ⟨#[]⟩, (tX s (oW s 3))⟩⟩
    cases numL (wT s 2).data.toList <;> simp
  · skip
    have q1 : (1 : Int) < (q : Int) := by omega
    have q2 : ((q : Int) == 2) = false := by rw [beq_eq_false_iff_ne]; omega
    have q3 : ((q : Int) == 3) = false := by rw [beq_eq_false_iff_ne]; omega
    have q4 : ¬ (q : Int) ≤ 2 := by omega
    have q5 : (3 : Int) ≤ (q : Int) := by omega
    have tok : True := trivial
    go_wp2_with (first | (show wpList _ _ _ ({ dst := some 13, op := _, type := _, pos := _, after := _, guard := _ } :: _) _ _; clear tok; generalize (w.alloc (.cells #[.int .i64 0, .int .i64 0, .int .i64 0, .string ⟨#[]⟩, .string ⟨#[]⟩, .string ⟨#[]⟩] 23)).alloc (.cells #[.int .i64 0, .int .i64 0, .int .i64 0, .string ⟨#[]⟩, .string ⟨#[]⟩, .string ⟨#[]⟩] 23) = w2 at *; have k0 := K2.out 0 (by omega); have k1 := K2.out 1 (by omega); have k2 := K2.out 2 (by omega); obtain ⟨c0, c1, c2, c3, c4, c5⟩ := C2.out.c; have g0 := C2.out.fr; obtain ⟨r0, r1, r2, r3, r4, r5⟩ := R2.out.c; have f0 := R2.out.fr) | (go_at_call 38; refine (l00Number_any (wT s 2) (wT_le s hs 2) _).mono ?_; rintro e w' ⟨rfl, hw⟩; rw [hw]; clear hw w') | (go_at_call 39; refine (l15Rest_any s hs _).mono ?_; rintro e w' ⟨rfl, hw⟩; rw [hw]; clear hw w'))
    change bodyPost _ _ _ .ret _ (clSt (World.setCell (World.setCell (World.setCell (World.setCell w2 ⟨w.heap.size + 1, 3, none⟩ (.string (wT s 1))) ⟨w.heap.size + 1, 0, none⟩ (.int .i64 2)) ⟨w.heap.size + 1, 1, none⟩ (.int .i64 ((numL (wT s 2).data.toList).getD 0))) ⟨w.heap.size + 1, 5, none⟩ (.string (tX s (oW s 3)))) w.heap.size ⟨2, ((numL (wT s 2).data.toList).getD 0), 0, (wT s 1), ⟨#[]⟩, (tX s (oW s 3))⟩)
    refine ret_cell2 (b := w.heap.size) (v := clA ⟨2, ((numL (wT s 2).data.toList).getD 0), 0, (wT s 1), ⟨#[]⟩, (tX s (oW s 3))⟩) (x := .bool (numL (wT s 2).data.toList).isSome) Tryd.results31 rfl rfl (ClB.st (ClB.ofBlock (ClB.ofBlock (ClB.ofBlock (ClB.ofBlock R2.out (Below.heap_setCell _ ⟨w.heap.size + 1, 3, none⟩ _ w.heap.size (by dsimp only; omega))) (Below.heap_setCell _ ⟨w.heap.size + 1, 0, none⟩ _ w.heap.size (by dsimp only; omega))) (Below.heap_setCell _ ⟨w.heap.size + 1, 1, none⟩ _ w.heap.size (by dsimp only; omega))) (Below.heap_setCell _ ⟨w.heap.size + 1, 5, none⟩ _ w.heap.size (by dsimp only; omega))) ⟨2, ((numL (wT s 2).data.toList).getD 0), 0, (wT s 1), ⟨#[]⟩, (tX s (oW s 3))⟩).load ⟨⟨⟨2, ((numL (wT s 2).data.toList).getD 0), 0, (wT s 1), ⟨#[]⟩, (tX s (oW s 3))⟩, (numL (wT s 2).data.toList).isSome, rfl, HA.out.trans ?_⟩, clSt_below (Below.setCell (Below.setCell (Below.setCell (Below.setCell A2.out (Nat.le_succ _) _) (Nat.le_succ _) _) (Nat.le_succ _) _) (Nat.le_succ _) _) (Nat.le_refl _) ⟨2, ((numL (wT s 2).data.toList).getD 0), 0, (wT s 1), ⟨#[]⟩, (tX s (oW s 3))⟩⟩
    cases numL (wT s 2).data.toList <;> simp [show 3 < q by omega]
set_option maxRecDepth 100000 in
set_option maxHeartbeats 8000000 in
theorem sCall_read (s : ByteArray) (hs : s.size ≤ 65536) (q c g : Nat) (hq : 0 < q) (hW : WdN s q) (w : World) (hg : g < w.heap.size) (ht : wT s 0 = ⟨#[114, 101, 97, 100]⟩) (hc : ∀ j, j < q → w.cell? ⟨g, j, none⟩ = some (.string (wT s j))) :
    Calls Tryd.prog 31 #[.string s, .slice (some ⟨g, 0, none⟩) q c] w fun e w' => CallS s 8 e ∧ Below w.heap.size w w' := by
  have HA : Hid (ansI 8 s (oW s 1) = _) := ansQ hW 8
  have K2 : Hid (∀ j, j < q → ((w.alloc (.cells #[.int .i64 0, .int .i64 0, .int .i64 0, .string ⟨#[]⟩, .string ⟨#[]⟩, .string ⟨#[]⟩] 23)).alloc (.cells #[.int .i64 0, .int .i64 0, .int .i64 0, .string ⟨#[]⟩, .string ⟨#[]⟩, .string ⟨#[]⟩] 23)).cell? ⟨g, j, none⟩ = some (.string (wT s j))) := fun j hj => by rw [((Below.refl w.heap.size w).alloc (Nat.le_refl _) (.cells #[.int .i64 0, .int .i64 0, .int .i64 0, .string ⟨#[]⟩, .string ⟨#[]⟩, .string ⟨#[]⟩] 23) |>.alloc (by simp) (.cells #[.int .i64 0, .int .i64 0, .int .i64 0, .string ⟨#[]⟩, .string ⟨#[]⟩, .string ⟨#[]⟩] 23)).cell hg]; exact hc j hj
  have R2 : Hid (ClB ((w.alloc (.cells #[.int .i64 0, .int .i64 0, .int .i64 0, .string ⟨#[]⟩, .string ⟨#[]⟩, .string ⟨#[]⟩] 23)).alloc (.cells #[.int .i64 0, .int .i64 0, .int .i64 0, .string ⟨#[]⟩, .string ⟨#[]⟩, .string ⟨#[]⟩] 23)) w.heap.size clZ) := (ClB.madeOf (x := clZ) rfl).below ((Below.refl _ _).alloc (Nat.le_refl _) _)
  have C2 : Hid (ClB ((w.alloc (.cells #[.int .i64 0, .int .i64 0, .int .i64 0, .string ⟨#[]⟩, .string ⟨#[]⟩, .string ⟨#[]⟩] 23)).alloc (.cells #[.int .i64 0, .int .i64 0, .int .i64 0, .string ⟨#[]⟩, .string ⟨#[]⟩, .string ⟨#[]⟩] 23)) (w.heap.size + 1) clZ) := ClB.madeOf (x := clZ) (by simp)
  have A2 : Hid (Below w.heap.size w ((w.alloc (.cells #[.int .i64 0, .int .i64 0, .int .i64 0, .string ⟨#[]⟩, .string ⟨#[]⟩, .string ⟨#[]⟩] 23)).alloc (.cells #[.int .i64 0, .int .i64 0, .int .i64 0, .string ⟨#[]⟩, .string ⟨#[]⟩, .string ⟨#[]⟩] 23))) := ((Below.refl _ _).alloc (Nat.le_refl _) _).alloc (by simp) _
  have HW : Hid (WdN s q) := hW
  clear hc hW
  go_enter Tryd.func31, Tryd.ntmps31
  rcases (show q = 1 ∨ q = 2 ∨ q = 3 ∨ 4 ≤ q by omega) with rfl | rfl | rfl | hq4
  · skip
    have tok : True := trivial
    go_wp2_with (first | (show wpList _ _ _ ({ dst := some 13, op := _, type := _, pos := _, after := _, guard := _ } :: _) _ _; clear tok; generalize (w.alloc (.cells #[.int .i64 0, .int .i64 0, .int .i64 0, .string ⟨#[]⟩, .string ⟨#[]⟩, .string ⟨#[]⟩] 23)).alloc (.cells #[.int .i64 0, .int .i64 0, .int .i64 0, .string ⟨#[]⟩, .string ⟨#[]⟩, .string ⟨#[]⟩] 23) = w2 at *; have k0 := K2.out 0 (by omega); obtain ⟨c0, c1, c2, c3, c4, c5⟩ := C2.out.c; have g0 := C2.out.fr; obtain ⟨r0, r1, r2, r3, r4, r5⟩ := R2.out.c; have f0 := R2.out.fr) | (go_at_call 38; refine (l00Number_any (wT s 2) (wT_le s hs 2) _).mono ?_; rintro e w' ⟨rfl, hw⟩; rw [hw]; clear hw w') | (go_at_call 39; refine (l15Rest_any s hs _).mono ?_; rintro e w' ⟨rfl, hw⟩; rw [hw]; clear hw w'))
    change bodyPost _ _ _ .ret _ (clSt w2 w.heap.size ⟨0, 0, 0, ⟨#[]⟩, ⟨#[]⟩, ⟨#[]⟩⟩)
    refine ret_cell2 (b := w.heap.size) (v := clA ⟨0, 0, 0, ⟨#[]⟩, ⟨#[]⟩, ⟨#[]⟩⟩) (x := .bool false) Tryd.results31 rfl rfl (ClB.st R2.out ⟨0, 0, 0, ⟨#[]⟩, ⟨#[]⟩, ⟨#[]⟩⟩).load ⟨⟨⟨0, 0, 0, ⟨#[]⟩, ⟨#[]⟩, ⟨#[]⟩⟩, false, rfl, HA.out.trans ?_⟩, clSt_below A2.out (Nat.le_refl _) ⟨0, 0, 0, ⟨#[]⟩, ⟨#[]⟩, ⟨#[]⟩⟩⟩
    first | (simp; done) | (simp [wT_out HW.out (Nat.le_refl 1)]; done)
  · skip
    have tok : True := trivial
    go_wp2_with (first | (show wpList _ _ _ ({ dst := some 13, op := _, type := _, pos := _, after := _, guard := _ } :: _) _ _; clear tok; generalize (w.alloc (.cells #[.int .i64 0, .int .i64 0, .int .i64 0, .string ⟨#[]⟩, .string ⟨#[]⟩, .string ⟨#[]⟩] 23)).alloc (.cells #[.int .i64 0, .int .i64 0, .int .i64 0, .string ⟨#[]⟩, .string ⟨#[]⟩, .string ⟨#[]⟩] 23) = w2 at *; have k0 := K2.out 0 (by omega); have k1 := K2.out 1 (by omega); obtain ⟨c0, c1, c2, c3, c4, c5⟩ := C2.out.c; have g0 := C2.out.fr; obtain ⟨r0, r1, r2, r3, r4, r5⟩ := R2.out.c; have f0 := R2.out.fr) | (go_at_call 38; refine (l00Number_any (wT s 2) (wT_le s hs 2) _).mono ?_; rintro e w' ⟨rfl, hw⟩; rw [hw]; clear hw w') | (go_at_call 39; refine (l15Rest_any s hs _).mono ?_; rintro e w' ⟨rfl, hw⟩; rw [hw]; clear hw w'))
    change bodyPost _ _ _ .ret _ (clSt (World.setCell (World.setCell (World.setCell w2 ⟨w.heap.size + 1, 3, none⟩ (.string (wT s 1))) ⟨w.heap.size + 1, 0, none⟩ (.int .i64 3)) ⟨w.heap.size + 1, 2, none⟩ (.int .i64 200)) w.heap.size ⟨3, 0, 200, (wT s 1), ⟨#[]⟩, ⟨#[]⟩⟩)
    refine ret_cell2 (b := w.heap.size) (v := clA ⟨3, 0, 200, (wT s 1), ⟨#[]⟩, ⟨#[]⟩⟩) (x := .bool true) Tryd.results31 rfl rfl (ClB.st (ClB.ofBlock (ClB.ofBlock (ClB.ofBlock R2.out (Below.heap_setCell _ ⟨w.heap.size + 1, 3, none⟩ _ w.heap.size (by dsimp only; omega))) (Below.heap_setCell _ ⟨w.heap.size + 1, 0, none⟩ _ w.heap.size (by dsimp only; omega))) (Below.heap_setCell _ ⟨w.heap.size + 1, 2, none⟩ _ w.heap.size (by dsimp only; omega))) ⟨3, 0, 200, (wT s 1), ⟨#[]⟩, ⟨#[]⟩⟩).load ⟨⟨⟨3, 0, 200, (wT s 1), ⟨#[]⟩, ⟨#[]⟩⟩, true, rfl, HA.out.trans ?_⟩, clSt_below (Below.setCell (Below.setCell (Below.setCell A2.out (Nat.le_succ _) _) (Nat.le_succ _) _) (Nat.le_succ _) _) (Nat.le_refl _) ⟨3, 0, 200, (wT s 1), ⟨#[]⟩, ⟨#[]⟩⟩⟩
    simp
  · skip
    have tok : True := trivial
    go_wp2_with (first | (show wpList _ _ _ ({ dst := some 13, op := _, type := _, pos := _, after := _, guard := _ } :: _) _ _; clear tok; generalize (w.alloc (.cells #[.int .i64 0, .int .i64 0, .int .i64 0, .string ⟨#[]⟩, .string ⟨#[]⟩, .string ⟨#[]⟩] 23)).alloc (.cells #[.int .i64 0, .int .i64 0, .int .i64 0, .string ⟨#[]⟩, .string ⟨#[]⟩, .string ⟨#[]⟩] 23) = w2 at *; have k0 := K2.out 0 (by omega); have k1 := K2.out 1 (by omega); have k2 := K2.out 2 (by omega); obtain ⟨c0, c1, c2, c3, c4, c5⟩ := C2.out.c; have g0 := C2.out.fr; obtain ⟨r0, r1, r2, r3, r4, r5⟩ := R2.out.c; have f0 := R2.out.fr) | (go_at_call 38; refine (l00Number_any (wT s 2) (wT_le s hs 2) _).mono ?_; rintro e w' ⟨rfl, hw⟩; rw [hw]; clear hw w') | (go_at_call 39; refine (l15Rest_any s hs _).mono ?_; rintro e w' ⟨rfl, hw⟩; rw [hw]; clear hw w'))
    change bodyPost _ _ _ .ret _ (clSt (World.setCell w2 ⟨w.heap.size + 1, 3, none⟩ (.string (wT s 1))) w.heap.size ⟨0, 0, 0, (wT s 1), ⟨#[]⟩, ⟨#[]⟩⟩)
    refine ret_cell2 (b := w.heap.size) (v := clA ⟨0, 0, 0, (wT s 1), ⟨#[]⟩, ⟨#[]⟩⟩) (x := .bool false) Tryd.results31 rfl rfl (ClB.st (ClB.ofBlock R2.out (Below.heap_setCell _ ⟨w.heap.size + 1, 3, none⟩ _ w.heap.size (by dsimp only; omega))) ⟨0, 0, 0, (wT s 1), ⟨#[]⟩, ⟨#[]⟩⟩).load ⟨⟨⟨0, 0, 0, (wT s 1), ⟨#[]⟩, ⟨#[]⟩⟩, false, rfl, HA.out.trans ?_⟩, clSt_below (Below.setCell A2.out (Nat.le_succ _) _) (Nat.le_refl _) ⟨0, 0, 0, (wT s 1), ⟨#[]⟩, ⟨#[]⟩⟩⟩
    simp
  · skip
    have q1 : (1 : Int) < (q : Int) := by omega
    have q2 : ((q : Int) == 2) = false := by rw [beq_eq_false_iff_ne]; omega
    have q3 : ((q : Int) == 3) = false := by rw [beq_eq_false_iff_ne]; omega
    have q4 : ¬ (q : Int) ≤ 2 := by omega
    have q5 : (3 : Int) ≤ (q : Int) := by omega
    have tok : True := trivial
    go_wp2_with (first | (show wpList _ _ _ ({ dst := some 13, op := _, type := _, pos := _, after := _, guard := _ } :: _) _ _; clear tok; generalize (w.alloc (.cells #[.int .i64 0, .int .i64 0, .int .i64 0, .string ⟨#[]⟩, .string ⟨#[]⟩, .string ⟨#[]⟩] 23)).alloc (.cells #[.int .i64 0, .int .i64 0, .int .i64 0, .string ⟨#[]⟩, .string ⟨#[]⟩, .string ⟨#[]⟩] 23) = w2 at *; have k0 := K2.out 0 (by omega); have k1 := K2.out 1 (by omega); have k2 := K2.out 2 (by omega); obtain ⟨c0, c1, c2, c3, c4, c5⟩ := C2.out.c; have g0 := C2.out.fr; obtain ⟨r0, r1, r2, r3, r4, r5⟩ := R2.out.c; have f0 := R2.out.fr) | (go_at_call 38; refine (l00Number_any (wT s 2) (wT_le s hs 2) _).mono ?_; rintro e w' ⟨rfl, hw⟩; rw [hw]; clear hw w') | (go_at_call 39; refine (l15Rest_any s hs _).mono ?_; rintro e w' ⟨rfl, hw⟩; rw [hw]; clear hw w'))
    change bodyPost _ _ _ .ret _ (clSt (World.setCell w2 ⟨w.heap.size + 1, 3, none⟩ (.string (wT s 1))) w.heap.size ⟨0, 0, 0, (wT s 1), ⟨#[]⟩, ⟨#[]⟩⟩)
    refine ret_cell2 (b := w.heap.size) (v := clA ⟨0, 0, 0, (wT s 1), ⟨#[]⟩, ⟨#[]⟩⟩) (x := .bool false) Tryd.results31 rfl rfl (ClB.st (ClB.ofBlock R2.out (Below.heap_setCell _ ⟨w.heap.size + 1, 3, none⟩ _ w.heap.size (by dsimp only; omega))) ⟨0, 0, 0, (wT s 1), ⟨#[]⟩, ⟨#[]⟩⟩).load ⟨⟨⟨0, 0, 0, (wT s 1), ⟨#[]⟩, ⟨#[]⟩⟩, false, rfl, HA.out.trans ?_⟩, clSt_below (Below.setCell A2.out (Nat.le_succ _) _) (Nat.le_refl _) ⟨0, 0, 0, (wT s 1), ⟨#[]⟩, ⟨#[]⟩⟩⟩
    simp [show 1 < q by omega, show 2 < q by omega, show 3 < q by omega]
set_option maxRecDepth 100000 in
set_option maxHeartbeats 8000000 in
theorem sCall_cut (s : ByteArray) (hs : s.size ≤ 65536) (q c g : Nat) (hq : 0 < q) (hW : WdN s q) (w : World) (hg : g < w.heap.size) (ht : wT s 0 = ⟨#[99, 117, 116]⟩) (hc : ∀ j, j < q → w.cell? ⟨g, j, none⟩ = some (.string (wT s j))) :
    Calls Tryd.prog 31 #[.string s, .slice (some ⟨g, 0, none⟩) q c] w fun e w' => CallS s 9 e ∧ Below w.heap.size w w' := by
  have HA : Hid (ansI 9 s (oW s 1) = _) := ansQ hW 9
  have K2 : Hid (∀ j, j < q → ((w.alloc (.cells #[.int .i64 0, .int .i64 0, .int .i64 0, .string ⟨#[]⟩, .string ⟨#[]⟩, .string ⟨#[]⟩] 23)).alloc (.cells #[.int .i64 0, .int .i64 0, .int .i64 0, .string ⟨#[]⟩, .string ⟨#[]⟩, .string ⟨#[]⟩] 23)).cell? ⟨g, j, none⟩ = some (.string (wT s j))) := fun j hj => by rw [((Below.refl w.heap.size w).alloc (Nat.le_refl _) (.cells #[.int .i64 0, .int .i64 0, .int .i64 0, .string ⟨#[]⟩, .string ⟨#[]⟩, .string ⟨#[]⟩] 23) |>.alloc (by simp) (.cells #[.int .i64 0, .int .i64 0, .int .i64 0, .string ⟨#[]⟩, .string ⟨#[]⟩, .string ⟨#[]⟩] 23)).cell hg]; exact hc j hj
  have R2 : Hid (ClB ((w.alloc (.cells #[.int .i64 0, .int .i64 0, .int .i64 0, .string ⟨#[]⟩, .string ⟨#[]⟩, .string ⟨#[]⟩] 23)).alloc (.cells #[.int .i64 0, .int .i64 0, .int .i64 0, .string ⟨#[]⟩, .string ⟨#[]⟩, .string ⟨#[]⟩] 23)) w.heap.size clZ) := (ClB.madeOf (x := clZ) rfl).below ((Below.refl _ _).alloc (Nat.le_refl _) _)
  have C2 : Hid (ClB ((w.alloc (.cells #[.int .i64 0, .int .i64 0, .int .i64 0, .string ⟨#[]⟩, .string ⟨#[]⟩, .string ⟨#[]⟩] 23)).alloc (.cells #[.int .i64 0, .int .i64 0, .int .i64 0, .string ⟨#[]⟩, .string ⟨#[]⟩, .string ⟨#[]⟩] 23)) (w.heap.size + 1) clZ) := ClB.madeOf (x := clZ) (by simp)
  have A2 : Hid (Below w.heap.size w ((w.alloc (.cells #[.int .i64 0, .int .i64 0, .int .i64 0, .string ⟨#[]⟩, .string ⟨#[]⟩, .string ⟨#[]⟩] 23)).alloc (.cells #[.int .i64 0, .int .i64 0, .int .i64 0, .string ⟨#[]⟩, .string ⟨#[]⟩, .string ⟨#[]⟩] 23))) := ((Below.refl _ _).alloc (Nat.le_refl _) _).alloc (by simp) _
  have HW : Hid (WdN s q) := hW
  clear hc hW
  go_enter Tryd.func31, Tryd.ntmps31
  rcases (show q = 1 ∨ q = 2 ∨ q = 3 ∨ 4 ≤ q by omega) with rfl | rfl | rfl | hq4
  · skip
    have tok : True := trivial
    go_wp2_with (first | (show wpList _ _ _ ({ dst := some 13, op := _, type := _, pos := _, after := _, guard := _ } :: _) _ _; clear tok; generalize (w.alloc (.cells #[.int .i64 0, .int .i64 0, .int .i64 0, .string ⟨#[]⟩, .string ⟨#[]⟩, .string ⟨#[]⟩] 23)).alloc (.cells #[.int .i64 0, .int .i64 0, .int .i64 0, .string ⟨#[]⟩, .string ⟨#[]⟩, .string ⟨#[]⟩] 23) = w2 at *; have k0 := K2.out 0 (by omega); obtain ⟨c0, c1, c2, c3, c4, c5⟩ := C2.out.c; have g0 := C2.out.fr; obtain ⟨r0, r1, r2, r3, r4, r5⟩ := R2.out.c; have f0 := R2.out.fr) | (go_at_call 38; refine (l00Number_any (wT s 2) (wT_le s hs 2) _).mono ?_; rintro e w' ⟨rfl, hw⟩; rw [hw]; clear hw w') | (go_at_call 39; refine (l15Rest_any s hs _).mono ?_; rintro e w' ⟨rfl, hw⟩; rw [hw]; clear hw w'))
    change bodyPost _ _ _ .ret _ (clSt w2 w.heap.size ⟨0, 0, 0, ⟨#[]⟩, ⟨#[]⟩, ⟨#[]⟩⟩)
    refine ret_cell2 (b := w.heap.size) (v := clA ⟨0, 0, 0, ⟨#[]⟩, ⟨#[]⟩, ⟨#[]⟩⟩) (x := .bool false) Tryd.results31 rfl rfl (ClB.st R2.out ⟨0, 0, 0, ⟨#[]⟩, ⟨#[]⟩, ⟨#[]⟩⟩).load ⟨⟨⟨0, 0, 0, ⟨#[]⟩, ⟨#[]⟩, ⟨#[]⟩⟩, false, rfl, HA.out.trans ?_⟩, clSt_below A2.out (Nat.le_refl _) ⟨0, 0, 0, ⟨#[]⟩, ⟨#[]⟩, ⟨#[]⟩⟩⟩
    have e2 : numL (wT s 2).data.toList = none := by rw [wT_out HW.out (by omega)]; exact num_nil
    simp [e2]
  · skip
    have tok : True := trivial
    go_wp2_with (first | (show wpList _ _ _ ({ dst := some 13, op := _, type := _, pos := _, after := _, guard := _ } :: _) _ _; clear tok; generalize (w.alloc (.cells #[.int .i64 0, .int .i64 0, .int .i64 0, .string ⟨#[]⟩, .string ⟨#[]⟩, .string ⟨#[]⟩] 23)).alloc (.cells #[.int .i64 0, .int .i64 0, .int .i64 0, .string ⟨#[]⟩, .string ⟨#[]⟩, .string ⟨#[]⟩] 23) = w2 at *; have k0 := K2.out 0 (by omega); have k1 := K2.out 1 (by omega); obtain ⟨c0, c1, c2, c3, c4, c5⟩ := C2.out.c; have g0 := C2.out.fr; obtain ⟨r0, r1, r2, r3, r4, r5⟩ := R2.out.c; have f0 := R2.out.fr) | (go_at_call 38; refine (l00Number_any (wT s 2) (wT_le s hs 2) _).mono ?_; rintro e w' ⟨rfl, hw⟩; rw [hw]; clear hw w') | (go_at_call 39; refine (l15Rest_any s hs _).mono ?_; rintro e w' ⟨rfl, hw⟩; rw [hw]; clear hw w'))
    change bodyPost _ _ _ .ret _ (clSt (World.setCell w2 ⟨w.heap.size + 1, 3, none⟩ (.string (wT s 1))) w.heap.size ⟨0, 0, 0, (wT s 1), ⟨#[]⟩, ⟨#[]⟩⟩)
    refine ret_cell2 (b := w.heap.size) (v := clA ⟨0, 0, 0, (wT s 1), ⟨#[]⟩, ⟨#[]⟩⟩) (x := .bool false) Tryd.results31 rfl rfl (ClB.st (ClB.ofBlock R2.out (Below.heap_setCell _ ⟨w.heap.size + 1, 3, none⟩ _ w.heap.size (by dsimp only; omega))) ⟨0, 0, 0, (wT s 1), ⟨#[]⟩, ⟨#[]⟩⟩).load ⟨⟨⟨0, 0, 0, (wT s 1), ⟨#[]⟩, ⟨#[]⟩⟩, false, rfl, HA.out.trans ?_⟩, clSt_below (Below.setCell A2.out (Nat.le_succ _) _) (Nat.le_refl _) ⟨0, 0, 0, (wT s 1), ⟨#[]⟩, ⟨#[]⟩⟩⟩
    have e2 : numL (wT s 2).data.toList = none := by rw [wT_out HW.out (by omega)]; exact num_nil
    simp [e2]
  · skip
    have tok : True := trivial
    go_wp2_with (first | (show wpList _ _ _ ({ dst := some 13, op := _, type := _, pos := _, after := _, guard := _ } :: _) _ _; clear tok; generalize (w.alloc (.cells #[.int .i64 0, .int .i64 0, .int .i64 0, .string ⟨#[]⟩, .string ⟨#[]⟩, .string ⟨#[]⟩] 23)).alloc (.cells #[.int .i64 0, .int .i64 0, .int .i64 0, .string ⟨#[]⟩, .string ⟨#[]⟩, .string ⟨#[]⟩] 23) = w2 at *; have k0 := K2.out 0 (by omega); have k1 := K2.out 1 (by omega); have k2 := K2.out 2 (by omega); obtain ⟨c0, c1, c2, c3, c4, c5⟩ := C2.out.c; have g0 := C2.out.fr; obtain ⟨r0, r1, r2, r3, r4, r5⟩ := R2.out.c; have f0 := R2.out.fr) | (go_at_call 38; refine (l00Number_any (wT s 2) (wT_le s hs 2) _).mono ?_; rintro e w' ⟨rfl, hw⟩; rw [hw]; clear hw w') | (go_at_call 39; refine (l15Rest_any s hs _).mono ?_; rintro e w' ⟨rfl, hw⟩; rw [hw]; clear hw w'))
    change bodyPost _ _ _ .ret _ (clSt (World.setCell (World.setCell (World.setCell w2 ⟨w.heap.size + 1, 3, none⟩ (.string (wT s 1))) ⟨w.heap.size + 1, 0, none⟩ (.int .i64 4)) ⟨w.heap.size + 1, 2, none⟩ (.int .i64 ((numL (wT s 2).data.toList).getD 0))) w.heap.size ⟨4, 0, ((numL (wT s 2).data.toList).getD 0), (wT s 1), ⟨#[]⟩, ⟨#[]⟩⟩)
    refine ret_cell2 (b := w.heap.size) (v := clA ⟨4, 0, ((numL (wT s 2).data.toList).getD 0), (wT s 1), ⟨#[]⟩, ⟨#[]⟩⟩) (x := .bool (numL (wT s 2).data.toList).isSome) Tryd.results31 rfl rfl (ClB.st (ClB.ofBlock (ClB.ofBlock (ClB.ofBlock R2.out (Below.heap_setCell _ ⟨w.heap.size + 1, 3, none⟩ _ w.heap.size (by dsimp only; omega))) (Below.heap_setCell _ ⟨w.heap.size + 1, 0, none⟩ _ w.heap.size (by dsimp only; omega))) (Below.heap_setCell _ ⟨w.heap.size + 1, 2, none⟩ _ w.heap.size (by dsimp only; omega))) ⟨4, 0, ((numL (wT s 2).data.toList).getD 0), (wT s 1), ⟨#[]⟩, ⟨#[]⟩⟩).load ⟨⟨⟨4, 0, ((numL (wT s 2).data.toList).getD 0), (wT s 1), ⟨#[]⟩, ⟨#[]⟩⟩, (numL (wT s 2).data.toList).isSome, rfl, HA.out.trans ?_⟩, clSt_below (Below.setCell (Below.setCell (Below.setCell A2.out (Nat.le_succ _) _) (Nat.le_succ _) _) (Nat.le_succ _) _) (Nat.le_refl _) ⟨4, 0, ((numL (wT s 2).data.toList).getD 0), (wT s 1), ⟨#[]⟩, ⟨#[]⟩⟩⟩
    cases numL (wT s 2).data.toList <;> simp
  · skip
    have q1 : (1 : Int) < (q : Int) := by omega
    have q2 : ((q : Int) == 2) = false := by rw [beq_eq_false_iff_ne]; omega
    have q3 : ((q : Int) == 3) = false := by rw [beq_eq_false_iff_ne]; omega
    have q4 : ¬ (q : Int) ≤ 2 := by omega
    have q5 : (3 : Int) ≤ (q : Int) := by omega
    have tok : True := trivial
    go_wp2_with (first | (show wpList _ _ _ ({ dst := some 13, op := _, type := _, pos := _, after := _, guard := _ } :: _) _ _; clear tok; generalize (w.alloc (.cells #[.int .i64 0, .int .i64 0, .int .i64 0, .string ⟨#[]⟩, .string ⟨#[]⟩, .string ⟨#[]⟩] 23)).alloc (.cells #[.int .i64 0, .int .i64 0, .int .i64 0, .string ⟨#[]⟩, .string ⟨#[]⟩, .string ⟨#[]⟩] 23) = w2 at *; have k0 := K2.out 0 (by omega); have k1 := K2.out 1 (by omega); have k2 := K2.out 2 (by omega); obtain ⟨c0, c1, c2, c3, c4, c5⟩ := C2.out.c; have g0 := C2.out.fr; obtain ⟨r0, r1, r2, r3, r4, r5⟩ := R2.out.c; have f0 := R2.out.fr) | (go_at_call 38; refine (l00Number_any (wT s 2) (wT_le s hs 2) _).mono ?_; rintro e w' ⟨rfl, hw⟩; rw [hw]; clear hw w') | (go_at_call 39; refine (l15Rest_any s hs _).mono ?_; rintro e w' ⟨rfl, hw⟩; rw [hw]; clear hw w'))
    change bodyPost _ _ _ .ret _ (clSt (World.setCell w2 ⟨w.heap.size + 1, 3, none⟩ (.string (wT s 1))) w.heap.size ⟨0, 0, 0, (wT s 1), ⟨#[]⟩, ⟨#[]⟩⟩)
    refine ret_cell2 (b := w.heap.size) (v := clA ⟨0, 0, 0, (wT s 1), ⟨#[]⟩, ⟨#[]⟩⟩) (x := .bool false) Tryd.results31 rfl rfl (ClB.st (ClB.ofBlock R2.out (Below.heap_setCell _ ⟨w.heap.size + 1, 3, none⟩ _ w.heap.size (by dsimp only; omega))) ⟨0, 0, 0, (wT s 1), ⟨#[]⟩, ⟨#[]⟩⟩).load ⟨⟨⟨0, 0, 0, (wT s 1), ⟨#[]⟩, ⟨#[]⟩⟩, false, rfl, HA.out.trans ?_⟩, clSt_below (Below.setCell A2.out (Nat.le_succ _) _) (Nat.le_refl _) ⟨0, 0, 0, (wT s 1), ⟨#[]⟩, ⟨#[]⟩⟩⟩
    cases numL (wT s 2).data.toList <;> simp [show 3 < q by omega]
set_option maxRecDepth 100000 in
set_option maxHeartbeats 8000000 in
theorem sCall_move (s : ByteArray) (hs : s.size ≤ 65536) (q c g : Nat) (hq : 0 < q) (hW : WdN s q) (w : World) (hg : g < w.heap.size) (ht : wT s 0 = ⟨#[109, 111, 118, 101]⟩) (hc : ∀ j, j < q → w.cell? ⟨g, j, none⟩ = some (.string (wT s j))) :
    Calls Tryd.prog 31 #[.string s, .slice (some ⟨g, 0, none⟩) q c] w fun e w' => CallS s 10 e ∧ Below w.heap.size w w' := by
  have HA : Hid (ansI 10 s (oW s 1) = _) := ansQ hW 10
  have K2 : Hid (∀ j, j < q → ((w.alloc (.cells #[.int .i64 0, .int .i64 0, .int .i64 0, .string ⟨#[]⟩, .string ⟨#[]⟩, .string ⟨#[]⟩] 23)).alloc (.cells #[.int .i64 0, .int .i64 0, .int .i64 0, .string ⟨#[]⟩, .string ⟨#[]⟩, .string ⟨#[]⟩] 23)).cell? ⟨g, j, none⟩ = some (.string (wT s j))) := fun j hj => by rw [((Below.refl w.heap.size w).alloc (Nat.le_refl _) (.cells #[.int .i64 0, .int .i64 0, .int .i64 0, .string ⟨#[]⟩, .string ⟨#[]⟩, .string ⟨#[]⟩] 23) |>.alloc (by simp) (.cells #[.int .i64 0, .int .i64 0, .int .i64 0, .string ⟨#[]⟩, .string ⟨#[]⟩, .string ⟨#[]⟩] 23)).cell hg]; exact hc j hj
  have R2 : Hid (ClB ((w.alloc (.cells #[.int .i64 0, .int .i64 0, .int .i64 0, .string ⟨#[]⟩, .string ⟨#[]⟩, .string ⟨#[]⟩] 23)).alloc (.cells #[.int .i64 0, .int .i64 0, .int .i64 0, .string ⟨#[]⟩, .string ⟨#[]⟩, .string ⟨#[]⟩] 23)) w.heap.size clZ) := (ClB.madeOf (x := clZ) rfl).below ((Below.refl _ _).alloc (Nat.le_refl _) _)
  have C2 : Hid (ClB ((w.alloc (.cells #[.int .i64 0, .int .i64 0, .int .i64 0, .string ⟨#[]⟩, .string ⟨#[]⟩, .string ⟨#[]⟩] 23)).alloc (.cells #[.int .i64 0, .int .i64 0, .int .i64 0, .string ⟨#[]⟩, .string ⟨#[]⟩, .string ⟨#[]⟩] 23)) (w.heap.size + 1) clZ) := ClB.madeOf (x := clZ) (by simp)
  have A2 : Hid (Below w.heap.size w ((w.alloc (.cells #[.int .i64 0, .int .i64 0, .int .i64 0, .string ⟨#[]⟩, .string ⟨#[]⟩, .string ⟨#[]⟩] 23)).alloc (.cells #[.int .i64 0, .int .i64 0, .int .i64 0, .string ⟨#[]⟩, .string ⟨#[]⟩, .string ⟨#[]⟩] 23))) := ((Below.refl _ _).alloc (Nat.le_refl _) _).alloc (by simp) _
  have HW : Hid (WdN s q) := hW
  clear hc hW
  go_enter Tryd.func31, Tryd.ntmps31
  rcases (show q = 1 ∨ q = 2 ∨ q = 3 ∨ 4 ≤ q by omega) with rfl | rfl | rfl | hq4
  · skip
    have tok : True := trivial
    go_wp2_with (first | (show wpList _ _ _ ({ dst := some 13, op := _, type := _, pos := _, after := _, guard := _ } :: _) _ _; clear tok; generalize (w.alloc (.cells #[.int .i64 0, .int .i64 0, .int .i64 0, .string ⟨#[]⟩, .string ⟨#[]⟩, .string ⟨#[]⟩] 23)).alloc (.cells #[.int .i64 0, .int .i64 0, .int .i64 0, .string ⟨#[]⟩, .string ⟨#[]⟩, .string ⟨#[]⟩] 23) = w2 at *; have k0 := K2.out 0 (by omega); obtain ⟨c0, c1, c2, c3, c4, c5⟩ := C2.out.c; have g0 := C2.out.fr; obtain ⟨r0, r1, r2, r3, r4, r5⟩ := R2.out.c; have f0 := R2.out.fr) | (go_at_call 38; refine (l00Number_any (wT s 2) (wT_le s hs 2) _).mono ?_; rintro e w' ⟨rfl, hw⟩; rw [hw]; clear hw w') | (go_at_call 39; refine (l15Rest_any s hs _).mono ?_; rintro e w' ⟨rfl, hw⟩; rw [hw]; clear hw w'))
    change bodyPost _ _ _ .ret _ (clSt w2 w.heap.size ⟨0, 0, 0, ⟨#[]⟩, ⟨#[]⟩, ⟨#[]⟩⟩)
    refine ret_cell2 (b := w.heap.size) (v := clA ⟨0, 0, 0, ⟨#[]⟩, ⟨#[]⟩, ⟨#[]⟩⟩) (x := .bool false) Tryd.results31 rfl rfl (ClB.st R2.out ⟨0, 0, 0, ⟨#[]⟩, ⟨#[]⟩, ⟨#[]⟩⟩).load ⟨⟨⟨0, 0, 0, ⟨#[]⟩, ⟨#[]⟩, ⟨#[]⟩⟩, false, rfl, HA.out.trans ?_⟩, clSt_below A2.out (Nat.le_refl _) ⟨0, 0, 0, ⟨#[]⟩, ⟨#[]⟩, ⟨#[]⟩⟩⟩
    first | (simp; done) | (simp [wT_out HW.out (Nat.le_refl 1)]; done)
  · skip
    have tok : True := trivial
    go_wp2_with (first | (show wpList _ _ _ ({ dst := some 13, op := _, type := _, pos := _, after := _, guard := _ } :: _) _ _; clear tok; generalize (w.alloc (.cells #[.int .i64 0, .int .i64 0, .int .i64 0, .string ⟨#[]⟩, .string ⟨#[]⟩, .string ⟨#[]⟩] 23)).alloc (.cells #[.int .i64 0, .int .i64 0, .int .i64 0, .string ⟨#[]⟩, .string ⟨#[]⟩, .string ⟨#[]⟩] 23) = w2 at *; have k0 := K2.out 0 (by omega); have k1 := K2.out 1 (by omega); obtain ⟨c0, c1, c2, c3, c4, c5⟩ := C2.out.c; have g0 := C2.out.fr; obtain ⟨r0, r1, r2, r3, r4, r5⟩ := R2.out.c; have f0 := R2.out.fr) | (go_at_call 38; refine (l00Number_any (wT s 2) (wT_le s hs 2) _).mono ?_; rintro e w' ⟨rfl, hw⟩; rw [hw]; clear hw w') | (go_at_call 39; refine (l15Rest_any s hs _).mono ?_; rintro e w' ⟨rfl, hw⟩; rw [hw]; clear hw w'))
    change bodyPost _ _ _ .ret _ (clSt (World.setCell w2 ⟨w.heap.size + 1, 3, none⟩ (.string (wT s 1))) w.heap.size ⟨0, 0, 0, (wT s 1), ⟨#[]⟩, ⟨#[]⟩⟩)
    refine ret_cell2 (b := w.heap.size) (v := clA ⟨0, 0, 0, (wT s 1), ⟨#[]⟩, ⟨#[]⟩⟩) (x := .bool false) Tryd.results31 rfl rfl (ClB.st (ClB.ofBlock R2.out (Below.heap_setCell _ ⟨w.heap.size + 1, 3, none⟩ _ w.heap.size (by dsimp only; omega))) ⟨0, 0, 0, (wT s 1), ⟨#[]⟩, ⟨#[]⟩⟩).load ⟨⟨⟨0, 0, 0, (wT s 1), ⟨#[]⟩, ⟨#[]⟩⟩, false, rfl, HA.out.trans ?_⟩, clSt_below (Below.setCell A2.out (Nat.le_succ _) _) (Nat.le_refl _) ⟨0, 0, 0, (wT s 1), ⟨#[]⟩, ⟨#[]⟩⟩⟩
    simp
  · skip
    have tok : True := trivial
    go_wp2_with (first | (show wpList _ _ _ ({ dst := some 13, op := _, type := _, pos := _, after := _, guard := _ } :: _) _ _; clear tok; generalize (w.alloc (.cells #[.int .i64 0, .int .i64 0, .int .i64 0, .string ⟨#[]⟩, .string ⟨#[]⟩, .string ⟨#[]⟩] 23)).alloc (.cells #[.int .i64 0, .int .i64 0, .int .i64 0, .string ⟨#[]⟩, .string ⟨#[]⟩, .string ⟨#[]⟩] 23) = w2 at *; have k0 := K2.out 0 (by omega); have k1 := K2.out 1 (by omega); have k2 := K2.out 2 (by omega); obtain ⟨c0, c1, c2, c3, c4, c5⟩ := C2.out.c; have g0 := C2.out.fr; obtain ⟨r0, r1, r2, r3, r4, r5⟩ := R2.out.c; have f0 := R2.out.fr) | (go_at_call 38; refine (l00Number_any (wT s 2) (wT_le s hs 2) _).mono ?_; rintro e w' ⟨rfl, hw⟩; rw [hw]; clear hw w') | (go_at_call 39; refine (l15Rest_any s hs _).mono ?_; rintro e w' ⟨rfl, hw⟩; rw [hw]; clear hw w'))
    change bodyPost _ _ _ .ret _ (clSt (World.setCell (World.setCell (World.setCell w2 ⟨w.heap.size + 1, 3, none⟩ (.string (wT s 1))) ⟨w.heap.size + 1, 0, none⟩ (.int .i64 5)) ⟨w.heap.size + 1, 4, none⟩ (.string (wT s 2))) w.heap.size ⟨5, 0, 0, (wT s 1), (wT s 2), ⟨#[]⟩⟩)
    refine ret_cell2 (b := w.heap.size) (v := clA ⟨5, 0, 0, (wT s 1), (wT s 2), ⟨#[]⟩⟩) (x := .bool true) Tryd.results31 rfl rfl (ClB.st (ClB.ofBlock (ClB.ofBlock (ClB.ofBlock R2.out (Below.heap_setCell _ ⟨w.heap.size + 1, 3, none⟩ _ w.heap.size (by dsimp only; omega))) (Below.heap_setCell _ ⟨w.heap.size + 1, 0, none⟩ _ w.heap.size (by dsimp only; omega))) (Below.heap_setCell _ ⟨w.heap.size + 1, 4, none⟩ _ w.heap.size (by dsimp only; omega))) ⟨5, 0, 0, (wT s 1), (wT s 2), ⟨#[]⟩⟩).load ⟨⟨⟨5, 0, 0, (wT s 1), (wT s 2), ⟨#[]⟩⟩, true, rfl, HA.out.trans ?_⟩, clSt_below (Below.setCell (Below.setCell (Below.setCell A2.out (Nat.le_succ _) _) (Nat.le_succ _) _) (Nat.le_succ _) _) (Nat.le_refl _) ⟨5, 0, 0, (wT s 1), (wT s 2), ⟨#[]⟩⟩⟩
    simp
  · skip
    have q1 : (1 : Int) < (q : Int) := by omega
    have q2 : ((q : Int) == 2) = false := by rw [beq_eq_false_iff_ne]; omega
    have q3 : ((q : Int) == 3) = false := by rw [beq_eq_false_iff_ne]; omega
    have q4 : ¬ (q : Int) ≤ 2 := by omega
    have q5 : (3 : Int) ≤ (q : Int) := by omega
    have tok : True := trivial
    go_wp2_with (first | (show wpList _ _ _ ({ dst := some 13, op := _, type := _, pos := _, after := _, guard := _ } :: _) _ _; clear tok; generalize (w.alloc (.cells #[.int .i64 0, .int .i64 0, .int .i64 0, .string ⟨#[]⟩, .string ⟨#[]⟩, .string ⟨#[]⟩] 23)).alloc (.cells #[.int .i64 0, .int .i64 0, .int .i64 0, .string ⟨#[]⟩, .string ⟨#[]⟩, .string ⟨#[]⟩] 23) = w2 at *; have k0 := K2.out 0 (by omega); have k1 := K2.out 1 (by omega); have k2 := K2.out 2 (by omega); obtain ⟨c0, c1, c2, c3, c4, c5⟩ := C2.out.c; have g0 := C2.out.fr; obtain ⟨r0, r1, r2, r3, r4, r5⟩ := R2.out.c; have f0 := R2.out.fr) | (go_at_call 38; refine (l00Number_any (wT s 2) (wT_le s hs 2) _).mono ?_; rintro e w' ⟨rfl, hw⟩; rw [hw]; clear hw w') | (go_at_call 39; refine (l15Rest_any s hs _).mono ?_; rintro e w' ⟨rfl, hw⟩; rw [hw]; clear hw w'))
    change bodyPost _ _ _ .ret _ (clSt (World.setCell w2 ⟨w.heap.size + 1, 3, none⟩ (.string (wT s 1))) w.heap.size ⟨0, 0, 0, (wT s 1), ⟨#[]⟩, ⟨#[]⟩⟩)
    refine ret_cell2 (b := w.heap.size) (v := clA ⟨0, 0, 0, (wT s 1), ⟨#[]⟩, ⟨#[]⟩⟩) (x := .bool false) Tryd.results31 rfl rfl (ClB.st (ClB.ofBlock R2.out (Below.heap_setCell _ ⟨w.heap.size + 1, 3, none⟩ _ w.heap.size (by dsimp only; omega))) ⟨0, 0, 0, (wT s 1), ⟨#[]⟩, ⟨#[]⟩⟩).load ⟨⟨⟨0, 0, 0, (wT s 1), ⟨#[]⟩, ⟨#[]⟩⟩, false, rfl, HA.out.trans ?_⟩, clSt_below (Below.setCell A2.out (Nat.le_succ _) _) (Nat.le_refl _) ⟨0, 0, 0, (wT s 1), ⟨#[]⟩, ⟨#[]⟩⟩⟩
    simp [show 1 < q by omega, show 2 < q by omega, show 3 < q by omega]
set_option maxRecDepth 100000 in
set_option maxHeartbeats 8000000 in
theorem sCall_rm (s : ByteArray) (hs : s.size ≤ 65536) (q c g : Nat) (hq : 0 < q) (hW : WdN s q) (w : World) (hg : g < w.heap.size) (ht : wT s 0 = ⟨#[114, 109]⟩) (hc : ∀ j, j < q → w.cell? ⟨g, j, none⟩ = some (.string (wT s j))) :
    Calls Tryd.prog 31 #[.string s, .slice (some ⟨g, 0, none⟩) q c] w fun e w' => CallS s 11 e ∧ Below w.heap.size w w' := by
  have HA : Hid (ansI 11 s (oW s 1) = _) := ansQ hW 11
  have K2 : Hid (∀ j, j < q → ((w.alloc (.cells #[.int .i64 0, .int .i64 0, .int .i64 0, .string ⟨#[]⟩, .string ⟨#[]⟩, .string ⟨#[]⟩] 23)).alloc (.cells #[.int .i64 0, .int .i64 0, .int .i64 0, .string ⟨#[]⟩, .string ⟨#[]⟩, .string ⟨#[]⟩] 23)).cell? ⟨g, j, none⟩ = some (.string (wT s j))) := fun j hj => by rw [((Below.refl w.heap.size w).alloc (Nat.le_refl _) (.cells #[.int .i64 0, .int .i64 0, .int .i64 0, .string ⟨#[]⟩, .string ⟨#[]⟩, .string ⟨#[]⟩] 23) |>.alloc (by simp) (.cells #[.int .i64 0, .int .i64 0, .int .i64 0, .string ⟨#[]⟩, .string ⟨#[]⟩, .string ⟨#[]⟩] 23)).cell hg]; exact hc j hj
  have R2 : Hid (ClB ((w.alloc (.cells #[.int .i64 0, .int .i64 0, .int .i64 0, .string ⟨#[]⟩, .string ⟨#[]⟩, .string ⟨#[]⟩] 23)).alloc (.cells #[.int .i64 0, .int .i64 0, .int .i64 0, .string ⟨#[]⟩, .string ⟨#[]⟩, .string ⟨#[]⟩] 23)) w.heap.size clZ) := (ClB.madeOf (x := clZ) rfl).below ((Below.refl _ _).alloc (Nat.le_refl _) _)
  have C2 : Hid (ClB ((w.alloc (.cells #[.int .i64 0, .int .i64 0, .int .i64 0, .string ⟨#[]⟩, .string ⟨#[]⟩, .string ⟨#[]⟩] 23)).alloc (.cells #[.int .i64 0, .int .i64 0, .int .i64 0, .string ⟨#[]⟩, .string ⟨#[]⟩, .string ⟨#[]⟩] 23)) (w.heap.size + 1) clZ) := ClB.madeOf (x := clZ) (by simp)
  have A2 : Hid (Below w.heap.size w ((w.alloc (.cells #[.int .i64 0, .int .i64 0, .int .i64 0, .string ⟨#[]⟩, .string ⟨#[]⟩, .string ⟨#[]⟩] 23)).alloc (.cells #[.int .i64 0, .int .i64 0, .int .i64 0, .string ⟨#[]⟩, .string ⟨#[]⟩, .string ⟨#[]⟩] 23))) := ((Below.refl _ _).alloc (Nat.le_refl _) _).alloc (by simp) _
  have HW : Hid (WdN s q) := hW
  clear hc hW
  go_enter Tryd.func31, Tryd.ntmps31
  rcases (show q = 1 ∨ q = 2 ∨ q = 3 ∨ 4 ≤ q by omega) with rfl | rfl | rfl | hq4
  · skip
    have tok : True := trivial
    go_wp2_with (first | (show wpList _ _ _ ({ dst := some 13, op := _, type := _, pos := _, after := _, guard := _ } :: _) _ _; clear tok; generalize (w.alloc (.cells #[.int .i64 0, .int .i64 0, .int .i64 0, .string ⟨#[]⟩, .string ⟨#[]⟩, .string ⟨#[]⟩] 23)).alloc (.cells #[.int .i64 0, .int .i64 0, .int .i64 0, .string ⟨#[]⟩, .string ⟨#[]⟩, .string ⟨#[]⟩] 23) = w2 at *; have k0 := K2.out 0 (by omega); obtain ⟨c0, c1, c2, c3, c4, c5⟩ := C2.out.c; have g0 := C2.out.fr; obtain ⟨r0, r1, r2, r3, r4, r5⟩ := R2.out.c; have f0 := R2.out.fr) | (go_at_call 38; refine (l00Number_any (wT s 2) (wT_le s hs 2) _).mono ?_; rintro e w' ⟨rfl, hw⟩; rw [hw]; clear hw w') | (go_at_call 39; refine (l15Rest_any s hs _).mono ?_; rintro e w' ⟨rfl, hw⟩; rw [hw]; clear hw w'))
    change bodyPost _ _ _ .ret _ (clSt w2 w.heap.size ⟨0, 0, 0, ⟨#[]⟩, ⟨#[]⟩, ⟨#[]⟩⟩)
    refine ret_cell2 (b := w.heap.size) (v := clA ⟨0, 0, 0, ⟨#[]⟩, ⟨#[]⟩, ⟨#[]⟩⟩) (x := .bool false) Tryd.results31 rfl rfl (ClB.st R2.out ⟨0, 0, 0, ⟨#[]⟩, ⟨#[]⟩, ⟨#[]⟩⟩).load ⟨⟨⟨0, 0, 0, ⟨#[]⟩, ⟨#[]⟩, ⟨#[]⟩⟩, false, rfl, HA.out.trans ?_⟩, clSt_below A2.out (Nat.le_refl _) ⟨0, 0, 0, ⟨#[]⟩, ⟨#[]⟩, ⟨#[]⟩⟩⟩
    first | (simp; done) | (simp [wT_out HW.out (Nat.le_refl 1)]; done)
  · skip
    have tok : True := trivial
    go_wp2_with (first | (show wpList _ _ _ ({ dst := some 13, op := _, type := _, pos := _, after := _, guard := _ } :: _) _ _; clear tok; generalize (w.alloc (.cells #[.int .i64 0, .int .i64 0, .int .i64 0, .string ⟨#[]⟩, .string ⟨#[]⟩, .string ⟨#[]⟩] 23)).alloc (.cells #[.int .i64 0, .int .i64 0, .int .i64 0, .string ⟨#[]⟩, .string ⟨#[]⟩, .string ⟨#[]⟩] 23) = w2 at *; have k0 := K2.out 0 (by omega); have k1 := K2.out 1 (by omega); obtain ⟨c0, c1, c2, c3, c4, c5⟩ := C2.out.c; have g0 := C2.out.fr; obtain ⟨r0, r1, r2, r3, r4, r5⟩ := R2.out.c; have f0 := R2.out.fr) | (go_at_call 38; refine (l00Number_any (wT s 2) (wT_le s hs 2) _).mono ?_; rintro e w' ⟨rfl, hw⟩; rw [hw]; clear hw w') | (go_at_call 39; refine (l15Rest_any s hs _).mono ?_; rintro e w' ⟨rfl, hw⟩; rw [hw]; clear hw w'))
    change bodyPost _ _ _ .ret _ (clSt (World.setCell (World.setCell w2 ⟨w.heap.size + 1, 3, none⟩ (.string (wT s 1))) ⟨w.heap.size + 1, 0, none⟩ (.int .i64 6)) w.heap.size ⟨6, 0, 0, (wT s 1), ⟨#[]⟩, ⟨#[]⟩⟩)
    refine ret_cell2 (b := w.heap.size) (v := clA ⟨6, 0, 0, (wT s 1), ⟨#[]⟩, ⟨#[]⟩⟩) (x := .bool true) Tryd.results31 rfl rfl (ClB.st (ClB.ofBlock (ClB.ofBlock R2.out (Below.heap_setCell _ ⟨w.heap.size + 1, 3, none⟩ _ w.heap.size (by dsimp only; omega))) (Below.heap_setCell _ ⟨w.heap.size + 1, 0, none⟩ _ w.heap.size (by dsimp only; omega))) ⟨6, 0, 0, (wT s 1), ⟨#[]⟩, ⟨#[]⟩⟩).load ⟨⟨⟨6, 0, 0, (wT s 1), ⟨#[]⟩, ⟨#[]⟩⟩, true, rfl, HA.out.trans ?_⟩, clSt_below (Below.setCell (Below.setCell A2.out (Nat.le_succ _) _) (Nat.le_succ _) _) (Nat.le_refl _) ⟨6, 0, 0, (wT s 1), ⟨#[]⟩, ⟨#[]⟩⟩⟩
    simp
  · skip
    have tok : True := trivial
    go_wp2_with (first | (show wpList _ _ _ ({ dst := some 13, op := _, type := _, pos := _, after := _, guard := _ } :: _) _ _; clear tok; generalize (w.alloc (.cells #[.int .i64 0, .int .i64 0, .int .i64 0, .string ⟨#[]⟩, .string ⟨#[]⟩, .string ⟨#[]⟩] 23)).alloc (.cells #[.int .i64 0, .int .i64 0, .int .i64 0, .string ⟨#[]⟩, .string ⟨#[]⟩, .string ⟨#[]⟩] 23) = w2 at *; have k0 := K2.out 0 (by omega); have k1 := K2.out 1 (by omega); have k2 := K2.out 2 (by omega); obtain ⟨c0, c1, c2, c3, c4, c5⟩ := C2.out.c; have g0 := C2.out.fr; obtain ⟨r0, r1, r2, r3, r4, r5⟩ := R2.out.c; have f0 := R2.out.fr) | (go_at_call 38; refine (l00Number_any (wT s 2) (wT_le s hs 2) _).mono ?_; rintro e w' ⟨rfl, hw⟩; rw [hw]; clear hw w') | (go_at_call 39; refine (l15Rest_any s hs _).mono ?_; rintro e w' ⟨rfl, hw⟩; rw [hw]; clear hw w'))
    change bodyPost _ _ _ .ret _ (clSt (World.setCell w2 ⟨w.heap.size + 1, 3, none⟩ (.string (wT s 1))) w.heap.size ⟨0, 0, 0, (wT s 1), ⟨#[]⟩, ⟨#[]⟩⟩)
    refine ret_cell2 (b := w.heap.size) (v := clA ⟨0, 0, 0, (wT s 1), ⟨#[]⟩, ⟨#[]⟩⟩) (x := .bool false) Tryd.results31 rfl rfl (ClB.st (ClB.ofBlock R2.out (Below.heap_setCell _ ⟨w.heap.size + 1, 3, none⟩ _ w.heap.size (by dsimp only; omega))) ⟨0, 0, 0, (wT s 1), ⟨#[]⟩, ⟨#[]⟩⟩).load ⟨⟨⟨0, 0, 0, (wT s 1), ⟨#[]⟩, ⟨#[]⟩⟩, false, rfl, HA.out.trans ?_⟩, clSt_below (Below.setCell A2.out (Nat.le_succ _) _) (Nat.le_refl _) ⟨0, 0, 0, (wT s 1), ⟨#[]⟩, ⟨#[]⟩⟩⟩
    simp
  · skip
    have q1 : (1 : Int) < (q : Int) := by omega
    have q2 : ((q : Int) == 2) = false := by rw [beq_eq_false_iff_ne]; omega
    have q3 : ((q : Int) == 3) = false := by rw [beq_eq_false_iff_ne]; omega
    have q4 : ¬ (q : Int) ≤ 2 := by omega
    have q5 : (3 : Int) ≤ (q : Int) := by omega
    have tok : True := trivial
    go_wp2_with (first | (show wpList _ _ _ ({ dst := some 13, op := _, type := _, pos := _, after := _, guard := _ } :: _) _ _; clear tok; generalize (w.alloc (.cells #[.int .i64 0, .int .i64 0, .int .i64 0, .string ⟨#[]⟩, .string ⟨#[]⟩, .string ⟨#[]⟩] 23)).alloc (.cells #[.int .i64 0, .int .i64 0, .int .i64 0, .string ⟨#[]⟩, .string ⟨#[]⟩, .string ⟨#[]⟩] 23) = w2 at *; have k0 := K2.out 0 (by omega); have k1 := K2.out 1 (by omega); have k2 := K2.out 2 (by omega); obtain ⟨c0, c1, c2, c3, c4, c5⟩ := C2.out.c; have g0 := C2.out.fr; obtain ⟨r0, r1, r2, r3, r4, r5⟩ := R2.out.c; have f0 := R2.out.fr) | (go_at_call 38; refine (l00Number_any (wT s 2) (wT_le s hs 2) _).mono ?_; rintro e w' ⟨rfl, hw⟩; rw [hw]; clear hw w') | (go_at_call 39; refine (l15Rest_any s hs _).mono ?_; rintro e w' ⟨rfl, hw⟩; rw [hw]; clear hw w'))
    change bodyPost _ _ _ .ret _ (clSt (World.setCell w2 ⟨w.heap.size + 1, 3, none⟩ (.string (wT s 1))) w.heap.size ⟨0, 0, 0, (wT s 1), ⟨#[]⟩, ⟨#[]⟩⟩)
    refine ret_cell2 (b := w.heap.size) (v := clA ⟨0, 0, 0, (wT s 1), ⟨#[]⟩, ⟨#[]⟩⟩) (x := .bool false) Tryd.results31 rfl rfl (ClB.st (ClB.ofBlock R2.out (Below.heap_setCell _ ⟨w.heap.size + 1, 3, none⟩ _ w.heap.size (by dsimp only; omega))) ⟨0, 0, 0, (wT s 1), ⟨#[]⟩, ⟨#[]⟩⟩).load ⟨⟨⟨0, 0, 0, (wT s 1), ⟨#[]⟩, ⟨#[]⟩⟩, false, rfl, HA.out.trans ?_⟩, clSt_below (Below.setCell A2.out (Nat.le_succ _) _) (Nat.le_refl _) ⟨0, 0, 0, (wT s 1), ⟨#[]⟩, ⟨#[]⟩⟩⟩
    simp [show 1 < q by omega, show 2 < q by omega, show 3 < q by omega]
set_option maxRecDepth 100000 in
set_option maxHeartbeats 8000000 in
theorem sCall_ls (s : ByteArray) (hs : s.size ≤ 65536) (q c g : Nat) (hq : 0 < q) (hW : WdN s q) (w : World) (hg : g < w.heap.size) (ht : wT s 0 = ⟨#[108, 115]⟩) (hc : ∀ j, j < q → w.cell? ⟨g, j, none⟩ = some (.string (wT s j))) :
    Calls Tryd.prog 31 #[.string s, .slice (some ⟨g, 0, none⟩) q c] w fun e w' => CallS s 12 e ∧ Below w.heap.size w w' := by
  have HA : Hid (ansI 12 s (oW s 1) = _) := ansQ hW 12
  have K2 : Hid (∀ j, j < q → ((w.alloc (.cells #[.int .i64 0, .int .i64 0, .int .i64 0, .string ⟨#[]⟩, .string ⟨#[]⟩, .string ⟨#[]⟩] 23)).alloc (.cells #[.int .i64 0, .int .i64 0, .int .i64 0, .string ⟨#[]⟩, .string ⟨#[]⟩, .string ⟨#[]⟩] 23)).cell? ⟨g, j, none⟩ = some (.string (wT s j))) := fun j hj => by rw [((Below.refl w.heap.size w).alloc (Nat.le_refl _) (.cells #[.int .i64 0, .int .i64 0, .int .i64 0, .string ⟨#[]⟩, .string ⟨#[]⟩, .string ⟨#[]⟩] 23) |>.alloc (by simp) (.cells #[.int .i64 0, .int .i64 0, .int .i64 0, .string ⟨#[]⟩, .string ⟨#[]⟩, .string ⟨#[]⟩] 23)).cell hg]; exact hc j hj
  have R2 : Hid (ClB ((w.alloc (.cells #[.int .i64 0, .int .i64 0, .int .i64 0, .string ⟨#[]⟩, .string ⟨#[]⟩, .string ⟨#[]⟩] 23)).alloc (.cells #[.int .i64 0, .int .i64 0, .int .i64 0, .string ⟨#[]⟩, .string ⟨#[]⟩, .string ⟨#[]⟩] 23)) w.heap.size clZ) := (ClB.madeOf (x := clZ) rfl).below ((Below.refl _ _).alloc (Nat.le_refl _) _)
  have C2 : Hid (ClB ((w.alloc (.cells #[.int .i64 0, .int .i64 0, .int .i64 0, .string ⟨#[]⟩, .string ⟨#[]⟩, .string ⟨#[]⟩] 23)).alloc (.cells #[.int .i64 0, .int .i64 0, .int .i64 0, .string ⟨#[]⟩, .string ⟨#[]⟩, .string ⟨#[]⟩] 23)) (w.heap.size + 1) clZ) := ClB.madeOf (x := clZ) (by simp)
  have A2 : Hid (Below w.heap.size w ((w.alloc (.cells #[.int .i64 0, .int .i64 0, .int .i64 0, .string ⟨#[]⟩, .string ⟨#[]⟩, .string ⟨#[]⟩] 23)).alloc (.cells #[.int .i64 0, .int .i64 0, .int .i64 0, .string ⟨#[]⟩, .string ⟨#[]⟩, .string ⟨#[]⟩] 23))) := ((Below.refl _ _).alloc (Nat.le_refl _) _).alloc (by simp) _
  have HW : Hid (WdN s q) := hW
  clear hc hW
  go_enter Tryd.func31, Tryd.ntmps31
  rcases (show q = 1 ∨ q = 2 ∨ q = 3 ∨ 4 ≤ q by omega) with rfl | rfl | rfl | hq4
  · skip
    have tok : True := trivial
    go_wp2_with (first | (show wpList _ _ _ ({ dst := some 13, op := _, type := _, pos := _, after := _, guard := _ } :: _) _ _; clear tok; generalize (w.alloc (.cells #[.int .i64 0, .int .i64 0, .int .i64 0, .string ⟨#[]⟩, .string ⟨#[]⟩, .string ⟨#[]⟩] 23)).alloc (.cells #[.int .i64 0, .int .i64 0, .int .i64 0, .string ⟨#[]⟩, .string ⟨#[]⟩, .string ⟨#[]⟩] 23) = w2 at *; have k0 := K2.out 0 (by omega); obtain ⟨c0, c1, c2, c3, c4, c5⟩ := C2.out.c; have g0 := C2.out.fr; obtain ⟨r0, r1, r2, r3, r4, r5⟩ := R2.out.c; have f0 := R2.out.fr) | (go_at_call 38; refine (l00Number_any (wT s 2) (wT_le s hs 2) _).mono ?_; rintro e w' ⟨rfl, hw⟩; rw [hw]; clear hw w') | (go_at_call 39; refine (l15Rest_any s hs _).mono ?_; rintro e w' ⟨rfl, hw⟩; rw [hw]; clear hw w'))
    change bodyPost _ _ _ .ret _ (clSt (World.setCell w2 ⟨w.heap.size + 1, 0, none⟩ (.int .i64 7)) w.heap.size ⟨7, 0, 0, ⟨#[]⟩, ⟨#[]⟩, ⟨#[]⟩⟩)
    refine ret_cell2 (b := w.heap.size) (v := clA ⟨7, 0, 0, ⟨#[]⟩, ⟨#[]⟩, ⟨#[]⟩⟩) (x := .bool true) Tryd.results31 rfl rfl (ClB.st (ClB.ofBlock R2.out (Below.heap_setCell _ ⟨w.heap.size + 1, 0, none⟩ _ w.heap.size (by dsimp only; omega))) ⟨7, 0, 0, ⟨#[]⟩, ⟨#[]⟩, ⟨#[]⟩⟩).load ⟨⟨⟨7, 0, 0, ⟨#[]⟩, ⟨#[]⟩, ⟨#[]⟩⟩, true, rfl, HA.out.trans ?_⟩, clSt_below (Below.setCell A2.out (Nat.le_succ _) _) (Nat.le_refl _) ⟨7, 0, 0, ⟨#[]⟩, ⟨#[]⟩, ⟨#[]⟩⟩⟩
    first | (simp; done) | (simp [wT_out HW.out (Nat.le_refl 1)]; done)
  · skip
    have tok : True := trivial
    go_wp2_with (first | (show wpList _ _ _ ({ dst := some 13, op := _, type := _, pos := _, after := _, guard := _ } :: _) _ _; clear tok; generalize (w.alloc (.cells #[.int .i64 0, .int .i64 0, .int .i64 0, .string ⟨#[]⟩, .string ⟨#[]⟩, .string ⟨#[]⟩] 23)).alloc (.cells #[.int .i64 0, .int .i64 0, .int .i64 0, .string ⟨#[]⟩, .string ⟨#[]⟩, .string ⟨#[]⟩] 23) = w2 at *; have k0 := K2.out 0 (by omega); have k1 := K2.out 1 (by omega); obtain ⟨c0, c1, c2, c3, c4, c5⟩ := C2.out.c; have g0 := C2.out.fr; obtain ⟨r0, r1, r2, r3, r4, r5⟩ := R2.out.c; have f0 := R2.out.fr) | (go_at_call 38; refine (l00Number_any (wT s 2) (wT_le s hs 2) _).mono ?_; rintro e w' ⟨rfl, hw⟩; rw [hw]; clear hw w') | (go_at_call 39; refine (l15Rest_any s hs _).mono ?_; rintro e w' ⟨rfl, hw⟩; rw [hw]; clear hw w'))
    change bodyPost _ _ _ .ret _ (clSt (World.setCell (World.setCell w2 ⟨w.heap.size + 1, 3, none⟩ (.string (wT s 1))) ⟨w.heap.size + 1, 0, none⟩ (.int .i64 7)) w.heap.size ⟨7, 0, 0, (wT s 1), ⟨#[]⟩, ⟨#[]⟩⟩)
    refine ret_cell2 (b := w.heap.size) (v := clA ⟨7, 0, 0, (wT s 1), ⟨#[]⟩, ⟨#[]⟩⟩) (x := .bool true) Tryd.results31 rfl rfl (ClB.st (ClB.ofBlock (ClB.ofBlock R2.out (Below.heap_setCell _ ⟨w.heap.size + 1, 3, none⟩ _ w.heap.size (by dsimp only; omega))) (Below.heap_setCell _ ⟨w.heap.size + 1, 0, none⟩ _ w.heap.size (by dsimp only; omega))) ⟨7, 0, 0, (wT s 1), ⟨#[]⟩, ⟨#[]⟩⟩).load ⟨⟨⟨7, 0, 0, (wT s 1), ⟨#[]⟩, ⟨#[]⟩⟩, true, rfl, HA.out.trans ?_⟩, clSt_below (Below.setCell (Below.setCell A2.out (Nat.le_succ _) _) (Nat.le_succ _) _) (Nat.le_refl _) ⟨7, 0, 0, (wT s 1), ⟨#[]⟩, ⟨#[]⟩⟩⟩
    simp
  · skip
    have tok : True := trivial
    go_wp2_with (first | (show wpList _ _ _ ({ dst := some 13, op := _, type := _, pos := _, after := _, guard := _ } :: _) _ _; clear tok; generalize (w.alloc (.cells #[.int .i64 0, .int .i64 0, .int .i64 0, .string ⟨#[]⟩, .string ⟨#[]⟩, .string ⟨#[]⟩] 23)).alloc (.cells #[.int .i64 0, .int .i64 0, .int .i64 0, .string ⟨#[]⟩, .string ⟨#[]⟩, .string ⟨#[]⟩] 23) = w2 at *; have k0 := K2.out 0 (by omega); have k1 := K2.out 1 (by omega); have k2 := K2.out 2 (by omega); obtain ⟨c0, c1, c2, c3, c4, c5⟩ := C2.out.c; have g0 := C2.out.fr; obtain ⟨r0, r1, r2, r3, r4, r5⟩ := R2.out.c; have f0 := R2.out.fr) | (go_at_call 38; refine (l00Number_any (wT s 2) (wT_le s hs 2) _).mono ?_; rintro e w' ⟨rfl, hw⟩; rw [hw]; clear hw w') | (go_at_call 39; refine (l15Rest_any s hs _).mono ?_; rintro e w' ⟨rfl, hw⟩; rw [hw]; clear hw w'))
    change bodyPost _ _ _ .ret _ (clSt (World.setCell w2 ⟨w.heap.size + 1, 3, none⟩ (.string (wT s 1))) w.heap.size ⟨0, 0, 0, (wT s 1), ⟨#[]⟩, ⟨#[]⟩⟩)
    refine ret_cell2 (b := w.heap.size) (v := clA ⟨0, 0, 0, (wT s 1), ⟨#[]⟩, ⟨#[]⟩⟩) (x := .bool false) Tryd.results31 rfl rfl (ClB.st (ClB.ofBlock R2.out (Below.heap_setCell _ ⟨w.heap.size + 1, 3, none⟩ _ w.heap.size (by dsimp only; omega))) ⟨0, 0, 0, (wT s 1), ⟨#[]⟩, ⟨#[]⟩⟩).load ⟨⟨⟨0, 0, 0, (wT s 1), ⟨#[]⟩, ⟨#[]⟩⟩, false, rfl, HA.out.trans ?_⟩, clSt_below (Below.setCell A2.out (Nat.le_succ _) _) (Nat.le_refl _) ⟨0, 0, 0, (wT s 1), ⟨#[]⟩, ⟨#[]⟩⟩⟩
    simp
  · skip
    have q1 : (1 : Int) < (q : Int) := by omega
    have q2 : ((q : Int) == 2) = false := by rw [beq_eq_false_iff_ne]; omega
    have q3 : ((q : Int) == 3) = false := by rw [beq_eq_false_iff_ne]; omega
    have q4 : ¬ (q : Int) ≤ 2 := by omega
    have q5 : (3 : Int) ≤ (q : Int) := by omega
    have tok : True := trivial
    go_wp2_with (first | (show wpList _ _ _ ({ dst := some 13, op := _, type := _, pos := _, after := _, guard := _ } :: _) _ _; clear tok; generalize (w.alloc (.cells #[.int .i64 0, .int .i64 0, .int .i64 0, .string ⟨#[]⟩, .string ⟨#[]⟩, .string ⟨#[]⟩] 23)).alloc (.cells #[.int .i64 0, .int .i64 0, .int .i64 0, .string ⟨#[]⟩, .string ⟨#[]⟩, .string ⟨#[]⟩] 23) = w2 at *; have k0 := K2.out 0 (by omega); have k1 := K2.out 1 (by omega); have k2 := K2.out 2 (by omega); obtain ⟨c0, c1, c2, c3, c4, c5⟩ := C2.out.c; have g0 := C2.out.fr; obtain ⟨r0, r1, r2, r3, r4, r5⟩ := R2.out.c; have f0 := R2.out.fr) | (go_at_call 38; refine (l00Number_any (wT s 2) (wT_le s hs 2) _).mono ?_; rintro e w' ⟨rfl, hw⟩; rw [hw]; clear hw w') | (go_at_call 39; refine (l15Rest_any s hs _).mono ?_; rintro e w' ⟨rfl, hw⟩; rw [hw]; clear hw w'))
    change bodyPost _ _ _ .ret _ (clSt (World.setCell w2 ⟨w.heap.size + 1, 3, none⟩ (.string (wT s 1))) w.heap.size ⟨0, 0, 0, (wT s 1), ⟨#[]⟩, ⟨#[]⟩⟩)
    refine ret_cell2 (b := w.heap.size) (v := clA ⟨0, 0, 0, (wT s 1), ⟨#[]⟩, ⟨#[]⟩⟩) (x := .bool false) Tryd.results31 rfl rfl (ClB.st (ClB.ofBlock R2.out (Below.heap_setCell _ ⟨w.heap.size + 1, 3, none⟩ _ w.heap.size (by dsimp only; omega))) ⟨0, 0, 0, (wT s 1), ⟨#[]⟩, ⟨#[]⟩⟩).load ⟨⟨⟨0, 0, 0, (wT s 1), ⟨#[]⟩, ⟨#[]⟩⟩, false, rfl, HA.out.trans ?_⟩, clSt_below (Below.setCell A2.out (Nat.le_succ _) _) (Nat.le_refl _) ⟨0, 0, 0, (wT s 1), ⟨#[]⟩, ⟨#[]⟩⟩⟩
    simp [show 1 < q by omega, show 2 < q by omega, show 3 < q by omega]
set_option maxRecDepth 100000 in
set_option maxHeartbeats 8000000 in
theorem sCall_other (s : ByteArray) (hs : s.size ≤ 65536) (q c g : Nat) (hq : 0 < q) (w : World) (hg : g < w.heap.size) (ht : ∀ i : Nat, 6 ≤ i → cmds[i]? ≠ some (wT s 0)) (hc : ∀ j, j < q → w.cell? ⟨g, j, none⟩ = some (.string (wT s j))) :
    Calls Tryd.prog 31 #[.string s, .slice (some ⟨g, 0, none⟩) q c] w fun e w' => (∃ x : Cl, e = .returned (.tuple #[clA x, .bool false])) ∧ Below w.heap.size w w' := by
  have K2 : Hid (∀ j, j < q → ((w.alloc (.cells #[.int .i64 0, .int .i64 0, .int .i64 0, .string ⟨#[]⟩, .string ⟨#[]⟩, .string ⟨#[]⟩] 23)).alloc (.cells #[.int .i64 0, .int .i64 0, .int .i64 0, .string ⟨#[]⟩, .string ⟨#[]⟩, .string ⟨#[]⟩] 23)).cell? ⟨g, j, none⟩ = some (.string (wT s j))) := fun j hj => by rw [((Below.refl w.heap.size w).alloc (Nat.le_refl _) (.cells #[.int .i64 0, .int .i64 0, .int .i64 0, .string ⟨#[]⟩, .string ⟨#[]⟩, .string ⟨#[]⟩] 23) |>.alloc (by simp) (.cells #[.int .i64 0, .int .i64 0, .int .i64 0, .string ⟨#[]⟩, .string ⟨#[]⟩, .string ⟨#[]⟩] 23)).cell hg]; exact hc j hj
  have R2 : Hid (ClB ((w.alloc (.cells #[.int .i64 0, .int .i64 0, .int .i64 0, .string ⟨#[]⟩, .string ⟨#[]⟩, .string ⟨#[]⟩] 23)).alloc (.cells #[.int .i64 0, .int .i64 0, .int .i64 0, .string ⟨#[]⟩, .string ⟨#[]⟩, .string ⟨#[]⟩] 23)) w.heap.size clZ) := (ClB.madeOf (x := clZ) rfl).below ((Below.refl _ _).alloc (Nat.le_refl _) _)
  have C2 : Hid (ClB ((w.alloc (.cells #[.int .i64 0, .int .i64 0, .int .i64 0, .string ⟨#[]⟩, .string ⟨#[]⟩, .string ⟨#[]⟩] 23)).alloc (.cells #[.int .i64 0, .int .i64 0, .int .i64 0, .string ⟨#[]⟩, .string ⟨#[]⟩, .string ⟨#[]⟩] 23)) (w.heap.size + 1) clZ) := ClB.madeOf (x := clZ) (by simp)
  have A2 : Hid (Below w.heap.size w ((w.alloc (.cells #[.int .i64 0, .int .i64 0, .int .i64 0, .string ⟨#[]⟩, .string ⟨#[]⟩, .string ⟨#[]⟩] 23)).alloc (.cells #[.int .i64 0, .int .i64 0, .int .i64 0, .string ⟨#[]⟩, .string ⟨#[]⟩, .string ⟨#[]⟩] 23))) := ((Below.refl _ _).alloc (Nat.le_refl _) _).alloc (by simp) _
  have n6 : ((wT s 0).toList == [109, 107, 100, 105, 114]) = false := litNe (u := ⟨#[109, 107, 100, 105, 114]⟩) (fun h => ht 6 (by omega) (congrArg some h.symm))
  have n7 : ((wT s 0).toList == [119, 114, 105, 116, 101]) = false := litNe (u := ⟨#[119, 114, 105, 116, 101]⟩) (fun h => ht 7 (by omega) (congrArg some h.symm))
  have n8 : ((wT s 0).toList == [114, 101, 97, 100]) = false := litNe (u := ⟨#[114, 101, 97, 100]⟩) (fun h => ht 8 (by omega) (congrArg some h.symm))
  have n9 : ((wT s 0).toList == [99, 117, 116]) = false := litNe (u := ⟨#[99, 117, 116]⟩) (fun h => ht 9 (by omega) (congrArg some h.symm))
  have n10 : ((wT s 0).toList == [109, 111, 118, 101]) = false := litNe (u := ⟨#[109, 111, 118, 101]⟩) (fun h => ht 10 (by omega) (congrArg some h.symm))
  have n11 : ((wT s 0).toList == [114, 109]) = false := litNe (u := ⟨#[114, 109]⟩) (fun h => ht 11 (by omega) (congrArg some h.symm))
  have n12 : ((wT s 0).toList == [108, 115]) = false := litNe (u := ⟨#[108, 115]⟩) (fun h => ht 12 (by omega) (congrArg some h.symm))
  clear hc ht
  go_enter Tryd.func31, Tryd.ntmps31
  rcases (show q = 1 ∨ 1 < q by omega) with rfl | hq1
  · skip
    have tok : True := trivial
    go_wp2_with (first | (show wpList _ _ _ ({ dst := some 13, op := _, type := _, pos := _, after := _, guard := _ } :: _) _ _; clear tok; generalize (w.alloc (.cells #[.int .i64 0, .int .i64 0, .int .i64 0, .string ⟨#[]⟩, .string ⟨#[]⟩, .string ⟨#[]⟩] 23)).alloc (.cells #[.int .i64 0, .int .i64 0, .int .i64 0, .string ⟨#[]⟩, .string ⟨#[]⟩, .string ⟨#[]⟩] 23) = w2 at *; have k0 := K2.out 0 (by omega); obtain ⟨c0, c1, c2, c3, c4, c5⟩ := C2.out.c; have g0 := C2.out.fr; obtain ⟨r0, r1, r2, r3, r4, r5⟩ := R2.out.c; have f0 := R2.out.fr) | (go_at_call 38; refine (l00Number_any (wT s 2) (wT_le s hs 2) _).mono ?_; rintro e w' ⟨rfl, hw⟩; rw [hw]; clear hw w') | (go_at_call 39; refine (l15Rest_any s hs _).mono ?_; rintro e w' ⟨rfl, hw⟩; rw [hw]; clear hw w'))
    change bodyPost _ _ _ .ret _ (clSt w2 w.heap.size ⟨0, 0, 0, ⟨#[]⟩, ⟨#[]⟩, ⟨#[]⟩⟩)
    exact ret_cell2 (b := w.heap.size) (v := clA ⟨0, 0, 0, ⟨#[]⟩, ⟨#[]⟩, ⟨#[]⟩⟩) (x := .bool false) Tryd.results31 rfl rfl (ClB.st R2.out ⟨0, 0, 0, ⟨#[]⟩, ⟨#[]⟩, ⟨#[]⟩⟩).load ⟨⟨⟨0, 0, 0, ⟨#[]⟩, ⟨#[]⟩, ⟨#[]⟩⟩, rfl⟩, clSt_below A2.out (Nat.le_refl _) ⟨0, 0, 0, ⟨#[]⟩, ⟨#[]⟩, ⟨#[]⟩⟩⟩
  · skip
    have q1 : (1 : Int) < (q : Int) := by omega
    have tok : True := trivial
    go_wp2_with (first | (show wpList _ _ _ ({ dst := some 13, op := _, type := _, pos := _, after := _, guard := _ } :: _) _ _; clear tok; generalize (w.alloc (.cells #[.int .i64 0, .int .i64 0, .int .i64 0, .string ⟨#[]⟩, .string ⟨#[]⟩, .string ⟨#[]⟩] 23)).alloc (.cells #[.int .i64 0, .int .i64 0, .int .i64 0, .string ⟨#[]⟩, .string ⟨#[]⟩, .string ⟨#[]⟩] 23) = w2 at *; have k0 := K2.out 0 (by omega); have k1 := K2.out 1 (by omega); obtain ⟨c0, c1, c2, c3, c4, c5⟩ := C2.out.c; have g0 := C2.out.fr; obtain ⟨r0, r1, r2, r3, r4, r5⟩ := R2.out.c; have f0 := R2.out.fr) | (go_at_call 38; refine (l00Number_any (wT s 2) (wT_le s hs 2) _).mono ?_; rintro e w' ⟨rfl, hw⟩; rw [hw]; clear hw w') | (go_at_call 39; refine (l15Rest_any s hs _).mono ?_; rintro e w' ⟨rfl, hw⟩; rw [hw]; clear hw w'))
    change bodyPost _ _ _ .ret _ (clSt (World.setCell w2 ⟨w.heap.size + 1, 3, none⟩ (.string (wT s 1))) w.heap.size ⟨0, 0, 0, (wT s 1), ⟨#[]⟩, ⟨#[]⟩⟩)
    exact ret_cell2 (b := w.heap.size) (v := clA ⟨0, 0, 0, (wT s 1), ⟨#[]⟩, ⟨#[]⟩⟩) (x := .bool false) Tryd.results31 rfl rfl (ClB.st (ClB.ofBlock R2.out (Below.heap_setCell _ ⟨w.heap.size + 1, 3, none⟩ _ w.heap.size (by dsimp only; omega))) ⟨0, 0, 0, (wT s 1), ⟨#[]⟩, ⟨#[]⟩⟩).load ⟨⟨⟨0, 0, 0, (wT s 1), ⟨#[]⟩, ⟨#[]⟩⟩, rfl⟩, clSt_below (Below.setCell A2.out (Nat.le_succ _) _) (Nat.le_refl _) ⟨0, 0, 0, (wT s 1), ⟨#[]⟩, ⟨#[]⟩⟩⟩
end Go.Proofs.YthebbijbedffpaaDoor
