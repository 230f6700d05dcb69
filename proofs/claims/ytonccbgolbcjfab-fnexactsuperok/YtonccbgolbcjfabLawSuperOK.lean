/-
  The exact law of SuperOK (written by tools/suplaw.py).
-/
import Derived.Test.YtonccbgolbcjfabSupB
import Derived.Test.YtonccbgolbcjfabSupTo
namespace Go.Proofs.Ytonccbgolbcjfab
open Go.ChangeShapes Go.WideShapes Go.ChangeAt Go.RowKit
set_option linter.unusedVariables false
set_option maxRecDepth 100000 in
set_option maxHeartbeats 8000000 in
theorem law_superOK (z : Int) (a : Option Addr) (n c : Nat) (P : Nat → Plc) (r : ByteArray)  (hm : n ≤ maxLen) (hr : r.size ≤ maxLen) (w : World) (hv : Els w 2 a n (pcF P)) :
    Calls Try.prog 3 #[.agg #[.int .i64 z, .slice a n c, .string r]] w fun e w' => e = .returned (.bool true) ∧ Below w.heap.size w w' := by
  have A1 : Hid (Below w.heap.size w (w.alloc (.cells #[.int .i64 z, .slice a n c, .string r] 24))) := (Below.refl _ _).alloc (Nat.le_refl _) _
  have X : Hid (Box3 (w.alloc (.cells #[.int .i64 z, .slice a n c, .string r] 24)) w.heap.size 24 (.int .i64 z) (.slice a n c) (.string r)) := Box3.made _ _ _ _ _
  have HE : Hid (Els w 2 a n (pcF P)) := hv
  have SZ : Hid (∀ w : World, Calls Try.prog 7 #[.agg #[.int .i64 z, .slice a n c, .string r], .int .i64 1048576] w fun e w' => (∃ y : Int, e = .returned (.int .i64 y) ∧ (0 ≤ y → n ≤ 1048576 ∧ r.size ≤ 1048576)) ∧ Below w.heap.size w w') := fun w => szSuper_any z a n c r hm hr w
  have SU : Hid (w.heap.size < ((w.alloc (.cells #[.int .i64 z, .slice a n c, .string r] 24))).heap.size) := by show w.heap.size < _; simp
  clear hv hm hr
  go_enter Try.func3, Try.ntmps3
  go_wp2_with fail
  generalize (w.alloc (.cells #[.int .i64 z, .slice a n c, .string r] 24)) = v1 at *
  obtain ⟨vb, hvb⟩ : ∃ x, x = w.heap.size := ⟨_, rfl⟩
  have VB : Hid (vb = w.heap.size) := hvb
  rw [← hvb] at X ⊢
  replace SU : Hid (vb < v1.heap.size) := by rw [hvb]; exact SU.out
  clear hvb
  refine (SZ.out _).mono ?_
  rintro e v2 ⟨⟨y, rfl, hy⟩, hb⟩
  replace A1 : Hid (Below w.heap.size w v2) := A1.out.trans (hb.mono A1.out.size)
  replace X : Hid (Box3 v2 vb 24 (.int .i64 z) (.slice a n c) (.string r)) := X.out.below hb
  replace SU : Hid (vb < v2.heap.size) := Nat.lt_of_lt_of_le SU.out hb.size
  clear hb SZ
  by_cases hy0 : y < 0
  · clear hy
    go_wp2
    go_ret
    exact ⟨rfl, A1.out⟩
  obtain ⟨hn, hrz⟩ := hy (by omega)
  clear hy
  obtain ⟨cd, hS, hI⟩ := superOK_both z n P r hn
  have rr : (cd != cd) = false := by simp
  have rr2 : (cd == cd) = true := by simp
  have SO : Hid (∀ (g : Nat) (w : World), Els w 2 (some ⟨g, 0, none⟩) n (pcF P) → Calls Try.prog 8 #[.agg #[.int .i64 z, .slice (some ⟨g, 0, none⟩) n n, .string r]] w fun e w' => e = .returned (.bool cd) ∧ Below w.heap.size w w') := hS
  have IY : Hid (∀ (g : Nat) (w : World), Els w 2 (some ⟨g, 0, none⟩) n (pcF P) → Calls Try.prog 10 #[.agg #[.int .i64 z, .slice (some ⟨g, 0, none⟩) n n, .string r]] w fun e w' => e = .returned (.bool cd) ∧ Below w.heap.size w w') := hI
  have TO : Hid (∀ w : World, Els w 2 a n (pcF P) → Calls Try.prog 9 #[.agg #[.int .i64 z, .slice a n c, .string r]] w fun e w' => (∃ g, e = .returned (.agg #[.int .i64 z, .slice (some ⟨g, 0, none⟩) n n, .string r]) ∧ RowE w' 2 (some ⟨g, 0, none⟩) g n (pcF P) ∧ w.heap.size ≤ g ∧ g < w'.heap.size) ∧ Below w.heap.size w w') := fun w h => toSuper_any z a n c P r hn w h
  have EQ : Hid (∀ (g g' : Nat) (w : World), Els w 2 (some ⟨g, 0, none⟩) n (pcF P) → Els w 2 (some ⟨g', 0, none⟩) n (pcF P) → Calls Try.prog 11 #[.agg #[.int .i64 z, .slice (some ⟨g, 0, none⟩) n n, .string r], .agg #[.int .i64 z, .slice (some ⟨g', 0, none⟩) n n, .string r]] w fun e w' => e = .returned (.bool true) ∧ Below w.heap.size w w') := fun g g' w h h' => eqSuper_yes z _ _ n n n P r hn w h h'
  clear hS hI hn hrz
  have s0 := X.out.c0
  have s1 := X.out.c1
  have s2 := X.out.c2
  go_wp2_with fail
  clear s0 s1 s2
  have AP : Hid _ := A1.out.size
  have SP : Hid _ := SU.out
  refine (TO.out _ (HE.out.below A1.out)).mono ?_
  rintro e v3 ⟨⟨ga, rfl, hra, hga, hla⟩, hb⟩
  replace A1 : Hid (Below w.heap.size w v3) := A1.out.trans (hb.mono A1.out.size)
  replace X : Hid (Box3 v3 vb 24 (.int .i64 z) (.slice a n c) (.string r)) := X.out.below hb
  replace SU : Hid (vb < v3.heap.size) := Nat.lt_of_lt_of_le SU.out hb.size
  have Xa : Hid (RowE v3 2 (some ⟨ga, 0, none⟩) ga n (pcF P)) := hra
  have La : Hid (w.heap.size ≤ ga ∧ vb < ga) := ⟨Nat.le_trans AP.out hga, Nat.lt_of_lt_of_le SP.out hga⟩
  clear hb hra AP SP
  clear hga hla La
  go_wp2_with fail
  refine (SO.out _ _ Xa.out.els).mono ?_
  rintro e v4 ⟨rfl, hb⟩
  replace A1 : Hid (Below w.heap.size w v4) := A1.out.trans (hb.mono A1.out.size)
  replace X : Hid (Box3 v4 vb 24 (.int .i64 z) (.slice a n c) (.string r)) := X.out.below hb
  replace SU : Hid (vb < v4.heap.size) := Nat.lt_of_lt_of_le SU.out hb.size
  replace Xa : Hid (RowE v4 2 (some ⟨ga, 0, none⟩) ga n (pcF P)) := Xa.out.below (by omega) hb
  clear hb 
  clear Xa
  clear SO
  have s0 := X.out.c0
  have s1 := X.out.c1
  have s2 := X.out.c2
  go_wp2_with fail
  clear s0 s1 s2
  have AP : Hid _ := A1.out.size
  have SP : Hid _ := SU.out
  refine (TO.out _ (HE.out.below A1.out)).mono ?_
  rintro e v5 ⟨⟨gb, rfl, hrb, hgb, hlb⟩, hb⟩
  replace A1 : Hid (Below w.heap.size w v5) := A1.out.trans (hb.mono A1.out.size)
  replace X : Hid (Box3 v5 vb 24 (.int .i64 z) (.slice a n c) (.string r)) := X.out.below hb
  replace SU : Hid (vb < v5.heap.size) := Nat.lt_of_lt_of_le SU.out hb.size
  have Xb : Hid (RowE v5 2 (some ⟨gb, 0, none⟩) gb n (pcF P)) := hrb
  have Lb : Hid (w.heap.size ≤ gb ∧ vb < gb) := ⟨Nat.le_trans AP.out hgb, Nat.lt_of_lt_of_le SP.out hgb⟩
  clear hb hrb AP SP
  clear hgb hlb
  have hb : Below v5.heap.size v5 (v5.alloc (.cells #[.int .i64 z, .slice (some ⟨gb, 0, none⟩) n n, .string r] 29)) := (Below.refl _ _).alloc (Nat.le_refl _) _
  have Y : Hid (Box3 (v5.alloc (.cells #[.int .i64 z, .slice (some ⟨gb, 0, none⟩) n n, .string r] 29)) v5.heap.size 29 (.int .i64 z) (.slice (some ⟨gb, 0, none⟩) n n) (.string r)) := Box3.made _ _ _ _ _
  go_wp2_with fail
  generalize (v5.alloc (.cells #[.int .i64 z, .slice (some ⟨gb, 0, none⟩) n n, .string r] 29)) = v6 at *
  replace A1 : Hid (Below w.heap.size w v6) := A1.out.trans (hb.mono A1.out.size)
  replace X : Hid (Box3 v6 vb 24 (.int .i64 z) (.slice a n c) (.string r)) := X.out.below hb
  replace SU : Hid (vb < v6.heap.size) := Nat.lt_of_lt_of_le SU.out hb.size
  replace Xb : Hid (RowE v6 2 (some ⟨gb, 0, none⟩) gb n (pcF P)) := Xb.out.below (by omega) hb
  clear hb 
  obtain ⟨yb, hyb⟩ : ∃ bx, bx = v5.heap.size := ⟨_, rfl⟩
  rw [← hyb] at Y ⊢
  clear hyb
  have AQ : Hid _ := A1.out.size
  have SP : Hid _ := SU.out
  refine (IY.out _ _ Xb.out.els).mono ?_
  rintro e v7 ⟨rfl, hb⟩
  replace A1 : Hid (Below w.heap.size w v7) := A1.out.trans (hb.mono A1.out.size)
  replace X : Hid (Box3 v7 vb 24 (.int .i64 z) (.slice a n c) (.string r)) := X.out.below hb
  replace SU : Hid (vb < v7.heap.size) := Nat.lt_of_lt_of_le SU.out hb.size
  replace Xb : Hid (RowE v7 2 (some ⟨gb, 0, none⟩) gb n (pcF P)) := Xb.out.below (by omega) hb
  replace Y : Hid (Box3 v7 yb 29 (.int .i64 z) (.slice (some ⟨gb, 0, none⟩) n n) (.string r)) := Y.out.below hb
  clear hb 
  clear AQ SP
  go_wp2_with fail
  have hb : Below v7.heap.size v7 v7.drew := (Below.refl _ _).drew
  have H : (Box3 v7.drew vb 24 (.int .i64 z) (.slice a n c) (.string r)) ∧ (Box3 v7.drew yb 29 (.int .i64 z) (.slice (some ⟨gb, 0, none⟩) n n) (.string r)) := ⟨X.out.below hb, Y.out.below hb⟩
  replace A1 : Hid (Below w.heap.size w v7.drew) := A1.out.trans (hb.mono A1.out.size)
  replace SU : Hid (vb < v7.drew.heap.size) := Nat.lt_of_lt_of_le SU.out hb.size
  replace Xb : Hid (RowE v7.drew 2 (some ⟨gb, 0, none⟩) gb n (pcF P)) := Xb.out.below (by omega) hb
  clear hb X Y
  refine wp_region_noPanic ?_
  refine wp_region_held_drew (S := fun w' => (Box3 w' vb 24 (.int .i64 z) (.slice a n c) (.string r)) ∧ (Box3 w' yb 29 (.int .i64 z) (.slice (some ⟨gb, 0, none⟩) n n) (.string r))) (by kernel_rfl) H (fun _ => ?_)
  generalize v7.drew = v8 at *
  refine wpAnyH_take (i := 0) (v := .agg #[.int .i64 z, .slice (some ⟨gb, 0, none⟩) n n, .string r]) rfl (by kernel_rfl) (by kernel_rfl) (by kernel_rfl) (fun _ _ _ h => h) (Or.inl ⟨by rfl, ?_⟩) H ?_
  · intro w' hSw; have t0 := hSw.2.c0; have t1 := hSw.2.c1; have t2 := hSw.2.c2; clear hSw; go_simp
  change wpAnyH _ _ _ _ _ _ _ { tmps := #[_, _, _, _, _, _, _, _, _, _, _, _, _, _, _, _, _, _, _, _, _, _, _, _, _, _, _], defers := _ } _
  refine wpAnyH_take (i := 1) (v := .agg #[.int .i64 z, .slice a n c, .string r]) rfl (by kernel_rfl) (by kernel_rfl) (by kernel_rfl) (fun _ _ _ h => h) (Or.inl ⟨by rfl, ?_⟩) H ?_
  · intro w' hSw; have t0 := hSw.1.c0; have t1 := hSw.1.c1; have t2 := hSw.1.c2; clear hSw; go_simp
  change wpAnyH _ _ _ _ _ _ _ { tmps := #[_, _, _, _, _, _, _, _, _, _, _, _, _, _, _, _, _, _, _, _, _, _, _, _, _, _, _], defers := _ } _
  refine wpAnyH_ready (rs := [2]) (by kernel_rfl) (by simp) ?_
  refine AllReadyH.cons rfl (fun KK hK => ?_) AllReadyH.nil
  go_simp
  refine (TO.out _ (HE.out.below A1.out)).mono ?_
  rintro e v9 ⟨⟨gc, rfl, hrc, hgc, hlc⟩, hb⟩
  replace A1 : Hid (Below w.heap.size w v9) := A1.out.trans (hb.mono A1.out.size)
  replace SU : Hid (vb < v9.heap.size) := Nat.lt_of_lt_of_le SU.out hb.size
  replace Xb : Hid (RowE v9 2 (some ⟨gb, 0, none⟩) gb n (pcF P)) := Xb.out.below (by omega) hb
  replace H : (Box3 v9 vb 24 (.int .i64 z) (.slice a n c) (.string r)) ∧ (Box3 v9 yb 29 (.int .i64 z) (.slice (some ⟨gb, 0, none⟩) n n) (.string r)) := ⟨H.1.below hb, H.2.below hb⟩
  have Xc : Hid (RowE v9 2 (some ⟨gc, 0, none⟩) gc n (pcF P)) := hrc
  clear hb hrc hgc hlc
  refine hK.out _ _ H (fun _ => ?_)
  clear hK KK
  change wpAnyH _ _ _ _ _ _ _ { tmps := #[_, _, _, _, _, _, _, _, _, _, _, _, _, _, _, _, _, _, _, _, _, _, _, _, _, _, _], defers := _ } _
  refine wpAnyH_ready (rs := [3]) (by kernel_rfl) (by simp) ?_
  refine AllReadyH.cons rfl (fun KK hK => ?_) AllReadyH.nil
  go_simp
  refine (EQ.out _ _ _ Xb.out.els Xc.out.els).mono ?_
  rintro e v10 ⟨rfl, hb⟩
  replace A1 : Hid (Below w.heap.size w v10) := A1.out.trans (hb.mono A1.out.size)
  replace SU : Hid (vb < v10.heap.size) := Nat.lt_of_lt_of_le SU.out hb.size
  replace Xb : Hid (RowE v10 2 (some ⟨gb, 0, none⟩) gb n (pcF P)) := Xb.out.below (by omega) hb
  replace Xc : Hid (RowE v10 2 (some ⟨gc, 0, none⟩) gc n (pcF P)) := Xc.out.below (by omega) hb
  replace H : (Box3 v10 vb 24 (.int .i64 z) (.slice a n c) (.string r)) ∧ (Box3 v10 yb 29 (.int .i64 z) (.slice (some ⟨gb, 0, none⟩) n n) (.string r)) := ⟨H.1.below hb, H.2.below hb⟩
  clear hb 
  refine hK.out _ _ H (fun _ => ?_)
  clear hK KK
  change wpAnyH _ _ _ _ _ _ _ { tmps := #[_, _, _, _, _, _, _, _, _, _, _, _, _, _, _, _, _, _, _, _, _, _, _, _, _, _, _], defers := _ } _
  clear Xc
  refine wpAnyH_take (i := 4) (v := .bool false) rfl (by kernel_rfl) (by kernel_rfl) (by kernel_rfl) (fun _ _ _ h => h) (Or.inl ⟨by rfl, ?_⟩) H ?_
  · intro w' hSw; clear hSw; go_simp
  change wpAnyH _ _ _ _ _ _ _ { tmps := #[_, _, _, _, _, _, _, _, _, _, _, _, _, _, _, _, _, _, _, _, _, _, _, _, _, _, _], defers := _ } _
  have X : Hid (Box3 v10 vb 24 (.int .i64 z) (.slice a n c) (.string r)) := H.1
  have Y : Hid (Box3 v10 yb 29 (.int .i64 z) (.slice (some ⟨gb, 0, none⟩) n n) (.string r)) := H.2
  clear H
  refine wpAnyH_done (by kernel_rfl) ?_ _
  refine NoPanic.normal ?_
  clear EQ TO IY HE Xb Y X SU
  go_wp2
  go_ret
  exact ⟨rfl, A1.out⟩
end Go.Proofs.Ytonccbgolbcjfab
