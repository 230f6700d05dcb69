/-
  The exact law of LinkOK.
-/
import Derived.Test.YtkhglllicblbbabLkOk
import Derived.Test.YtkhglllicblbbabLkTo
import Derived.Test.YtkhglllicblbbabAnyH
namespace Go.Proofs.Ytkhglllicblbbab
open Go.ChangeShapes Go.WideShapes Go.ChangeAt Go.RowKit
set_option linter.unusedVariables false
set_option maxRecDepth 100000 in
set_option maxHeartbeats 4000000 in
theorem law_linkOK (K : ByteArray) (se to : Int) (a : Option Addr) (n c : Nat) (f : Nat → Bool) (hn : n ≤ maxLen) (hs : K.size ≤ maxLen) (w : World) (h : Bools w a n f) :
    Calls Try.prog 3 #[.agg #[.string K, .int .i64 se, .int .i64 to, .slice a n c]] w fun e w' => e = .returned (.bool true) ∧ Below w.heap.size w w' := by
  have SZ : Hid (∀ w : World, Calls Try.prog 4 #[.agg #[.string K, .int .i64 se, .int .i64 to, .slice a n c], .int .i64 1048576] w fun e w' => (∃ y : Int, e = .returned (.int .i64 y) ∧ y ≤ 1048576 ∧ (0 ≤ y → n ≤ 1048576 ∧ K.size ≤ 1048576)) ∧ Below w.heap.size w w') := fun w => szLink_x K se to a n c w hn hs
  obtain ⟨r, hr⟩ : ∃ r : Bool, (r = true ↔ LkOk K se to n f) := by
    by_cases q : LkOk K se to n f
    · exact ⟨true, fun _ => q, fun _ => rfl⟩
    · exact ⟨false, fun z => (by cases z), fun z => absurd z q⟩
  have SO : Hid (∀ (g c : Nat) (w : World), Bools w (some ⟨g, 0, none⟩) n f → Calls Try.prog 5 #[.agg #[.string K, .int .i64 se, .int .i64 to, .slice (some ⟨g, 0, none⟩) n c]] w fun e w' => e = .returned (.bool r) ∧ Below w.heap.size w w') := fun g c w h => specLinkOK_any K se to _ n c f r hr w h
  have IY : Hid (∀ (g c : Nat) (w : World), Bools w (some ⟨g, 0, none⟩) n f → Calls Try.prog 7 #[.agg #[.string K, .int .i64 se, .int .i64 to, .slice (some ⟨g, 0, none⟩) n c]] w fun e w' => e = .returned (.bool r) ∧ Below w.heap.size w w') := fun g c w h => implLinkOK_any K se to _ n c f r hr w h
  have rr : (r == r) = true := by cases r <;> rfl
  have HX : Hid (Bools w a n f) := h
  clear h hr hn hs
  have A1 : Hid (Below w.heap.size w (w.alloc (.cells #[.string K, .int .i64 se, .int .i64 to, .slice a n c] 24))) := (Below.refl w.heap.size w).alloc (Nat.le_refl _) _
  have RA : Hid (Box4 (w.alloc (.cells #[.string K, .int .i64 se, .int .i64 to, .slice a n c] 24)) w.heap.size 24 (.string K) (.int .i64 se) (.int .i64 to) (.slice a n c)) := Box4.madeAt rfl _ _ _ _ _
  have HB : Hid (Bools (w.alloc (.cells #[.string K, .int .i64 se, .int .i64 to, .slice a n c] 24)) a n f) := HX.out.below A1.out
  clear HX
  go_enter Try.func3, Try.ntmps3
  go_wp2_with fail
  generalize (w.alloc (.cells #[.string K, .int .i64 se, .int .i64 to, .slice a n c] 24)) = v1 at *
  refine (SZ.out _).mono ?_
  rintro e v2 ⟨⟨y, rfl, hy, hy2⟩, hb⟩
  replace A1 : Hid (Below w.heap.size w v2) := A1.out.trans (hb.mono A1.out.size)
  replace RA : Hid (Box4 v2 w.heap.size 24 (.string K) (.int .i64 se) (.int .i64 to) (.slice a n c)) := RA.out.below hb
  replace HB : Hid (Bools v2 a n f) := HB.out.below hb
  clear hb SZ
  by_cases hy0 : y < 0
  · clear hy2
    go_wp2
    go_ret
    exact ⟨rfl, A1.out⟩
  · obtain ⟨h0, h1⟩ := hy2 (by omega)
    clear hy2
    have TL : Hid (∀ w : World, Bools w a n f → Calls Try.prog 6 #[.agg #[.string K, .int .i64 se, .int .i64 to, .slice a n c]] w fun e w' => (∃ g, w.heap.size ≤ g ∧ e = .returned (.agg #[.string K, .int .i64 se, .int .i64 to, .slice (some ⟨g, 0, none⟩) n n]) ∧ w'.rowIs g 4 n (fun i => .bool (f i))) ∧ Below w.heap.size w w') := fun w h => (toLink_any K se to a n c f h0 w h).mono fun _ _ q => ⟨⟨_, by omega, q.1, q.2.1⟩, q.2.2⟩
    clear h1
    have h0' : Hid (n ≤ 1048576) := h0
    clear h0
    have t0 := RA.out.c0
    have t1 := RA.out.c1
    have t2 := RA.out.c2
    have t3 := RA.out.c3
    go_wp2_with fail
    clear t0 t1 t2 t3
    refine (TL.out _ HB.out).mono ?_
    rintro e v3 ⟨⟨g0, hg0, rfl, hr0⟩, hb⟩
    replace A1 : Hid (Below w.heap.size w v3) := A1.out.trans (hb.mono A1.out.size)
    replace RA : Hid (Box4 v3 w.heap.size 24 (.string K) (.int .i64 se) (.int .i64 to) (.slice a n c)) := RA.out.below hb
    replace HB : Hid (Bools v3 a n f) := HB.out.below hb
    have X0 : Hid (Bools v3 (some ⟨g0, 0, none⟩) n f) := Bools.ofRow hr0
    clear hb hr0 hg0
    go_wp2_with fail
    refine (SO.out g0 n _ X0.out).mono ?_
    rintro e v4 ⟨rfl, hb⟩
    replace A1 : Hid (Below w.heap.size w v4) := A1.out.trans (hb.mono A1.out.size)
    replace RA : Hid (Box4 v4 w.heap.size 24 (.string K) (.int .i64 se) (.int .i64 to) (.slice a n c)) := RA.out.below hb
    replace HB : Hid (Bools v4 a n f) := HB.out.below hb
    replace X0 : Hid (Bools v4 (some ⟨g0, 0, none⟩) n f) := X0.out.below hb
    clear hb SO
    clear X0
    have t0 := RA.out.c0
    have t1 := RA.out.c1
    have t2 := RA.out.c2
    have t3 := RA.out.c3
    go_wp2_with fail
    clear t0 t1 t2 t3
    refine (TL.out _ HB.out).mono ?_
    rintro e v5 ⟨⟨g1, hg1, rfl, hr1⟩, hb⟩
    replace A1 : Hid (Below w.heap.size w v5) := A1.out.trans (hb.mono A1.out.size)
    replace RA : Hid (Box4 v5 w.heap.size 24 (.string K) (.int .i64 se) (.int .i64 to) (.slice a n c)) := RA.out.below hb
    replace HB : Hid (Bools v5 a n f) := HB.out.below hb
    have X1 : Hid (Bools v5 (some ⟨g1, 0, none⟩) n f) := Bools.ofRow hr1
    clear hb hr1 hg1
    have hb : Below v5.heap.size v5 (v5.alloc (.cells #[.string K, .int .i64 se, .int .i64 to, .slice (some ⟨g1, 0, none⟩) n n] 27)) := (Below.refl _ _).alloc (Nat.le_refl _) _
    have PX : Hid (Box4 (v5.alloc (.cells #[.string K, .int .i64 se, .int .i64 to, .slice (some ⟨g1, 0, none⟩) n n] 27)) v5.heap.size 27 (.string K) (.int .i64 se) (.int .i64 to) (.slice (some ⟨g1, 0, none⟩) n n)) := Box4.madeAt rfl _ _ _ _ _
    go_wp2_with fail
    generalize (v5.alloc (.cells #[.string K, .int .i64 se, .int .i64 to, .slice (some ⟨g1, 0, none⟩) n n] 27)) = v6 at *
    replace A1 : Hid (Below w.heap.size w v6) := A1.out.trans (hb.mono A1.out.size)
    replace RA : Hid (Box4 v6 w.heap.size 24 (.string K) (.int .i64 se) (.int .i64 to) (.slice a n c)) := RA.out.below hb
    replace HB : Hid (Bools v6 a n f) := HB.out.below hb
    replace X1 : Hid (Bools v6 (some ⟨g1, 0, none⟩) n f) := X1.out.below hb
    clear hb 
    obtain ⟨px, hpx⟩ : ∃ bx, bx = v5.heap.size := ⟨_, rfl⟩
    rw [← hpx] at PX ⊢
    clear hpx
    refine (IY.out g1 n _ X1.out).mono ?_
    rintro e v7 ⟨rfl, hb⟩
    replace A1 : Hid (Below w.heap.size w v7) := A1.out.trans (hb.mono A1.out.size)
    replace RA : Hid (Box4 v7 w.heap.size 24 (.string K) (.int .i64 se) (.int .i64 to) (.slice a n c)) := RA.out.below hb
    replace HB : Hid (Bools v7 a n f) := HB.out.below hb
    replace X1 : Hid (Bools v7 (some ⟨g1, 0, none⟩) n f) := X1.out.below hb
    replace PX : Hid (Box4 v7 px 27 (.string K) (.int .i64 se) (.int .i64 to) (.slice (some ⟨g1, 0, none⟩) n n)) := PX.out.below hb
    clear hb IY
    go_wp2_with fail
    have hb : Below v7.heap.size v7 v7.drew := (Below.refl _ _).drew
    have H : (Box4 v7.drew w.heap.size 24 (.string K) (.int .i64 se) (.int .i64 to) (.slice a n c)) ∧ (Box4 v7.drew px 27 (.string K) (.int .i64 se) (.int .i64 to) (.slice (some ⟨g1, 0, none⟩) n n)) := ⟨RA.out.below hb, PX.out.below hb⟩
    replace A1 : Hid (Below w.heap.size w v7.drew) := A1.out.trans (hb.mono A1.out.size)
    replace HB : Hid (Bools v7.drew a n f) := HB.out.below hb
    replace X1 : Hid (Bools v7.drew (some ⟨g1, 0, none⟩) n f) := X1.out.below hb
    clear hb RA PX
    refine wp_region_noPanic ?_
    refine wp_region_held_drew (S := fun w' => (Box4 w' w.heap.size 24 (.string K) (.int .i64 se) (.int .i64 to) (.slice a n c)) ∧ (Box4 w' px 27 (.string K) (.int .i64 se) (.int .i64 to) (.slice (some ⟨g1, 0, none⟩) n n))) (by kernel_rfl) H (fun _ => ?_)
    generalize v7.drew = v8 at *
    refine wpAnyH_take (i := 0) (v := .agg #[.string K, .int .i64 se, .int .i64 to, .slice (some ⟨g1, 0, none⟩) n n]) rfl (by kernel_rfl) (by kernel_rfl) (by kernel_rfl) (fun _ _ _ h => h) (Or.inl ⟨by rfl, ?_⟩) H ?_
    · intro w' hSw; have t0 := hSw.2.c0; have t1 := hSw.2.c1; have t2 := hSw.2.c2; have t3 := hSw.2.c3; clear hSw; go_simp
    change wpAnyH _ _ _ _ _ _ _ { tmps := #[_, _, _, _, _, _, _, _, _, _, _, _, _, _, _, _, _, _, _, _, _, _, _, _, _, _, _], defers := _ } _
    refine wpAnyH_take (i := 1) (v := .agg #[.string K, .int .i64 se, .int .i64 to, .slice a n c]) rfl (by kernel_rfl) (by kernel_rfl) (by kernel_rfl) (fun _ _ _ h => h) (Or.inl ⟨by rfl, ?_⟩) H ?_
    · intro w' hSw; have t0 := hSw.1.c0; have t1 := hSw.1.c1; have t2 := hSw.1.c2; have t3 := hSw.1.c3; clear hSw; go_simp
    change wpAnyH _ _ _ _ _ _ _ { tmps := #[_, _, _, _, _, _, _, _, _, _, _, _, _, _, _, _, _, _, _, _, _, _, _, _, _, _, _], defers := _ } _
    refine wpAnyH_ready (rs := [2]) (by kernel_rfl) (by simp) ?_
    refine AllReadyH.cons rfl (fun KK hK => ?_) AllReadyH.nil
    go_simp
    refine (TL.out _ HB.out).mono ?_
    rintro e v9 ⟨⟨g2, hg2, rfl, hr2⟩, hb⟩
    replace A1 : Hid (Below w.heap.size w v9) := A1.out.trans (hb.mono A1.out.size)
    replace HB : Hid (Bools v9 a n f) := HB.out.below hb
    replace X1 : Hid (Bools v9 (some ⟨g1, 0, none⟩) n f) := X1.out.below hb
    replace H : (Box4 v9 w.heap.size 24 (.string K) (.int .i64 se) (.int .i64 to) (.slice a n c)) ∧ (Box4 v9 px 27 (.string K) (.int .i64 se) (.int .i64 to) (.slice (some ⟨g1, 0, none⟩) n n)) := ⟨H.1.below hb, H.2.below hb⟩
    have X2 : Hid (Bools v9 (some ⟨g2, 0, none⟩) n f) := Bools.ofRow hr2
    clear hb hr2 hg2
    refine hK.out _ _ H (fun _ => ?_)
    clear hK KK
    change wpAnyH _ _ _ _ _ _ _ { tmps := #[_, _, _, _, _, _, _, _, _, _, _, _, _, _, _, _, _, _, _, _, _, _, _, _, _, _, _], defers := _ } _
    refine wpAnyH_ready (rs := [3]) (by kernel_rfl) (by simp) ?_
    refine AllReadyH.cons rfl (fun KK hK => ?_) AllReadyH.nil
    go_simp
    refine (eqLink_yes K se to (some ⟨g1, 0, none⟩) (some ⟨g2, 0, none⟩) n n n f h0'.out _ X1.out X2.out).mono ?_
    rintro e v10 ⟨rfl, hb⟩
    replace A1 : Hid (Below w.heap.size w v10) := A1.out.trans (hb.mono A1.out.size)
    replace HB : Hid (Bools v10 a n f) := HB.out.below hb
    replace X1 : Hid (Bools v10 (some ⟨g1, 0, none⟩) n f) := X1.out.below hb
    replace X2 : Hid (Bools v10 (some ⟨g2, 0, none⟩) n f) := X2.out.below hb
    replace H : (Box4 v10 w.heap.size 24 (.string K) (.int .i64 se) (.int .i64 to) (.slice a n c)) ∧ (Box4 v10 px 27 (.string K) (.int .i64 se) (.int .i64 to) (.slice (some ⟨g1, 0, none⟩) n n)) := ⟨H.1.below hb, H.2.below hb⟩
    clear hb 
    refine hK.out _ _ H (fun _ => ?_)
    clear hK KK
    change wpAnyH _ _ _ _ _ _ _ { tmps := #[_, _, _, _, _, _, _, _, _, _, _, _, _, _, _, _, _, _, _, _, _, _, _, _, _, _, _], defers := _ } _
    refine wpAnyH_take (i := 4) (v := .bool false) rfl (by kernel_rfl) (by kernel_rfl) (by kernel_rfl) (fun _ _ _ h => h) (Or.inl ⟨by rfl, ?_⟩) H ?_
    · intro w' hSw; go_simp
    change wpAnyH _ _ _ _ _ _ _ { tmps := #[_, _, _, _, _, _, _, _, _, _, _, _, _, _, _, _, _, _, _, _, _, _, _, _, _, _, _], defers := _ } _
    have RA : Hid (Box4 v10 w.heap.size 24 (.string K) (.int .i64 se) (.int .i64 to) (.slice a n c)) := H.1
    have PX : Hid (Box4 v10 px 27 (.string K) (.int .i64 se) (.int .i64 to) (.slice (some ⟨g1, 0, none⟩) n n)) := H.2
    clear H
    refine wpAnyH_done (by kernel_rfl) ?_ _
    refine NoPanic.normal ?_
    clear RA PX HB X1 X2 TL rr
    go_wp2
    go_ret
    exact ⟨rfl, A1.out⟩
end Go.Proofs.Ytkhglllicblbbab
