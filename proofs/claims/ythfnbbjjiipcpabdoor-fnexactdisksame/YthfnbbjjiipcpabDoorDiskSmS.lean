/-
  Whether two disks read the same: DiskSame of the model.
-/
import Derived.Test.YthfnbbjjiipcpabDoorDiskSm
namespace Go.Proofs.YthfnbbjjiipcpabDoor
open Go.ChangeShapes Go.WideShapes Go.ChangeAt Go.RowKit
set_option maxRecDepth 100000 in
set_option maxHeartbeats 4000000 in
theorem specSame_ok (d k : Dk) (a0 a1 a2 b0 b1 b2 : Option Addr) (c0 c1 c2 e0 e1 e2 : Nat) (r : Bool) (hr : r = true ↔ Same d k) (hs : d.Small) (hs' : k.Small) (hok : d.Ok) (hok' : k.Ok) (w : World) (h : DiskV w d a0 a1 a2) (h' : DiskV w k b0 b1 b2) :
    Calls Tryd.prog 26 #[.agg #[.slice a0 d.nb c0, .slice a1 d.nc c1, .slice a2 d.ns c2], .agg #[.slice b0 k.nb e0, .slice b1 k.nc e1, .slice b2 k.ns e2]] w fun e w' => e = .returned (.tuple #[.bool r, .int .i64 0]) ∧ Below w.heap.size w w' := by
  have A1 : Hid (Below w.heap.size w ((w.alloc (.cells #[.slice a0 d.nb c0, .slice a1 d.nc c1, .slice a2 d.ns c2] 33)).alloc (.cells #[.slice b0 k.nb e0, .slice b1 k.nc e1, .slice b2 k.ns e2] 33))) := ((Below.refl w.heap.size w).alloc (Nat.le_refl _) _).alloc (by simp) _
  have RA : Hid (Box3 ((w.alloc (.cells #[.slice a0 d.nb c0, .slice a1 d.nc c1, .slice a2 d.ns c2] 33)).alloc (.cells #[.slice b0 k.nb e0, .slice b1 k.nc e1, .slice b2 k.ns e2] 33)) w.heap.size 33 (.slice a0 d.nb c0) (.slice a1 d.nc c1) (.slice a2 d.ns c2)) := (Box3.made w _ _ _ _).alloc _
  have RB : Hid (Box3 ((w.alloc (.cells #[.slice a0 d.nb c0, .slice a1 d.nc c1, .slice a2 d.ns c2] 33)).alloc (.cells #[.slice b0 k.nb e0, .slice b1 k.nc e1, .slice b2 k.ns e2] 33)) (w.heap.size + 1) 33 (.slice b0 k.nb e0) (.slice b1 k.nc e1) (.slice b2 k.ns e2)) := Box3.madeAt (by simp) _ _ _ _
  have O1 : Hid (∀ w : World, DiskV w d a0 a1 a2 → Calls Tryd.prog 31 #[.agg #[.slice a0 d.nb c0, .slice a1 d.nc c1, .slice a2 d.ns c2]] w fun e w' => e = .returned (.bool true) ∧ Below w.heap.size w w') := fun w h => by have := specOK_any d a0 a1 a2 c0 c1 c2 hs w h; rwa [Dk.ok_true hok] at this
  have O2 : Hid (∀ w : World, DiskV w k b0 b1 b2 → Calls Tryd.prog 31 #[.agg #[.slice b0 k.nb e0, .slice b1 k.nc e1, .slice b2 k.ns e2]] w fun e w' => e = .returned (.bool true) ∧ Below w.heap.size w w') := fun w h => by have := specOK_any k b0 b1 b2 e0 e1 e2 hs' w h; rwa [Dk.ok_true hok'] at this
  have L1 : Hid (∀ (x : Nat) (w : World), x < d.nb → DiskV w d a0 a1 a2 → Calls Tryd.prog 53 #[.agg #[.slice a0 d.nb c0, .slice a1 d.nc c1, .slice a2 d.ns c2], .int .i64 (x : Int)] w fun e w' => e = .returned (.string (d.rd x)) ∧ Below w.heap.size w w') := fun x w hx h => l05Read_any d a0 a1 a2 c0 c1 c2 x hx hok.nb2 hok.nc w h
  have L2 : Hid (∀ (x : Nat) (w : World), x < k.nb → DiskV w k b0 b1 b2 → Calls Tryd.prog 53 #[.agg #[.slice b0 k.nb e0, .slice b1 k.nc e1, .slice b2 k.ns e2], .int .i64 (x : Int)] w fun e w' => e = .returned (.string (k.rd x)) ∧ Below w.heap.size w w') := fun x w hx h => l05Read_any k b0 b1 b2 e0 e1 e2 x hx hok'.nb2 hok'.nc w h
  have HX : Hid (DiskV w d a0 a1 a2) := h
  have HY : Hid (DiskV w k b0 b1 b2) := h'
  have HR : Hid (r = true ↔ Same d k) := hr
  have hn := hok.nb2
  have hn' := hok'.nb2
  clear h h' hr hok hok' hs hs'
  go_enter Tryd.func26, Tryd.ntmps26
  go_wp2_with fail
  generalize ((w.alloc (.cells #[.slice a0 d.nb c0, .slice a1 d.nc c1, .slice a2 d.ns c2] 33)).alloc (.cells #[.slice b0 k.nb e0, .slice b1 k.nc e1, .slice b2 k.ns e2] 33)) = v at *
  refine (O1.out _ (HX.out.below A1.out)).mono ?_
  rintro e w1 ⟨rfl, hb⟩
  replace A1 : Hid (Below w.heap.size w w1) := A1.out.trans (hb.mono A1.out.size)
  replace RA : Hid (Box3 w1 w.heap.size 33 (.slice a0 d.nb c0) (.slice a1 d.nc c1) (.slice a2 d.ns c2)) := RA.out.below hb
  replace RB : Hid (Box3 w1 (w.heap.size + 1) 33 (.slice b0 k.nb e0) (.slice b1 k.nc e1) (.slice b2 k.ns e2)) := RB.out.below hb
  have k0 := RB.out.c0
  have k1 := RB.out.c1
  have k2 := RB.out.c2
  clear hb O1
  go_wp2_with fail
  refine (O2.out _ (HY.out.below A1.out)).mono ?_
  rintro e w2 ⟨rfl, hb⟩
  replace A1 : Hid (Below w.heap.size w w2) := A1.out.trans (hb.mono A1.out.size)
  replace RA : Hid (Box3 w2 w.heap.size 33 (.slice a0 d.nb c0) (.slice a1 d.nc c1) (.slice a2 d.ns c2)) := RA.out.below hb
  replace RB : Hid (Box3 w2 (w.heap.size + 1) 33 (.slice b0 k.nb e0) (.slice b1 k.nc e1) (.slice b2 k.ns e2)) := RB.out.below hb
  clear hb O2 k0 k1 k2
  have k0 := RB.out.c0
  have j0 := RA.out.c0
  by_cases hnb : d.nb = k.nb
  · have x1 : ((d.nb : Int) != (k.nb : Int)) = false := by rw [hnb]; simp
    have HN : Hid (d.nb = k.nb) := hnb
    clear hnb
    go_wp2
    clear x1
    have LL : Hid (Box3 w2 w.heap.size 33 (.slice a0 d.nb c0) (.slice a1 d.nc c1) (.slice a2 d.ns c2) ∧ Box3 w2 (w.heap.size + 1) 33 (.slice b0 k.nb e0) (.slice b1 k.nc e1) (.slice b2 k.ns e2) ∧ Below w.heap.size w w2) := ⟨RA.out, RB.out, A1.out⟩
    clear RA RB A1 k0 j0
    go_loopw [6] (fun i wr => ∃ x : Nat, x ≤ d.nb ∧ i = .int .i64 x ∧ (∀ j, j < x → d.rd j = k.rd j) ∧ Box3 wr w.heap.size 33 (.slice a0 d.nb c0) (.slice a1 d.nc c1) (.slice a2 d.ns c2) ∧ Box3 wr (w.heap.size + 1) 33 (.slice b0 k.nb e0) (.slice b1 k.nc e1) (.slice b2 k.ns e2) ∧ Below w.heap.size w wr) (fun i _ => d.nb - (intOf i).toNat)
    case atStart => exact ⟨0, by omega, rfl, fun j hj => absurd hj (by omega), LL.out⟩
    case round =>
      clear LL
      obtain ⟨x, hx, rfl, hall, ra, rb, hb⟩ := hrel
      have HL : Hid (∀ j, j < x → d.rd j = k.rd j) := hall
      have RA : Hid (Box3 wr w.heap.size 33 (.slice a0 d.nb c0) (.slice a1 d.nc c1) (.slice a2 d.ns c2)) := ra
      have RB : Hid (Box3 wr (w.heap.size + 1) 33 (.slice b0 k.nb e0) (.slice b1 k.nc e1) (.slice b2 k.ns e2)) := rb
      have B3 : Hid (Below w.heap.size w wr) := hb
      have k0 := RB.out.c0
      have k1 := RB.out.c1
      have k2 := RB.out.c2
      have j0 := RA.out.c0
      have j1 := RA.out.c1
      have j2 := RA.out.c2
      clear hall ra rb hb
      by_cases hlt : x < d.nb
      · have hlt' : (x : Int) < (d.nb : Int) := by omega
        go_wp2_with fail
        have H : Box3 wr.drew w.heap.size 33 (.slice a0 d.nb c0) (.slice a1 d.nc c1) (.slice a2 d.ns c2) ∧ Box3 wr.drew (w.heap.size + 1) 33 (.slice b0 k.nb e0) (.slice b1 k.nc e1) (.slice b2 k.ns e2) := ⟨RA.out.below (Below.refl _ _).drew, RB.out.below (Below.refl _ _).drew⟩
        replace B3 : Hid (Below w.heap.size w wr.drew) := B3.out.drew
        clear k0 k1 k2 j0 j1 j2 RA RB
        refine wp_region_noPanic ?_
        refine wp_region_held_drew (S := fun w' => Box3 w' w.heap.size 33 (.slice a0 d.nb c0) (.slice a1 d.nc c1) (.slice a2 d.ns c2) ∧ Box3 w' (w.heap.size + 1) 33 (.slice b0 k.nb e0) (.slice b1 k.nc e1) (.slice b2 k.ns e2)) (by kernel_rfl) H (fun _ => ?_)
        generalize wr.drew = u0 at *
        refine wpAnyH_take (i := 0) (v := .agg #[.slice a0 d.nb c0, .slice a1 d.nc c1, .slice a2 d.ns c2]) rfl (by kernel_rfl) (by kernel_rfl) (by kernel_rfl) (fun _ _ _ h => h) (Or.inl ⟨by rfl, ?_⟩) H ?_
        · intro w' hSw; have t0 := hSw.1.c0; have t1 := hSw.1.c1; have t2 := hSw.1.c2; clear hSw; go_simp
        change wpAnyH _ _ _ _ _ _ _ { tmps := #[_, _, _, _, _, _, _, _, _, _, _, _, _, _, _, _, _, _, _, _, _, _, _, _, _, _, _, _, _, _, _, _, _, _, _, _], defers := _ } _
        refine wpAnyH_take (i := 1) (v := .int .i64 (x : Int)) rfl (by kernel_rfl) (by kernel_rfl) (by kernel_rfl) (fun _ _ _ h => h) (Or.inl ⟨by rfl, ?_⟩) H ?_
        · intro w' hSw; go_simp
        change wpAnyH _ _ _ _ _ _ _ { tmps := #[_, _, _, _, _, _, _, _, _, _, _, _, _, _, _, _, _, _, _, _, _, _, _, _, _, _, _, _, _, _, _, _, _, _, _, _], defers := _ } _
        refine wpAnyH_take (i := 3) (v := .agg #[.slice b0 k.nb e0, .slice b1 k.nc e1, .slice b2 k.ns e2]) rfl (by kernel_rfl) (by kernel_rfl) (by kernel_rfl) (fun _ _ _ h => h) (Or.inl ⟨by rfl, ?_⟩) H ?_
        · intro w' hSw; have t0 := hSw.2.c0; have t1 := hSw.2.c1; have t2 := hSw.2.c2; clear hSw; go_simp
        change wpAnyH _ _ _ _ _ _ _ { tmps := #[_, _, _, _, _, _, _, _, _, _, _, _, _, _, _, _, _, _, _, _, _, _, _, _, _, _, _, _, _, _, _, _, _, _, _, _], defers := _ } _
        refine wpAnyH_take (i := 4) (v := .int .i64 (x : Int)) rfl (by kernel_rfl) (by kernel_rfl) (by kernel_rfl) (fun _ _ _ h => h) (Or.inl ⟨by rfl, ?_⟩) H ?_
        · intro w' hSw; go_simp
        change wpAnyH _ _ _ _ _ _ _ { tmps := #[_, _, _, _, _, _, _, _, _, _, _, _, _, _, _, _, _, _, _, _, _, _, _, _, _, _, _, _, _, _, _, _, _, _, _, _], defers := _ } _
        refine wpAnyH_ready (rs := [2]) (by kernel_rfl) (by simp) ?_
        refine AllReadyH.cons rfl (fun KK hK => ?_) AllReadyH.nil
        go_simp
        refine (L1.out _ _ hlt (HX.out.below B3.out)).mono ?_
        rintro e u1 ⟨rfl, hb⟩
        replace B3 : Hid (Below w.heap.size w u1) := B3.out.trans (hb.mono B3.out.size)
        replace H : Box3 u1 w.heap.size 33 (.slice a0 d.nb c0) (.slice a1 d.nc c1) (.slice a2 d.ns c2) ∧ Box3 u1 (w.heap.size + 1) 33 (.slice b0 k.nb e0) (.slice b1 k.nc e1) (.slice b2 k.ns e2) := ⟨H.1.below hb, H.2.below hb⟩
        clear hb
        refine hK.out _ _ H (fun _ => ?_)
        clear hK KK
        change wpAnyH _ _ _ _ _ _ _ { tmps := #[_, _, _, _, _, _, _, _, _, _, _, _, _, _, _, _, _, _, _, _, _, _, _, _, _, _, _, _, _, _, _, _, _, _, _, _], defers := _ } _
        refine wpAnyH_ready (rs := [5]) (by kernel_rfl) (by simp) ?_
        refine AllReadyH.cons rfl (fun KK hK => ?_) AllReadyH.nil
        go_simp
        refine (L2.out _ _ (by have := HN.out; omega) (HY.out.below B3.out)).mono ?_
        rintro e u2 ⟨rfl, hb⟩
        replace B3 : Hid (Below w.heap.size w u2) := B3.out.trans (hb.mono B3.out.size)
        replace H : Box3 u2 w.heap.size 33 (.slice a0 d.nb c0) (.slice a1 d.nc c1) (.slice a2 d.ns c2) ∧ Box3 u2 (w.heap.size + 1) 33 (.slice b0 k.nb e0) (.slice b1 k.nc e1) (.slice b2 k.ns e2) := ⟨H.1.below hb, H.2.below hb⟩
        clear hb
        refine hK.out _ _ H (fun _ => ?_)
        clear hK KK
        change wpAnyH _ _ _ _ _ _ _ { tmps := #[_, _, _, _, _, _, _, _, _, _, _, _, _, _, _, _, _, _, _, _, _, _, _, _, _, _, _, _, _, _, _, _, _, _, _, _], defers := _ } _
        by_cases hd : d.rd x = k.rd x
        · have HD2 : Hid (d.rd x = k.rd x) := hd
          rw [hd]
          clear hd
          refine wpAnyH_take (i := 6) (v := .bool false) rfl (by kernel_rfl) (by kernel_rfl) (by kernel_rfl) (fun _ _ _ h => h) (Or.inl ⟨by rfl, ?_⟩) H ?_
          · intro w' hSw; go_simp
          change wpAnyH _ _ _ _ _ _ _ { tmps := #[_, _, _, _, _, _, _, _, _, _, _, _, _, _, _, _, _, _, _, _, _, _, _, _, _, _, _, _, _, _, _, _, _, _, _, _], defers := _ } _
          have RA : Hid (Box3 u2 w.heap.size 33 (.slice a0 d.nb c0) (.slice a1 d.nc c1) (.slice a2 d.ns c2)) := H.1
          have RB : Hid (Box3 u2 (w.heap.size + 1) 33 (.slice b0 k.nb e0) (.slice b1 k.nc e1) (.slice b2 k.ns e2)) := H.2
          clear H
          refine wpAnyH_done (by kernel_rfl) ?_ _
          refine NoPanic.normal ?_
          go_wp2
          go_roundw
          case rel => exact ⟨x + 1, by omega, by go_num, fun j hj => by
            rcases (show j < x ∨ j = x by omega) with g | rfl
            · exact HL.out j g
            · exact HD2.out, RA.out, RB.out, B3.out⟩
          case measure => simp [intOf]; omega
        · obtain rfl : r = false := by
            rcases Bool.eq_false_or_eq_true r with h | h
            · exact absurd ((HR.out.1 h).2 x hlt) hd
            · exact h
          have hne := toList_ne hd
          generalize k.rd x = R at *
          generalize d.rd x = R2 at *
          refine wpAnyH_take (i := 6) (v := .bool true) rfl (by kernel_rfl) (by kernel_rfl) (by kernel_rfl) (fun _ _ _ h => h) (Or.inl ⟨by rfl, ?_⟩) H ?_
          · intro w' hSw; go_simp
          change wpAnyH _ _ _ _ _ _ _ { tmps := #[_, _, _, _, _, _, _, _, _, _, _, _, _, _, _, _, _, _, _, _, _, _, _, _, _, _, _, _, _, _, _, _, _, _, _, _], defers := _ } _
          clear H L1 L2 HL hd
          refine wpAnyH_done (by kernel_rfl) ?_ _
          refine NoPanic.normal ?_
          go_wp2
          go_ret2
          exact ⟨rfl, B3.out⟩
      · have hlt' : ¬ (x : Int) < (d.nb : Int) := by omega
        obtain rfl : r = true := HR.out.2 ⟨HN.out, fun i hi => HL.out i (by omega)⟩
        clear L1 L2
        go_wp2
        go_ret2
        exact ⟨rfl, B3.out⟩
  · have x1 : ((d.nb : Int) != (k.nb : Int)) = true := by simp; omega
    obtain rfl : r = false := by
      rcases Bool.eq_false_or_eq_true r with h | h
      · exact absurd (HR.out.1 h).1 hnb
      · exact h
    clear L1 L2 HX HY HR hnb
    go_wp2
    go_ret2
    exact ⟨rfl, A1.out⟩
set_option maxRecDepth 100000 in
set_option maxHeartbeats 4000000 in
theorem specSame_bad (d k : Dk) (a0 a1 a2 b0 b1 b2 : Option Addr) (c0 c1 c2 e0 e1 e2 : Nat) (hs : d.Small) (hs' : k.Small) (hok : ¬ (d.Ok ∧ k.Ok)) (w : World) (h : DiskV w d a0 a1 a2) (h' : DiskV w k b0 b1 b2) :
    Calls Tryd.prog 26 #[.agg #[.slice a0 d.nb c0, .slice a1 d.nc c1, .slice a2 d.ns c2], .agg #[.slice b0 k.nb e0, .slice b1 k.nc e1, .slice b2 k.ns e2]] w fun e w' => e = .returned (.tuple #[.bool false, .int .i64 1]) ∧ Below w.heap.size w w' := by
  have A1 : Hid (Below w.heap.size w ((w.alloc (.cells #[.slice a0 d.nb c0, .slice a1 d.nc c1, .slice a2 d.ns c2] 33)).alloc (.cells #[.slice b0 k.nb e0, .slice b1 k.nc e1, .slice b2 k.ns e2] 33))) := ((Below.refl w.heap.size w).alloc (Nat.le_refl _) _).alloc (by simp) _
  have RB : Hid (Box3 ((w.alloc (.cells #[.slice a0 d.nb c0, .slice a1 d.nc c1, .slice a2 d.ns c2] 33)).alloc (.cells #[.slice b0 k.nb e0, .slice b1 k.nc e1, .slice b2 k.ns e2] 33)) (w.heap.size + 1) 33 (.slice b0 k.nb e0) (.slice b1 k.nc e1) (.slice b2 k.ns e2)) := Box3.madeAt (by simp) _ _ _ _
  have O1 : Hid (∀ w : World, DiskV w d a0 a1 a2 → Calls Tryd.prog 31 #[.agg #[.slice a0 d.nb c0, .slice a1 d.nc c1, .slice a2 d.ns c2]] w fun e w' => e = .returned (.bool d.ok) ∧ Below w.heap.size w w') := fun w h => specOK_any d a0 a1 a2 c0 c1 c2 hs w h
  have O2 : Hid (∀ w : World, DiskV w k b0 b1 b2 → Calls Tryd.prog 31 #[.agg #[.slice b0 k.nb e0, .slice b1 k.nc e1, .slice b2 k.ns e2]] w fun e w' => e = .returned (.bool k.ok) ∧ Below w.heap.size w w') := fun w h => specOK_any k b0 b1 b2 e0 e1 e2 hs' w h
  have HX : Hid (DiskV w d a0 a1 a2) := h
  have HY : Hid (DiskV w k b0 b1 b2) := h'
  clear h h' hs hs'
  by_cases hd : d.Ok
  · rw [Dk.ok_true hd] at O1
    rw [Dk.ok_false (fun q => hok ⟨hd, q⟩)] at O2
    clear hok hd
    go_enter Tryd.func26, Tryd.ntmps26
    go_wp2_with fail
    generalize ((w.alloc (.cells #[.slice a0 d.nb c0, .slice a1 d.nc c1, .slice a2 d.ns c2] 33)).alloc (.cells #[.slice b0 k.nb e0, .slice b1 k.nc e1, .slice b2 k.ns e2] 33)) = v at *
    refine (O1.out _ (HX.out.below A1.out)).mono ?_
    rintro e w1 ⟨rfl, hb⟩
    replace A1 : Hid (Below w.heap.size w w1) := A1.out.trans (hb.mono A1.out.size)
    replace RB : Hid (Box3 w1 (w.heap.size + 1) 33 (.slice b0 k.nb e0) (.slice b1 k.nc e1) (.slice b2 k.ns e2)) := RB.out.below hb
    have k0 := RB.out.c0
    have k1 := RB.out.c1
    have k2 := RB.out.c2
    clear hb O1
    go_wp2_with fail
    refine (O2.out _ (HY.out.below A1.out)).mono ?_
    rintro e w2 ⟨rfl, hb⟩
    replace A1 : Hid (Below w.heap.size w w2) := A1.out.trans (hb.mono A1.out.size)
    clear hb O2 k0 k1 k2 RB
    go_wp2
    go_ret2
    exact ⟨rfl, A1.out⟩
  · rw [Dk.ok_false hd] at O1
    clear hok hd O2
    go_enter Tryd.func26, Tryd.ntmps26
    go_wp2_with fail
    generalize ((w.alloc (.cells #[.slice a0 d.nb c0, .slice a1 d.nc c1, .slice a2 d.ns c2] 33)).alloc (.cells #[.slice b0 k.nb e0, .slice b1 k.nc e1, .slice b2 k.ns e2] 33)) = v at *
    refine (O1.out _ (HX.out.below A1.out)).mono ?_
    rintro e w1 ⟨rfl, hb⟩
    replace A1 : Hid (Below w.heap.size w w1) := A1.out.trans (hb.mono A1.out.size)
    clear hb O1 RB
    go_wp2
    go_ret2
    exact ⟨rfl, A1.out⟩
end Go.Proofs.YthfnbbjjiipcpabDoor
