/-
  Whether two disks read the same: DiskSame of the program and of the model.
-/
import Derived.Test.YthfnbbjjiipcpabDoorDiskRd
import Derived.Test.YthfnbbjjiipcpabDoorAnyH
namespace Go.Proofs.YthfnbbjjiipcpabDoor
open Go.ChangeShapes Go.WideShapes Go.ChangeAt Go.RowKit
/-- Two disks read the same. -/
def Same (d k : Dk) : Prop := d.nb = k.nb ∧ ∀ i, i < d.nb → d.rd i = k.rd i
theorem toList_ne {A B : ByteArray} (h : A ≠ B) : (A.toList == B.toList) = false := by
  rw [beq_eq_false_iff_ne]
  intro g
  rw [ByteArray.toList_eq, ByteArray.toList_eq] at g
  exact h (bytes_inj g)
set_option maxRecDepth 100000 in
set_option maxHeartbeats 4000000 in
theorem implSame_ok (d k : Dk) (a0 a1 a2 b0 b1 b2 : Option Addr) (c0 c1 c2 e0 e1 e2 : Nat) (r : Bool) (hr : r = true ↔ Same d k) (hs : d.Small) (hs' : k.Small) (hok : d.Ok) (hok' : k.Ok) (p0 p1 : Addr) (w : World) (h : DiskV w d a0 a1 a2) (h' : DiskV w k b0 b1 b2) (hE0 : ErrAt w 0 p0) (hE1 : ErrAt w 1 p1) :
    Calls Tryd.prog 27 #[.agg #[.slice a0 d.nb c0, .slice a1 d.nc c1, .slice a2 d.ns c2], .agg #[.slice b0 k.nb e0, .slice b1 k.nc e1, .slice b2 k.ns e2]] w fun e w' => e = .returned (.tuple #[.bool r, .int .i64 0]) ∧ Below w.heap.size w w' := by
  have A1 : Hid (Below w.heap.size w ((w.alloc (.cells #[.slice a0 d.nb c0, .slice a1 d.nc c1, .slice a2 d.ns c2] 33)).alloc (.cells #[.slice b0 k.nb e0, .slice b1 k.nc e1, .slice b2 k.ns e2] 33))) := ((Below.refl w.heap.size w).alloc (Nat.le_refl _) _).alloc (by simp) _
  have RA : Hid (Box3 ((w.alloc (.cells #[.slice a0 d.nb c0, .slice a1 d.nc c1, .slice a2 d.ns c2] 33)).alloc (.cells #[.slice b0 k.nb e0, .slice b1 k.nc e1, .slice b2 k.ns e2] 33)) w.heap.size 33 (.slice a0 d.nb c0) (.slice a1 d.nc c1) (.slice a2 d.ns c2)) := (Box3.made w _ _ _ _).alloc _
  have RB : Hid (Box3 ((w.alloc (.cells #[.slice a0 d.nb c0, .slice a1 d.nc c1, .slice a2 d.ns c2] 33)).alloc (.cells #[.slice b0 k.nb e0, .slice b1 k.nc e1, .slice b2 k.ns e2] 33)) (w.heap.size + 1) 33 (.slice b0 k.nb e0) (.slice b1 k.nc e1) (.slice b2 k.ns e2)) := Box3.madeAt (by simp) _ _ _ _
  have O1 : Hid (∀ w : World, DiskV w d a0 a1 a2 → ErrAt w 0 p0 → ErrAt w 1 p1 → Calls Tryd.prog 37 #[.agg #[.slice a0 d.nb c0, .slice a1 d.nc c1, .slice a2 d.ns c2]] w fun e w' => e = .returned (.bool true) ∧ Below w.heap.size w w') := fun w h x y => by have := implOK_any d a0 a1 a2 c0 c1 c2 hs p0 p1 w h x y; rwa [Dk.ok_true hok] at this
  have O2 : Hid (∀ w : World, DiskV w k b0 b1 b2 → ErrAt w 0 p0 → ErrAt w 1 p1 → Calls Tryd.prog 37 #[.agg #[.slice b0 k.nb e0, .slice b1 k.nc e1, .slice b2 k.ns e2]] w fun e w' => e = .returned (.bool true) ∧ Below w.heap.size w w') := fun w h x y => by have := implOK_any k b0 b1 b2 e0 e1 e2 hs' p0 p1 w h x y; rwa [Dk.ok_true hok'] at this
  have D1 : Hid (∀ w : World, Pens w a1 d.nc d.A d.D → Calls Tryd.prog 38 #[.agg #[.slice a0 d.nb c0, .slice a1 d.nc c1, .slice a2 d.ns c2]] w fun e w' => e = .returned (.pointer (some ⟨w.heap.size + 2, 0, none⟩)) ∧ Box4 w' (w.heap.size + 2) 75 (.slice a0 d.nb c0) (.slice a1 d.nc c1) (.slice a2 d.ns c2) (.map (some (w.heap.size + 1))) ∧ MapI w' (w.heap.size + 1) (lastM d.A d.D d.nc) ∧ Below w.heap.size w w') := fun w h => driveOf_any d a0 a1 a2 c0 c1 c2 hok.nc w h
  have D2 : Hid (∀ w : World, Pens w b1 k.nc k.A k.D → Calls Tryd.prog 38 #[.agg #[.slice b0 k.nb e0, .slice b1 k.nc e1, .slice b2 k.ns e2]] w fun e w' => e = .returned (.pointer (some ⟨w.heap.size + 2, 0, none⟩)) ∧ Box4 w' (w.heap.size + 2) 75 (.slice b0 k.nb e0) (.slice b1 k.nc e1) (.slice b2 k.ns e2) (.map (some (w.heap.size + 1))) ∧ MapI w' (w.heap.size + 1) (lastM k.A k.D k.nc) ∧ Below w.heap.size w w') := fun w h => driveOf_any k b0 b1 b2 e0 e1 e2 hok'.nc w h
  have S1 : Hid (∀ (q b x : Nat) (w : World), x < d.nb → Box4 w q 75 (.slice a0 d.nb c0) (.slice a1 d.nc c1) (.slice a2 d.ns c2) (.map (some b)) → MapI w b (lastM d.A d.D d.nc) → Strs w a0 d.nb d.B → Calls Tryd.prog 54 #[.pointer (some ⟨q, 0, none⟩), .int .i64 (x : Int)] w fun e w' => e = .returned (.string (d.rd x)) ∧ Below w.heap.size w w') := fun q b x w hx h1 h2 h3 => stands_any d a0 c0 q b x _ _ hx hok.nb2 w h1 h2 h3
  have S2 : Hid (∀ (q b x : Nat) (w : World), x < k.nb → Box4 w q 75 (.slice b0 k.nb e0) (.slice b1 k.nc e1) (.slice b2 k.ns e2) (.map (some b)) → MapI w b (lastM k.A k.D k.nc) → Strs w b0 k.nb k.B → Calls Tryd.prog 54 #[.pointer (some ⟨q, 0, none⟩), .int .i64 (x : Int)] w fun e w' => e = .returned (.string (k.rd x)) ∧ Below w.heap.size w w') := fun q b x w hx h1 h2 h3 => stands_any k b0 e0 q b x _ _ hx hok'.nb2 w h1 h2 h3
  have HX : Hid (DiskV w d a0 a1 a2) := h
  have HY : Hid (DiskV w k b0 b1 b2) := h'
  have E0 : Hid (ErrAt w 0 p0) := hE0
  have E1 : Hid (ErrAt w 1 p1) := hE1
  have HR : Hid (r = true ↔ Same d k) := hr
  have hn := hok.nb2
  have hn' := hok'.nb2
  clear h h' hE0 hE1 hr hok hok' hs hs'
  go_enter Tryd.func27, Tryd.ntmps27
  go_wp2_with fail
  generalize ((w.alloc (.cells #[.slice a0 d.nb c0, .slice a1 d.nc c1, .slice a2 d.ns c2] 33)).alloc (.cells #[.slice b0 k.nb e0, .slice b1 k.nc e1, .slice b2 k.ns e2] 33)) = v at *
  refine (O1.out _ (HX.out.below A1.out) (E0.out.below A1.out) (E1.out.below A1.out)).mono ?_
  rintro e w1 ⟨rfl, hb⟩
  replace A1 : Hid (Below w.heap.size w w1) := A1.out.trans (hb.mono A1.out.size)
  replace RA : Hid (Box3 w1 w.heap.size 33 (.slice a0 d.nb c0) (.slice a1 d.nc c1) (.slice a2 d.ns c2)) := RA.out.below hb
  replace RB : Hid (Box3 w1 (w.heap.size + 1) 33 (.slice b0 k.nb e0) (.slice b1 k.nc e1) (.slice b2 k.ns e2)) := RB.out.below hb
  have k0 := RB.out.c0
  have k1 := RB.out.c1
  have k2 := RB.out.c2
  clear hb O1
  go_wp2_with fail
  refine (O2.out _ (HY.out.below A1.out) (E0.out.below A1.out) (E1.out.below A1.out)).mono ?_
  rintro e w2 ⟨rfl, hb⟩
  replace A1 : Hid (Below w.heap.size w w2) := A1.out.trans (hb.mono A1.out.size)
  replace RA : Hid (Box3 w2 w.heap.size 33 (.slice a0 d.nb c0) (.slice a1 d.nc c1) (.slice a2 d.ns c2)) := RA.out.below hb
  replace RB : Hid (Box3 w2 (w.heap.size + 1) 33 (.slice b0 k.nb e0) (.slice b1 k.nc e1) (.slice b2 k.ns e2)) := RB.out.below hb
  clear hb O2 k0 k1 k2 E0 E1
  have k0 := RB.out.c0
  have k1 := RB.out.c1
  have k2 := RB.out.c2
  have j0 := RA.out.c0
  have j1 := RA.out.c1
  have j2 := RA.out.c2
  by_cases hnb : d.nb = k.nb
  · have x1 : ((d.nb : Int) != (k.nb : Int)) = false := by rw [hnb]; simp
    have HN : Hid (d.nb = k.nb) := hnb
    have B3 : Hid (Below w.heap.size w w2.drew) := A1.out.drew
    have RA3 : Hid (Box3 w2.drew w.heap.size 33 (.slice a0 d.nb c0) (.slice a1 d.nc c1) (.slice a2 d.ns c2)) := RA.out.below (Below.refl _ _).drew
    have RB3 : Hid (Box3 w2.drew (w.heap.size + 1) 33 (.slice b0 k.nb e0) (.slice b1 k.nc e1) (.slice b2 k.ns e2)) := RB.out.below (Below.refl _ _).drew
    have P3 : Hid (Pens w2.drew a1 d.nc d.A d.D) := HX.out.2.1.below B3.out
    have P4 : Hid (Pens w2.drew b1 k.nc k.A k.D) := HY.out.2.1.below B3.out
    clear hnb A1 RA RB
    go_wp2_with fail
    clear k0 k1 k2 j0 j1 j2 x1
    have H : Box3 w2.drew w.heap.size 33 (.slice a0 d.nb c0) (.slice a1 d.nc c1) (.slice a2 d.ns c2) ∧ Box3 w2.drew (w.heap.size + 1) 33 (.slice b0 k.nb e0) (.slice b1 k.nc e1) (.slice b2 k.ns e2) := ⟨RA3.out, RB3.out⟩
    refine wp_region_noPanic ?_
    refine wp_region_held_drew (S := fun w' => Box3 w' w.heap.size 33 (.slice a0 d.nb c0) (.slice a1 d.nc c1) (.slice a2 d.ns c2) ∧ Box3 w' (w.heap.size + 1) 33 (.slice b0 k.nb e0) (.slice b1 k.nc e1) (.slice b2 k.ns e2)) (by kernel_rfl) H (fun _ => ?_)
    generalize w2.drew = u0 at *
    refine wpAnyH_take (i := 0) (v := .agg #[.slice a0 d.nb c0, .slice a1 d.nc c1, .slice a2 d.ns c2]) rfl (by kernel_rfl) (by kernel_rfl) (by kernel_rfl) (fun _ _ _ h => h) (Or.inl ⟨by rfl, ?_⟩) H ?_
    · intro w' hSw; have t0 := hSw.1.c0; have t1 := hSw.1.c1; have t2 := hSw.1.c2; clear hSw; go_simp
    change wpAnyH _ _ _ _ _ _ _ { tmps := #[_, _, _, _, _, _, _, _, _, _, _, _, _, _, _, _, _, _, _, _, _, _, _, _, _, _, _, _, _, _, _, _, _, _, _, _, _, _, _, _, _, _], defers := _ } _
    refine wpAnyH_take (i := 2) (v := .agg #[.slice b0 k.nb e0, .slice b1 k.nc e1, .slice b2 k.ns e2]) rfl (by kernel_rfl) (by kernel_rfl) (by kernel_rfl) (fun _ _ _ h => h) (Or.inl ⟨by rfl, ?_⟩) H ?_
    · intro w' hSw; have t0 := hSw.2.c0; have t1 := hSw.2.c1; have t2 := hSw.2.c2; clear hSw; go_simp
    change wpAnyH _ _ _ _ _ _ _ { tmps := #[_, _, _, _, _, _, _, _, _, _, _, _, _, _, _, _, _, _, _, _, _, _, _, _, _, _, _, _, _, _, _, _, _, _, _, _, _, _, _, _, _, _], defers := _ } _
    refine wpAnyH_ready (rs := [1]) (by kernel_rfl) (by simp) ?_
    refine AllReadyH.cons rfl (fun KK hK => ?_) AllReadyH.nil
    go_simp
    refine (D1.out _ P3.out).mono ?_
    rintro e u1 ⟨rfl, hq, hm, hb⟩
    replace B3 : Hid (Below w.heap.size w u1) := B3.out.trans (hb.mono B3.out.size)
    replace H : Box3 u1 w.heap.size 33 (.slice a0 d.nb c0) (.slice a1 d.nc c1) (.slice a2 d.ns c2) ∧ Box3 u1 (w.heap.size + 1) 33 (.slice b0 k.nb e0) (.slice b1 k.nc e1) (.slice b2 k.ns e2) := ⟨H.1.below hb, H.2.below hb⟩
    have Q1 : Hid (Box4 u1 (u0.heap.size + 2) 75 (.slice a0 d.nb c0) (.slice a1 d.nc c1) (.slice a2 d.ns c2) (.map (some (u0.heap.size + 1)))) := hq
    have M1 : Hid (MapI u1 (u0.heap.size + 1) (lastM d.A d.D d.nc)) := hm
    replace P4 : Hid (Pens u1 b1 k.nc k.A k.D) := P4.out.below hb
    clear hb hq hm D1 P3
    refine hK.out _ _ H (fun _ => ?_)
    clear hK KK
    generalize u0.heap.size = z1 at *
    change wpAnyH _ _ _ _ _ _ _ { tmps := #[_, _, _, _, _, _, _, _, _, _, _, _, _, _, _, _, _, _, _, _, _, _, _, _, _, _, _, _, _, _, _, _, _, _, _, _, _, _, _, _, _, _], defers := _ } _
    refine wpAnyH_ready (rs := [3]) (by kernel_rfl) (by simp) ?_
    refine AllReadyH.cons rfl (fun KK hK => ?_) AllReadyH.nil
    go_simp
    refine (D2.out _ P4.out).mono ?_
    rintro e u2 ⟨rfl, hq, hm, hb⟩
    replace B3 : Hid (Below w.heap.size w u2) := B3.out.trans (hb.mono B3.out.size)
    replace H : Box3 u2 w.heap.size 33 (.slice a0 d.nb c0) (.slice a1 d.nc c1) (.slice a2 d.ns c2) ∧ Box3 u2 (w.heap.size + 1) 33 (.slice b0 k.nb e0) (.slice b1 k.nc e1) (.slice b2 k.ns e2) := ⟨H.1.below hb, H.2.below hb⟩
    have Q2 : Hid (Box4 u2 (u1.heap.size + 2) 75 (.slice b0 k.nb e0) (.slice b1 k.nc e1) (.slice b2 k.ns e2) (.map (some (u1.heap.size + 1)))) := hq
    have M2 : Hid (MapI u2 (u1.heap.size + 1) (lastM k.A k.D k.nc)) := hm
    replace Q1 : Hid (Box4 u2 (z1 + 2) 75 (.slice a0 d.nb c0) (.slice a1 d.nc c1) (.slice a2 d.ns c2) (.map (some (z1 + 1)))) := Q1.out.below hb
    replace M1 : Hid (MapI u2 (z1 + 1) (lastM d.A d.D d.nc)) := M1.out.below hb
    clear hb hq hm D2 P4
    refine hK.out _ _ H (fun _ => ?_)
    clear hK KK
    generalize u1.heap.size = z2 at *
    change wpAnyH _ _ _ _ _ _ _ { tmps := #[_, _, _, _, _, _, _, _, _, _, _, _, _, _, _, _, _, _, _, _, _, _, _, _, _, _, _, _, _, _, _, _, _, _, _, _, _, _, _, _, _, _], defers := _ } _
    refine wpAnyH_take (i := 4) (v := .pointer (some ⟨z1 + 2, 0, none⟩)) rfl (by kernel_rfl) (by kernel_rfl) (by kernel_rfl) (fun _ _ _ h => h) (Or.inl ⟨by rfl, ?_⟩) H ?_
    · intro w' hSw; go_simp
    change wpAnyH _ _ _ _ _ _ _ { tmps := #[_, _, _, _, _, _, _, _, _, _, _, _, _, _, _, _, _, _, _, _, _, _, _, _, _, _, _, _, _, _, _, _, _, _, _, _, _, _, _, _, _, _], defers := _ } _
    refine wpAnyH_take (i := 5) (v := .pointer (some ⟨z2 + 2, 0, none⟩)) rfl (by kernel_rfl) (by kernel_rfl) (by kernel_rfl) (fun _ _ _ h => h) (Or.inl ⟨by rfl, ?_⟩) H ?_
    · intro w' hSw; go_simp
    change wpAnyH _ _ _ _ _ _ _ { tmps := #[_, _, _, _, _, _, _, _, _, _, _, _, _, _, _, _, _, _, _, _, _, _, _, _, _, _, _, _, _, _, _, _, _, _, _, _, _, _, _, _, _, _], defers := _ } _
    have RA : Hid (Box3 u2 w.heap.size 33 (.slice a0 d.nb c0) (.slice a1 d.nc c1) (.slice a2 d.ns c2)) := H.1
    clear H RA3 RB3
    refine wpAnyH_done (by kernel_rfl) ?_ _
    refine NoPanic.normal ?_
    have k0 := RA.out.c0
    go_wp2
    have L : Hid (Box4 u2 (z1 + 2) 75 (.slice a0 d.nb c0) (.slice a1 d.nc c1) (.slice a2 d.ns c2) (.map (some (z1 + 1))) ∧ MapI u2 (z1 + 1) (lastM d.A d.D d.nc) ∧ Box4 u2 (z2 + 2) 75 (.slice b0 k.nb e0) (.slice b1 k.nc e1) (.slice b2 k.ns e2) (.map (some (z2 + 1))) ∧ MapI u2 (z2 + 1) (lastM k.A k.D k.nc) ∧ Below w.heap.size w u2) := ⟨Q1.out, M1.out, Q2.out, M2.out, B3.out⟩
    clear Q1 M1 Q2 M2 B3 RA k0
    go_loopw [31] (fun i wr => ∃ x : Nat, x ≤ d.nb ∧ i = .int .i64 x ∧ (∀ j, j < x → d.rd j = k.rd j) ∧ Box4 wr (z1 + 2) 75 (.slice a0 d.nb c0) (.slice a1 d.nc c1) (.slice a2 d.ns c2) (.map (some (z1 + 1))) ∧ MapI wr (z1 + 1) (lastM d.A d.D d.nc) ∧ Box4 wr (z2 + 2) 75 (.slice b0 k.nb e0) (.slice b1 k.nc e1) (.slice b2 k.ns e2) (.map (some (z2 + 1))) ∧ MapI wr (z2 + 1) (lastM k.A k.D k.nc) ∧ Below w.heap.size w wr) (fun i _ => d.nb - (intOf i).toNat)
    case atStart => exact ⟨0, by omega, rfl, fun j hj => absurd hj (by omega), L.out⟩
    case round =>
      clear L
      obtain ⟨x, hx, rfl, hall, q1, m1, q2, m2, hb⟩ := hrel
      have HL : Hid (∀ j, j < x → d.rd j = k.rd j) := hall
      have Q1 : Hid (Box4 wr (z1 + 2) 75 (.slice a0 d.nb c0) (.slice a1 d.nc c1) (.slice a2 d.ns c2) (.map (some (z1 + 1)))) := q1
      have M1 : Hid (MapI wr (z1 + 1) (lastM d.A d.D d.nc)) := m1
      have Q2 : Hid (Box4 wr (z2 + 2) 75 (.slice b0 k.nb e0) (.slice b1 k.nc e1) (.slice b2 k.ns e2) (.map (some (z2 + 1)))) := q2
      have M2 : Hid (MapI wr (z2 + 1) (lastM k.A k.D k.nc)) := m2
      have B3 : Hid (Below w.heap.size w wr) := hb
      clear hall q1 m1 q2 m2 hb
      by_cases hlt : x < d.nb
      · have hlt' : (x : Int) < (d.nb : Int) := by omega
        go_wp2_with fail
        refine (S1.out _ _ _ _ hlt Q1.out M1.out (HX.out.1.below B3.out)).mono ?_
        rintro e w4 ⟨rfl, hb⟩
        replace Q1 : Hid (Box4 w4 (z1 + 2) 75 (.slice a0 d.nb c0) (.slice a1 d.nc c1) (.slice a2 d.ns c2) (.map (some (z1 + 1)))) := Q1.out.below hb
        replace M1 : Hid (MapI w4 (z1 + 1) (lastM d.A d.D d.nc)) := M1.out.below hb
        replace Q2 : Hid (Box4 w4 (z2 + 2) 75 (.slice b0 k.nb e0) (.slice b1 k.nc e1) (.slice b2 k.ns e2) (.map (some (z2 + 1)))) := Q2.out.below hb
        replace M2 : Hid (MapI w4 (z2 + 1) (lastM k.A k.D k.nc)) := M2.out.below hb
        replace B3 : Hid (Below w.heap.size w w4) := B3.out.trans (hb.mono B3.out.size)
        clear hb
        go_wp2_with fail
        refine (S2.out _ _ _ _ (by have := HN.out; omega) Q2.out M2.out (HY.out.1.below B3.out)).mono ?_
        rintro e w5 ⟨rfl, hb⟩
        replace Q1 : Hid (Box4 w5 (z1 + 2) 75 (.slice a0 d.nb c0) (.slice a1 d.nc c1) (.slice a2 d.ns c2) (.map (some (z1 + 1)))) := Q1.out.below hb
        replace M1 : Hid (MapI w5 (z1 + 1) (lastM d.A d.D d.nc)) := M1.out.below hb
        replace Q2 : Hid (Box4 w5 (z2 + 2) 75 (.slice b0 k.nb e0) (.slice b1 k.nc e1) (.slice b2 k.ns e2) (.map (some (z2 + 1)))) := Q2.out.below hb
        replace M2 : Hid (MapI w5 (z2 + 1) (lastM k.A k.D k.nc)) := M2.out.below hb
        replace B3 : Hid (Below w.heap.size w w5) := B3.out.trans (hb.mono B3.out.size)
        clear hb
        by_cases hd : d.rd x = k.rd x
        · have HD2 : Hid (d.rd x = k.rd x) := hd
          rw [hd]
          clear hd
          go_wp2
          go_roundw
          case rel => exact ⟨x + 1, by omega, by go_num, fun j hj => by
            rcases (show j < x ∨ j = x by omega) with g | rfl
            · exact HL.out j g
            · exact HD2.out, Q1.out, M1.out, Q2.out, M2.out, B3.out⟩
          case measure => simp [intOf]; omega
        · obtain rfl : r = false := by
            rcases Bool.eq_false_or_eq_true r with h | h
            · exact absurd ((HR.out.1 h).2 x hlt) hd
            · exact h
          have hne := toList_ne hd
          generalize k.rd x = R at *
          generalize d.rd x = R2 at *
          clear Q1 Q2 M1 M2 S1 S2 HL hd
          go_wp2
          go_ret2
          exact ⟨rfl, B3.out⟩
      · have hlt' : ¬ (x : Int) < (d.nb : Int) := by omega
        obtain rfl : r = true := HR.out.2 ⟨HN.out, fun i hi => HL.out i (by omega)⟩
        clear Q1 Q2 M1 M2 S1 S2
        go_wp2
        go_ret2
        exact ⟨rfl, B3.out⟩
  · have x1 : ((d.nb : Int) != (k.nb : Int)) = true := by simp; omega
    obtain rfl : r = false := by
      rcases Bool.eq_false_or_eq_true r with h | h
      · exact absurd (HR.out.1 h).1 hnb
      · exact h
    clear D1 D2 S1 S2 HX HY HR hnb
    go_wp2
    go_ret2
    exact ⟨rfl, A1.out⟩
set_option maxRecDepth 100000 in
set_option maxHeartbeats 4000000 in
theorem implSame_bad (d k : Dk) (a0 a1 a2 b0 b1 b2 : Option Addr) (c0 c1 c2 e0 e1 e2 : Nat) (hs : d.Small) (hs' : k.Small) (hok : ¬ (d.Ok ∧ k.Ok)) (p0 p1 : Addr) (w : World) (h : DiskV w d a0 a1 a2) (h' : DiskV w k b0 b1 b2) (hE0 : ErrAt w 0 p0) (hE1 : ErrAt w 1 p1) :
    Calls Tryd.prog 27 #[.agg #[.slice a0 d.nb c0, .slice a1 d.nc c1, .slice a2 d.ns c2], .agg #[.slice b0 k.nb e0, .slice b1 k.nc e1, .slice b2 k.ns e2]] w fun e w' => e = .returned (.tuple #[.bool false, .int .i64 1]) ∧ Below w.heap.size w w' := by
  have A1 : Hid (Below w.heap.size w ((w.alloc (.cells #[.slice a0 d.nb c0, .slice a1 d.nc c1, .slice a2 d.ns c2] 33)).alloc (.cells #[.slice b0 k.nb e0, .slice b1 k.nc e1, .slice b2 k.ns e2] 33))) := ((Below.refl w.heap.size w).alloc (Nat.le_refl _) _).alloc (by simp) _
  have RB : Hid (Box3 ((w.alloc (.cells #[.slice a0 d.nb c0, .slice a1 d.nc c1, .slice a2 d.ns c2] 33)).alloc (.cells #[.slice b0 k.nb e0, .slice b1 k.nc e1, .slice b2 k.ns e2] 33)) (w.heap.size + 1) 33 (.slice b0 k.nb e0) (.slice b1 k.nc e1) (.slice b2 k.ns e2)) := Box3.madeAt (by simp) _ _ _ _
  have O1 : Hid (∀ w : World, DiskV w d a0 a1 a2 → ErrAt w 0 p0 → ErrAt w 1 p1 → Calls Tryd.prog 37 #[.agg #[.slice a0 d.nb c0, .slice a1 d.nc c1, .slice a2 d.ns c2]] w fun e w' => e = .returned (.bool d.ok) ∧ Below w.heap.size w w') := fun w h x y => implOK_any d a0 a1 a2 c0 c1 c2 hs p0 p1 w h x y
  have O2 : Hid (∀ w : World, DiskV w k b0 b1 b2 → ErrAt w 0 p0 → ErrAt w 1 p1 → Calls Tryd.prog 37 #[.agg #[.slice b0 k.nb e0, .slice b1 k.nc e1, .slice b2 k.ns e2]] w fun e w' => e = .returned (.bool k.ok) ∧ Below w.heap.size w w') := fun w h x y => implOK_any k b0 b1 b2 e0 e1 e2 hs' p0 p1 w h x y
  have HX : Hid (DiskV w d a0 a1 a2) := h
  have HY : Hid (DiskV w k b0 b1 b2) := h'
  have E0 : Hid (ErrAt w 0 p0) := hE0
  have E1 : Hid (ErrAt w 1 p1) := hE1
  clear h h' hE0 hE1 hs hs'
  by_cases hd : d.Ok
  · rw [Dk.ok_true hd] at O1
    rw [Dk.ok_false (fun q => hok ⟨hd, q⟩)] at O2
    clear hok hd
    go_enter Tryd.func27, Tryd.ntmps27
    go_wp2_with fail
    generalize ((w.alloc (.cells #[.slice a0 d.nb c0, .slice a1 d.nc c1, .slice a2 d.ns c2] 33)).alloc (.cells #[.slice b0 k.nb e0, .slice b1 k.nc e1, .slice b2 k.ns e2] 33)) = v at *
    refine (O1.out _ (HX.out.below A1.out) (E0.out.below A1.out) (E1.out.below A1.out)).mono ?_
    rintro e w1 ⟨rfl, hb⟩
    replace A1 : Hid (Below w.heap.size w w1) := A1.out.trans (hb.mono A1.out.size)
    replace RB : Hid (Box3 w1 (w.heap.size + 1) 33 (.slice b0 k.nb e0) (.slice b1 k.nc e1) (.slice b2 k.ns e2)) := RB.out.below hb
    have k0 := RB.out.c0
    have k1 := RB.out.c1
    have k2 := RB.out.c2
    clear hb O1
    go_wp2_with fail
    refine (O2.out _ (HY.out.below A1.out) (E0.out.below A1.out) (E1.out.below A1.out)).mono ?_
    rintro e w2 ⟨rfl, hb⟩
    replace A1 : Hid (Below w.heap.size w w2) := A1.out.trans (hb.mono A1.out.size)
    clear hb O2 k0 k1 k2 E0 E1 RB
    go_wp2
    go_ret2
    exact ⟨rfl, A1.out⟩
  · rw [Dk.ok_false hd] at O1
    clear hok hd O2
    go_enter Tryd.func27, Tryd.ntmps27
    go_wp2_with fail
    generalize ((w.alloc (.cells #[.slice a0 d.nb c0, .slice a1 d.nc c1, .slice a2 d.ns c2] 33)).alloc (.cells #[.slice b0 k.nb e0, .slice b1 k.nc e1, .slice b2 k.ns e2] 33)) = v at *
    refine (O1.out _ (HX.out.below A1.out) (E0.out.below A1.out) (E1.out.below A1.out)).mono ?_
    rintro e w1 ⟨rfl, hb⟩
    replace A1 : Hid (Below w.heap.size w w1) := A1.out.trans (hb.mono A1.out.size)
    clear hb O1 RB
    go_wp2
    go_ret2
    exact ⟨rfl, A1.out⟩
end Go.Proofs.YthfnbbjjiipcpabDoor
