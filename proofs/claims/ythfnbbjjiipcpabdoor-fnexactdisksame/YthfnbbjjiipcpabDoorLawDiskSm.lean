/-
  The exact law of DiskSame.
-/
import Derived.Test.YthfnbbjjiipcpabDoorDiskSmS
namespace Go.Proofs.YthfnbbjjiipcpabDoor
open Go.ChangeShapes Go.WideShapes Go.ChangeAt Go.RowKit
set_option maxRecDepth 100000 in
set_option maxHeartbeats 1000000 in
theorem szDisk_x (d : Dk) (a0 a1 a2 : Option Addr) (c0 c1 c2 : Nat) (x : Int) (x0 : 0 ≤ x) (x1 : x ≤ 1048576) (w : World) (h : DiskV w d a0 a1 a2) (l0 : d.nb ≤ maxLen) (l1 : d.nc ≤ maxLen) (l2 : d.ns ≤ maxLen) (m0 : ∀ i, i < d.nb → (d.B i).size ≤ maxLen) (m1 : ∀ i, i < d.nc → (d.D i).size ≤ maxLen) (m2 : ∀ i, i < d.ns → (d.S i).size ≤ maxLen) :
    Calls Tryd.prog 6 #[.agg #[.slice a0 d.nb c0, .slice a1 d.nc c1, .slice a2 d.ns c2], .int .i64 x] w fun e w' => (∃ y : Int, e = .returned (.int .i64 y) ∧ y ≤ 1048576 ∧ (0 ≤ y → d.nb ≤ 1048576 ∧ d.nc ≤ 1048576 ∧ d.ns ≤ 1048576)) ∧ Below w.heap.size w w' := by
  have S0 : Hid (∀ (x : Int) (w : World), 0 ≤ x → x ≤ 1048576 → Strs w a0 d.nb d.B → Calls Tryd.prog 28 #[.slice a0 d.nb c0, .int .i64 x] w fun e w' => (∃ y : Int, e = .returned (.int .i64 y) ∧ y ≤ 1048576 ∧ (0 ≤ y → d.nb ≤ 1048576)) ∧ w = w') := fun x w hx hx' h => szStringS_any a0 d.nb c0 d.B x w h hx hx' l0 m0
  have S1 : Hid (∀ (x : Int) (w : World), 0 ≤ x → x ≤ 1048576 → Pens w a1 d.nc d.A d.D → Calls Tryd.prog 29 #[.slice a1 d.nc c1, .int .i64 x] w fun e w' => (∃ y : Int, e = .returned (.int .i64 y) ∧ y ≤ 1048576 ∧ (0 ≤ y → d.nc ≤ 1048576)) ∧ Below w.heap.size w w') := fun x w hx hx' h => szPendingS_any a1 d.nc c1 d.A d.D x w h hx hx' l1 m1
  have S2 : Hid (∀ (x : Int) (w : World), 0 ≤ x → x ≤ 1048576 → Strs w a2 d.ns d.S → Calls Tryd.prog 28 #[.slice a2 d.ns c2, .int .i64 x] w fun e w' => (∃ y : Int, e = .returned (.int .i64 y) ∧ y ≤ 1048576 ∧ (0 ≤ y → d.ns ≤ 1048576)) ∧ w = w') := fun x w hx hx' h => szStringS_any a2 d.ns c2 d.S x w h hx hx' l2 m2
  have HD : Hid (DiskV w d a0 a1 a2) := h
  clear h l0 l1 l2 m0 m1 m2
  have A1 : Hid (Below w.heap.size w (w.alloc (.cells #[.slice a0 d.nb c0, .slice a1 d.nc c1, .slice a2 d.ns c2] 25))) := (Below.refl w.heap.size w).alloc (Nat.le_refl _) _
  have RA : Hid (Box3 (w.alloc (.cells #[.slice a0 d.nb c0, .slice a1 d.nc c1, .slice a2 d.ns c2] 25)) w.heap.size 25 (.slice a0 d.nb c0) (.slice a1 d.nc c1) (.slice a2 d.ns c2)) := Box3.made w _ _ _ _
  go_enter Tryd.func6, Tryd.ntmps6
  go_wp2_with fail
  generalize (w.alloc (.cells #[.slice a0 d.nb c0, .slice a1 d.nc c1, .slice a2 d.ns c2] 25)) = v at *
  refine (S0.out _ _ (by omega) (by omega) (HD.out.1.below A1.out)).mono ?_
  rintro e w1 ⟨⟨y0, rfl, hy0, hz0⟩, rfl⟩
  have Z0 : Hid (0 ≤ y0 → d.nb ≤ 1048576) := hz0
  have k1 := RA.out.c1
  clear hz0 S0
  by_cases p0 : y0 < 0
  · go_wp2
    go_ret
    exact ⟨⟨-1, rfl, by omega, by omega⟩, A1.out⟩
  · have q0 : ¬ y0 < 0 := p0
    go_wp2_with fail
    refine (S1.out _ _ (by omega) (by omega) (HD.out.2.1.below A1.out)).mono ?_
    rintro e w2 ⟨⟨y1, rfl, hy1, hz1⟩, hb⟩
    have Z1 : Hid (0 ≤ y1 → d.nc ≤ 1048576) := hz1
    replace A1 : Hid (Below w.heap.size w w2) := A1.out.trans (hb.mono A1.out.size)
    replace RA : Hid (Box3 w2 w.heap.size 25 (.slice a0 d.nb c0) (.slice a1 d.nc c1) (.slice a2 d.ns c2)) := RA.out.below hb
    have k2 := RA.out.c2
    clear hz1 S1 hb k1
    by_cases p1 : y1 < 0
    · go_wp2
      go_ret
      exact ⟨⟨-1, rfl, by omega, by omega⟩, A1.out⟩
    · have q1 : ¬ y1 < 0 := p1
      go_wp2_with fail
      refine (S2.out _ _ (by omega) (by omega) (HD.out.2.2.below A1.out)).mono ?_
      rintro e w3 ⟨⟨y2, rfl, hy2, hz2⟩, rfl⟩
      have Z2 : Hid (0 ≤ y2 → d.ns ≤ 1048576) := hz2
      clear hz2 S2
      by_cases p2 : y2 < 0
      · go_wp2
        go_ret
        exact ⟨⟨-1, rfl, by omega, by omega⟩, A1.out⟩
      · have q2 : ¬ y2 < 0 := p2
        go_wp2
        go_ret
        exact ⟨⟨y2, rfl, hy2, fun _ => ⟨Z0.out (by omega), Z1.out (by omega), Z2.out (by omega)⟩⟩, A1.out⟩
set_option maxRecDepth 100000 in
set_option maxHeartbeats 8000000 in
theorem law_diskSame (d k : Dk) (a0 a1 a2 b0 b1 b2 : Option Addr) (c0 c1 c2 e0 e1 e2 : Nat) (l0 : d.nb ≤ maxLen) (l1 : d.nc ≤ maxLen) (l2 : d.ns ≤ maxLen) (m0 : ∀ i, i < d.nb → (d.B i).size ≤ maxLen) (m1 : ∀ i, i < d.nc → (d.D i).size ≤ maxLen) (m2 : ∀ i, i < d.ns → (d.S i).size ≤ maxLen) (l0' : k.nb ≤ maxLen) (l1' : k.nc ≤ maxLen) (l2' : k.ns ≤ maxLen) (m0' : ∀ i, i < k.nb → (k.B i).size ≤ maxLen) (m1' : ∀ i, i < k.nc → (k.D i).size ≤ maxLen) (m2' : ∀ i, i < k.ns → (k.S i).size ≤ maxLen) (p0 p1 : Addr) (w : World) (h : DiskV w d a0 a1 a2) (h' : DiskV w k b0 b1 b2) (hE0 : ErrAt w 0 p0) (hE1 : ErrAt w 1 p1) :
    Calls Tryd.prog 5 #[.agg #[.slice a0 d.nb c0, .slice a1 d.nc c1, .slice a2 d.ns c2], .agg #[.slice b0 k.nb e0, .slice b1 k.nc e1, .slice b2 k.ns e2]] w fun e w' => e = .returned (.bool true) ∧ Below w.heap.size w w' := by
  have SZ1 : Hid (∀ (x : Int) (w : World), 0 ≤ x → x ≤ 1048576 → DiskV w d a0 a1 a2 → Calls Tryd.prog 6 #[.agg #[.slice a0 d.nb c0, .slice a1 d.nc c1, .slice a2 d.ns c2], .int .i64 x] w fun e w' => (∃ y : Int, e = .returned (.int .i64 y) ∧ y ≤ 1048576 ∧ (0 ≤ y → d.nb ≤ 1048576 ∧ d.nc ≤ 1048576 ∧ d.ns ≤ 1048576)) ∧ Below w.heap.size w w') := fun x w hx hx' h => szDisk_x d a0 a1 a2 c0 c1 c2 x hx hx' w h l0 l1 l2 m0 m1 m2
  have SZ2 : Hid (∀ (x : Int) (w : World), 0 ≤ x → x ≤ 1048576 → DiskV w k b0 b1 b2 → Calls Tryd.prog 6 #[.agg #[.slice b0 k.nb e0, .slice b1 k.nc e1, .slice b2 k.ns e2], .int .i64 x] w fun e w' => (∃ y : Int, e = .returned (.int .i64 y) ∧ y ≤ 1048576 ∧ (0 ≤ y → k.nb ≤ 1048576 ∧ k.nc ≤ 1048576 ∧ k.ns ≤ 1048576)) ∧ Below w.heap.size w w') := fun x w hx hx' h => szDisk_x k b0 b1 b2 e0 e1 e2 x hx hx' w h l0' l1' l2' m0' m1' m2'
  have HX : Hid (DiskV w d a0 a1 a2) := h
  have HY : Hid (DiskV w k b0 b1 b2) := h'
  have E0 : Hid (ErrAt w 0 p0) := hE0
  have E1 : Hid (ErrAt w 1 p1) := hE1
  clear h h' hE0 hE1 l0 l1 l2 m0 m1 m2 l0' l1' l2' m0' m1' m2'
  have A1 : Hid (Below w.heap.size w ((w.alloc (.cells #[.slice a0 d.nb c0, .slice a1 d.nc c1, .slice a2 d.ns c2] 25)).alloc (.cells #[.slice b0 k.nb e0, .slice b1 k.nc e1, .slice b2 k.ns e2] 25))) := ((Below.refl w.heap.size w).alloc (Nat.le_refl _) _).alloc (by simp) _
  have RA : Hid (Box3 ((w.alloc (.cells #[.slice a0 d.nb c0, .slice a1 d.nc c1, .slice a2 d.ns c2] 25)).alloc (.cells #[.slice b0 k.nb e0, .slice b1 k.nc e1, .slice b2 k.ns e2] 25)) w.heap.size 25 (.slice a0 d.nb c0) (.slice a1 d.nc c1) (.slice a2 d.ns c2)) := (Box3.made w _ _ _ _).alloc _
  have RB : Hid (Box3 ((w.alloc (.cells #[.slice a0 d.nb c0, .slice a1 d.nc c1, .slice a2 d.ns c2] 25)).alloc (.cells #[.slice b0 k.nb e0, .slice b1 k.nc e1, .slice b2 k.ns e2] 25)) (w.heap.size + 1) 25 (.slice b0 k.nb e0) (.slice b1 k.nc e1) (.slice b2 k.ns e2)) := Box3.madeAt (by simp) _ _ _ _
  go_enter Tryd.func5, Tryd.ntmps5
  go_wp2_with fail
  generalize ((w.alloc (.cells #[.slice a0 d.nb c0, .slice a1 d.nc c1, .slice a2 d.ns c2] 25)).alloc (.cells #[.slice b0 k.nb e0, .slice b1 k.nc e1, .slice b2 k.ns e2] 25)) = v1 at *
  refine (SZ1.out _ _ (by omega) (by omega) (HX.out.below A1.out)).mono ?_
  rintro e v2 ⟨⟨y, rfl, hy, hy2⟩, hb⟩
  replace A1 : Hid (Below w.heap.size w v2) := A1.out.trans (hb.mono A1.out.size)
  replace RA : Hid (Box3 v2 w.heap.size 25 (.slice a0 d.nb c0) (.slice a1 d.nc c1) (.slice a2 d.ns c2)) := RA.out.below hb
  replace RB : Hid (Box3 v2 (w.heap.size + 1) 25 (.slice b0 k.nb e0) (.slice b1 k.nc e1) (.slice b2 k.ns e2)) := RB.out.below hb
  clear hb SZ1
  by_cases hy0 : y < 0
  · clear hy2
    go_wp2
    go_ret
    exact ⟨rfl, A1.out⟩
  · obtain ⟨h0, h1, h2⟩ := hy2 (by omega)
    clear hy2
    have q0 := RB.out.c0
    have q1 := RB.out.c1
    have q2 := RB.out.c2
    have q0 := RB.out.c0
    have q1 := RB.out.c1
    have q2 := RB.out.c2
    go_wp2_with fail
    refine (SZ2.out _ _ (by omega) (by omega) (HY.out.below A1.out)).mono ?_
    rintro e v3 ⟨⟨z, rfl, hz, hz2⟩, hb⟩
    replace A1 : Hid (Below w.heap.size w v3) := A1.out.trans (hb.mono A1.out.size)
    replace RA : Hid (Box3 v3 w.heap.size 25 (.slice a0 d.nb c0) (.slice a1 d.nc c1) (.slice a2 d.ns c2)) := RA.out.below hb
    replace RB : Hid (Box3 v3 (w.heap.size + 1) 25 (.slice b0 k.nb e0) (.slice b1 k.nc e1) (.slice b2 k.ns e2)) := RB.out.below hb
    clear hb SZ2 q0 q1 q2
    by_cases hz0 : z < 0
    · clear hz2
      go_wp2
      go_ret
      exact ⟨rfl, A1.out⟩
    · obtain ⟨i0, i1, i2⟩ := hz2 (by omega)
      clear hz2
      have TA : Hid (∀ w : World, DiskV w d a0 a1 a2 → Calls Tryd.prog 9 #[.agg #[.slice a0 d.nb c0, .slice a1 d.nc c1, .slice a2 d.ns c2]] w fun e w' => (∃ g0 g1 g2, w.heap.size ≤ g0 ∧ g0 < g1 ∧ g1 < g2 ∧ e = .returned (.agg #[.slice (some ⟨g0, 0, none⟩) d.nb d.nb, .slice (some ⟨g1, 0, none⟩) d.nc d.nc, .slice (some ⟨g2, 0, none⟩) d.ns d.ns]) ∧ w'.rowIs g0 9 d.nb (fun i => .string (d.B i)) ∧ PenRow w' g1 d.nc d.A d.D ∧ w'.rowIs g2 9 d.ns (fun i => .string (d.S i))) ∧ Below w.heap.size w w') := fun w h => toDisk_any d a0 a1 a2 c0 c1 c2 w h h0 h1 h2
      have TB : Hid (∀ w : World, DiskV w k b0 b1 b2 → Calls Tryd.prog 9 #[.agg #[.slice b0 k.nb e0, .slice b1 k.nc e1, .slice b2 k.ns e2]] w fun e w' => (∃ g0 g1 g2, w.heap.size ≤ g0 ∧ g0 < g1 ∧ g1 < g2 ∧ e = .returned (.agg #[.slice (some ⟨g0, 0, none⟩) k.nb k.nb, .slice (some ⟨g1, 0, none⟩) k.nc k.nc, .slice (some ⟨g2, 0, none⟩) k.ns k.ns]) ∧ w'.rowIs g0 9 k.nb (fun i => .string (k.B i)) ∧ PenRow w' g1 k.nc k.A k.D ∧ w'.rowIs g2 9 k.ns (fun i => .string (k.S i))) ∧ Below w.heap.size w w') := fun w h => toDisk_any k b0 b1 b2 e0 e1 e2 w h i0 i1 i2
      obtain ⟨r, code, hr⟩ : ∃ (r : Bool) (code : Int), (d.Ok ∧ k.Ok ∧ (r = true ↔ Same d k) ∧ code = 0) ∨ (¬ (d.Ok ∧ k.Ok) ∧ r = false ∧ code = 1) := by
        by_cases q : d.Ok ∧ k.Ok
        · by_cases q2 : Same d k
          · exact ⟨true, 0, .inl ⟨q.1, q.2, ⟨fun _ => q2, fun _ => rfl⟩, rfl⟩⟩
          · exact ⟨false, 0, .inl ⟨q.1, q.2, ⟨fun h => (by cases h), fun h => absurd h q2⟩, rfl⟩⟩
        · exact ⟨false, 1, .inr ⟨q, rfl, rfl⟩⟩
      have SO : Hid (∀ (w : World) (x0 x1 x2 y0 y1 y2 : Option Addr), DiskV w d x0 x1 x2 → DiskV w k y0 y1 y2 → Calls Tryd.prog 26 #[.agg #[.slice x0 d.nb d.nb, .slice x1 d.nc d.nc, .slice x2 d.ns d.ns], .agg #[.slice y0 k.nb k.nb, .slice y1 k.nc k.nc, .slice y2 k.ns k.ns]] w fun e w' => e = .returned (.tuple #[.bool r, .int .i64 code]) ∧ Below w.heap.size w w') := fun w x0 x1 x2 y0 y1 y2 h h' => by
        rcases hr with ⟨q1, q2, q3, rfl⟩ | ⟨q1, rfl, rfl⟩
        · exact specSame_ok d k x0 x1 x2 y0 y1 y2 _ _ _ _ _ _ r q3 ⟨h0, h1, h2⟩ ⟨i0, i1, i2⟩ q1 q2 w h h'
        · exact specSame_bad d k x0 x1 x2 y0 y1 y2 _ _ _ _ _ _ ⟨h0, h1, h2⟩ ⟨i0, i1, i2⟩ q1 w h h'
      have IY : Hid (∀ (w : World) (x0 x1 x2 y0 y1 y2 : Option Addr), DiskV w d x0 x1 x2 → DiskV w k y0 y1 y2 → ErrAt w 0 p0 → ErrAt w 1 p1 → Calls Tryd.prog 27 #[.agg #[.slice x0 d.nb d.nb, .slice x1 d.nc d.nc, .slice x2 d.ns d.ns], .agg #[.slice y0 k.nb k.nb, .slice y1 k.nc k.nc, .slice y2 k.ns k.ns]] w fun e w' => e = .returned (.tuple #[.bool r, .int .i64 code]) ∧ Below w.heap.size w w') := fun w x0 x1 x2 y0 y1 y2 h h' e0 e1 => by
        rcases hr with ⟨q1, q2, q3, rfl⟩ | ⟨q1, rfl, rfl⟩
        · exact implSame_ok d k x0 x1 x2 y0 y1 y2 _ _ _ _ _ _ r q3 ⟨h0, h1, h2⟩ ⟨i0, i1, i2⟩ q1 q2 p0 p1 w h h' e0 e1
        · exact implSame_bad d k x0 x1 x2 y0 y1 y2 _ _ _ _ _ _ ⟨h0, h1, h2⟩ ⟨i0, i1, i2⟩ q1 p0 p1 w h h' e0 e1
      have EA : Hid (∀ (w : World) (x0 x1 x2 y0 y1 y2 : Option Addr), DiskV w d x0 x1 x2 → DiskV w d y0 y1 y2 → Calls Tryd.prog 12 #[.agg #[.slice x0 d.nb d.nb, .slice x1 d.nc d.nc, .slice x2 d.ns d.ns], .agg #[.slice y0 d.nb d.nb, .slice y1 d.nc d.nc, .slice y2 d.ns d.ns]] w fun e w' => e = .returned (.bool true) ∧ Below w.heap.size w w') := fun w x0 x1 x2 y0 y1 y2 h h' => eqDisk_yes d d x0 x1 x2 y0 y1 y2 _ _ _ _ _ _ w h h' rfl rfl rfl (fun _ _ => rfl) (fun _ _ => ⟨rfl, rfl⟩) (fun _ _ => rfl) h0 h1 h2
      have EB : Hid (∀ (w : World) (x0 x1 x2 y0 y1 y2 : Option Addr), DiskV w k x0 x1 x2 → DiskV w k y0 y1 y2 → Calls Tryd.prog 12 #[.agg #[.slice x0 k.nb k.nb, .slice x1 k.nc k.nc, .slice x2 k.ns k.ns], .agg #[.slice y0 k.nb k.nb, .slice y1 k.nc k.nc, .slice y2 k.ns k.ns]] w fun e w' => e = .returned (.bool true) ∧ Below w.heap.size w w') := fun w x0 x1 x2 y0 y1 y2 h h' => eqDisk_yes k k x0 x1 x2 y0 y1 y2 _ _ _ _ _ _ w h h' rfl rfl rfl (fun _ _ => rfl) (fun _ _ => ⟨rfl, rfl⟩) (fun _ _ => rfl) i0 i1 i2
      clear hr h0 h1 h2 i0 i1 i2
      have j0 := RA.out.c0
      have j1 := RA.out.c1
      have j2 := RA.out.c2
      have q0 := RB.out.c0
      have q1 := RB.out.c1
      have q2 := RB.out.c2
      go_wp2_with fail
      clear j0 j1 j2 q0 q1 q2
      have hb : Below v3.heap.size v3 v3.drew := (Below.refl _ _).drew
      have H : (Box3 v3.drew w.heap.size 25 (.slice a0 d.nb c0) (.slice a1 d.nc c1) (.slice a2 d.ns c2)) ∧ (Box3 v3.drew (w.heap.size + 1) 25 (.slice b0 k.nb e0) (.slice b1 k.nc e1) (.slice b2 k.ns e2)) := ⟨RA.out.below hb, RB.out.below hb⟩
      replace A1 : Hid (Below w.heap.size w v3.drew) := A1.out.trans (hb.mono A1.out.size)
      clear hb RA RB
      refine wp_region_noPanic ?_
      refine wp_region_held_drew (S := fun w' => (Box3 w' w.heap.size 25 (.slice a0 d.nb c0) (.slice a1 d.nc c1) (.slice a2 d.ns c2)) ∧ (Box3 w' (w.heap.size + 1) 25 (.slice b0 k.nb e0) (.slice b1 k.nc e1) (.slice b2 k.ns e2))) (by kernel_rfl) H (fun _ => ?_)
      generalize v3.drew = v4 at *
      refine wpAnyH_take (i := 0) (v := .agg #[.slice a0 d.nb c0, .slice a1 d.nc c1, .slice a2 d.ns c2]) rfl (by kernel_rfl) (by kernel_rfl) (by kernel_rfl) (fun _ _ _ h => h) (Or.inl ⟨by rfl, ?_⟩) H ?_
      · intro w' hSw; have t0 := hSw.1.c0; have t1 := hSw.1.c1; have t2 := hSw.1.c2; clear hSw; go_simp
      change wpAnyH _ _ _ _ _ _ _ { tmps := #[_, _, _, _, _, _, _, _, _, _, _, _, _, _, _, _, _, _, _, _, _, _, _, _, _, _, _, _, _, _, _, _, _, _, _, _, _, _, _, _, _, _, _, _, _, _, _, _, _, _, _, _, _, _, _, _, _, _], defers := _ } _
      refine wpAnyH_take (i := 2) (v := .agg #[.slice b0 k.nb e0, .slice b1 k.nc e1, .slice b2 k.ns e2]) rfl (by kernel_rfl) (by kernel_rfl) (by kernel_rfl) (fun _ _ _ h => h) (Or.inl ⟨by rfl, ?_⟩) H ?_
      · intro w' hSw; have t0 := hSw.2.c0; have t1 := hSw.2.c1; have t2 := hSw.2.c2; clear hSw; go_simp
      change wpAnyH _ _ _ _ _ _ _ { tmps := #[_, _, _, _, _, _, _, _, _, _, _, _, _, _, _, _, _, _, _, _, _, _, _, _, _, _, _, _, _, _, _, _, _, _, _, _, _, _, _, _, _, _, _, _, _, _, _, _, _, _, _, _, _, _, _, _, _, _], defers := _ } _
      refine wpAnyH_ready (rs := [1]) (by kernel_rfl) (by simp) ?_
      refine AllReadyH.cons rfl (fun KK hK => ?_) AllReadyH.nil
      go_simp
      refine (TA.out _ (HX.out.below A1.out)).mono ?_
      rintro e v5 ⟨⟨g0, g1, g2, _, _, _, rfl, r0, r1, r2⟩, hb⟩
      replace A1 : Hid (Below w.heap.size w v5) := A1.out.trans (hb.mono A1.out.size)
      replace H : (Box3 v5 w.heap.size 25 (.slice a0 d.nb c0) (.slice a1 d.nc c1) (.slice a2 d.ns c2)) ∧ (Box3 v5 (w.heap.size + 1) 25 (.slice b0 k.nb e0) (.slice b1 k.nc e1) (.slice b2 k.ns e2)) := ⟨H.1.below hb, H.2.below hb⟩
      have V1 : Hid (DiskV v5 d (some ⟨g0, 0, none⟩) (some ⟨g1, 0, none⟩) (some ⟨g2, 0, none⟩)) := diskV_of_rows r0 r1 r2
      clear hb r0 r1 r2
      refine hK.out _ _ H (fun _ => ?_)
      clear hK KK
      change wpAnyH _ _ _ _ _ _ _ { tmps := #[_, _, _, _, _, _, _, _, _, _, _, _, _, _, _, _, _, _, _, _, _, _, _, _, _, _, _, _, _, _, _, _, _, _, _, _, _, _, _, _, _, _, _, _, _, _, _, _, _, _, _, _, _, _, _, _, _, _], defers := _ } _
      refine wpAnyH_ready (rs := [3]) (by kernel_rfl) (by simp) ?_
      refine AllReadyH.cons rfl (fun KK hK => ?_) AllReadyH.nil
      go_simp
      refine (TB.out _ (HY.out.below A1.out)).mono ?_
      rintro e v6 ⟨⟨f0, f1, f2, _, _, _, rfl, r0, r1, r2⟩, hb⟩
      replace A1 : Hid (Below w.heap.size w v6) := A1.out.trans (hb.mono A1.out.size)
      replace V1 : Hid (DiskV v6 d (some ⟨g0, 0, none⟩) (some ⟨g1, 0, none⟩) (some ⟨g2, 0, none⟩)) := V1.out.below hb
      replace H : (Box3 v6 w.heap.size 25 (.slice a0 d.nb c0) (.slice a1 d.nc c1) (.slice a2 d.ns c2)) ∧ (Box3 v6 (w.heap.size + 1) 25 (.slice b0 k.nb e0) (.slice b1 k.nc e1) (.slice b2 k.ns e2)) := ⟨H.1.below hb, H.2.below hb⟩
      have V2 : Hid (DiskV v6 k (some ⟨f0, 0, none⟩) (some ⟨f1, 0, none⟩) (some ⟨f2, 0, none⟩)) := diskV_of_rows r0 r1 r2
      clear hb r0 r1 r2
      refine hK.out _ _ H (fun _ => ?_)
      clear hK KK
      change wpAnyH _ _ _ _ _ _ _ { tmps := #[_, _, _, _, _, _, _, _, _, _, _, _, _, _, _, _, _, _, _, _, _, _, _, _, _, _, _, _, _, _, _, _, _, _, _, _, _, _, _, _, _, _, _, _, _, _, _, _, _, _, _, _, _, _, _, _, _, _], defers := _ } _
      refine wpAnyH_ready (rs := [4]) (by kernel_rfl) (by simp) ?_
      refine AllReadyH.cons rfl (fun KK hK => ?_) AllReadyH.nil
      go_simp
      refine (SO.out _ _ _ _ _ _ _ V1.out V2.out).mono ?_
      rintro e v7 ⟨rfl, hb⟩
      replace A1 : Hid (Below w.heap.size w v7) := A1.out.trans (hb.mono A1.out.size)
      replace V1 : Hid (DiskV v7 d (some ⟨g0, 0, none⟩) (some ⟨g1, 0, none⟩) (some ⟨g2, 0, none⟩)) := V1.out.below hb
      replace V2 : Hid (DiskV v7 k (some ⟨f0, 0, none⟩) (some ⟨f1, 0, none⟩) (some ⟨f2, 0, none⟩)) := V2.out.below hb
      replace H : (Box3 v7 w.heap.size 25 (.slice a0 d.nb c0) (.slice a1 d.nc c1) (.slice a2 d.ns c2)) ∧ (Box3 v7 (w.heap.size + 1) 25 (.slice b0 k.nb e0) (.slice b1 k.nc e1) (.slice b2 k.ns e2)) := ⟨H.1.below hb, H.2.below hb⟩
      clear hb SO
      refine hK.out _ _ H (fun _ => ?_)
      clear hK KK
      change wpAnyH _ _ _ _ _ _ _ { tmps := #[_, _, _, _, _, _, _, _, _, _, _, _, _, _, _, _, _, _, _, _, _, _, _, _, _, _, _, _, _, _, _, _, _, _, _, _, _, _, _, _, _, _, _, _, _, _, _, _, _, _, _, _, _, _, _, _, _, _], defers := _ } _
      clear V1 V2
      refine wpAnyH_take (i := 5) (v := .tuple #[.bool r, .int .i64 code]) rfl (by kernel_rfl) (by kernel_rfl) (by kernel_rfl) (fun _ _ _ h => h) (Or.inl ⟨by rfl, ?_⟩) H ?_
      · intro w' hSw; go_simp
      change wpAnyH _ _ _ _ _ _ _ { tmps := #[_, _, _, _, _, _, _, _, _, _, _, _, _, _, _, _, _, _, _, _, _, _, _, _, _, _, _, _, _, _, _, _, _, _, _, _, _, _, _, _, _, _, _, _, _, _, _, _, _, _, _, _, _, _, _, _, _, _], defers := _ } _
      refine wpAnyH_take (i := 6) (v := .bool r) rfl (by kernel_rfl) (by kernel_rfl) (by kernel_rfl) (fun _ _ _ h => h) (Or.inl ⟨by rfl, ?_⟩) H ?_
      · intro w' hSw; go_simp
      change wpAnyH _ _ _ _ _ _ _ { tmps := #[_, _, _, _, _, _, _, _, _, _, _, _, _, _, _, _, _, _, _, _, _, _, _, _, _, _, _, _, _, _, _, _, _, _, _, _, _, _, _, _, _, _, _, _, _, _, _, _, _, _, _, _, _, _, _, _, _, _], defers := _ } _
      refine wpAnyH_take (i := 7) (v := .int .i64 code) rfl (by kernel_rfl) (by kernel_rfl) (by kernel_rfl) (fun _ _ _ h => h) (Or.inl ⟨by rfl, ?_⟩) H ?_
      · intro w' hSw; go_simp
      change wpAnyH _ _ _ _ _ _ _ { tmps := #[_, _, _, _, _, _, _, _, _, _, _, _, _, _, _, _, _, _, _, _, _, _, _, _, _, _, _, _, _, _, _, _, _, _, _, _, _, _, _, _, _, _, _, _, _, _, _, _, _, _, _, _, _, _, _, _, _, _], defers := _ } _
      refine wpAnyH_take (i := 8) (v := .bool r) rfl (by kernel_rfl) (by kernel_rfl) (by kernel_rfl) (fun _ _ _ h => h) (Or.inl ⟨by rfl, ?_⟩) H ?_
      · intro w' hSw; go_simp
      change wpAnyH _ _ _ _ _ _ _ { tmps := #[_, _, _, _, _, _, _, _, _, _, _, _, _, _, _, _, _, _, _, _, _, _, _, _, _, _, _, _, _, _, _, _, _, _, _, _, _, _, _, _, _, _, _, _, _, _, _, _, _, _, _, _, _, _, _, _, _, _], defers := _ } _
      refine wpAnyH_take (i := 9) (v := .int .i64 code) rfl (by kernel_rfl) (by kernel_rfl) (by kernel_rfl) (fun _ _ _ h => h) (Or.inl ⟨by rfl, ?_⟩) H ?_
      · intro w' hSw; go_simp
      change wpAnyH _ _ _ _ _ _ _ { tmps := #[_, _, _, _, _, _, _, _, _, _, _, _, _, _, _, _, _, _, _, _, _, _, _, _, _, _, _, _, _, _, _, _, _, _, _, _, _, _, _, _, _, _, _, _, _, _, _, _, _, _, _, _, _, _, _, _, _, _], defers := _ } _
      have RA : Hid (Box3 v7 w.heap.size 25 (.slice a0 d.nb c0) (.slice a1 d.nc c1) (.slice a2 d.ns c2)) := H.1
      have RB : Hid (Box3 v7 (w.heap.size + 1) 25 (.slice b0 k.nb e0) (.slice b1 k.nc e1) (.slice b2 k.ns e2)) := H.2
      clear H
      refine wpAnyH_done (by kernel_rfl) ?_ _
      refine NoPanic.normal ?_
      have j0 := RA.out.c0
      have j1 := RA.out.c1
      have j2 := RA.out.c2
      go_wp2_with fail
      refine (TA.out _ (HX.out.below A1.out)).mono ?_
      rintro e v8 ⟨⟨g0, g1, g2, _, _, _, rfl, r0, r1, r2⟩, hb⟩
      replace A1 : Hid (Below w.heap.size w v8) := A1.out.trans (hb.mono A1.out.size)
      replace RA : Hid (Box3 v8 w.heap.size 25 (.slice a0 d.nb c0) (.slice a1 d.nc c1) (.slice a2 d.ns c2)) := RA.out.below hb
      replace RB : Hid (Box3 v8 (w.heap.size + 1) 25 (.slice b0 k.nb e0) (.slice b1 k.nc e1) (.slice b2 k.ns e2)) := RB.out.below hb
      have V1 : Hid (DiskV v8 d (some ⟨g0, 0, none⟩) (some ⟨g1, 0, none⟩) (some ⟨g2, 0, none⟩)) := diskV_of_rows r0 r1 r2
      clear hb r0 r1 r2
      clear j0 j1 j2
      have hb : Below v8.heap.size v8 (v8.alloc (.cells #[.slice (some ⟨g0, 0, none⟩) d.nb d.nb, .slice (some ⟨g1, 0, none⟩) d.nc d.nc, .slice (some ⟨g2, 0, none⟩) d.ns d.ns] 33)) := (Below.refl _ _).alloc (Nat.le_refl _) _
      have X0 : Hid (Box3 (v8.alloc (.cells #[.slice (some ⟨g0, 0, none⟩) d.nb d.nb, .slice (some ⟨g1, 0, none⟩) d.nc d.nc, .slice (some ⟨g2, 0, none⟩) d.ns d.ns] 33)) v8.heap.size 33 (.slice (some ⟨g0, 0, none⟩) d.nb d.nb) (.slice (some ⟨g1, 0, none⟩) d.nc d.nc) (.slice (some ⟨g2, 0, none⟩) d.ns d.ns)) := Box3.made _ _ _ _ _
      have q0 := RB.out.c0
      have q1 := RB.out.c1
      have q2 := RB.out.c2
      have p0x := hb
      have s0 := (RB.out.below hb).c0
      have s1 := (RB.out.below hb).c1
      have s2 := (RB.out.below hb).c2
      go_wp2_with fail
      generalize (v8.alloc (.cells #[.slice (some ⟨g0, 0, none⟩) d.nb d.nb, .slice (some ⟨g1, 0, none⟩) d.nc d.nc, .slice (some ⟨g2, 0, none⟩) d.ns d.ns] 33)) = u9 at *
      replace A1 : Hid (Below w.heap.size w u9) := A1.out.trans (hb.mono A1.out.size)
      replace RA : Hid (Box3 u9 w.heap.size 25 (.slice a0 d.nb c0) (.slice a1 d.nc c1) (.slice a2 d.ns c2)) := RA.out.below hb
      replace RB : Hid (Box3 u9 (w.heap.size + 1) 25 (.slice b0 k.nb e0) (.slice b1 k.nc e1) (.slice b2 k.ns e2)) := RB.out.below hb
      replace V1 : Hid (DiskV u9 d (some ⟨g0, 0, none⟩) (some ⟨g1, 0, none⟩) (some ⟨g2, 0, none⟩)) := V1.out.below hb
      clear hb p0x q0 q1 q2 s0 s1 s2
      obtain ⟨bx, hbx⟩ : ∃ bx, bx = v8.heap.size := ⟨_, rfl⟩
      rw [← hbx] at X0 ⊢
      clear hbx
      refine (TB.out _ (HY.out.below A1.out)).mono ?_
      rintro e v9 ⟨⟨f0, f1, f2, _, _, _, rfl, r0, r1, r2⟩, hb⟩
      replace A1 : Hid (Below w.heap.size w v9) := A1.out.trans (hb.mono A1.out.size)
      replace RA : Hid (Box3 v9 w.heap.size 25 (.slice a0 d.nb c0) (.slice a1 d.nc c1) (.slice a2 d.ns c2)) := RA.out.below hb
      replace RB : Hid (Box3 v9 (w.heap.size + 1) 25 (.slice b0 k.nb e0) (.slice b1 k.nc e1) (.slice b2 k.ns e2)) := RB.out.below hb
      replace V1 : Hid (DiskV v9 d (some ⟨g0, 0, none⟩) (some ⟨g1, 0, none⟩) (some ⟨g2, 0, none⟩)) := V1.out.below hb
      replace X0 : Hid (Box3 v9 bx 33 (.slice (some ⟨g0, 0, none⟩) d.nb d.nb) (.slice (some ⟨g1, 0, none⟩) d.nc d.nc) (.slice (some ⟨g2, 0, none⟩) d.ns d.ns)) := X0.out.below hb
      have V2 : Hid (DiskV v9 k (some ⟨f0, 0, none⟩) (some ⟨f1, 0, none⟩) (some ⟨f2, 0, none⟩)) := diskV_of_rows r0 r1 r2
      clear hb r0 r1 r2
      have hb : Below v9.heap.size v9 (v9.alloc (.cells #[.slice (some ⟨f0, 0, none⟩) k.nb k.nb, .slice (some ⟨f1, 0, none⟩) k.nc k.nc, .slice (some ⟨f2, 0, none⟩) k.ns k.ns] 33)) := (Below.refl _ _).alloc (Nat.le_refl _) _
      have X1 : Hid (Box3 (v9.alloc (.cells #[.slice (some ⟨f0, 0, none⟩) k.nb k.nb, .slice (some ⟨f1, 0, none⟩) k.nc k.nc, .slice (some ⟨f2, 0, none⟩) k.ns k.ns] 33)) v9.heap.size 33 (.slice (some ⟨f0, 0, none⟩) k.nb k.nb) (.slice (some ⟨f1, 0, none⟩) k.nc k.nc) (.slice (some ⟨f2, 0, none⟩) k.ns k.ns)) := Box3.made _ _ _ _ _
      have s0 := (X0.out.below hb).c0
      have s1 := (X0.out.below hb).c1
      have s2 := (X0.out.below hb).c2
      go_wp2_with fail
      generalize (v9.alloc (.cells #[.slice (some ⟨f0, 0, none⟩) k.nb k.nb, .slice (some ⟨f1, 0, none⟩) k.nc k.nc, .slice (some ⟨f2, 0, none⟩) k.ns k.ns] 33)) = u10 at *
      replace A1 : Hid (Below w.heap.size w u10) := A1.out.trans (hb.mono A1.out.size)
      replace RA : Hid (Box3 u10 w.heap.size 25 (.slice a0 d.nb c0) (.slice a1 d.nc c1) (.slice a2 d.ns c2)) := RA.out.below hb
      replace RB : Hid (Box3 u10 (w.heap.size + 1) 25 (.slice b0 k.nb e0) (.slice b1 k.nc e1) (.slice b2 k.ns e2)) := RB.out.below hb
      replace V1 : Hid (DiskV u10 d (some ⟨g0, 0, none⟩) (some ⟨g1, 0, none⟩) (some ⟨g2, 0, none⟩)) := V1.out.below hb
      replace X0 : Hid (Box3 u10 bx 33 (.slice (some ⟨g0, 0, none⟩) d.nb d.nb) (.slice (some ⟨g1, 0, none⟩) d.nc d.nc) (.slice (some ⟨g2, 0, none⟩) d.ns d.ns)) := X0.out.below hb
      replace V2 : Hid (DiskV u10 k (some ⟨f0, 0, none⟩) (some ⟨f1, 0, none⟩) (some ⟨f2, 0, none⟩)) := V2.out.below hb
      clear hb s0 s1 s2
      obtain ⟨by1, hby⟩ : ∃ bx, bx = v9.heap.size := ⟨_, rfl⟩
      rw [← hby] at X1 ⊢
      clear hby
      refine (IY.out _ _ _ _ _ _ _ V1.out V2.out (E0.out.below A1.out) (E1.out.below A1.out)).mono ?_
      rintro e v10 ⟨rfl, hb⟩
      replace A1 : Hid (Below w.heap.size w v10) := A1.out.trans (hb.mono A1.out.size)
      replace RA : Hid (Box3 v10 w.heap.size 25 (.slice a0 d.nb c0) (.slice a1 d.nc c1) (.slice a2 d.ns c2)) := RA.out.below hb
      replace RB : Hid (Box3 v10 (w.heap.size + 1) 25 (.slice b0 k.nb e0) (.slice b1 k.nc e1) (.slice b2 k.ns e2)) := RB.out.below hb
      replace V1 : Hid (DiskV v10 d (some ⟨g0, 0, none⟩) (some ⟨g1, 0, none⟩) (some ⟨g2, 0, none⟩)) := V1.out.below hb
      replace X0 : Hid (Box3 v10 bx 33 (.slice (some ⟨g0, 0, none⟩) d.nb d.nb) (.slice (some ⟨g1, 0, none⟩) d.nc d.nc) (.slice (some ⟨g2, 0, none⟩) d.ns d.ns)) := X0.out.below hb
      replace V2 : Hid (DiskV v10 k (some ⟨f0, 0, none⟩) (some ⟨f1, 0, none⟩) (some ⟨f2, 0, none⟩)) := V2.out.below hb
      replace X1 : Hid (Box3 v10 by1 33 (.slice (some ⟨f0, 0, none⟩) k.nb k.nb) (.slice (some ⟨f1, 0, none⟩) k.nc k.nc) (.slice (some ⟨f2, 0, none⟩) k.ns k.ns)) := X1.out.below hb
      clear hb IY
      have er : (code != code) = false := by simp
      have er2 : (r != r) = false := by simp
      have s0 := X0.out.c0
      have s1 := X0.out.c1
      have s2 := X0.out.c2
      have j0 := RA.out.c0
      have j1 := RA.out.c1
      have j2 := RA.out.c2
      go_wp2_with fail
      clear s0 s1 s2 j0 j1 j2
      have hb : Below v10.heap.size v10 v10.drew := (Below.refl _ _).drew
      have H : (Box3 v10.drew w.heap.size 25 (.slice a0 d.nb c0) (.slice a1 d.nc c1) (.slice a2 d.ns c2)) ∧ (Box3 v10.drew bx 33 (.slice (some ⟨g0, 0, none⟩) d.nb d.nb) (.slice (some ⟨g1, 0, none⟩) d.nc d.nc) (.slice (some ⟨g2, 0, none⟩) d.ns d.ns)) := ⟨RA.out.below hb, X0.out.below hb⟩
      replace A1 : Hid (Below w.heap.size w v10.drew) := A1.out.trans (hb.mono A1.out.size)
      replace RB : Hid (Box3 v10.drew (w.heap.size + 1) 25 (.slice b0 k.nb e0) (.slice b1 k.nc e1) (.slice b2 k.ns e2)) := RB.out.below hb
      replace V1 : Hid (DiskV v10.drew d (some ⟨g0, 0, none⟩) (some ⟨g1, 0, none⟩) (some ⟨g2, 0, none⟩)) := V1.out.below hb
      replace V2 : Hid (DiskV v10.drew k (some ⟨f0, 0, none⟩) (some ⟨f1, 0, none⟩) (some ⟨f2, 0, none⟩)) := V2.out.below hb
      replace X1 : Hid (Box3 v10.drew by1 33 (.slice (some ⟨f0, 0, none⟩) k.nb k.nb) (.slice (some ⟨f1, 0, none⟩) k.nc k.nc) (.slice (some ⟨f2, 0, none⟩) k.ns k.ns)) := X1.out.below hb
      clear hb RA X0
      refine wp_region_noPanic ?_
      refine wp_region_held_drew (S := fun w' => (Box3 w' w.heap.size 25 (.slice a0 d.nb c0) (.slice a1 d.nc c1) (.slice a2 d.ns c2)) ∧ (Box3 w' bx 33 (.slice (some ⟨g0, 0, none⟩) d.nb d.nb) (.slice (some ⟨g1, 0, none⟩) d.nc d.nc) (.slice (some ⟨g2, 0, none⟩) d.ns d.ns))) (by kernel_rfl) H (fun _ => ?_)
      generalize v10.drew = v11 at *
      refine wpAnyH_take (i := 0) (v := .agg #[.slice (some ⟨g0, 0, none⟩) d.nb d.nb, .slice (some ⟨g1, 0, none⟩) d.nc d.nc, .slice (some ⟨g2, 0, none⟩) d.ns d.ns]) rfl (by kernel_rfl) (by kernel_rfl) (by kernel_rfl) (fun _ _ _ h => h) (Or.inl ⟨by rfl, ?_⟩) H ?_
      · intro w' hSw; have t0 := hSw.2.c0; have t1 := hSw.2.c1; have t2 := hSw.2.c2; clear hSw; go_simp
      change wpAnyH _ _ _ _ _ _ _ { tmps := #[_, _, _, _, _, _, _, _, _, _, _, _, _, _, _, _, _, _, _, _, _, _, _, _, _, _, _, _, _, _, _, _, _, _, _, _, _, _, _, _, _, _, _, _, _, _, _, _, _, _, _, _, _, _, _, _, _, _], defers := _ } _
      refine wpAnyH_take (i := 1) (v := .agg #[.slice a0 d.nb c0, .slice a1 d.nc c1, .slice a2 d.ns c2]) rfl (by kernel_rfl) (by kernel_rfl) (by kernel_rfl) (fun _ _ _ h => h) (Or.inl ⟨by rfl, ?_⟩) H ?_
      · intro w' hSw; have t0 := hSw.1.c0; have t1 := hSw.1.c1; have t2 := hSw.1.c2; clear hSw; go_simp
      change wpAnyH _ _ _ _ _ _ _ { tmps := #[_, _, _, _, _, _, _, _, _, _, _, _, _, _, _, _, _, _, _, _, _, _, _, _, _, _, _, _, _, _, _, _, _, _, _, _, _, _, _, _, _, _, _, _, _, _, _, _, _, _, _, _, _, _, _, _, _, _], defers := _ } _
      refine wpAnyH_ready (rs := [2]) (by kernel_rfl) (by simp) ?_
      refine AllReadyH.cons rfl (fun KK hK => ?_) AllReadyH.nil
      go_simp
      refine (TA.out _ (HX.out.below A1.out)).mono ?_
      rintro e v12 ⟨⟨m0, m1, m2, _, _, _, rfl, r0, r1, r2⟩, hb⟩
      replace A1 : Hid (Below w.heap.size w v12) := A1.out.trans (hb.mono A1.out.size)
      replace RB : Hid (Box3 v12 (w.heap.size + 1) 25 (.slice b0 k.nb e0) (.slice b1 k.nc e1) (.slice b2 k.ns e2)) := RB.out.below hb
      replace V1 : Hid (DiskV v12 d (some ⟨g0, 0, none⟩) (some ⟨g1, 0, none⟩) (some ⟨g2, 0, none⟩)) := V1.out.below hb
      replace V2 : Hid (DiskV v12 k (some ⟨f0, 0, none⟩) (some ⟨f1, 0, none⟩) (some ⟨f2, 0, none⟩)) := V2.out.below hb
      replace X1 : Hid (Box3 v12 by1 33 (.slice (some ⟨f0, 0, none⟩) k.nb k.nb) (.slice (some ⟨f1, 0, none⟩) k.nc k.nc) (.slice (some ⟨f2, 0, none⟩) k.ns k.ns)) := X1.out.below hb
      replace H : (Box3 v12 w.heap.size 25 (.slice a0 d.nb c0) (.slice a1 d.nc c1) (.slice a2 d.ns c2)) ∧ (Box3 v12 bx 33 (.slice (some ⟨g0, 0, none⟩) d.nb d.nb) (.slice (some ⟨g1, 0, none⟩) d.nc d.nc) (.slice (some ⟨g2, 0, none⟩) d.ns d.ns)) := ⟨H.1.below hb, H.2.below hb⟩
      have V3 : Hid (DiskV v12 d (some ⟨m0, 0, none⟩) (some ⟨m1, 0, none⟩) (some ⟨m2, 0, none⟩)) := diskV_of_rows r0 r1 r2
      clear hb r0 r1 r2
      refine hK.out _ _ H (fun _ => ?_)
      clear hK KK
      change wpAnyH _ _ _ _ _ _ _ { tmps := #[_, _, _, _, _, _, _, _, _, _, _, _, _, _, _, _, _, _, _, _, _, _, _, _, _, _, _, _, _, _, _, _, _, _, _, _, _, _, _, _, _, _, _, _, _, _, _, _, _, _, _, _, _, _, _, _, _, _], defers := _ } _
      refine wpAnyH_ready (rs := [3]) (by kernel_rfl) (by simp) ?_
      refine AllReadyH.cons rfl (fun KK hK => ?_) AllReadyH.nil
      go_simp
      refine (EA.out _ _ _ _ _ _ _ V1.out V3.out).mono ?_
      rintro e v13 ⟨rfl, hb⟩
      replace A1 : Hid (Below w.heap.size w v13) := A1.out.trans (hb.mono A1.out.size)
      replace RB : Hid (Box3 v13 (w.heap.size + 1) 25 (.slice b0 k.nb e0) (.slice b1 k.nc e1) (.slice b2 k.ns e2)) := RB.out.below hb
      replace V1 : Hid (DiskV v13 d (some ⟨g0, 0, none⟩) (some ⟨g1, 0, none⟩) (some ⟨g2, 0, none⟩)) := V1.out.below hb
      replace V2 : Hid (DiskV v13 k (some ⟨f0, 0, none⟩) (some ⟨f1, 0, none⟩) (some ⟨f2, 0, none⟩)) := V2.out.below hb
      replace X1 : Hid (Box3 v13 by1 33 (.slice (some ⟨f0, 0, none⟩) k.nb k.nb) (.slice (some ⟨f1, 0, none⟩) k.nc k.nc) (.slice (some ⟨f2, 0, none⟩) k.ns k.ns)) := X1.out.below hb
      replace V3 : Hid (DiskV v13 d (some ⟨m0, 0, none⟩) (some ⟨m1, 0, none⟩) (some ⟨m2, 0, none⟩)) := V3.out.below hb
      replace H : (Box3 v13 w.heap.size 25 (.slice a0 d.nb c0) (.slice a1 d.nc c1) (.slice a2 d.ns c2)) ∧ (Box3 v13 bx 33 (.slice (some ⟨g0, 0, none⟩) d.nb d.nb) (.slice (some ⟨g1, 0, none⟩) d.nc d.nc) (.slice (some ⟨g2, 0, none⟩) d.ns d.ns)) := ⟨H.1.below hb, H.2.below hb⟩
      clear hb 
      refine hK.out _ _ H (fun _ => ?_)
      clear hK KK
      change wpAnyH _ _ _ _ _ _ _ { tmps := #[_, _, _, _, _, _, _, _, _, _, _, _, _, _, _, _, _, _, _, _, _, _, _, _, _, _, _, _, _, _, _, _, _, _, _, _, _, _, _, _, _, _, _, _, _, _, _, _, _, _, _, _, _, _, _, _, _, _], defers := _ } _
      refine wpAnyH_take (i := 4) (v := .bool false) rfl (by kernel_rfl) (by kernel_rfl) (by kernel_rfl) (fun _ _ _ h => h) (Or.inl ⟨by rfl, ?_⟩) H ?_
      · intro w' hSw; go_simp
      change wpAnyH _ _ _ _ _ _ _ { tmps := #[_, _, _, _, _, _, _, _, _, _, _, _, _, _, _, _, _, _, _, _, _, _, _, _, _, _, _, _, _, _, _, _, _, _, _, _, _, _, _, _, _, _, _, _, _, _, _, _, _, _, _, _, _, _, _, _, _, _], defers := _ } _
      have RA : Hid (Box3 v13 w.heap.size 25 (.slice a0 d.nb c0) (.slice a1 d.nc c1) (.slice a2 d.ns c2)) := H.1
      have X0 : Hid (Box3 v13 bx 33 (.slice (some ⟨g0, 0, none⟩) d.nb d.nb) (.slice (some ⟨g1, 0, none⟩) d.nc d.nc) (.slice (some ⟨g2, 0, none⟩) d.ns d.ns)) := H.2
      clear H
      refine wpAnyH_done (by kernel_rfl) ?_ _
      refine NoPanic.normal ?_
      clear V3 V1
      have s0 := X1.out.c0
      have s1 := X1.out.c1
      have s2 := X1.out.c2
      have j0 := RB.out.c0
      have j1 := RB.out.c1
      have j2 := RB.out.c2
      go_wp2_with fail
      clear s0 s1 s2 j0 j1 j2
      have hb : Below v13.heap.size v13 v13.drew := (Below.refl _ _).drew
      have H : (Box3 v13.drew (w.heap.size + 1) 25 (.slice b0 k.nb e0) (.slice b1 k.nc e1) (.slice b2 k.ns e2)) ∧ (Box3 v13.drew by1 33 (.slice (some ⟨f0, 0, none⟩) k.nb k.nb) (.slice (some ⟨f1, 0, none⟩) k.nc k.nc) (.slice (some ⟨f2, 0, none⟩) k.ns k.ns)) := ⟨RB.out.below hb, X1.out.below hb⟩
      replace A1 : Hid (Below w.heap.size w v13.drew) := A1.out.trans (hb.mono A1.out.size)
      replace V2 : Hid (DiskV v13.drew k (some ⟨f0, 0, none⟩) (some ⟨f1, 0, none⟩) (some ⟨f2, 0, none⟩)) := V2.out.below hb
      replace RA : Hid (Box3 v13.drew w.heap.size 25 (.slice a0 d.nb c0) (.slice a1 d.nc c1) (.slice a2 d.ns c2)) := RA.out.below hb
      replace X0 : Hid (Box3 v13.drew bx 33 (.slice (some ⟨g0, 0, none⟩) d.nb d.nb) (.slice (some ⟨g1, 0, none⟩) d.nc d.nc) (.slice (some ⟨g2, 0, none⟩) d.ns d.ns)) := X0.out.below hb
      clear hb RB X1
      refine wp_region_noPanic ?_
      refine wp_region_held_drew (S := fun w' => (Box3 w' (w.heap.size + 1) 25 (.slice b0 k.nb e0) (.slice b1 k.nc e1) (.slice b2 k.ns e2)) ∧ (Box3 w' by1 33 (.slice (some ⟨f0, 0, none⟩) k.nb k.nb) (.slice (some ⟨f1, 0, none⟩) k.nc k.nc) (.slice (some ⟨f2, 0, none⟩) k.ns k.ns))) (by kernel_rfl) H (fun _ => ?_)
      generalize v13.drew = v14 at *
      refine wpAnyH_take (i := 0) (v := .agg #[.slice (some ⟨f0, 0, none⟩) k.nb k.nb, .slice (some ⟨f1, 0, none⟩) k.nc k.nc, .slice (some ⟨f2, 0, none⟩) k.ns k.ns]) rfl (by kernel_rfl) (by kernel_rfl) (by kernel_rfl) (fun _ _ _ h => h) (Or.inl ⟨by rfl, ?_⟩) H ?_
      · intro w' hSw; have t0 := hSw.2.c0; have t1 := hSw.2.c1; have t2 := hSw.2.c2; clear hSw; go_simp
      change wpAnyH _ _ _ _ _ _ _ { tmps := #[_, _, _, _, _, _, _, _, _, _, _, _, _, _, _, _, _, _, _, _, _, _, _, _, _, _, _, _, _, _, _, _, _, _, _, _, _, _, _, _, _, _, _, _, _, _, _, _, _, _, _, _, _, _, _, _, _, _], defers := _ } _
      refine wpAnyH_take (i := 1) (v := .agg #[.slice b0 k.nb e0, .slice b1 k.nc e1, .slice b2 k.ns e2]) rfl (by kernel_rfl) (by kernel_rfl) (by kernel_rfl) (fun _ _ _ h => h) (Or.inl ⟨by rfl, ?_⟩) H ?_
      · intro w' hSw; have t0 := hSw.1.c0; have t1 := hSw.1.c1; have t2 := hSw.1.c2; clear hSw; go_simp
      change wpAnyH _ _ _ _ _ _ _ { tmps := #[_, _, _, _, _, _, _, _, _, _, _, _, _, _, _, _, _, _, _, _, _, _, _, _, _, _, _, _, _, _, _, _, _, _, _, _, _, _, _, _, _, _, _, _, _, _, _, _, _, _, _, _, _, _, _, _, _, _], defers := _ } _
      refine wpAnyH_ready (rs := [2]) (by kernel_rfl) (by simp) ?_
      refine AllReadyH.cons rfl (fun KK hK => ?_) AllReadyH.nil
      go_simp
      refine (TB.out _ (HY.out.below A1.out)).mono ?_
      rintro e v15 ⟨⟨m0, m1, m2, _, _, _, rfl, r0, r1, r2⟩, hb⟩
      replace A1 : Hid (Below w.heap.size w v15) := A1.out.trans (hb.mono A1.out.size)
      replace V2 : Hid (DiskV v15 k (some ⟨f0, 0, none⟩) (some ⟨f1, 0, none⟩) (some ⟨f2, 0, none⟩)) := V2.out.below hb
      replace RA : Hid (Box3 v15 w.heap.size 25 (.slice a0 d.nb c0) (.slice a1 d.nc c1) (.slice a2 d.ns c2)) := RA.out.below hb
      replace X0 : Hid (Box3 v15 bx 33 (.slice (some ⟨g0, 0, none⟩) d.nb d.nb) (.slice (some ⟨g1, 0, none⟩) d.nc d.nc) (.slice (some ⟨g2, 0, none⟩) d.ns d.ns)) := X0.out.below hb
      replace H : (Box3 v15 (w.heap.size + 1) 25 (.slice b0 k.nb e0) (.slice b1 k.nc e1) (.slice b2 k.ns e2)) ∧ (Box3 v15 by1 33 (.slice (some ⟨f0, 0, none⟩) k.nb k.nb) (.slice (some ⟨f1, 0, none⟩) k.nc k.nc) (.slice (some ⟨f2, 0, none⟩) k.ns k.ns)) := ⟨H.1.below hb, H.2.below hb⟩
      have V3 : Hid (DiskV v15 k (some ⟨m0, 0, none⟩) (some ⟨m1, 0, none⟩) (some ⟨m2, 0, none⟩)) := diskV_of_rows r0 r1 r2
      clear hb r0 r1 r2
      refine hK.out _ _ H (fun _ => ?_)
      clear hK KK
      change wpAnyH _ _ _ _ _ _ _ { tmps := #[_, _, _, _, _, _, _, _, _, _, _, _, _, _, _, _, _, _, _, _, _, _, _, _, _, _, _, _, _, _, _, _, _, _, _, _, _, _, _, _, _, _, _, _, _, _, _, _, _, _, _, _, _, _, _, _, _, _], defers := _ } _
      refine wpAnyH_ready (rs := [3]) (by kernel_rfl) (by simp) ?_
      refine AllReadyH.cons rfl (fun KK hK => ?_) AllReadyH.nil
      go_simp
      refine (EB.out _ _ _ _ _ _ _ V2.out V3.out).mono ?_
      rintro e v16 ⟨rfl, hb⟩
      replace A1 : Hid (Below w.heap.size w v16) := A1.out.trans (hb.mono A1.out.size)
      replace V2 : Hid (DiskV v16 k (some ⟨f0, 0, none⟩) (some ⟨f1, 0, none⟩) (some ⟨f2, 0, none⟩)) := V2.out.below hb
      replace RA : Hid (Box3 v16 w.heap.size 25 (.slice a0 d.nb c0) (.slice a1 d.nc c1) (.slice a2 d.ns c2)) := RA.out.below hb
      replace X0 : Hid (Box3 v16 bx 33 (.slice (some ⟨g0, 0, none⟩) d.nb d.nb) (.slice (some ⟨g1, 0, none⟩) d.nc d.nc) (.slice (some ⟨g2, 0, none⟩) d.ns d.ns)) := X0.out.below hb
      replace V3 : Hid (DiskV v16 k (some ⟨m0, 0, none⟩) (some ⟨m1, 0, none⟩) (some ⟨m2, 0, none⟩)) := V3.out.below hb
      replace H : (Box3 v16 (w.heap.size + 1) 25 (.slice b0 k.nb e0) (.slice b1 k.nc e1) (.slice b2 k.ns e2)) ∧ (Box3 v16 by1 33 (.slice (some ⟨f0, 0, none⟩) k.nb k.nb) (.slice (some ⟨f1, 0, none⟩) k.nc k.nc) (.slice (some ⟨f2, 0, none⟩) k.ns k.ns)) := ⟨H.1.below hb, H.2.below hb⟩
      clear hb 
      refine hK.out _ _ H (fun _ => ?_)
      clear hK KK
      change wpAnyH _ _ _ _ _ _ _ { tmps := #[_, _, _, _, _, _, _, _, _, _, _, _, _, _, _, _, _, _, _, _, _, _, _, _, _, _, _, _, _, _, _, _, _, _, _, _, _, _, _, _, _, _, _, _, _, _, _, _, _, _, _, _, _, _, _, _, _, _], defers := _ } _
      refine wpAnyH_take (i := 4) (v := .bool false) rfl (by kernel_rfl) (by kernel_rfl) (by kernel_rfl) (fun _ _ _ h => h) (Or.inl ⟨by rfl, ?_⟩) H ?_
      · intro w' hSw; go_simp
      change wpAnyH _ _ _ _ _ _ _ { tmps := #[_, _, _, _, _, _, _, _, _, _, _, _, _, _, _, _, _, _, _, _, _, _, _, _, _, _, _, _, _, _, _, _, _, _, _, _, _, _, _, _, _, _, _, _, _, _, _, _, _, _, _, _, _, _, _, _, _, _], defers := _ } _
      have RB : Hid (Box3 v16 (w.heap.size + 1) 25 (.slice b0 k.nb e0) (.slice b1 k.nc e1) (.slice b2 k.ns e2)) := H.1
      have X1 : Hid (Box3 v16 by1 33 (.slice (some ⟨f0, 0, none⟩) k.nb k.nb) (.slice (some ⟨f1, 0, none⟩) k.nc k.nc) (.slice (some ⟨f2, 0, none⟩) k.ns k.ns)) := H.2
      clear H
      refine wpAnyH_done (by kernel_rfl) ?_ _
      refine NoPanic.normal ?_
      clear TA TB EA EB
      go_wp2
      go_ret
      exact ⟨rfl, A1.out⟩
end Go.Proofs.YthfnbbjjiipcpabDoor
