/-
  The exact law of DiskRead.
-/
import Derived.Test.YthfnbbjjiipcpaaDoorDiskRd
namespace Go.Proofs.YthfnbbjjiipcpaaDoor
open Go.ChangeShapes Go.WideShapes Go.ChangeAt Go.RowKit
set_option maxRecDepth 100000 in
set_option maxHeartbeats 4000000 in
theorem law_diskRead (d : Dk) (a0 a1 a2 : Option Addr) (c0 c1 c2 : Nat) (x : Int) (l0 : d.nb ≤ maxLen) (l1 : d.nc ≤ maxLen) (l2 : d.ns ≤ maxLen) (m0 : ∀ i, i < d.nb → (d.B i).size ≤ maxLen) (m1 : ∀ i, i < d.nc → (d.D i).size ≤ maxLen) (m2 : ∀ i, i < d.ns → (d.S i).size ≤ maxLen) (p0 p1 p2 p3 p4 : Addr) (w : World) (h : DiskV w d a0 a1 a2) (hE : Errs w p0 p1 p2 p3 p4) :
    Calls Tryd.prog 7 #[.agg #[.slice a0 d.nb c0, .slice a1 d.nc c1, .slice a2 d.ns c2], .int .i64 x] w fun e w' => e = .returned (.bool true) ∧ Below w.heap.size w w' := by
  have SZ : Hid (∀ w : World, DiskV w d a0 a1 a2 → Calls Tryd.prog 31 #[.agg #[.slice a0 d.nb c0, .slice a1 d.nc c1, .slice a2 d.ns c2], .int .i64 1048576] w fun e w' => (∃ y : Int, e = .returned (.int .i64 y) ∧ y ≤ 1048576 ∧ (0 ≤ y → d.nb ≤ 1048576 ∧ d.nc ≤ 1048576 ∧ d.ns ≤ 1048576)) ∧ Below w.heap.size w w') := fun w h => szDisk_any d a0 a1 a2 c0 c1 c2 w h l0 l1 l2 m0 m1 m2
  have A1 : Hid (Below w.heap.size w (w.alloc (.cells #[.slice a0 d.nb c0, .slice a1 d.nc c1, .slice a2 d.ns c2] 59))) := (Below.refl w.heap.size w).alloc (Nat.le_refl _) _
  have RA : Hid (Box3 (w.alloc (.cells #[.slice a0 d.nb c0, .slice a1 d.nc c1, .slice a2 d.ns c2] 59)) w.heap.size 59 (.slice a0 d.nb c0) (.slice a1 d.nc c1) (.slice a2 d.ns c2)) := Box3.made w _ _ _ _
  have HD : Hid (DiskV w d a0 a1 a2) := h
  have HE : Hid (Errs w p0 p1 p2 p3 p4) := hE
  clear h hE l0 l1 l2 m0 m1 m2
  go_enter Tryd.func7, Tryd.ntmps7
  go_wp2_with fail
  generalize (w.alloc (.cells #[.slice a0 d.nb c0, .slice a1 d.nc c1, .slice a2 d.ns c2] 59)) = v at *
  refine (SZ.out _ (HD.out.below A1.out)).mono ?_
  rintro e w1 ⟨⟨y, rfl, hy, hy2⟩, hb⟩
  replace A1 : Hid (Below w.heap.size w w1) := A1.out.trans (hb.mono A1.out.size)
  replace RA : Hid (Box3 w1 w.heap.size 59 (.slice a0 d.nb c0) (.slice a1 d.nc c1) (.slice a2 d.ns c2)) := RA.out.below hb
  clear hb SZ
  by_cases hy0 : y < 0
  · clear hy2
    go_wp2
    go_ret
    exact ⟨rfl, A1.out⟩
  · obtain ⟨h0, h1, h2⟩ := hy2 (by omega)
    clear hy2
    have TD : Hid (∀ w : World, DiskV w d a0 a1 a2 → Calls Tryd.prog 33 #[.agg #[.slice a0 d.nb c0, .slice a1 d.nc c1, .slice a2 d.ns c2]] w fun e w' => (∃ g0 g1 g2, w.heap.size ≤ g0 ∧ g0 < g1 ∧ g1 < g2 ∧ e = .returned (.agg #[.slice (some ⟨g0, 0, none⟩) d.nb d.nb, .slice (some ⟨g1, 0, none⟩) d.nc d.nc, .slice (some ⟨g2, 0, none⟩) d.ns d.ns]) ∧ w'.rowIs g0 9 d.nb (fun i => .string (d.B i)) ∧ PenRow w' g1 d.nc d.A d.D ∧ w'.rowIs g2 9 d.ns (fun i => .string (d.S i))) ∧ Below w.heap.size w w') := fun w h => toDisk_any d a0 a1 a2 c0 c1 c2 w h h0 h1 h2
    have hs : d.Small := ⟨h0, h1, h2⟩
    obtain ⟨R, code, hR⟩ : ∃ (R : ByteArray) (code : Int), (d.Ok ∧ 0 ≤ x ∧ x < d.nb ∧ R = d.rd x.toNat ∧ code = 0) ∨ (d.Ok ∧ ¬ (0 ≤ x ∧ x < d.nb) ∧ R = ⟨#[]⟩ ∧ code = 4) ∨ (¬ d.Ok ∧ R = ⟨#[]⟩ ∧ code = 1) := by
      by_cases hok : d.Ok
      · by_cases hx : 0 ≤ x ∧ x < d.nb
        · exact ⟨_, _, .inl ⟨hok, hx.1, hx.2, rfl, rfl⟩⟩
        · exact ⟨_, _, .inr (.inl ⟨hok, hx, rfl, rfl⟩)⟩
      · exact ⟨_, _, .inr (.inr ⟨hok, rfl, rfl⟩)⟩
    have SO : Hid (∀ (w : World) (b0 b1 b2 : Option Addr), DiskV w d b0 b1 b2 → Calls Tryd.prog 35 #[.agg #[.slice b0 d.nb d.nb, .slice b1 d.nc d.nc, .slice b2 d.ns d.ns], .int .i64 x] w fun e w' => e = .returned (.tuple #[.string R, .int .i64 code]) ∧ Below w.heap.size w w') := fun w b0 b1 b2 h => specRead_any d b0 b1 b2 _ _ _ x R code hs hR w h
    have IY : Hid (∀ (w : World) (b0 b1 b2 : Option Addr), DiskV w d b0 b1 b2 → Errs w p0 p1 p2 p3 p4 → Calls Tryd.prog 28 #[.agg #[.slice b0 d.nb d.nb, .slice b1 d.nc d.nc, .slice b2 d.ns d.ns], .int .i64 x] w fun e w' => e = .returned (.tuple #[.string R, .int .i64 code]) ∧ Below w.heap.size w w') := fun w b0 b1 b2 h he => by
      rcases hR with ⟨hok, x0, x1, e1, e2⟩ | ⟨hok, x0, e1, e2⟩ | ⟨hok, rfl, rfl⟩
      · exact implRead_ok d b0 b1 b2 _ _ _ x R code hs hok (.inl ⟨x0, x1, e1, e2⟩) p0 p1 p2 p3 p4 w h he
      · exact implRead_ok d b0 b1 b2 _ _ _ x R code hs hok (.inr ⟨x0, e1, e2⟩) p0 p1 p2 p3 p4 w h he
      · exact implRead_bad d b0 b1 b2 _ _ _ x hs hok p0 p1 p2 p3 p4 w h he
    clear hR hs
    have EQ : Hid (∀ (w : World) (b0 b1 b2 e0 e1 e2 : Option Addr), DiskV w d b0 b1 b2 → DiskV w d e0 e1 e2 → Calls Tryd.prog 34 #[.agg #[.slice b0 d.nb d.nb, .slice b1 d.nc d.nc, .slice b2 d.ns d.ns], .agg #[.slice e0 d.nb d.nb, .slice e1 d.nc d.nc, .slice e2 d.ns d.ns]] w fun e w' => e = .returned (.bool true) ∧ Below w.heap.size w w') := fun w b0 b1 b2 e0 e1 e2 h h' => eqDisk_yes d d b0 b1 b2 e0 e1 e2 _ _ _ _ _ _ w h h' rfl rfl rfl (fun _ _ => rfl) (fun _ _ => ⟨rfl, rfl⟩) (fun _ _ => rfl) h0 h1 h2
    have k0 := RA.out.c0
    have k1 := RA.out.c1
    have k2 := RA.out.c2
    clear h0 h1 h2
    go_wp2_with fail
    refine (TD.out _ (HD.out.below A1.out)).mono ?_
    rintro e w2 ⟨⟨g0, g1, g2, hg0, hg1, hg2, rfl, r0, r1, r2⟩, hb⟩
    have D1 : Hid (DiskV w2 d (some ⟨g0, 0, none⟩) (some ⟨g1, 0, none⟩) (some ⟨g2, 0, none⟩)) := diskV_of_rows r0 r1 r2
    replace A1 : Hid (Below w.heap.size w w2) := A1.out.trans (hb.mono A1.out.size)
    replace RA : Hid (Box3 w2 w.heap.size 59 (.slice a0 d.nb c0) (.slice a1 d.nc c1) (.slice a2 d.ns c2)) := RA.out.below hb
    clear hb r0 r1 r2 k0 k1 k2 hg0 hg1 hg2
    go_wp2_with fail
    refine (SO.out _ _ _ _ D1.out).mono ?_
    rintro e w3 ⟨rfl, hb⟩
    replace A1 : Hid (Below w.heap.size w w3) := A1.out.trans (hb.mono A1.out.size)
    replace RA : Hid (Box3 w3 w.heap.size 59 (.slice a0 d.nb c0) (.slice a1 d.nc c1) (.slice a2 d.ns c2)) := RA.out.below hb
    have k0 := RA.out.c0
    have k1 := RA.out.c1
    have k2 := RA.out.c2
    clear hb D1 SO
    go_wp2_with fail
    refine (TD.out _ (HD.out.below A1.out)).mono ?_
    rintro e w4 ⟨⟨g0, g1, g2, hg0, hg1, hg2, rfl, r0, r1, r2⟩, hb⟩
    replace A1 : Hid (Below w.heap.size w w4) := A1.out.trans (hb.mono A1.out.size)
    replace RA : Hid (Box3 w4 w.heap.size 59 (.slice a0 d.nb c0) (.slice a1 d.nc c1) (.slice a2 d.ns c2)) := RA.out.below hb
    have B4 : Hid (Below w4.heap.size w4 (w4.alloc (.cells #[.slice (some ⟨g0, 0, none⟩) d.nb d.nb, .slice (some ⟨g1, 0, none⟩) d.nc d.nc, .slice (some ⟨g2, 0, none⟩) d.ns d.ns] 39))) := (Below.refl w4.heap.size w4).alloc (Nat.le_refl _) _
    have X4 : Hid (Box3 (w4.alloc (.cells #[.slice (some ⟨g0, 0, none⟩) d.nb d.nb, .slice (some ⟨g1, 0, none⟩) d.nc d.nc, .slice (some ⟨g2, 0, none⟩) d.ns d.ns] 39)) w4.heap.size 39 (.slice (some ⟨g0, 0, none⟩) d.nb d.nb) (.slice (some ⟨g1, 0, none⟩) d.nc d.nc) (.slice (some ⟨g2, 0, none⟩) d.ns d.ns)) := Box3.made w4 _ _ _ _
    have D2 : Hid (DiskV w4 d (some ⟨g0, 0, none⟩) (some ⟨g1, 0, none⟩) (some ⟨g2, 0, none⟩)) := diskV_of_rows r0 r1 r2
    clear hb r0 r1 r2 k0 k1 k2 hg0 hg1 hg2
    go_wp2_with fail
    generalize (w4.alloc (.cells #[.slice (some ⟨g0, 0, none⟩) d.nb d.nb, .slice (some ⟨g1, 0, none⟩) d.nc d.nc, .slice (some ⟨g2, 0, none⟩) d.ns d.ns] 39)) = v5 at *
    refine (IY.out _ _ _ _ (D2.out.below B4.out) ((HE.out.below A1.out).below B4.out)).mono ?_
    rintro e w6 ⟨rfl, hb⟩
    have B6 : Below w4.heap.size w4 w6 := B4.out.trans (hb.mono B4.out.size)
    replace A1 : Hid (Below w.heap.size w w6) := A1.out.trans (B6.mono A1.out.size)
    replace RA : Hid (Box3 w6 w.heap.size 59 (.slice a0 d.nb c0) (.slice a1 d.nc c1) (.slice a2 d.ns c2)) := RA.out.below B6
    replace X4 : Hid (Box3 w6 w4.heap.size 39 (.slice (some ⟨g0, 0, none⟩) d.nb d.nb) (.slice (some ⟨g1, 0, none⟩) d.nc d.nc) (.slice (some ⟨g2, 0, none⟩) d.ns d.ns)) := X4.out.below hb
    replace D2 : Hid (DiskV w6 d (some ⟨g0, 0, none⟩) (some ⟨g1, 0, none⟩) (some ⟨g2, 0, none⟩)) := D2.out.below B6
    generalize w4.heap.size = bx at *
    have er : (code != code) = false := by simp
    have k0 := RA.out.c0
    have k1 := RA.out.c1
    have k2 := RA.out.c2
    have j0 := X4.out.c0
    have j1 := X4.out.c1
    have j2 := X4.out.c2
    have DR : Below w6.heap.size w6 w6.drew := (Below.refl w6.heap.size w6).drew
    have HD6 : Hid (DiskV w6.drew d a0 a1 a2) := HD.out.below A1.out.drew
    have X6 : Hid (Box3 w6.drew bx 39 (.slice (some ⟨g0, 0, none⟩) d.nb d.nb) (.slice (some ⟨g1, 0, none⟩) d.nc d.nc) (.slice (some ⟨g2, 0, none⟩) d.ns d.ns)) := X4.out.below DR
    have D6 : Hid (DiskV w6.drew d (some ⟨g0, 0, none⟩) (some ⟨g1, 0, none⟩) (some ⟨g2, 0, none⟩)) := D2.out.below DR
    clear DR X4 D2
    clear hb B6 B4 IY
    go_wp2_with fail
    go_region_with (first
      | (go_at_call 33; refine (TD.out _ ?_).mono ?_; exact HD6.out; rintro e w7 ⟨⟨i0, i1, i2, hi0, hi1, hi2, rfl, r0, r1, r2⟩, hb7⟩; have X7 := X6.out.below hb7; have l0 := X7.c0; have l1 := X7.c1; have l2 := X7.c2)
      | (go_at_call 34; refine (EQ.out _ _ _ _ _ _ _ ?_ ?_).mono ?_; exact D6.out.below hb7; exact diskV_of_rows r0 r1 r2; rintro e w8 ⟨rfl, hb8⟩))
    all_goals
      have B7 : Below w.heap.size w w7 := A1.out.drew.trans (hb7.mono A1.out.size)
      have B8 : Hid (Below w.heap.size w w8) := B7.trans (hb8.mono B7.size)
      clear hb7 hb8 B7 r0 r1 r2 hi0 hi1 hi2 A1 RA HD6 X6 D6 EQ TD
      dsimp only [Act.put]
      go_wp2
      go_ret
      exact ⟨rfl, B8.out⟩
end Go.Proofs.YthfnbbjjiipcpaaDoor
