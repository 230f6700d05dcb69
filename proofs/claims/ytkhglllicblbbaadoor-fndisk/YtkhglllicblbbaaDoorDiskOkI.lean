/-
  Whether a disk is right: DiskOK of the program.
-/
import Derived.Test.YtkhglllicblbbaaDoorDiskOk
namespace Go.Proofs.YtkhglllicblbbaaDoor
open Go.ChangeShapes Go.WideShapes Go.ChangeAt Go.RowKit
set_option maxRecDepth 100000 in
set_option maxHeartbeats 4000000 in
theorem implOK_any (d : Dk) (a0 a1 a2 : Option Addr) (c0 c1 c2 : Nat) (hd : d.nb ≤ 1048576 ∧ d.nc ≤ 1048576 ∧ d.ns ≤ 1048576) (p0 p1 : Addr) (w : World) (h : DiskV w d a0 a1 a2) (hE0 : ErrAt w 0 p0) (hE1 : ErrAt w 1 p1) :
    Calls Tryd.prog 13 #[.agg #[.slice a0 d.nb c0, .slice a1 d.nc c1, .slice a2 d.ns c2]] w fun e w' => e = .returned (.bool d.ok) ∧ Below w.heap.size w w' := by
  obtain ⟨hd0, hd1, hd2⟩ := hd
  have A1 : Hid (Below w.heap.size w (w.alloc (.cells #[.slice a0 d.nb c0, .slice a1 d.nc c1, .slice a2 d.ns c2] 28))) := (Below.refl w.heap.size w).alloc (Nat.le_refl _) _
  have RA : Hid (Box3 (w.alloc (.cells #[.slice a0 d.nb c0, .slice a1 d.nc c1, .slice a2 d.ns c2] 28)) w.heap.size 28 (.slice a0 d.nb c0) (.slice a1 d.nc c1) (.slice a2 d.ns c2)) := Box3.made w _ _ _ _
  obtain ⟨r, hr⟩ : ∃ r, r = d.ok := ⟨_, rfl⟩
  rw [← hr]
  have RT : Hid (d.Ok → r = true) := fun q => by rw [hr]; exact Dk.ok_true q
  have RF : Hid (¬ d.Ok → r = false) := fun q => by rw [hr]; exact Dk.ok_false q
  have HD : Hid (DiskV w d a0 a1 a2) := h
  have E0 : Hid (ErrAt w 0 p0) := hE0
  have E1 : Hid (ErrAt w 1 p1) := hE1
  clear h hr hE0 hE1
  by_cases p1' : 1 ≤ d.nb ∧ d.nb ≤ 64 ∧ d.nc ≤ 4096
  · obtain ⟨p1a, p1b, p2⟩ := p1'
    have x1 : ¬ (d.nb : Int) < 1 := by omega
    have x2 : ¬ (64 : Int) < d.nb := by omega
    have e2 : ¬ (4096 : Int) < d.nc := by omega
    by_cases p3 : d.ns = 0 ∨ d.ns = d.nb
    · have OK0 : Hid ((∀ i, i < d.nb → (d.B i).size ≤ 200) → (∀ i, i < d.ns → (d.S i).size ≤ 200) → (∀ i, i < d.nc → (0 ≤ d.A i ∧ d.A i < d.nb) ∧ (d.D i).size ≤ 200) → d.Ok) := fun q1 q2 q3 => ⟨p1a, p1b, p2, p3, q1, q3, q2⟩
      have e3 : ((d.ns : Int) != 0) = true ∧ ((d.ns : Int) != (d.nb : Int)) = false ∨ ((d.ns : Int) != 0) = false := by
        rcases p3 with e | e
        · right; simp; omega
        · by_cases g : d.ns = 0
          · right; simp; omega
          · left; simp; omega
      have hns : d.ns ≤ 64 := by omega
      clear p3
      go_enter Tryd.func13, Tryd.ntmps13
      rcases e3 with ⟨e3, e4⟩ | e3
      all_goals
        go_wp2
        generalize (w.alloc (.cells #[.slice a0 d.nb c0, .slice a1 d.nc c1, .slice a2 d.ns c2] 28)) = v at *
        go_loopw [37] (fun i wr => ∃ k : Nat, k ≤ d.nc ∧ i = .int .i64 k ∧ (∀ j, j < k → (0 ≤ d.A j ∧ d.A j < d.nb) ∧ (d.D j).size ≤ 200) ∧ Box3 wr w.heap.size 28 (.slice a0 d.nb c0) (.slice a1 d.nc c1) (.slice a2 d.ns c2) ∧ Below w.heap.size w wr) (fun i _ => d.nc - (intOf i).toNat)
        case atStart => exact ⟨0, by omega, rfl, fun j hj => absurd hj (by omega), RA.out, A1.out⟩
        case round =>
          clear RA A1
          obtain ⟨k, hk, rfl, hall, hbox, hb⟩ := hrel
          have HL : Hid (∀ j, j < k → (0 ≤ d.A j ∧ d.A j < d.nb) ∧ (d.D j).size ≤ 200) := hall
          have RA : Hid (Box3 wr w.heap.size 28 (.slice a0 d.nb c0) (.slice a1 d.nc c1) (.slice a2 d.ns c2)) := hbox
          have A1 : Hid (Below w.heap.size w wr) := hb
          have k0 := RA.out.c0
          have k1 := RA.out.c1
          have k2 := RA.out.c2
          clear hall hbox
          by_cases hlt : k < d.nc
          · obtain ⟨b, off, rfl, hc⟩ := (HD.out.2.1.below hb).opened (by omega)
            obtain ⟨cc, cd⟩ := hc k hlt
            have hlt' : (k : Int) < (d.nc : Int) := by omega
            have hsz := hb.size
            have hkl := RA.out.lt
            clear hc hb
            have B2 : Hid (Below wr.heap.size wr (wr.alloc (.cells #[.int .i64 (d.A k), .string (d.D k)] 48))) := (Below.refl wr.heap.size wr).alloc (Nat.le_refl _) _
            by_cases g : 0 ≤ d.A k ∧ d.A k < d.nb
            · by_cases hs : 200 < (d.D k).size
              · have PF : Hid (∀ w : World, ErrAt w 1 p1 → Calls Tryd.prog 51 #[.agg #[.slice a0 d.nb c0, .slice (some ⟨b, off, none⟩) d.nc c1, .slice a2 d.ns c2], .int .i64 (d.A k), .string (d.D k)] w fun e w' => e = .returned (.iface 170 (.pointer (some p1))) ∧ Below w.heap.size w w') := fun w he => placeFault_long _ _ _ _ _ _ _ _ _ _ _ g.1 g.2 hs p1 w he
                obtain rfl : r = false := RF.out (fun q => by have := (q.C k hlt).2; omega)
                clear g hs
                go_wp2_with fail
                refine (PF.out _ ((E1.out.below A1.out).below B2.out)).mono ?_
                rintro e w1 ⟨rfl, hb⟩
                have B3 : Hid (Below w.heap.size w w1) := A1.out.trans ((B2.out.trans (hb.mono B2.out.size)).mono A1.out.size)
                clear hb B2 A1 RA k0 k1 k2 cc cd PF
                go_wp2
                go_ret
                exact ⟨rfl, B3.out⟩
              · have PF : Hid (∀ w : World, Calls Tryd.prog 51 #[.agg #[.slice a0 d.nb c0, .slice (some ⟨b, off, none⟩) d.nc c1, .slice a2 d.ns c2], .int .i64 (d.A k), .string (d.D k)] w fun e w' => e = .returned .nilIface ∧ Below w.heap.size w w') := fun w => placeFault_ok _ _ _ _ _ _ _ _ _ _ _ g.1 g.2 (by omega) w
                have HG : Hid ((0 ≤ d.A k ∧ d.A k < d.nb) ∧ (d.D k).size ≤ 200) := ⟨g, by omega⟩
                clear g hs
                go_wp2_with fail
                refine (PF.out _).mono ?_
                rintro e w1 ⟨rfl, hb⟩
                have B3 : Hid (Below w.heap.size w w1) := A1.out.trans ((B2.out.trans (hb.mono B2.out.size)).mono A1.out.size)
                have R3 : Hid (Box3 w1 w.heap.size 28 (.slice a0 d.nb c0) (.slice (some ⟨b, off, none⟩) d.nc c1) (.slice a2 d.ns c2)) := (RA.out.below B2.out).below hb
                clear hb B2 A1 RA k0 k1 k2 cc cd PF
                go_wp2
                go_roundw
                case rel => exact ⟨k + 1, by omega, by go_num, fun j hj => by
                  rcases (show j < k ∨ j = k by omega) with g | rfl
                  · exact HL.out j g
                  · exact HG.out, R3.out, B3.out⟩
                case measure => simp [intOf]; omega
            · have PF : Hid (∀ w : World, ErrAt w 0 p0 → Calls Tryd.prog 51 #[.agg #[.slice a0 d.nb c0, .slice (some ⟨b, off, none⟩) d.nc c1, .slice a2 d.ns c2], .int .i64 (d.A k), .string (d.D k)] w fun e w' => e = .returned (.iface 170 (.pointer (some p0))) ∧ Below w.heap.size w w') := fun w he => placeFault_range _ _ _ _ _ _ _ _ _ _ _ g p0 w he
              obtain rfl : r = false := RF.out (fun q => g (q.C k hlt).1)
              clear g
              go_wp2_with fail
              refine (PF.out _ ((E0.out.below A1.out).below B2.out)).mono ?_
              rintro e w1 ⟨rfl, hb⟩
              have B3 : Hid (Below w.heap.size w w1) := A1.out.trans ((B2.out.trans (hb.mono B2.out.size)).mono A1.out.size)
              clear hb B2 A1 RA k0 k1 k2 cc cd PF
              go_wp2
              go_ret
              exact ⟨rfl, B3.out⟩
          · have hlt' : ¬ (k : Int) < (d.nc : Int) := by omega
            have OK2 : Hid ((∀ i, i < d.nb → (d.B i).size ≤ 200) → (∀ i, i < d.ns → (d.S i).size ≤ 200) → d.Ok) := fun q1 q2 => OK0.out q1 q2 (fun i hi => HL.out i (by omega))
            by_cases g : ∀ i, i < d.nb → (d.B i).size ≤ 200
            · have F1 : Hid (∀ w : World, Strs w a0 d.nb d.B → Calls Tryd.prog 52 #[.slice a0 d.nb c0] w fun e w' => e = .returned (.bool true) ∧ w = w') := fun w h => blocksFit_any a0 d.nb c0 d.B true ⟨fun _ => g, fun _ => rfl⟩ (by omega) w h
              have HG : Hid (∀ i, i < d.nb → (d.B i).size ≤ 200) := g
              have F2 : Hid (∀ w : World, Strs w a2 d.ns d.S → Calls Tryd.prog 52 #[.slice a2 d.ns c2] w fun e w' => e = .returned (.bool r) ∧ w = w') := fun w h => blocksFit_any a2 d.ns c2 d.S r ⟨fun hr i hi => (Classical.em d.Ok).elim (fun q => q.S i hi) (fun q => absurd (hr.symm.trans (RF.out q)) (by decide)), fun q2 => RT.out (OK2.out HG.out q2)⟩ (by omega) w h
              clear g hb HL OK2
              go_wp2_with fail
              refine (F1.out _ (HD.out.1.below A1.out)).mono ?_
              rintro e w1 ⟨rfl, rfl⟩
              clear F1
              go_wp2_with fail
              refine (F2.out _ (HD.out.2.2.below A1.out)).mono ?_
              rintro e w1 ⟨rfl, rfl⟩
              clear F2 RT RF
              go_wp2
              go_ret
              exact ⟨by cases r <;> rfl, A1.out⟩
            · have F1 : Hid (∀ w : World, Strs w a0 d.nb d.B → Calls Tryd.prog 52 #[.slice a0 d.nb c0] w fun e w' => e = .returned (.bool false) ∧ w = w') := fun w h => blocksFit_any a0 d.nb c0 d.B false ⟨fun h => by (cases h), fun h => absurd h g⟩ (by omega) w h
              obtain rfl : r = false := RF.out (fun q => g q.B)
              clear g hb HL OK2
              go_wp2_with fail
              refine (F1.out _ (HD.out.1.below A1.out)).mono ?_
              rintro e w1 ⟨rfl, rfl⟩
              clear F1
              go_wp2
              go_ret
              exact ⟨rfl, A1.out⟩
    · obtain rfl : r = false := RF.out (fun q => p3 q.ns)
      have e3 : ((d.ns : Int) != 0) = true := by simp; omega
      have e4 : ((d.ns : Int) != (d.nb : Int)) = true := by simp; omega
      go_enter Tryd.func13, Tryd.ntmps13
      go_wp2
      go_ret
      exact ⟨rfl, A1.out⟩
  · obtain rfl : r = false := RF.out (fun q => p1' ⟨q.nb1, q.nb2, q.nc⟩)
    by_cases x1 : (d.nb : Int) < 1
    · go_enter Tryd.func13, Tryd.ntmps13
      go_wp2
      go_ret
      exact ⟨rfl, A1.out⟩
    · by_cases x2 : (64 : Int) < d.nb
      · go_enter Tryd.func13, Tryd.ntmps13
        go_wp2
        go_ret
        exact ⟨rfl, A1.out⟩
      · have x3 : (4096 : Int) < d.nc := by omega
        go_enter Tryd.func13, Tryd.ntmps13
        go_wp2
        go_ret
        exact ⟨rfl, A1.out⟩
theorem diskV_of_rows {w : World} {d : Dk} {g0 g1 g2 : Nat} (h0 : w.rowIs g0 9 d.nb (fun i => .string (d.B i))) (h1 : PenRow w g1 d.nc d.A d.D) (h2 : w.rowIs g2 9 d.ns (fun i => .string (d.S i))) : DiskV w d (some ⟨g0, 0, none⟩) (some ⟨g1, 0, none⟩) (some ⟨g2, 0, none⟩) := ⟨Strs.ofRow h0, h1.pens, Strs.ofRow h2⟩
end Go.Proofs.YtkhglllicblbbaaDoor
