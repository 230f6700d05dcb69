/-
  laws.szDisk with any number left.
-/
import Derived.Test.YtbecnaabmlkjjaaDoorDiskTo
namespace Go.Proofs.YtbecnaabmlkjjaaDoor
open Go.ChangeShapes Go.WideShapes Go.ChangeAt Go.RowKit
set_option maxRecDepth 100000 in
set_option maxHeartbeats 1000000 in
theorem szDisk_x (d : Dk) (a0 a1 a2 : Option Addr) (c0 c1 c2 : Nat) (x : Int) (x0 : 0 ≤ x) (x1 : x ≤ 1048576) (w : World) (h : DiskV w d a0 a1 a2) (l0 : d.nb ≤ maxLen) (l1 : d.nc ≤ maxLen) (l2 : d.ns ≤ maxLen) (m0 : ∀ i, i < d.nb → (d.B i).size ≤ maxLen) (m1 : ∀ i, i < d.nc → (d.D i).size ≤ maxLen) (m2 : ∀ i, i < d.ns → (d.S i).size ≤ maxLen) :
    Calls Tryd.prog 19 #[.agg #[.slice a0 d.nb c0, .slice a1 d.nc c1, .slice a2 d.ns c2], .int .i64 x] w fun e w' => (∃ y : Int, e = .returned (.int .i64 y) ∧ y ≤ 1048576 ∧ (0 ≤ y → d.nb ≤ 1048576 ∧ d.nc ≤ 1048576 ∧ d.ns ≤ 1048576)) ∧ Below w.heap.size w w' := by
  have S0 : Hid (∀ (x : Int) (w : World), 0 ≤ x → x ≤ 1048576 → Strs w a0 d.nb d.B → Calls Tryd.prog 51 #[.slice a0 d.nb c0, .int .i64 x] w fun e w' => (∃ y : Int, e = .returned (.int .i64 y) ∧ y ≤ 1048576 ∧ (0 ≤ y → d.nb ≤ 1048576)) ∧ w = w') := fun x w hx hx' h => szStringS_any a0 d.nb c0 d.B x w h hx hx' l0 m0
  have S1 : Hid (∀ (x : Int) (w : World), 0 ≤ x → x ≤ 1048576 → Pens w a1 d.nc d.A d.D → Calls Tryd.prog 52 #[.slice a1 d.nc c1, .int .i64 x] w fun e w' => (∃ y : Int, e = .returned (.int .i64 y) ∧ y ≤ 1048576 ∧ (0 ≤ y → d.nc ≤ 1048576)) ∧ Below w.heap.size w w') := fun x w hx hx' h => szPendingS_any a1 d.nc c1 d.A d.D x w h hx hx' l1 m1
  have S2 : Hid (∀ (x : Int) (w : World), 0 ≤ x → x ≤ 1048576 → Strs w a2 d.ns d.S → Calls Tryd.prog 51 #[.slice a2 d.ns c2, .int .i64 x] w fun e w' => (∃ y : Int, e = .returned (.int .i64 y) ∧ y ≤ 1048576 ∧ (0 ≤ y → d.ns ≤ 1048576)) ∧ w = w') := fun x w hx hx' h => szStringS_any a2 d.ns c2 d.S x w h hx hx' l2 m2
  have HD : Hid (DiskV w d a0 a1 a2) := h
  clear h l0 l1 l2 m0 m1 m2
  have A1 : Hid (Below w.heap.size w (w.alloc (.cells #[.slice a0 d.nb c0, .slice a1 d.nc c1, .slice a2 d.ns c2] 51))) := (Below.refl w.heap.size w).alloc (Nat.le_refl _) _
  have RA : Hid (Box3 (w.alloc (.cells #[.slice a0 d.nb c0, .slice a1 d.nc c1, .slice a2 d.ns c2] 51)) w.heap.size 51 (.slice a0 d.nb c0) (.slice a1 d.nc c1) (.slice a2 d.ns c2)) := Box3.made w _ _ _ _
  go_enter Tryd.func19, Tryd.ntmps19
  go_wp2_with fail
  generalize (w.alloc (.cells #[.slice a0 d.nb c0, .slice a1 d.nc c1, .slice a2 d.ns c2] 51)) = v at *
  refine (S0.out _ _ (by omega) (by omega) (HD.out.1.below A1.out)).mono ?_
  rintro e w1 ⟨⟨y0, rfl, hy0, hz0⟩, rfl⟩
  have Z0 : Hid (0 ≤ y0 → d.nb ≤ 1048576) := hz0
  have k1 := RA.out.c1
  clear hz0 S0
  by_cases p0 : y0 < 0
  · go_wp2
    go_ret
    exact ⟨⟨-1, rfl, by omega, by omega⟩, A1.out⟩
  · have q0 : ¬ y0 < 0 := p0
    go_wp2_with fail
    refine (S1.out _ _ (by omega) (by omega) (HD.out.2.1.below A1.out)).mono ?_
    rintro e w2 ⟨⟨y1, rfl, hy1, hz1⟩, hb⟩
    have Z1 : Hid (0 ≤ y1 → d.nc ≤ 1048576) := hz1
    replace A1 : Hid (Below w.heap.size w w2) := A1.out.trans (hb.mono A1.out.size)
    replace RA : Hid (Box3 w2 w.heap.size 51 (.slice a0 d.nb c0) (.slice a1 d.nc c1) (.slice a2 d.ns c2)) := RA.out.below hb
    have k2 := RA.out.c2
    clear hz1 S1 hb k1
    by_cases p1 : y1 < 0
    · go_wp2
      go_ret
      exact ⟨⟨-1, rfl, by omega, by omega⟩, A1.out⟩
    · have q1 : ¬ y1 < 0 := p1
      go_wp2_with fail
      refine (S2.out _ _ (by omega) (by omega) (HD.out.2.2.below A1.out)).mono ?_
      rintro e w3 ⟨⟨y2, rfl, hy2, hz2⟩, rfl⟩
      have Z2 : Hid (0 ≤ y2 → d.ns ≤ 1048576) := hz2
      clear hz2 S2
      by_cases p2 : y2 < 0
      · go_wp2
        go_ret
        exact ⟨⟨-1, rfl, by omega, by omega⟩, A1.out⟩
      · have q2 : ¬ y2 < 0 := p2
        go_wp2
        go_ret
        exact ⟨⟨y2, rfl, hy2, fun _ => ⟨Z0.out (by omega), Z1.out (by omega), Z2.out (by omega)⟩⟩, A1.out⟩
end Go.Proofs.YtbecnaabmlkjjaaDoor
