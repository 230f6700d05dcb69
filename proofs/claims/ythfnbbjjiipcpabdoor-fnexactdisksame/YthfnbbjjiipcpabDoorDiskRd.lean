/-
  What a disk reads: DiskRead of the program and of the model.
-/
import Derived.Test.YthfnbbjjiipcpabDoorDrive
import Derived.Test.YthfnbbjjiipcpabDoorErrIs
namespace Go.Proofs.YthfnbbjjiipcpabDoor
open Go.ChangeShapes Go.WideShapes Go.ChangeAt Go.RowKit
/-- A disk of a modest size. -/
def Dk.Small (d : Dk) : Prop := d.nb ≤ 1048576 ∧ d.nc ≤ 1048576 ∧ d.ns ≤ 1048576
set_option maxRecDepth 100000 in
set_option maxHeartbeats 2000000 in
theorem l05Read_any (d : Dk) (a0 a1 a2 : Option Addr) (c0 c1 c2 x : Nat) (hx : x < d.nb) (hn : d.nb ≤ 64) (hc : d.nc ≤ 4096) (w : World) (h : DiskV w d a0 a1 a2) :
    Calls Tryd.prog 53 #[.agg #[.slice a0 d.nb c0, .slice a1 d.nc c1, .slice a2 d.ns c2], .int .i64 (x : Int)] w fun e w' => e = .returned (.string (d.rd x)) ∧ Below w.heap.size w w' := by
  have A1 : Hid (Below w.heap.size w (w.alloc (.cells #[.slice a0 d.nb c0, .slice a1 d.nc c1, .slice a2 d.ns c2] 33))) := (Below.refl w.heap.size w).alloc (Nat.le_refl _) _
  have RA : Hid (Box3 (w.alloc (.cells #[.slice a0 d.nb c0, .slice a1 d.nc c1, .slice a2 d.ns c2] 33)) w.heap.size 33 (.slice a0 d.nb c0) (.slice a1 d.nc c1) (.slice a2 d.ns c2)) := Box3.made w _ _ _ _
  have HD : Hid (DiskV (w.alloc (.cells #[.slice a0 d.nb c0, .slice a1 d.nc c1, .slice a2 d.ns c2] 33)) d a0 a1 a2) := h.below A1.out
  have hx1 : (x : Int) < (d.nb : Int) := by omega
  obtain ⟨R, hR⟩ : ∃ R, R = d.rd x := ⟨_, rfl⟩
  have HR : Hid (R = rdF d.A d.D (d.B x) (x : Int) d.nc) := hR
  rw [← hR]
  clear h hR
  go_enter Tryd.func53, Tryd.ntmps53
  go_wp2
  generalize (w.alloc (.cells #[.slice a0 d.nb c0, .slice a1 d.nc c1, .slice a2 d.ns c2] 33)) = v at *
  go_loopw [5] (fun i wr => ∃ k : Nat, k ≤ d.nc ∧ i = .int .i64 ((k : Int) - 1) ∧ R = rdF d.A d.D (d.B x) (x : Int) k ∧ v = wr) (fun i _ => (intOf i + 1).toNat)
  case atStart => exact ⟨d.nc, by omega, rfl, HR.out, rfl⟩
  case round =>
    clear HR
    obtain ⟨k, hk, rfl, hr, rfl⟩ := hrel
    have HR : Hid (R = rdF d.A d.D (d.B x) (x : Int) k) := hr
    have k0 := RA.out.c0
    have k1 := RA.out.c1
    clear hr
    rcases Nat.eq_zero_or_pos k with rfl | hpos
    · obtain ⟨b, off, rfl, hb⟩ := HD.out.1.opened (by omega)
      have cx := hb x hx
      have HV : Hid (R = d.B x) := HR.out
      clear hb HR
      generalize d.B x = V at *
      go_wp2
      go_ret
      exact ⟨by rw [HV.out]; rfl, A1.out⟩
    · obtain ⟨k, rfl⟩ : ∃ j, k = j + 1 := ⟨k - 1, by omega⟩
      obtain ⟨b, off, rfl, hb⟩ := HD.out.2.1.opened (by omega)
      obtain ⟨cc, cd⟩ := hb k (by omega)
      have e1 : ((k + 1 : Nat) : Int) - 1 = (k : Int) := by omega
      have hkk : (k : Int) < (d.nc : Int) := by omega
      have hk0 : (0 : Int) ≤ (k : Int) := by omega
      rw [e1]
      clear hb e1
      by_cases g : d.A k = (x : Int)
      · have HV : Hid (R = d.D k) := by
          have := HR.out
          unfold rdF at this
          rwa [if_pos g] at this
        have g1 : (d.A k == (x : Int)) = true := by simp [g]
        clear g HR
        go_wp2
        go_ret
        exact ⟨by rw [HV.out]; rfl, A1.out⟩
      · have HV : Hid (R = rdF d.A d.D (d.B x) (x : Int) k) := by
          have := HR.out
          unfold rdF at this
          rwa [if_neg g] at this
        have g1 : (d.A k == (x : Int)) = false := by simp [g]
        clear g HR
        go_wp2
        go_roundw
        case rel => exact ⟨k, by omega, rfl, HV.out, trivial⟩
        case measure => simp [intOf]
end Go.Proofs.YthfnbbjjiipcpabDoor
