/-
  Drives: a disk at work, with a map of the last writes.
-/
import Derived.Test.YtgdfhgepbamhmaaDoorBox4
import Derived.Test.YtgdfhgepbamhmaaDoorDiskOkI
import Derived.Test.YtgdfhgepbamhmaaDoorMapI
namespace Go.Proofs.YtgdfhgepbamhmaaDoor
open Go.ChangeShapes Go.WideShapes Go.ChangeAt Go.RowKit
/-- Block q is a drive: three slices and the map in block b. -/
theorem Box3.onlyB {w w' : World} {b g : Nat} {t : TypeId} {x y z : Value} (h : Box3 w b t x y z) (ho : OnlyB g w w') (hne : b ≠ g) : Box3 w' b t x y z := h.ofBlock (ho.block b h.lt hne)
theorem zeroPen (w : World) : (zeroValue 68).run Tryd.prog w = .ok (.agg #[.int .i64 0, .string ⟨#[]⟩]) w := by kernel_rfl
set_option maxRecDepth 100000 in
set_option maxHeartbeats 2000000 in
theorem driveOf_any (d : Dk) (a0 a1 a2 : Option Addr) (c0 c1 c2 : Nat) (hn : d.nc ≤ 4096) (w : World) (h : Pens w a1 d.nc d.A d.D) :
    Calls Tryd.prog 22 #[.agg #[.slice a0 d.nb c0, .slice a1 d.nc c1, .slice a2 d.ns c2]] w fun e w' => e = .returned (.pointer (some ⟨w.heap.size + 2, 0, none⟩)) ∧ Box4 w' (w.heap.size + 2) 58 (.slice a0 d.nb c0) (.slice a1 d.nc c1) (.slice a2 d.ns c2) (.map (some (w.heap.size + 1))) ∧ MapI w' (w.heap.size + 1) (lastM d.A d.D d.nc) ∧ Below w.heap.size w w' := by
  have HP : Hid (Pens w a1 d.nc d.A d.D) := h
  clear h
  have hmk : ∀ w : World, (Instr.makeMap 56 none).run Tryd.prog w = .ok (.map (some w.heap.size)) (w.alloc (.map #[] 0)) := fun w => run_makeMap 56 w
  go_enter Tryd.func22, Tryd.ntmps22
  have B0 : Hid (Below w.heap.size w (((w.alloc (.cells #[.slice a0 d.nb c0, .slice a1 d.nc c1, .slice a2 d.ns c2] 27)).alloc (.map #[] 0)).alloc (.cells #[.slice a0 d.nb c0, .slice a1 d.nc c1, .slice a2 d.ns c2, .map (some (w.heap.size + 1))] 58))) := (((Below.refl w.heap.size w).alloc (Nat.le_refl _) _).alloc (by simp) _).alloc (by simp; omega) _
  have X0 : Hid (Box4 (((w.alloc (.cells #[.slice a0 d.nb c0, .slice a1 d.nc c1, .slice a2 d.ns c2] 27)).alloc (.map #[] 0)).alloc (.cells #[.slice a0 d.nb c0, .slice a1 d.nc c1, .slice a2 d.ns c2, .map (some (w.heap.size + 1))] 58)) (w.heap.size + 1 + 1) 58 (.slice a0 d.nb c0) (.slice a1 d.nc c1) (.slice a2 d.ns c2) (.map (some (w.heap.size + 1)))) := Box4.madeAt (by simp) _ _ _ _ _
  have M0 : Hid (MapI (((w.alloc (.cells #[.slice a0 d.nb c0, .slice a1 d.nc c1, .slice a2 d.ns c2] 27)).alloc (.map #[] 0)).alloc (.cells #[.slice a0 d.nb c0, .slice a1 d.nc c1, .slice a2 d.ns c2, .map (some (w.heap.size + 1))] 58)) (w.heap.size + 1) (lastM d.A d.D 0)) := by
    have := MapI.made (w.alloc (.cells #[.slice a0 d.nb c0, .slice a1 d.nc c1, .slice a2 d.ns c2] 27))
    rw [show (w.alloc (.cells #[.slice a0 d.nb c0, .slice a1 d.nc c1, .slice a2 d.ns c2] 27)).heap.size = w.heap.size + 1 from by simp] at this
    exact this.below ((Below.refl _ _).alloc (Nat.le_refl _) _)
  go_wp2
  generalize (((w.alloc (.cells #[.slice a0 d.nb c0, .slice a1 d.nc c1, .slice a2 d.ns c2] 27)).alloc (.map #[] 0)).alloc (.cells #[.slice a0 d.nb c0, .slice a1 d.nc c1, .slice a2 d.ns c2, .map (some (w.heap.size + 1))] 58)) = v at *
  clear hmk
  go_loopw [13] (fun i wr => ∃ k : Nat, k ≤ d.nc ∧ i = .int .i64 k ∧ Box4 wr (w.heap.size + 1 + 1) 58 (.slice a0 d.nb c0) (.slice a1 d.nc c1) (.slice a2 d.ns c2) (.map (some (w.heap.size + 1))) ∧ MapI wr (w.heap.size + 1) (lastM d.A d.D k) ∧ Below w.heap.size w wr) (fun i _ => d.nc - (intOf i).toNat)
  case atStart => exact ⟨0, by omega, rfl, X0.out, M0.out, B0.out⟩
  case round =>
    clear B0 X0 M0
    obtain ⟨k, hk, rfl, hx, hm, hb⟩ := hrel
    have B0 : Hid (Below w.heap.size w wr) := hb
    have X0 : Hid (Box4 wr (w.heap.size + 1 + 1) 58 (.slice a0 d.nb c0) (.slice a1 d.nc c1) (.slice a2 d.ns c2) (.map (some (w.heap.size + 1)))) := hx
    have M0 : Hid (MapI wr (w.heap.size + 1) (lastM d.A d.D k)) := hm
    clear hx hm
    by_cases hlt : k < d.nc
    · obtain ⟨b, off, rfl, hc⟩ := (HP.out.below hb).opened (by omega)
      obtain ⟨cc, cd⟩ := hc k hlt
      have hlt' : (k : Int) < (d.nc : Int) := by omega
      have hq := X0.out.lt
      have B2 : Below wr.heap.size wr (wr.alloc (.cells #[.int .i64 (d.A k), .string (d.D k)] 68)) := (Below.refl wr.heap.size wr).alloc (Nat.le_refl _) _
      have X1 : Box4 (wr.alloc (.cells #[.int .i64 (d.A k), .string (d.D k)] 68)) (w.heap.size + 1 + 1) 58 (.slice a0 d.nb c0) (.slice (some ⟨b, off, none⟩) d.nc c1) (.slice a2 d.ns c2) (.map (some (w.heap.size + 1))) := X0.out.below B2
      have e3 := X1.c3
      obtain ⟨wz, hmu, hM, hO, hsz⟩ := MapI.put (P := Tryd.prog) (w := (wr.alloc (.cells #[.int .i64 (d.A k), .string (d.D k)] 68)).drew) (M0.out.below B2.drew) Tryd.underlying56 Tryd.underlying3 (d.A k) (.agg #[.int .i64 (d.A k), .string (d.D k)])
      have HM : Hid (MapI wz (w.heap.size + 1) (lastM d.A d.D (k + 1))) := hM
      have HO : Hid (OnlyB (w.heap.size + 1) (wr.alloc (.cells #[.int .i64 (d.A k), .string (d.D k)] 68)).drew wz) := hO
      have HX : Hid (Box4 wz (w.heap.size + 1 + 1) 58 (.slice a0 d.nb c0) (.slice (some ⟨b, off, none⟩) d.nc c1) (.slice a2 d.ns c2) (.map (some (w.heap.size + 1)))) := Box4.onlyB (X0.out.below B2.drew) hO (by omega)
      have HB : Hid (Below w.heap.size w wz) := B0.out.trans ((B2.drew.mono B0.out.size).trans (hO.toBelow (by omega) (by have := B0.out.size; have := B2.drew.size; omega)))
      clear hM hO hsz hc hb B2 X1
      go_wp2_with fail
      go_region
      clear hmu e3 cc cd
      go_wp2
      go_roundw
      case rel => exact ⟨k + 1, by omega, by go_num, HX.out, HM.out, HB.out⟩
      case measure => simp [intOf]; omega
    · have hlt' : ¬ (k : Int) < (d.nc : Int) := by omega
      obtain rfl : k = d.nc := by omega
      clear hb
      go_wp2
      go_ret
      exact ⟨rfl, X0.out, M0.out, B0.out⟩
end Go.Proofs.YtgdfhgepbamhmaaDoor
