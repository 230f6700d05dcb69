/-
  Drives: a disk at work, with a map of the last writes.
-/
import Derived.Test.YtkhglllicblbbaaDoorBox4
import Derived.Test.YtkhglllicblbbaaDoorDiskOkI
import Derived.Test.YtkhglllicblbbaaDoorMapI
namespace Go.Proofs.YtkhglllicblbbaaDoor
open Go.ChangeShapes Go.WideShapes Go.ChangeAt Go.RowKit
/-- Block q is a drive: three slices and the map in block b. -/
theorem Box3.onlyB {w w' : World} {b g : Nat} {t : TypeId} {x y z : Value} (h : Box3 w b t x y z) (ho : OnlyB g w w') (hne : b ≠ g) : Box3 w' b t x y z := h.ofBlock (ho.block b h.lt hne)
theorem zeroPen (w : World) : (zeroValue 48).run Tryd.prog w = .ok (.agg #[.int .i64 0, .string ⟨#[]⟩]) w := by kernel_rfl
set_option maxRecDepth 100000 in
set_option maxHeartbeats 2000000 in
theorem driveOf_any (d : Dk) (a0 a1 a2 : Option Addr) (c0 c1 c2 : Nat) (hn : d.nc ≤ 4096) (w : World) (h : Pens w a1 d.nc d.A d.D) :
    Calls Tryd.prog 44 #[.agg #[.slice a0 d.nb c0, .slice a1 d.nc c1, .slice a2 d.ns c2]] w fun e w' => e = .returned (.pointer (some ⟨w.heap.size + 2, 0, none⟩)) ∧ Box4 w' (w.heap.size + 2) 86 (.slice a0 d.nb c0) (.slice a1 d.nc c1) (.slice a2 d.ns c2) (.map (some (w.heap.size + 1))) ∧ MapI w' (w.heap.size + 1) (lastM d.A d.D d.nc) ∧ Below w.heap.size w w' := by
  have HP : Hid (Pens w a1 d.nc d.A d.D) := h
  clear h
  have hmk : ∀ w : World, (Instr.makeMap 84 none).run Tryd.prog w = .ok (.map (some w.heap.size)) (w.alloc (.map #[] 0)) := fun w => run_makeMap 84 w
  go_enter Tryd.func44, Tryd.ntmps44
  have B0 : Hid (Below w.heap.size w (((w.alloc (.cells #[.slice a0 d.nb c0, .slice a1 d.nc c1, .slice a2 d.ns c2] 28)).alloc (.map #[] 0)).alloc (.cells #[.slice a0 d.nb c0, .slice a1 d.nc c1, .slice a2 d.ns c2, .map (some (w.heap.size + 1))] 86))) := (((Below.refl w.heap.size w).alloc (Nat.le_refl _) _).alloc (by simp) _).alloc (by simp; omega) _
  have X0 : Hid (Box4 (((w.alloc (.cells #[.slice a0 d.nb c0, .slice a1 d.nc c1, .slice a2 d.ns c2] 28)).alloc (.map #[] 0)).alloc (.cells #[.slice a0 d.nb c0, .slice a1 d.nc c1, .slice a2 d.ns c2, .map (some (w.heap.size + 1))] 86)) (w.heap.size + 1 + 1) 86 (.slice a0 d.nb c0) (.slice a1 d.nc c1) (.slice a2 d.ns c2) (.map (some (w.heap.size + 1)))) := Box4.madeAt (by simp) _ _ _ _ _
  have M0 : Hid (MapI (((w.alloc (.cells #[.slice a0 d.nb c0, .slice a1 d.nc c1, .slice a2 d.ns c2] 28)).alloc (.map #[] 0)).alloc (.cells #[.slice a0 d.nb c0, .slice a1 d.nc c1, .slice a2 d.ns c2, .map (some (w.heap.size + 1))] 86)) (w.heap.size + 1) (lastM d.A d.D 0)) := by
    have := MapI.made (w.alloc (.cells #[.slice a0 d.nb c0, .slice a1 d.nc c1, .slice a2 d.ns c2] 28))
    rw [show (w.alloc (.cells #[.slice a0 d.nb c0, .slice a1 d.nc c1, .slice a2 d.ns c2] 28)).heap.size = w.heap.size + 1 from by simp] at this
    exact this.below ((Below.refl _ _).alloc (Nat.le_refl _) _)
  go_wp2
  generalize (((w.alloc (.cells #[.slice a0 d.nb c0, .slice a1 d.nc c1, .slice a2 d.ns c2] 28)).alloc (.map #[] 0)).alloc (.cells #[.slice a0 d.nb c0, .slice a1 d.nc c1, .slice a2 d.ns c2, .map (some (w.heap.size + 1))] 86)) = v at *
  clear hmk
  go_loopw [13] (fun i wr => ∃ k : Nat, k ≤ d.nc ∧ i = .int .i64 k ∧ Box4 wr (w.heap.size + 1 + 1) 86 (.slice a0 d.nb c0) (.slice a1 d.nc c1) (.slice a2 d.ns c2) (.map (some (w.heap.size + 1))) ∧ MapI wr (w.heap.size + 1) (lastM d.A d.D k) ∧ Below w.heap.size w wr) (fun i _ => d.nc - (intOf i).toNat)
  case atStart => exact ⟨0, by omega, rfl, X0.out, M0.out, B0.out⟩
  case round =>
    clear B0 X0 M0
    obtain ⟨k, hk, rfl, hx, hm, hb⟩ := hrel
    have B0 : Hid (Below w.heap.size w wr) := hb
    have X0 : Hid (Box4 wr (w.heap.size + 1 + 1) 86 (.slice a0 d.nb c0) (.slice a1 d.nc c1) (.slice a2 d.ns c2) (.map (some (w.heap.size + 1)))) := hx
    have M0 : Hid (MapI wr (w.heap.size + 1) (lastM d.A d.D k)) := hm
    clear hx hm
    by_cases hlt : k < d.nc
    · obtain ⟨b, off, rfl, hc⟩ := (HP.out.below hb).opened (by omega)
      obtain ⟨cc, cd⟩ := hc k hlt
      have hlt' : (k : Int) < (d.nc : Int) := by omega
      have hq := X0.out.lt
      have B2 : Below wr.heap.size wr (wr.alloc (.cells #[.int .i64 (d.A k), .string (d.D k)] 48)) := (Below.refl wr.heap.size wr).alloc (Nat.le_refl _) _
      have X1 : Box4 (wr.alloc (.cells #[.int .i64 (d.A k), .string (d.D k)] 48)) (w.heap.size + 1 + 1) 86 (.slice a0 d.nb c0) (.slice (some ⟨b, off, none⟩) d.nc c1) (.slice a2 d.ns c2) (.map (some (w.heap.size + 1))) := X0.out.below B2
      have e3 := X1.c3
      obtain ⟨wz, hmu, hM, hO, hsz⟩ := MapI.put (P := Tryd.prog) (w := (wr.alloc (.cells #[.int .i64 (d.A k), .string (d.D k)] 48)).drew) (M0.out.below B2.drew) Tryd.underlying84 Tryd.underlying3 (d.A k) (.agg #[.int .i64 (d.A k), .string (d.D k)])
      have HM : Hid (MapI wz (w.heap.size + 1) (lastM d.A d.D (k + 1))) := hM
      have HO : Hid (OnlyB (w.heap.size + 1) (wr.alloc (.cells #[.int .i64 (d.A k), .string (d.D k)] 48)).drew wz) := hO
      have HX : Hid (Box4 wz (w.heap.size + 1 + 1) 86 (.slice a0 d.nb c0) (.slice (some ⟨b, off, none⟩) d.nc c1) (.slice a2 d.ns c2) (.map (some (w.heap.size + 1)))) := Box4.onlyB (X0.out.below B2.drew) hO (by omega)
      have HB : Hid (Below w.heap.size w wz) := B0.out.trans ((B2.drew.mono B0.out.size).trans (hO.toBelow (by omega) (by have := B0.out.size; have := B2.drew.size; omega)))
      clear hM hO hsz hc hb B2 X1
      go_wp2_with fail
      go_region
      clear hmu e3 cc cd
      go_wp2
      go_roundw
      case rel => exact ⟨k + 1, by omega, by go_num, HX.out, HM.out, HB.out⟩
      case measure => simp [intOf]; omega
    · have hlt' : ¬ (k : Int) < (d.nc : Int) := by omega
      obtain rfl : k = d.nc := by omega
      clear hb
      go_wp2
      go_ret
      exact ⟨rfl, X0.out, M0.out, B0.out⟩
set_option maxRecDepth 100000 in
set_option maxHeartbeats 2000000 in
theorem stands_any (d : Dk) (a0 : Option Addr) (c0 q b x : Nat) (y z : Value) (hx : x < d.nb) (hn : d.nb ≤ 64) (w : World) (hq : Box4 w q 86 (.slice a0 d.nb c0) y z (.map (some b))) (hm : MapI w b (lastM d.A d.D d.nc)) (hB : Strs w a0 d.nb d.B) :
    Calls Tryd.prog 50 #[.pointer (some ⟨q, 0, none⟩), .int .i64 (x : Int)] w fun e w' => e = .returned (.string (d.rd x)) ∧ Below w.heap.size w w' := by
  have hl := hm.look (P := Tryd.prog) Tryd.underlying84 Tryd.underlying3 (zeroPen w) (x : Int)
  have k0 := hq.c0
  have k3 := hq.c3
  obtain ⟨b1, off, rfl, hc⟩ := hB.opened (by omega)
  have cx := hc x hx
  have hx1 : (x : Int) < (d.nb : Int) := by omega
  have hx0 : (0 : Int) ≤ (x : Int) := by omega
  rcases lastM_rd d.A d.D (d.B x) (x : Int) d.nc with ⟨e1, e2⟩ | e1
  · have HR : Hid (d.rd x = d.B x) := e2
    rw [e1] at hl
    simp only [Option.getD_none, Option.isSome_none] at hl
    have B2 : Hid (Below w.heap.size w (w.alloc (.cells #[.int .i64 0, .string ⟨#[]⟩] 48))) := (Below.refl w.heap.size w).alloc (Nat.le_refl _) _
    have hlt := hq.lt
    clear hm hB hc hq e2 e1
    generalize d.rd x = R at *
    generalize d.B x = V at *
    have cx2 : (w.alloc (.cells #[.int .i64 0, .string ⟨#[]⟩] 48)).cell? ⟨b1, off + x, none⟩ = some (.string V) := by rw [B2.out.cell (strBlock cx)]; exact cx
    go_enter Tryd.func50, Tryd.ntmps50
    go_wp2
    go_ret
    exact ⟨by rw [HR.out]; rfl, B2.out⟩
  · have e3 : lastM d.A d.D d.nc (x : Int) = some (.agg #[.int .i64 (x : Int), .string (d.rd x)]) := e1
    rw [e3] at hl
    simp only [Option.getD_some, Option.isSome_some] at hl
    clear hm hB hc hq e1 e3
    generalize d.rd x = R at *
    have B2 : Hid (Below w.heap.size w (w.alloc (.cells #[.int .i64 (x : Int), .string R] 48))) := (Below.refl w.heap.size w).alloc (Nat.le_refl _) _
    go_enter Tryd.func50, Tryd.ntmps50
    go_wp2
    go_ret
    exact ⟨rfl, B2.out⟩
set_option maxRecDepth 100000 in
set_option maxHeartbeats 2000000 in
theorem read_yes (d : Dk) (a0 a1 a2 : Option Addr) (c0 c1 c2 q b x : Nat) (hx : x < d.nb) (hn : d.nb ≤ 64) (w : World) (hq : Box4 w q 86 (.slice a0 d.nb c0) (.slice a1 d.nc c1) (.slice a2 d.ns c2) (.map (some b))) (hm : MapI w b (lastM d.A d.D d.nc)) (hB : Strs w a0 d.nb d.B) :
    Calls Tryd.prog 55 #[.pointer (some ⟨q, 0, none⟩), .int .i64 (x : Int)] w fun e w' => e = .returned (.tuple #[.string (d.rd x), .nilIface]) ∧ Below w.heap.size w w' := by
  have PF : Hid (∀ w : World, Calls Tryd.prog 51 #[.agg #[.slice a0 d.nb c0, .slice a1 d.nc c1, .slice a2 d.ns c2], .int .i64 (x : Int), .string ⟨#[]⟩] w fun e w' => e = .returned .nilIface ∧ Below w.heap.size w w') := fun w => placeFault_ok _ _ _ _ _ _ _ _ _ _ _ (by omega) (by omega) (by decide) w
  have ST : Hid (∀ w' : World, Below w.heap.size w w' → Calls Tryd.prog 50 #[.pointer (some ⟨q, 0, none⟩), .int .i64 (x : Int)] w' fun e w'' => e = .returned (.string (d.rd x)) ∧ Below w'.heap.size w' w'') := fun w' hb => stands_any d a0 c0 q b x _ _ hx hn w' (hq.below hb) (hm.below hb) (hB.below hb)
  have k0 := hq.c0
  have k1 := hq.c1
  have k2 := hq.c2
  clear hm hB hq
  generalize d.rd x = R at *
  go_enter Tryd.func55, Tryd.ntmps55
  go_wp2_with fail
  refine (PF.out _).mono ?_
  rintro e w1 ⟨rfl, hb⟩
  have B1 : Hid (Below w.heap.size w w1) := hb
  clear hb PF k0 k1 k2
  go_wp2_with fail
  refine (ST.out _ B1.out).mono ?_
  rintro e w2 ⟨rfl, hb⟩
  have B2 : Hid (Below w.heap.size w w2) := B1.out.trans (hb.mono B1.out.size)
  clear hb ST B1
  go_wp2
  go_ret2
  exact ⟨rfl, B2.out⟩
set_option maxRecDepth 100000 in
set_option maxHeartbeats 2000000 in
theorem read_no (d : Dk) (a0 a1 a2 : Option Addr) (c0 c1 c2 q : Nat) (x : Int) (m : Value) (hx : ¬ (0 ≤ x ∧ x < d.nb)) (p : Addr) (w : World) (hp : ErrAt w 0 p) (hq : Box4 w q 86 (.slice a0 d.nb c0) (.slice a1 d.nc c1) (.slice a2 d.ns c2) m) :
    Calls Tryd.prog 55 #[.pointer (some ⟨q, 0, none⟩), .int .i64 x] w fun e w' => e = .returned (.tuple #[.string ⟨#[]⟩, .iface 170 (.pointer (some p))]) ∧ Below w.heap.size w w' := by
  have PF : Hid (∀ w : World, ErrAt w 0 p → Calls Tryd.prog 51 #[.agg #[.slice a0 d.nb c0, .slice a1 d.nc c1, .slice a2 d.ns c2], .int .i64 x, .string ⟨#[]⟩] w fun e w' => e = .returned (.iface 170 (.pointer (some p))) ∧ Below w.heap.size w w') := fun w h => placeFault_range _ _ _ _ _ _ _ _ _ _ _ hx p w h
  have HP : Hid (ErrAt w 0 p) := hp
  have k0 := hq.c0
  have k1 := hq.c1
  have k2 := hq.c2
  clear hq hp hx
  go_enter Tryd.func55, Tryd.ntmps55
  go_wp2_with fail
  refine (PF.out _ HP.out).mono ?_
  rintro e w1 ⟨rfl, hb⟩
  have B1 : Hid (Below w.heap.size w w1) := hb
  clear hb PF k0 k1 k2 HP
  go_wp2
  go_ret2
  exact ⟨rfl, B1.out⟩
end Go.Proofs.YtkhglllicblbbaaDoor
