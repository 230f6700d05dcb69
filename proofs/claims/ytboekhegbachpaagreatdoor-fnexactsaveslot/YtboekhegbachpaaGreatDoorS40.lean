/-
  Texts of the proof, joined: DiskOk, DiskOkI, Drive, DiskRd, SlotF.
-/
import Derived.Test.YtboekhegbachpaaGreatDoorS39
import Derived.Test.YtboekhegbachpaaGreatDoorS18
import Derived.Test.YtboekhegbachpaaGreatDoorS02
namespace Go.Proofs.YtboekhegbachpaaGreatDoor
open Go.ChangeShapes Go.WideShapes Go.ChangeAt Go.RowKit
set_option maxRecDepth 100000 in
theorem placeFault_ok (n m k : Nat) (a0 a1 a2 : Option Addr) (c0 c1 c2 : Nat) (x : Int) (s : ByteArray) (hx : 0 ≤ x) (hx' : x < n) (hs : s.size ≤ 200) (w : World) :
  Calls Tryz.prog 57 #[.agg #[.slice a0 n c0, .slice a1 m c1, .slice a2 k c2], .int .i64 x, .string s] w fun e w' => e = .returned .nilIface ∧ Below w.heap.size w w' := by
 have e1 : ¬ x < 0 := by omega
 have e2 : ¬ (n : Int) ≤ x := by omega
 have e3 : ¬ (200 : Int) < s.size := by omega
 go_enter Tryz.func57, Tryz.ntmps57
 go_wp2
 go_ret
 exact ⟨rfl, (Below.refl w.heap.size w).alloc (Nat.le_refl _) _⟩
set_option maxRecDepth 100000 in
theorem placeFault_range (n m k : Nat) (a0 a1 a2 : Option Addr) (c0 c1 c2 : Nat) (x : Int) (s : ByteArray) (hx : ¬ (0 ≤ x ∧ x < n)) (p : Addr) (w : World) (hp : ErrAt w 3 p) :
  Calls Tryz.prog 57 #[.agg #[.slice a0 n c0, .slice a1 m c1, .slice a2 k c2], .int .i64 x, .string s] w fun e w' => e = .returned (.iface 192 (.pointer (some p))) ∧ Below w.heap.size w w' := by
 have HB : Hid (Below w.heap.size w (w.alloc (.cells #[.slice a0 n c0, .slice a1 m c1, .slice a2 k c2] 29))) := (Below.refl w.heap.size w).alloc (Nat.le_refl _) _
 have hp1 : (w.alloc (.cells #[.slice a0 n c0, .slice a1 m c1, .slice a2 k c2] 29)).cell? ⟨3, 0, none⟩ = some (.iface 192 (.pointer (some p))) := hp.below HB.out
 by_cases e1 : x < 0
 ·go_enter Tryz.func57, Tryz.ntmps57
  go_wp2
  go_ret
  exact ⟨rfl, HB.out⟩
 ·have e2 : (n : Int) ≤ x := by omega
  go_enter Tryz.func57, Tryz.ntmps57
  go_wp2
  go_ret
  exact ⟨rfl, HB.out⟩
set_option maxRecDepth 100000 in
theorem placeFault_long (n m k : Nat) (a0 a1 a2 : Option Addr) (c0 c1 c2 : Nat) (x : Int) (s : ByteArray) (hx : 0 ≤ x) (hx' : x < n) (hs : 200 < s.size) (p : Addr) (w : World) (hp : ErrAt w 4 p) :
  Calls Tryz.prog 57 #[.agg #[.slice a0 n c0, .slice a1 m c1, .slice a2 k c2], .int .i64 x, .string s] w fun e w' => e = .returned (.iface 192 (.pointer (some p))) ∧ Below w.heap.size w w' := by
 have HB : Hid (Below w.heap.size w (w.alloc (.cells #[.slice a0 n c0, .slice a1 m c1, .slice a2 k c2] 29))) := (Below.refl w.heap.size w).alloc (Nat.le_refl _) _
 have hp1 : (w.alloc (.cells #[.slice a0 n c0, .slice a1 m c1, .slice a2 k c2] 29)).cell? ⟨4, 0, none⟩ = some (.iface 192 (.pointer (some p))) := hp.below HB.out
 have e1 : ¬ x < 0 := by omega
 have e2 : ¬ (n : Int) ≤ x := by omega
 have e3 : (200 : Int) < s.size := by omega
 go_enter Tryz.func57, Tryz.ntmps57
 go_wp2
 go_ret
 exact ⟨rfl, HB.out⟩
set_option maxRecDepth 100000 in
set_option maxHeartbeats 1000000 in
theorem blocksFit_any (a : Option Addr) (n c : Nat) (f : Nat → ByteArray) (r : Bool) (hr : r = true ↔ ∀ i, i < n → (f i).size ≤ 200) (hn : n ≤ 4096) (w : World) (h : Strs w a n f) :
  Calls Tryz.prog 66 #[.slice a n c] w fun e w' => e = .returned (.bool r) ∧ w = w' := by
 have HS : Hid (Strs w a n f) := h
 have HR : Hid (r = true ↔ ∀ i, i < n → (f i).size ≤ 200) := hr
 clear h hr
 go_enter Tryz.func66, Tryz.ntmps66
 go_wp2
 go_loopw [7] (fun i wr => ∃ k : Nat, k ≤ n ∧ i = .int .i64 k ∧ (∀ j, j < k → (f j).size ≤ 200) ∧ w = wr) (fun i _ => n - (intOf i).toNat)
 case atStart => exact ⟨0, by omega, rfl, fun j hj => absurd hj (by omega), rfl⟩
 case round =>
  obtain ⟨k, hk, rfl, hall, rfl⟩ := hrel
  have HL : Hid (∀ j, j < k → (f j).size ≤ 200) := hall
  clear hall
  by_cases hlt : k < n
  ·obtain ⟨b, off, rfl, hc⟩ := HS.out.opened (by omega)
   have c1 := hc k hlt
   have hlt' : (k : Int) < (n : Int) := by omega
   clear hc
   by_cases hs : 200 < (f k).size
   ·obtain rfl : r = false := by
     rcases Bool.eq_false_or_eq_true r with h | h
     ·have := HR.out.1 h k hlt; omega
     ·exact h
    have hs' : (200 : Int) < ((f k).size : Int) := by omega
    generalize f k = V at *
    go_wp2
    go_ret
    exact ⟨rfl, rfl⟩
   ·have hs' : ¬ (200 : Int) < ((f k).size : Int) := by omega
    have HS2 : Hid ((f k).size ≤ 200) := by show (f k).size ≤ 200; omega
    clear hs
    go_wp2
    go_roundw
    case rel => exact ⟨k + 1, by omega, by go_num, fun j hj => by
     rcases (show j < k ∨ j = k by omega) with g | rfl
     ·exact HL.out j g
     ·exact HS2.out, trivial⟩
    case measure => simp [intOf]; omega
  ·obtain rfl : r = true := HR.out.2 (fun i hi => HL.out i (by omega))
   have hlt' : ¬ (k : Int) < (n : Int) := by omega
   go_wp2
   go_ret
   exact ⟨rfl, rfl⟩
set_option maxRecDepth 100000 in
set_option maxHeartbeats 4000000 in
theorem specOK_any (d : Dk) (a0 a1 a2 : Option Addr) (c0 c1 c2 : Nat) (hd : d.nb ≤ 1048576 ∧ d.nc ≤ 1048576 ∧ d.ns ≤ 1048576) (w : World) (h : DiskV w d a0 a1 a2) :
  Calls Tryz.prog 46 #[.agg #[.slice a0 d.nb c0, .slice a1 d.nc c1, .slice a2 d.ns c2]] w fun e w' => e = .returned (.bool d.ok) ∧ Below w.heap.size w w' := by
 obtain ⟨hd0, hd1, hd2⟩ := hd
 have A1 : Hid (Below w.heap.size w (w.alloc (.cells #[.slice a0 d.nb c0, .slice a1 d.nc c1, .slice a2 d.ns c2] 29))) := (Below.refl w.heap.size w).alloc (Nat.le_refl _) _
 have RA : Hid (Box3 (w.alloc (.cells #[.slice a0 d.nb c0, .slice a1 d.nc c1, .slice a2 d.ns c2] 29)) w.heap.size 29 (.slice a0 d.nb c0) (.slice a1 d.nc c1) (.slice a2 d.ns c2)) := Box3.made w _ _ _ _
 obtain ⟨r, hr⟩ : ∃ r, r = d.ok := ⟨_, rfl⟩
 rw [← hr]
 have RT : Hid (d.Ok → r = true) := fun q => by rw [hr]; exact Dk.ok_true q
 have RF : Hid (¬ d.Ok → r = false) := fun q => by rw [hr]; exact Dk.ok_false q
 have HD : Hid (DiskV (w.alloc (.cells #[.slice a0 d.nb c0, .slice a1 d.nc c1, .slice a2 d.ns c2] 29)) d a0 a1 a2) := h.below A1.out
 clear h hr
 by_cases p1 : 1 ≤ d.nb ∧ d.nb ≤ 64
 ·obtain ⟨p1a, p1b⟩ := p1
  have IN1 : Hid (∀ w : World, Calls Tryz.prog 50 #[.int .i64 (d.nb : Int), .int .i64 1, .int .i64 64] w fun e w' => e = .returned (.bool true) ∧ w = w') := fun w => in_any _ _ _ true (by simp; omega) w
  go_enter Tryz.func46, Tryz.ntmps46
  go_wp2_with fail
  refine (IN1.out _).mono ?_
  rintro e w1 ⟨rfl, rfl⟩
  clear IN1
  by_cases p2 : d.nc ≤ 4096
  ·have e2 : ¬ (4096 : Int) < d.nc := by omega
   by_cases p3 : d.ns = 0 ∨ d.ns = d.nb
   ·have OK0 : Hid ((∀ i, i < d.nb → (d.B i).size ≤ 200) → (∀ i, i < d.ns → (d.S i).size ≤ 200) → (∀ i, i < d.nc → (0 ≤ d.A i ∧ d.A i < d.nb) ∧ (d.D i).size ≤ 200) → d.Ok) := fun q1 q2 q3 => ⟨p1a, p1b, p2, p3, q1, q3, q2⟩
    have e3 : ((d.ns : Int) != 0) = true ∧ ((d.ns : Int) != (d.nb : Int)) = false ∨ ((d.ns : Int) != 0) = false := by
     rcases p3 with e | e
     ·right; simp; omega
     ·by_cases g : d.ns = 0
      ·right; simp; omega
      ·left; simp; omega
    have hns : d.ns ≤ 64 := by omega
    clear p3
    have k0 := RA.out.c0
    have k1 := RA.out.c1
    have k2 := RA.out.c2
    generalize (w.alloc (.cells #[.slice a0 d.nb c0, .slice a1 d.nc c1, .slice a2 d.ns c2] 29)) = v at *
    clear RA
    rcases e3 with ⟨e3, e4⟩ | e3
    all_goals
     go_wp2
     go_loopw [3] (fun i wr => ∃ k : Nat, k ≤ d.nb ∧ i = .int .i64 k ∧ (∀ j, j < k → (d.B j).size ≤ 200) ∧ v = wr) (fun i _ => d.nb - (intOf i).toNat)
     case atStart => exact ⟨0, by omega, rfl, fun j hj => absurd hj (by omega), rfl⟩
     case round =>
      obtain ⟨k, hk, rfl, hall, rfl⟩ := hrel
      have HL : Hid (∀ j, j < k → (d.B j).size ≤ 200) := hall
      clear hall
      by_cases hlt : k < d.nb
      ·obtain ⟨b, off, rfl, hc⟩ := HD.out.1.opened (by omega)
       have cc := hc k hlt
       have hlt' : (k : Int) < (d.nb : Int) := by omega
       clear hc
       by_cases hs : 200 < (d.B k).size
       ·obtain rfl : r = false := RF.out (fun q => by have := q.B k hlt; omega)
        have hs' : (200 : Int) < ((d.B k).size : Int) := by omega
        generalize d.B k = V at *
        go_wp2
        go_ret
        exact ⟨rfl, A1.out⟩
       ·have hs' : ¬ (200 : Int) < ((d.B k).size : Int) := by omega
        have HS2 : Hid ((d.B k).size ≤ 200) := by show (d.B k).size ≤ 200; omega
        clear hs
        go_wp2
        go_roundw
        case rel => exact ⟨k + 1, by omega, by go_num, fun j hj => by
         rcases (show j < k ∨ j = k by omega) with g | rfl
         ·exact HL.out j g
         ·exact HS2.out, trivial⟩
        case measure => simp [intOf]; omega
      ·have hlt' : ¬ (k : Int) < (d.nb : Int) := by omega
       have OK1 : Hid ((∀ i, i < d.ns → (d.S i).size ≤ 200) → (∀ i, i < d.nc → (0 ≤ d.A i ∧ d.A i < d.nb) ∧ (d.D i).size ≤ 200) → d.Ok) := OK0.out (fun i hi => HL.out i (by omega))
       clear HL OK0
       go_wp2
       go_loopw [4] (fun i wr => ∃ k : Nat, k ≤ d.ns ∧ i = .int .i64 k ∧ (∀ j, j < k → (d.S j).size ≤ 200) ∧ v = wr) (fun i _ => d.ns - (intOf i).toNat)
       case atStart => exact ⟨0, by omega, rfl, fun j hj => absurd hj (by omega), rfl⟩
       case round =>
        obtain ⟨k, hk, rfl, hall, rfl⟩ := hrel
        have HL : Hid (∀ j, j < k → (d.S j).size ≤ 200) := hall
        clear hall
        by_cases hlt : k < d.ns
        ·obtain ⟨b, off, rfl, hc⟩ := HD.out.2.2.opened (by omega)
         have cc := hc k hlt
         have hlt' : (k : Int) < (d.ns : Int) := by omega
         clear hc
         by_cases hs : 200 < (d.S k).size
         ·obtain rfl : r = false := RF.out (fun q => by have := q.S k hlt; omega)
          have hs' : (200 : Int) < ((d.S k).size : Int) := by omega
          generalize d.S k = V at *
          go_wp2
          go_ret
          exact ⟨rfl, A1.out⟩
         ·have hs' : ¬ (200 : Int) < ((d.S k).size : Int) := by omega
          have HS2 : Hid ((d.S k).size ≤ 200) := by show (d.S k).size ≤ 200; omega
          clear hs
          go_wp2
          go_roundw
          case rel => exact ⟨k + 1, by omega, by go_num, fun j hj => by
           rcases (show j < k ∨ j = k by omega) with g | rfl
           ·exact HL.out j g
           ·exact HS2.out, trivial⟩
          case measure => simp [intOf]; omega
        ·have hlt' : ¬ (k : Int) < (d.ns : Int) := by omega
         have OK2 : Hid ((∀ i, i < d.nc → (0 ≤ d.A i ∧ d.A i < d.nb) ∧ (d.D i).size ≤ 200) → d.Ok) := OK1.out (fun i hi => HL.out i (by omega))
         clear HL OK1
         go_wp2
         go_loopw [5] (fun i wr => ∃ k q : Nat, k ≤ d.nc ∧ i = .int .i64 k ∧ (∀ j, j < k → (0 ≤ d.A j ∧ d.A j < d.nb) ∧ (d.D j).size ≤ 200) ∧ wr = v.drewN q) (fun i _ => d.nc - (intOf i).toNat)
         case atStart => exact ⟨0, 0, by omega, rfl, fun j hj => absurd hj (by omega), rfl⟩
         case round =>
          obtain ⟨k, q, hk, rfl, hall, rfl⟩ := hrel
          have HL : Hid (∀ j, j < k → (0 ≤ d.A j ∧ d.A j < d.nb) ∧ (d.D j).size ≤ 200) := hall
          clear hall
          by_cases hlt : k < d.nc
          ·obtain ⟨b, off, rfl, hc⟩ := HD.out.2.1.opened (by omega)
           obtain ⟨cc, cd⟩ := hc k hlt
           have hlt' : (k : Int) < (d.nc : Int) := by omega
           clear hc
           by_cases g : 0 ≤ d.A k ∧ d.A k < d.nb
           ·have IN2 : Hid (∀ w : World, Calls Tryz.prog 50 #[.int .i64 (d.A k), .int .i64 0, .int .i64 ((d.nb : Int) - 1)] w fun e w' => e = .returned (.bool true) ∧ w = w') := fun w => in_any _ _ _ true (by simp; omega) w
            by_cases hs : 200 < (d.D k).size
            ·obtain rfl : r = false := RF.out (fun q => by have := (q.C k hlt).2; omega)
             have hs' : (200 : Int) < ((d.D k).size : Int) := by omega
             have HG : Hid (0 ≤ d.A k ∧ d.A k < d.nb) := g
             clear g
             go_wp2_with fail
             go_quiet (exact ((IN2.out _).mono fun _ _ h => ⟨h.1, _, h.2.symm⟩))
             go_wp2
             go_ret
             exact ⟨rfl, ⟨A1.out.os, A1.out.tape, A1.out.output, A1.out.size, A1.out.block⟩⟩
            ·have hs' : ¬ (200 : Int) < ((d.D k).size : Int) := by omega
             have HG : Hid ((0 ≤ d.A k ∧ d.A k < d.nb) ∧ (d.D k).size ≤ 200) := ⟨g, by omega⟩
             clear g
             go_wp2_with fail
             go_quiet (exact ((IN2.out _).mono fun _ _ h => ⟨h.1, _, h.2.symm⟩))
             go_wp2
             go_roundw
             case rel => exact ⟨k + 1, _, by omega, by go_num, fun j hj => by
              rcases (show j < k ∨ j = k by omega) with g | rfl
              ·exact HL.out j g
              ·exact HG.out, by first | rfl | rw [World.drewN_drewN]⟩
             case measure => simp [intOf]; omega
           ·have IN2 : Hid (∀ w : World, Calls Tryz.prog 50 #[.int .i64 (d.A k), .int .i64 0, .int .i64 ((d.nb : Int) - 1)] w fun e w' => e = .returned (.bool false) ∧ w = w') := fun w => in_any _ _ _ false (by simp; omega) w
            obtain rfl : r = false := RF.out (fun q => g (q.C k hlt).1)
            clear g
            go_wp2_with fail
            go_quiet (exact ((IN2.out _).mono fun _ _ h => ⟨h.1, _, h.2.symm⟩))
            go_wp2
            go_ret
            exact ⟨rfl, ⟨A1.out.os, A1.out.tape, A1.out.output, A1.out.size, A1.out.block⟩⟩
          ·have hlt' : ¬ (k : Int) < (d.nc : Int) := by omega
           obtain rfl : r = true := RT.out (OK2.out (fun i hi => HL.out i (by omega)))
           go_wp2
           go_ret
           exact ⟨rfl, ⟨A1.out.os, A1.out.tape, A1.out.output, A1.out.size, A1.out.block⟩⟩
   ·obtain rfl : r = false := RF.out (fun q => p3 q.ns)
    have e3 : ((d.ns : Int) != 0) = true := by simp; omega
    have e4 : ((d.ns : Int) != (d.nb : Int)) = true := by simp; omega
    go_wp2
    go_ret
    exact ⟨rfl, A1.out⟩
  ·have e2 : (4096 : Int) < d.nc := by omega
   obtain rfl : r = false := RF.out (fun q => p2 q.nc)
   go_wp2
   go_ret
   exact ⟨rfl, A1.out⟩
 ·have IN1 : Hid (∀ w : World, Calls Tryz.prog 50 #[.int .i64 (d.nb : Int), .int .i64 1, .int .i64 64] w fun e w' => e = .returned (.bool false) ∧ w = w') := fun w => in_any _ _ _ false (by simp; omega) w
  obtain rfl : r = false := RF.out (fun q => p1 ⟨q.nb1, q.nb2⟩)
  go_enter Tryz.func46, Tryz.ntmps46
  go_wp2_with fail
  refine (IN1.out _).mono ?_
  rintro e w1 ⟨rfl, rfl⟩
  go_wp2
  go_ret
  exact ⟨rfl, A1.out⟩
end Go.Proofs.YtboekhegbachpaaGreatDoor
namespace Go.Proofs.YtboekhegbachpaaGreatDoor
open Go.ChangeShapes Go.WideShapes Go.ChangeAt Go.RowKit
set_option maxRecDepth 100000 in
set_option maxHeartbeats 4000000 in
theorem implOK_any (d : Dk) (a0 a1 a2 : Option Addr) (c0 c1 c2 : Nat) (hd : d.nb ≤ 1048576 ∧ d.nc ≤ 1048576 ∧ d.ns ≤ 1048576) (p0 p1 : Addr) (w : World) (h : DiskV w d a0 a1 a2) (hE0 : ErrAt w 3 p0) (hE1 : ErrAt w 4 p1) :
  Calls Tryz.prog 53 #[.agg #[.slice a0 d.nb c0, .slice a1 d.nc c1, .slice a2 d.ns c2]] w fun e w' => e = .returned (.bool d.ok) ∧ Below w.heap.size w w' := by
 obtain ⟨hd0, hd1, hd2⟩ := hd
 have A1 : Hid (Below w.heap.size w (w.alloc (.cells #[.slice a0 d.nb c0, .slice a1 d.nc c1, .slice a2 d.ns c2] 29))) := (Below.refl w.heap.size w).alloc (Nat.le_refl _) _
 have RA : Hid (Box3 (w.alloc (.cells #[.slice a0 d.nb c0, .slice a1 d.nc c1, .slice a2 d.ns c2] 29)) w.heap.size 29 (.slice a0 d.nb c0) (.slice a1 d.nc c1) (.slice a2 d.ns c2)) := Box3.made w _ _ _ _
 obtain ⟨r, hr⟩ : ∃ r, r = d.ok := ⟨_, rfl⟩
 rw [← hr]
 have RT : Hid (d.Ok → r = true) := fun q => by rw [hr]; exact Dk.ok_true q
 have RF : Hid (¬ d.Ok → r = false) := fun q => by rw [hr]; exact Dk.ok_false q
 have HD : Hid (DiskV w d a0 a1 a2) := h
 have E0 : Hid (ErrAt w 3 p0) := hE0
 have E1 : Hid (ErrAt w 4 p1) := hE1
 clear h hr hE0 hE1
 by_cases p1' : 1 ≤ d.nb ∧ d.nb ≤ 64 ∧ d.nc ≤ 4096
 ·obtain ⟨p1a, p1b, p2⟩ := p1'
  have x1 : ¬ (d.nb : Int) < 1 := by omega
  have x2 : ¬ (64 : Int) < d.nb := by omega
  have e2 : ¬ (4096 : Int) < d.nc := by omega
  by_cases p3 : d.ns = 0 ∨ d.ns = d.nb
  ·have OK0 : Hid ((∀ i, i < d.nb → (d.B i).size ≤ 200) → (∀ i, i < d.ns → (d.S i).size ≤ 200) → (∀ i, i < d.nc → (0 ≤ d.A i ∧ d.A i < d.nb) ∧ (d.D i).size ≤ 200) → d.Ok) := fun q1 q2 q3 => ⟨p1a, p1b, p2, p3, q1, q3, q2⟩
   have e3 : ((d.ns : Int) != 0) = true ∧ ((d.ns : Int) != (d.nb : Int)) = false ∨ ((d.ns : Int) != 0) = false := by
    rcases p3 with e | e
    ·right; simp; omega
    ·by_cases g : d.ns = 0
     ·right; simp; omega
     ·left; simp; omega
   have hns : d.ns ≤ 64 := by omega
   clear p3
   go_enter Tryz.func53, Tryz.ntmps53
   rcases e3 with ⟨e3, e4⟩ | e3
   all_goals
    go_wp2
    generalize (w.alloc (.cells #[.slice a0 d.nb c0, .slice a1 d.nc c1, .slice a2 d.ns c2] 29)) = v at *
    go_loopw [37] (fun i wr => ∃ k : Nat, k ≤ d.nc ∧ i = .int .i64 k ∧ (∀ j, j < k → (0 ≤ d.A j ∧ d.A j < d.nb) ∧ (d.D j).size ≤ 200) ∧ Box3 wr w.heap.size 29 (.slice a0 d.nb c0) (.slice a1 d.nc c1) (.slice a2 d.ns c2) ∧ Below w.heap.size w wr) (fun i _ => d.nc - (intOf i).toNat)
    case atStart => exact ⟨0, by omega, rfl, fun j hj => absurd hj (by omega), RA.out, A1.out⟩
    case round =>
     clear RA A1
     obtain ⟨k, hk, rfl, hall, hbox, hb⟩ := hrel
     have HL : Hid (∀ j, j < k → (0 ≤ d.A j ∧ d.A j < d.nb) ∧ (d.D j).size ≤ 200) := hall
     have RA : Hid (Box3 wr w.heap.size 29 (.slice a0 d.nb c0) (.slice a1 d.nc c1) (.slice a2 d.ns c2)) := hbox
     have A1 : Hid (Below w.heap.size w wr) := hb
     have k0 := RA.out.c0
     have k1 := RA.out.c1
     have k2 := RA.out.c2
     clear hall hbox
     by_cases hlt : k < d.nc
     ·obtain ⟨b, off, rfl, hc⟩ := (HD.out.2.1.below hb).opened (by omega)
      obtain ⟨cc, cd⟩ := hc k hlt
      have hlt' : (k : Int) < (d.nc : Int) := by omega
      have hsz := hb.size
      have hkl := RA.out.lt
      clear hc hb
      have B2 : Hid (Below wr.heap.size wr (wr.alloc (.cells #[.int .i64 (d.A k), .string (d.D k)] 68))) := (Below.refl wr.heap.size wr).alloc (Nat.le_refl _) _
      by_cases g : 0 ≤ d.A k ∧ d.A k < d.nb
      ·by_cases hs : 200 < (d.D k).size
       ·have PF : Hid (∀ w : World, ErrAt w 4 p1 → Calls Tryz.prog 57 #[.agg #[.slice a0 d.nb c0, .slice (some ⟨b, off, none⟩) d.nc c1, .slice a2 d.ns c2], .int .i64 (d.A k), .string (d.D k)] w fun e w' => e = .returned (.iface 192 (.pointer (some p1))) ∧ Below w.heap.size w w') := fun w he => placeFault_long _ _ _ _ _ _ _ _ _ _ _ g.1 g.2 hs p1 w he
        obtain rfl : r = false := RF.out (fun q => by have := (q.C k hlt).2; omega)
        clear g hs
        go_wp2_with fail
        refine (PF.out _ ((E1.out.below A1.out).below B2.out)).mono ?_
        rintro e w1 ⟨rfl, hb⟩
        have B3 : Hid (Below w.heap.size w w1) := A1.out.trans ((B2.out.trans (hb.mono B2.out.size)).mono A1.out.size)
        clear hb B2 A1 RA k0 k1 k2 cc cd PF
        go_wp2
        go_ret
        exact ⟨rfl, B3.out⟩
       ·have PF : Hid (∀ w : World, Calls Tryz.prog 57 #[.agg #[.slice a0 d.nb c0, .slice (some ⟨b, off, none⟩) d.nc c1, .slice a2 d.ns c2], .int .i64 (d.A k), .string (d.D k)] w fun e w' => e = .returned .nilIface ∧ Below w.heap.size w w') := fun w => placeFault_ok _ _ _ _ _ _ _ _ _ _ _ g.1 g.2 (by omega) w
        have HG : Hid ((0 ≤ d.A k ∧ d.A k < d.nb) ∧ (d.D k).size ≤ 200) := ⟨g, by omega⟩
        clear g hs
        go_wp2_with fail
        refine (PF.out _).mono ?_
        rintro e w1 ⟨rfl, hb⟩
        have B3 : Hid (Below w.heap.size w w1) := A1.out.trans ((B2.out.trans (hb.mono B2.out.size)).mono A1.out.size)
        have R3 : Hid (Box3 w1 w.heap.size 29 (.slice a0 d.nb c0) (.slice (some ⟨b, off, none⟩) d.nc c1) (.slice a2 d.ns c2)) := (RA.out.below B2.out).below hb
        clear hb B2 A1 RA k0 k1 k2 cc cd PF
        go_wp2
        go_roundw
        case rel => exact ⟨k + 1, by omega, by go_num, fun j hj => by
         rcases (show j < k ∨ j = k by omega) with g | rfl
         ·exact HL.out j g
         ·exact HG.out, R3.out, B3.out⟩
        case measure => simp [intOf]; omega
      ·have PF : Hid (∀ w : World, ErrAt w 3 p0 → Calls Tryz.prog 57 #[.agg #[.slice a0 d.nb c0, .slice (some ⟨b, off, none⟩) d.nc c1, .slice a2 d.ns c2], .int .i64 (d.A k), .string (d.D k)] w fun e w' => e = .returned (.iface 192 (.pointer (some p0))) ∧ Below w.heap.size w w') := fun w he => placeFault_range _ _ _ _ _ _ _ _ _ _ _ g p0 w he
       obtain rfl : r = false := RF.out (fun q => g (q.C k hlt).1)
       clear g
       go_wp2_with fail
       refine (PF.out _ ((E0.out.below A1.out).below B2.out)).mono ?_
       rintro e w1 ⟨rfl, hb⟩
       have B3 : Hid (Below w.heap.size w w1) := A1.out.trans ((B2.out.trans (hb.mono B2.out.size)).mono A1.out.size)
       clear hb B2 A1 RA k0 k1 k2 cc cd PF
       go_wp2
       go_ret
       exact ⟨rfl, B3.out⟩
     ·have hlt' : ¬ (k : Int) < (d.nc : Int) := by omega
      have OK2 : Hid ((∀ i, i < d.nb → (d.B i).size ≤ 200) → (∀ i, i < d.ns → (d.S i).size ≤ 200) → d.Ok) := fun q1 q2 => OK0.out q1 q2 (fun i hi => HL.out i (by omega))
      by_cases g : ∀ i, i < d.nb → (d.B i).size ≤ 200
      ·have F1 : Hid (∀ w : World, Strs w a0 d.nb d.B → Calls Tryz.prog 66 #[.slice a0 d.nb c0] w fun e w' => e = .returned (.bool true) ∧ w = w') := fun w h => blocksFit_any a0 d.nb c0 d.B true ⟨fun _ => g, fun _ => rfl⟩ (by omega) w h
       have HG : Hid (∀ i, i < d.nb → (d.B i).size ≤ 200) := g
       have F2 : Hid (∀ w : World, Strs w a2 d.ns d.S → Calls Tryz.prog 66 #[.slice a2 d.ns c2] w fun e w' => e = .returned (.bool r) ∧ w = w') := fun w h => blocksFit_any a2 d.ns c2 d.S r ⟨fun hr i hi => (Classical.em d.Ok).elim (fun q => q.S i hi) (fun q => absurd (hr.symm.trans (RF.out q)) (by decide)), fun q2 => RT.out (OK2.out HG.out q2)⟩ (by omega) w h
       clear g hb HL OK2
       go_wp2_with fail
       refine (F1.out _ (HD.out.1.below A1.out)).mono ?_
       rintro e w1 ⟨rfl, rfl⟩
       clear F1
       go_wp2_with fail
       refine (F2.out _ (HD.out.2.2.below A1.out)).mono ?_
       rintro e w1 ⟨rfl, rfl⟩
       clear F2 RT RF
       go_wp2
       go_ret
       exact ⟨by cases r <;> rfl, A1.out⟩
      ·have F1 : Hid (∀ w : World, Strs w a0 d.nb d.B → Calls Tryz.prog 66 #[.slice a0 d.nb c0] w fun e w' => e = .returned (.bool false) ∧ w = w') := fun w h => blocksFit_any a0 d.nb c0 d.B false ⟨fun h => by (cases h), fun h => absurd h g⟩ (by omega) w h
       obtain rfl : r = false := RF.out (fun q => g q.B)
       clear g hb HL OK2
       go_wp2_with fail
       refine (F1.out _ (HD.out.1.below A1.out)).mono ?_
       rintro e w1 ⟨rfl, rfl⟩
       clear F1
       go_wp2
       go_ret
       exact ⟨rfl, A1.out⟩
  ·obtain rfl : r = false := RF.out (fun q => p3 q.ns)
   have e3 : ((d.ns : Int) != 0) = true := by simp; omega
   have e4 : ((d.ns : Int) != (d.nb : Int)) = true := by simp; omega
   go_enter Tryz.func53, Tryz.ntmps53
   go_wp2
   go_ret
   exact ⟨rfl, A1.out⟩
 ·obtain rfl : r = false := RF.out (fun q => p1' ⟨q.nb1, q.nb2, q.nc⟩)
  by_cases x1 : (d.nb : Int) < 1
  ·go_enter Tryz.func53, Tryz.ntmps53
   go_wp2
   go_ret
   exact ⟨rfl, A1.out⟩
  ·by_cases x2 : (64 : Int) < d.nb
   ·go_enter Tryz.func53, Tryz.ntmps53
    go_wp2
    go_ret
    exact ⟨rfl, A1.out⟩
   ·have x3 : (4096 : Int) < d.nc := by omega
    go_enter Tryz.func53, Tryz.ntmps53
    go_wp2
    go_ret
    exact ⟨rfl, A1.out⟩
end Go.Proofs.YtboekhegbachpaaGreatDoor
namespace Go.Proofs.YtboekhegbachpaaGreatDoor
open Go.ChangeShapes Go.WideShapes Go.ChangeAt Go.RowKit
theorem zeroPen (w : World) : (zeroValue 68).run Tryz.prog w = .ok (.agg #[.int .i64 0, .string ⟨#[]⟩]) w := by kernel_rfl
set_option maxRecDepth 100000 in
set_option maxHeartbeats 2000000 in
theorem driveOf_any (d : Dk) (a0 a1 a2 : Option Addr) (c0 c1 c2 : Nat) (hn : d.nc ≤ 4096) (w : World) (h : Pens w a1 d.nc d.A d.D) :
  Calls Tryz.prog 19 #[.agg #[.slice a0 d.nb c0, .slice a1 d.nc c1, .slice a2 d.ns c2]] w fun e w' => e = .returned (.pointer (some ⟨w.heap.size + 2, 0, none⟩)) ∧ Box4 w' (w.heap.size + 2) 55 (.slice a0 d.nb c0) (.slice a1 d.nc c1) (.slice a2 d.ns c2) (.map (some (w.heap.size + 1))) ∧ MapI w' (w.heap.size + 1) (lastM d.A d.D d.nc) ∧ Below w.heap.size w w' := by
 have HP : Hid (Pens w a1 d.nc d.A d.D) := h
 clear h
 have hmk : ∀ w : World, (Instr.makeMap 53 none).run Tryz.prog w = .ok (.map (some w.heap.size)) (w.alloc (.map #[] 0)) := fun w => run_makeMap 53 w
 go_enter Tryz.func19, Tryz.ntmps19
 have B0 : Hid (Below w.heap.size w (((w.alloc (.cells #[.slice a0 d.nb c0, .slice a1 d.nc c1, .slice a2 d.ns c2] 29)).alloc (.map #[] 0)).alloc (.cells #[.slice a0 d.nb c0, .slice a1 d.nc c1, .slice a2 d.ns c2, .map (some (w.heap.size + 1))] 55))) := (((Below.refl w.heap.size w).alloc (Nat.le_refl _) _).alloc (by simp) _).alloc (by simp; omega) _
 have X0 : Hid (Box4 (((w.alloc (.cells #[.slice a0 d.nb c0, .slice a1 d.nc c1, .slice a2 d.ns c2] 29)).alloc (.map #[] 0)).alloc (.cells #[.slice a0 d.nb c0, .slice a1 d.nc c1, .slice a2 d.ns c2, .map (some (w.heap.size + 1))] 55)) (w.heap.size + 1 + 1) 55 (.slice a0 d.nb c0) (.slice a1 d.nc c1) (.slice a2 d.ns c2) (.map (some (w.heap.size + 1)))) := Box4.madeAt (by simp) _ _ _ _ _
 have M0 : Hid (MapI (((w.alloc (.cells #[.slice a0 d.nb c0, .slice a1 d.nc c1, .slice a2 d.ns c2] 29)).alloc (.map #[] 0)).alloc (.cells #[.slice a0 d.nb c0, .slice a1 d.nc c1, .slice a2 d.ns c2, .map (some (w.heap.size + 1))] 55)) (w.heap.size + 1) (lastM d.A d.D 0)) := by
  have := MapI.made (w.alloc (.cells #[.slice a0 d.nb c0, .slice a1 d.nc c1, .slice a2 d.ns c2] 29))
  rw [show (w.alloc (.cells #[.slice a0 d.nb c0, .slice a1 d.nc c1, .slice a2 d.ns c2] 29)).heap.size = w.heap.size + 1 from by simp] at this
  exact this.below ((Below.refl _ _).alloc (Nat.le_refl _) _)
 go_wp2
 generalize (((w.alloc (.cells #[.slice a0 d.nb c0, .slice a1 d.nc c1, .slice a2 d.ns c2] 29)).alloc (.map #[] 0)).alloc (.cells #[.slice a0 d.nb c0, .slice a1 d.nc c1, .slice a2 d.ns c2, .map (some (w.heap.size + 1))] 55)) = v at *
 clear hmk
 go_loopw [13] (fun i wr => ∃ k : Nat, k ≤ d.nc ∧ i = .int .i64 k ∧ Box4 wr (w.heap.size + 1 + 1) 55 (.slice a0 d.nb c0) (.slice a1 d.nc c1) (.slice a2 d.ns c2) (.map (some (w.heap.size + 1))) ∧ MapI wr (w.heap.size + 1) (lastM d.A d.D k) ∧ Below w.heap.size w wr) (fun i _ => d.nc - (intOf i).toNat)
 case atStart => exact ⟨0, by omega, rfl, X0.out, M0.out, B0.out⟩
 case round =>
  clear B0 X0 M0
  obtain ⟨k, hk, rfl, hx, hm, hb⟩ := hrel
  have B0 : Hid (Below w.heap.size w wr) := hb
  have X0 : Hid (Box4 wr (w.heap.size + 1 + 1) 55 (.slice a0 d.nb c0) (.slice a1 d.nc c1) (.slice a2 d.ns c2) (.map (some (w.heap.size + 1)))) := hx
  have M0 : Hid (MapI wr (w.heap.size + 1) (lastM d.A d.D k)) := hm
  clear hx hm
  by_cases hlt : k < d.nc
  ·obtain ⟨b, off, rfl, hc⟩ := (HP.out.below hb).opened (by omega)
   obtain ⟨cc, cd⟩ := hc k hlt
   have hlt' : (k : Int) < (d.nc : Int) := by omega
   have hq := X0.out.lt
   have B2 : Below wr.heap.size wr (wr.alloc (.cells #[.int .i64 (d.A k), .string (d.D k)] 68)) := (Below.refl wr.heap.size wr).alloc (Nat.le_refl _) _
   have X1 : Box4 (wr.alloc (.cells #[.int .i64 (d.A k), .string (d.D k)] 68)) (w.heap.size + 1 + 1) 55 (.slice a0 d.nb c0) (.slice (some ⟨b, off, none⟩) d.nc c1) (.slice a2 d.ns c2) (.map (some (w.heap.size + 1))) := X0.out.below B2
   have e3 := X1.c3
   obtain ⟨wz, hmu, hM, hO, hsz⟩ := MapI.put (P := Tryz.prog) (w := (wr.alloc (.cells #[.int .i64 (d.A k), .string (d.D k)] 68)).drew) (M0.out.below B2.drew) Tryz.underlying53 Tryz.underlying3 (d.A k) (.agg #[.int .i64 (d.A k), .string (d.D k)])
   have HM : Hid (MapI wz (w.heap.size + 1) (lastM d.A d.D (k + 1))) := hM
   have HO : Hid (OnlyB (w.heap.size + 1) (wr.alloc (.cells #[.int .i64 (d.A k), .string (d.D k)] 68)).drew wz) := hO
   have HX : Hid (Box4 wz (w.heap.size + 1 + 1) 55 (.slice a0 d.nb c0) (.slice (some ⟨b, off, none⟩) d.nc c1) (.slice a2 d.ns c2) (.map (some (w.heap.size + 1)))) := Box4.onlyB (X0.out.below B2.drew) hO (by omega)
   have HB : Hid (Below w.heap.size w wz) := B0.out.trans ((B2.drew.mono B0.out.size).trans (hO.toBelow (by omega) (by have := B0.out.size; have := B2.drew.size; omega)))
   clear hM hO hsz hc hb B2 X1
   go_wp2_with fail
   go_region
   clear hmu e3 cc cd
   go_wp2
   go_roundw
   case rel => exact ⟨k + 1, by omega, by go_num, HX.out, HM.out, HB.out⟩
   case measure => simp [intOf]; omega
  ·have hlt' : ¬ (k : Int) < (d.nc : Int) := by omega
   obtain rfl : k = d.nc := by omega
   clear hb
   go_wp2
   go_ret
   exact ⟨rfl, X0.out, M0.out, B0.out⟩
set_option maxRecDepth 100000 in
set_option maxHeartbeats 2000000 in
theorem stands_any (d : Dk) (a0 : Option Addr) (c0 q b x : Nat) (y z : Value) (hx : x < d.nb) (hn : d.nb ≤ 64) (w : World) (hq : Box4 w q 55 (.slice a0 d.nb c0) y z (.map (some b))) (hm : MapI w b (lastM d.A d.D d.nc)) (hB : Strs w a0 d.nb d.B) :
  Calls Tryz.prog 55 #[.pointer (some ⟨q, 0, none⟩), .int .i64 (x : Int)] w fun e w' => e = .returned (.string (d.rd x)) ∧ Below w.heap.size w w' := by
 have hl := hm.look (P := Tryz.prog) Tryz.underlying53 Tryz.underlying3 (zeroPen w) (x : Int)
 have k0 := hq.c0
 have k3 := hq.c3
 obtain ⟨b1, off, rfl, hc⟩ := hB.opened (by omega)
 have cx := hc x hx
 have hx1 : (x : Int) < (d.nb : Int) := by omega
 have hx0 : (0 : Int) ≤ (x : Int) := by omega
 rcases lastM_rd d.A d.D (d.B x) (x : Int) d.nc with ⟨e1, e2⟩ | e1
 ·have HR : Hid (d.rd x = d.B x) := e2
  rw [e1] at hl
  simp only [Option.getD_none, Option.isSome_none] at hl
  have B2 : Hid (Below w.heap.size w (w.alloc (.cells #[.int .i64 0, .string ⟨#[]⟩] 68))) := (Below.refl w.heap.size w).alloc (Nat.le_refl _) _
  have hlt := hq.lt
  clear hm hB hc hq e2 e1
  generalize d.rd x = R at *
  generalize d.B x = V at *
  have cx2 : (w.alloc (.cells #[.int .i64 0, .string ⟨#[]⟩] 68)).cell? ⟨b1, off + x, none⟩ = some (.string V) := by rw [B2.out.cell (strBlock cx)]; exact cx
  go_enter Tryz.func55, Tryz.ntmps55
  go_wp2
  go_ret
  exact ⟨by rw [HR.out]; rfl, B2.out⟩
 ·have e3 : lastM d.A d.D d.nc (x : Int) = some (.agg #[.int .i64 (x : Int), .string (d.rd x)]) := e1
  rw [e3] at hl
  simp only [Option.getD_some, Option.isSome_some] at hl
  clear hm hB hc hq e1 e3
  generalize d.rd x = R at *
  have B2 : Hid (Below w.heap.size w (w.alloc (.cells #[.int .i64 (x : Int), .string R] 68))) := (Below.refl w.heap.size w).alloc (Nat.le_refl _) _
  go_enter Tryz.func55, Tryz.ntmps55
  go_wp2
  go_ret
  exact ⟨rfl, B2.out⟩
end Go.Proofs.YtboekhegbachpaaGreatDoor
namespace Go.Proofs.YtboekhegbachpaaGreatDoor
open Go.ChangeShapes Go.WideShapes Go.ChangeAt Go.RowKit
set_option maxRecDepth 100000 in
set_option maxHeartbeats 2000000 in
theorem l05Read_any (d : Dk) (a0 a1 a2 : Option Addr) (c0 c1 c2 x : Nat) (hx : x < d.nb) (hn : d.nb ≤ 64) (hc : d.nc ≤ 4096) (w : World) (h : DiskV w d a0 a1 a2) :
  Calls Tryz.prog 48 #[.agg #[.slice a0 d.nb c0, .slice a1 d.nc c1, .slice a2 d.ns c2], .int .i64 (x : Int)] w fun e w' => e = .returned (.string (d.rd x)) ∧ Below w.heap.size w w' := by
 have A1 : Hid (Below w.heap.size w (w.alloc (.cells #[.slice a0 d.nb c0, .slice a1 d.nc c1, .slice a2 d.ns c2] 29))) := (Below.refl w.heap.size w).alloc (Nat.le_refl _) _
 have RA : Hid (Box3 (w.alloc (.cells #[.slice a0 d.nb c0, .slice a1 d.nc c1, .slice a2 d.ns c2] 29)) w.heap.size 29 (.slice a0 d.nb c0) (.slice a1 d.nc c1) (.slice a2 d.ns c2)) := Box3.made w _ _ _ _
 have HD : Hid (DiskV (w.alloc (.cells #[.slice a0 d.nb c0, .slice a1 d.nc c1, .slice a2 d.ns c2] 29)) d a0 a1 a2) := h.below A1.out
 have hx1 : (x : Int) < (d.nb : Int) := by omega
 obtain ⟨R, hR⟩ : ∃ R, R = d.rd x := ⟨_, rfl⟩
 have HR : Hid (R = rdF d.A d.D (d.B x) (x : Int) d.nc) := hR
 rw [← hR]
 clear h hR
 go_enter Tryz.func48, Tryz.ntmps48
 go_wp2
 generalize (w.alloc (.cells #[.slice a0 d.nb c0, .slice a1 d.nc c1, .slice a2 d.ns c2] 29)) = v at *
 go_loopw [5] (fun i wr => ∃ k : Nat, k ≤ d.nc ∧ i = .int .i64 ((k : Int) - 1) ∧ R = rdF d.A d.D (d.B x) (x : Int) k ∧ v = wr) (fun i _ => (intOf i + 1).toNat)
 case atStart => exact ⟨d.nc, by omega, rfl, HR.out, rfl⟩
 case round =>
  clear HR
  obtain ⟨k, hk, rfl, hr, rfl⟩ := hrel
  have HR : Hid (R = rdF d.A d.D (d.B x) (x : Int) k) := hr
  have k0 := RA.out.c0
  have k1 := RA.out.c1
  clear hr
  rcases Nat.eq_zero_or_pos k with rfl | hpos
  ·obtain ⟨b, off, rfl, hb⟩ := HD.out.1.opened (by omega)
   have cx := hb x hx
   have HV : Hid (R = d.B x) := HR.out
   clear hb HR
   generalize d.B x = V at *
   go_wp2
   go_ret
   exact ⟨by rw [HV.out]; rfl, A1.out⟩
  ·obtain ⟨k, rfl⟩ : ∃ j, k = j + 1 := ⟨k - 1, by omega⟩
   obtain ⟨b, off, rfl, hb⟩ := HD.out.2.1.opened (by omega)
   obtain ⟨cc, cd⟩ := hb k (by omega)
   have e1 : ((k + 1 : Nat) : Int) - 1 = (k : Int) := by omega
   have hkk : (k : Int) < (d.nc : Int) := by omega
   have hk0 : (0 : Int) ≤ (k : Int) := by omega
   rw [e1]
   clear hb e1
   by_cases g : d.A k = (x : Int)
   ·have HV : Hid (R = d.D k) := by
     have := HR.out
     unfold rdF at this
     rwa [if_pos g] at this
    have g1 : (d.A k == (x : Int)) = true := by simp [g]
    clear g HR
    go_wp2
    go_ret
    exact ⟨by rw [HV.out]; rfl, A1.out⟩
   ·have HV : Hid (R = rdF d.A d.D (d.B x) (x : Int) k) := by
     have := HR.out
     unfold rdF at this
     rwa [if_neg g] at this
    have g1 : (d.A k == (x : Int)) = false := by simp [g]
    clear g HR
    go_wp2
    go_roundw
    case rel => exact ⟨k, by omega, rfl, HV.out, trivial⟩
    case measure => simp [intOf]
end Go.Proofs.YtboekhegbachpaaGreatDoor
namespace Go.Proofs.YtboekhegbachpaaGreatDoor
open Go.ChangeShapes Go.WideShapes Go.ChangeAt Go.RowKit
set_option linter.unusedVariables false
def SfAns (k s : ByteArray) (d : Dk) (code : Int) : Prop := (¬ (k.size ≤ 65536 ∧ s.size ≤ 65536) ∧ code = 2) ∨ (k.size ≤ 65536 ∧ s.size ≤ 65536 ∧ (k.size ≠ 32 ∨ (k.size = 32 ∧ ¬ d.Ok)) ∧ code = 1) ∨ (k.size = 32 ∧ s.size ≤ 65536 ∧ d.Ok ∧ d.nb < 2 ∧ code = 4) ∨ (k.size = 32 ∧ s.size ≤ 65536 ∧ d.Ok ∧ 2 ≤ d.nb ∧ code = 0)
theorem sfAns_ex (k s : ByteArray) (d : Dk) : ∃ code, SfAns k s d code := by
 by_cases h1 : k.size ≤ 65536 ∧ s.size ≤ 65536
 ·by_cases h2 : k.size = 32
  ·by_cases h3 : d.Ok
   ·by_cases h4 : d.nb < 2
    ·exact ⟨4, .inr (.inr (.inl ⟨h2, h1.2, h3, h4, rfl⟩))⟩
    ·exact ⟨0, .inr (.inr (.inr ⟨h2, h1.2, h3, by omega, rfl⟩))⟩
   ·exact ⟨1, .inr (.inl ⟨h1.1, h1.2, .inr ⟨h2, h3⟩, rfl⟩)⟩
  ·exact ⟨1, .inr (.inl ⟨h1.1, h1.2, .inl h2, rfl⟩)⟩
 ·exact ⟨2, .inl ⟨h1, rfl⟩⟩
set_option maxRecDepth 100000 in
set_option maxHeartbeats 2000000 in
theorem slotsFault_any (k s : ByteArray) (d : Dk) (a0 a1 a2 : Option Addr) (c0 c1 c2 : Nat) (code : Int) (hr : SfAns k s d code) (hs : d.nb ≤ 1048576 ∧ d.nc ≤ 1048576 ∧ d.ns ≤ 1048576) (p0 p1 : Addr) (w : World) (h : DiskV w d a0 a1 a2) (hE0 : ErrAt w 3 p0) (hE1 : ErrAt w 4 p1) :
  Calls Tryz.prog 34 #[.string k, .string s, .agg #[.slice a0 d.nb c0, .slice a1 d.nc c1, .slice a2 d.ns c2]] w fun e w' => e = .returned (.int .i64 code) ∧ Below w.heap.size w w' := by
 have A0 : Below w.heap.size w (w.alloc (.cells #[.slice a0 d.nb c0, .slice a1 d.nc c1, .slice a2 d.ns c2] 29)) := (Below.refl _ _).alloc (Nat.le_refl _) _
 have BX : Hid (Box3 (w.alloc (.cells #[.slice a0 d.nb c0, .slice a1 d.nc c1, .slice a2 d.ns c2] 29)) w.heap.size 29 (.slice a0 d.nb c0) (.slice a1 d.nc c1) (.slice a2 d.ns c2)) := Box3.made _ _ _ _ _
 have OK : Hid (Calls Tryz.prog 53 #[.agg #[.slice a0 d.nb c0, .slice a1 d.nc c1, .slice a2 d.ns c2]] (w.alloc (.cells #[.slice a0 d.nb c0, .slice a1 d.nc c1, .slice a2 d.ns c2] 29)) fun e w' => e = .returned (.bool d.ok) ∧ Below (w.alloc (.cells #[.slice a0 d.nb c0, .slice a1 d.nc c1, .slice a2 d.ns c2] 29)).heap.size (w.alloc (.cells #[.slice a0 d.nb c0, .slice a1 d.nc c1, .slice a2 d.ns c2] 29)) w') := implOK_any d a0 a1 a2 c0 c1 c2 hs p0 p1 _ (h.below A0) (hE0.below A0) (hE1.below A0)
 have A1 : Hid (Below w.heap.size w (w.alloc (.cells #[.slice a0 d.nb c0, .slice a1 d.nc c1, .slice a2 d.ns c2] 29))) := A0
 clear h hE0 hE1 hs A0
 rcases hr with ⟨h1, rfl⟩ | ⟨h1, h2, h3, rfl⟩ | ⟨h1, h2, h3, h4, rfl⟩ | ⟨h1, h2, h3, h4, rfl⟩
 ·by_cases hk : k.size ≤ 65536
  ·have x1 : ¬ (65536 : Int) < (k.size : Int) := by omega
   have x2 : (65536 : Int) < (s.size : Int) := by omega
   clear hk h1
   go_enter Tryz.func34, Tryz.ntmps34
   go_wp2
   go_ret
   exact ⟨rfl, A1.out⟩
  ·have x1 : (65536 : Int) < (k.size : Int) := by omega
   clear hk h1
   go_enter Tryz.func34, Tryz.ntmps34
   go_wp2
   go_ret
   exact ⟨rfl, A1.out⟩
 ·have x1 : ¬ (65536 : Int) < (k.size : Int) := by omega
  have x2 : ¬ (65536 : Int) < (s.size : Int) := by omega
  rcases h3 with h3 | ⟨h3, h4⟩
  ·have x3 : ((k.size : Int) != 32) = true := by rw [bne_iff_ne]; omega
   clear h1 h2 h3
   go_enter Tryz.func34, Tryz.ntmps34
   go_wp2
   go_ret
   exact ⟨rfl, A1.out⟩
  ·have x3 : ((k.size : Int) != 32) = false := by rw [h3]; rfl
   rw [Dk.ok_false h4] at OK
   have t0 := BX.out.c0
   have t1 := BX.out.c1
   have t2 := BX.out.c2
   clear h1 h2 h3 h4
   go_enter Tryz.func34, Tryz.ntmps34
   go_wp2_with fail
   refine OK.out.mono ?_
   rintro e v1 ⟨rfl, hb⟩
   replace A1 : Hid (Below w.heap.size w v1) := A1.out.trans (hb.mono A1.out.size)
   clear hb t0 t1 t2 OK BX
   go_wp2
   go_ret
   exact ⟨rfl, A1.out⟩
 all_goals
  have x1 : ¬ (65536 : Int) < (k.size : Int) := by omega
  have x2 : ¬ (65536 : Int) < (s.size : Int) := by omega
  have x3 : ((k.size : Int) != 32) = false := by rw [h1]; rfl
  rw [Dk.ok_true h3] at OK
  have t0 := BX.out.c0
  have t1 := BX.out.c1
  have t2 := BX.out.c2
 ·have x4 : (d.nb : Int) < 2 := by omega
  clear h1 h2 h3 h4
  go_enter Tryz.func34, Tryz.ntmps34
  go_wp2_with fail
  clear t0 t1 t2
  generalize (w.alloc (.cells #[.slice a0 d.nb c0, .slice a1 d.nc c1, .slice a2 d.ns c2] 29)) = v0 at *
  refine OK.out.mono ?_
  rintro e v1 ⟨rfl, hb⟩
  replace A1 : Hid (Below w.heap.size w v1) := A1.out.trans (hb.mono A1.out.size)
  have t0 := (BX.out.below hb).c0
  clear hb OK BX
  go_wp2
  go_ret
  exact ⟨rfl, A1.out⟩
 ·have x4 : ¬ (d.nb : Int) < 2 := by omega
  clear h1 h2 h3 h4
  go_enter Tryz.func34, Tryz.ntmps34
  go_wp2_with fail
  clear t0 t1 t2
  generalize (w.alloc (.cells #[.slice a0 d.nb c0, .slice a1 d.nc c1, .slice a2 d.ns c2] 29)) = v0 at *
  refine OK.out.mono ?_
  rintro e v1 ⟨rfl, hb⟩
  replace A1 : Hid (Below w.heap.size w v1) := A1.out.trans (hb.mono A1.out.size)
  have t0 := (BX.out.below hb).c0
  clear hb OK BX
  go_wp2
  go_ret
  exact ⟨rfl, A1.out⟩
set_option maxRecDepth 100000 in
set_option maxHeartbeats 2000000 in
theorem l06Code_any (k s : ByteArray) (d : Dk) (a0 a1 a2 : Option Addr) (c0 c1 c2 : Nat) (code : Int) (hr : SfAns k s d code) (hk0 : k.size ≤ 65536 ∧ s.size ≤ 65536) (hs : d.nb ≤ 1048576 ∧ d.nc ≤ 1048576 ∧ d.ns ≤ 1048576) (w : World) (h : DiskV w d a0 a1 a2) :
  Calls Tryz.prog 29 #[.string k, .agg #[.slice a0 d.nb c0, .slice a1 d.nc c1, .slice a2 d.ns c2]] w fun e w' => e = .returned (.int .i64 code) ∧ Below w.heap.size w w' := by
 have A0 : Below w.heap.size w (w.alloc (.cells #[.slice a0 d.nb c0, .slice a1 d.nc c1, .slice a2 d.ns c2] 29)) := (Below.refl _ _).alloc (Nat.le_refl _) _
 have BX : Hid (Box3 (w.alloc (.cells #[.slice a0 d.nb c0, .slice a1 d.nc c1, .slice a2 d.ns c2] 29)) w.heap.size 29 (.slice a0 d.nb c0) (.slice a1 d.nc c1) (.slice a2 d.ns c2)) := Box3.made _ _ _ _ _
 have OK : Hid (Calls Tryz.prog 46 #[.agg #[.slice a0 d.nb c0, .slice a1 d.nc c1, .slice a2 d.ns c2]] (w.alloc (.cells #[.slice a0 d.nb c0, .slice a1 d.nc c1, .slice a2 d.ns c2] 29)) fun e w' => e = .returned (.bool d.ok) ∧ Below (w.alloc (.cells #[.slice a0 d.nb c0, .slice a1 d.nc c1, .slice a2 d.ns c2] 29)).heap.size (w.alloc (.cells #[.slice a0 d.nb c0, .slice a1 d.nc c1, .slice a2 d.ns c2] 29)) w') := specOK_any d a0 a1 a2 c0 c1 c2 hs _ (h.below A0)
 have A1 : Hid (Below w.heap.size w (w.alloc (.cells #[.slice a0 d.nb c0, .slice a1 d.nc c1, .slice a2 d.ns c2] 29))) := A0
 clear h hs A0
 rcases hr with ⟨h1, rfl⟩ | ⟨h1, h2, h3, rfl⟩ | ⟨h1, h2, h3, h4, rfl⟩ | ⟨h1, h2, h3, h4, rfl⟩
 ·exact absurd hk0 h1
 ·rcases h3 with h3 | ⟨h3, h4⟩
  ·have x3 : ((k.size : Int) != 32) = true := by rw [bne_iff_ne]; omega
   clear h1 h2 h3 hk0
   go_enter Tryz.func29, Tryz.ntmps29
   go_wp2
   go_ret
   exact ⟨rfl, A1.out⟩
  ·have x3 : ((k.size : Int) != 32) = false := by rw [h3]; rfl
   rw [Dk.ok_false h4] at OK
   have t0 := BX.out.c0
   have t1 := BX.out.c1
   have t2 := BX.out.c2
   clear h1 h2 h3 h4 hk0
   go_enter Tryz.func29, Tryz.ntmps29
   go_wp2_with fail
   refine OK.out.mono ?_
   rintro e v1 ⟨rfl, hb⟩
   replace A1 : Hid (Below w.heap.size w v1) := A1.out.trans (hb.mono A1.out.size)
   clear hb t0 t1 t2 OK BX
   go_wp2
   go_ret
   exact ⟨rfl, A1.out⟩
 all_goals
  have x3 : ((k.size : Int) != 32) = false := by rw [h1]; rfl
  rw [Dk.ok_true h3] at OK
  have t0 := BX.out.c0
  have t1 := BX.out.c1
  have t2 := BX.out.c2
 ·have x4 : (d.nb : Int) < 2 := by omega
  clear h1 h2 h3 h4 hk0
  go_enter Tryz.func29, Tryz.ntmps29
  go_wp2_with fail
  clear t0 t1 t2
  generalize (w.alloc (.cells #[.slice a0 d.nb c0, .slice a1 d.nc c1, .slice a2 d.ns c2] 29)) = v0 at *
  refine OK.out.mono ?_
  rintro e v1 ⟨rfl, hb⟩
  replace A1 : Hid (Below w.heap.size w v1) := A1.out.trans (hb.mono A1.out.size)
  have t0 := (BX.out.below hb).c0
  clear hb OK BX
  go_wp2
  go_ret
  exact ⟨rfl, A1.out⟩
 ·have x4 : ¬ (d.nb : Int) < 2 := by omega
  clear h1 h2 h3 h4 hk0
  go_enter Tryz.func29, Tryz.ntmps29
  go_wp2_with fail
  clear t0 t1 t2
  generalize (w.alloc (.cells #[.slice a0 d.nb c0, .slice a1 d.nc c1, .slice a2 d.ns c2] 29)) = v0 at *
  refine OK.out.mono ?_
  rintro e v1 ⟨rfl, hb⟩
  replace A1 : Hid (Below w.heap.size w v1) := A1.out.trans (hb.mono A1.out.size)
  have t0 := (BX.out.below hb).c0
  clear hb OK BX
  go_wp2
  go_ret
  exact ⟨rfl, A1.out⟩
end Go.Proofs.YtboekhegbachpaaGreatDoor
