/-
  Whether a disk is right: DiskOK of the program and of the model.
-/
import Derived.Test.YtkhglllicblbbaaDoorDiskTo
import Derived.Test.YtkhglllicblbbaaDoorInAny
namespace Go.Proofs.YtkhglllicblbbaaDoor
open Go.ChangeShapes Go.WideShapes Go.ChangeAt Go.RowKit
set_option maxRecDepth 100000 in
theorem placeFault_ok (n m k : Nat) (a0 a1 a2 : Option Addr) (c0 c1 c2 : Nat) (x : Int) (s : ByteArray) (hx : 0 ≤ x) (hx' : x < n) (hs : s.size ≤ 200) (w : World) :
    Calls Tryd.prog 51 #[.agg #[.slice a0 n c0, .slice a1 m c1, .slice a2 k c2], .int .i64 x, .string s] w fun e w' => e = .returned .nilIface ∧ Below w.heap.size w w' := by
  have e1 : ¬ x < 0 := by omega
  have e2 : ¬ (n : Int) ≤ x := by omega
  have e3 : ¬ (200 : Int) < s.size := by omega
  go_enter Tryd.func51, Tryd.ntmps51
  go_wp2
  go_ret
  exact ⟨rfl, (Below.refl w.heap.size w).alloc (Nat.le_refl _) _⟩
set_option maxRecDepth 100000 in
theorem placeFault_range (n m k : Nat) (a0 a1 a2 : Option Addr) (c0 c1 c2 : Nat) (x : Int) (s : ByteArray) (hx : ¬ (0 ≤ x ∧ x < n)) (p : Addr) (w : World) (hp : ErrAt w 0 p) :
    Calls Tryd.prog 51 #[.agg #[.slice a0 n c0, .slice a1 m c1, .slice a2 k c2], .int .i64 x, .string s] w fun e w' => e = .returned (.iface 170 (.pointer (some p))) ∧ Below w.heap.size w w' := by
  have HB : Hid (Below w.heap.size w (w.alloc (.cells #[.slice a0 n c0, .slice a1 m c1, .slice a2 k c2] 28))) := (Below.refl w.heap.size w).alloc (Nat.le_refl _) _
  have hp1 : (w.alloc (.cells #[.slice a0 n c0, .slice a1 m c1, .slice a2 k c2] 28)).cell? ⟨0, 0, none⟩ = some (.iface 170 (.pointer (some p))) := hp.below HB.out
  by_cases e1 : x < 0
  · go_enter Tryd.func51, Tryd.ntmps51
    go_wp2
    go_ret
    exact ⟨rfl, HB.out⟩
  · have e2 : (n : Int) ≤ x := by omega
    go_enter Tryd.func51, Tryd.ntmps51
    go_wp2
    go_ret
    exact ⟨rfl, HB.out⟩
set_option maxRecDepth 100000 in
theorem placeFault_long (n m k : Nat) (a0 a1 a2 : Option Addr) (c0 c1 c2 : Nat) (x : Int) (s : ByteArray) (hx : 0 ≤ x) (hx' : x < n) (hs : 200 < s.size) (p : Addr) (w : World) (hp : ErrAt w 1 p) :
    Calls Tryd.prog 51 #[.agg #[.slice a0 n c0, .slice a1 m c1, .slice a2 k c2], .int .i64 x, .string s] w fun e w' => e = .returned (.iface 170 (.pointer (some p))) ∧ Below w.heap.size w w' := by
  have HB : Hid (Below w.heap.size w (w.alloc (.cells #[.slice a0 n c0, .slice a1 m c1, .slice a2 k c2] 28))) := (Below.refl w.heap.size w).alloc (Nat.le_refl _) _
  have hp1 : (w.alloc (.cells #[.slice a0 n c0, .slice a1 m c1, .slice a2 k c2] 28)).cell? ⟨1, 0, none⟩ = some (.iface 170 (.pointer (some p))) := hp.below HB.out
  have e1 : ¬ x < 0 := by omega
  have e2 : ¬ (n : Int) ≤ x := by omega
  have e3 : (200 : Int) < s.size := by omega
  go_enter Tryd.func51, Tryd.ntmps51
  go_wp2
  go_ret
  exact ⟨rfl, HB.out⟩
set_option maxRecDepth 100000 in
set_option maxHeartbeats 1000000 in
theorem blocksFit_any (a : Option Addr) (n c : Nat) (f : Nat → ByteArray) (r : Bool) (hr : r = true ↔ ∀ i, i < n → (f i).size ≤ 200) (hn : n ≤ 4096) (w : World) (h : Strs w a n f) :
    Calls Tryd.prog 52 #[.slice a n c] w fun e w' => e = .returned (.bool r) ∧ w = w' := by
  have HS : Hid (Strs w a n f) := h
  have HR : Hid (r = true ↔ ∀ i, i < n → (f i).size ≤ 200) := hr
  clear h hr
  go_enter Tryd.func52, Tryd.ntmps52
  go_wp2
  go_loopw [7] (fun i wr => ∃ k : Nat, k ≤ n ∧ i = .int .i64 k ∧ (∀ j, j < k → (f j).size ≤ 200) ∧ w = wr) (fun i _ => n - (intOf i).toNat)
  case atStart => exact ⟨0, by omega, rfl, fun j hj => absurd hj (by omega), rfl⟩
  case round =>
    obtain ⟨k, hk, rfl, hall, rfl⟩ := hrel
    have HL : Hid (∀ j, j < k → (f j).size ≤ 200) := hall
    clear hall
    by_cases hlt : k < n
    · obtain ⟨b, off, rfl, hc⟩ := HS.out.opened (by omega)
      have c1 := hc k hlt
      have hlt' : (k : Int) < (n : Int) := by omega
      clear hc
      by_cases hs : 200 < (f k).size
      · obtain rfl : r = false := by
          rcases Bool.eq_false_or_eq_true r with h | h
          · have := HR.out.1 h k hlt; omega
          · exact h
        have hs' : (200 : Int) < ((f k).size : Int) := by omega
        generalize f k = V at *
        go_wp2
        go_ret
        exact ⟨rfl, rfl⟩
      · have hs' : ¬ (200 : Int) < ((f k).size : Int) := by omega
        have HS2 : Hid ((f k).size ≤ 200) := by show (f k).size ≤ 200; omega
        clear hs
        go_wp2
        go_roundw
        case rel => exact ⟨k + 1, by omega, by go_num, fun j hj => by
          rcases (show j < k ∨ j = k by omega) with g | rfl
          · exact HL.out j g
          · exact HS2.out, trivial⟩
        case measure => simp [intOf]; omega
    · obtain rfl : r = true := HR.out.2 (fun i hi => HL.out i (by omega))
      have hlt' : ¬ (k : Int) < (n : Int) := by omega
      go_wp2
      go_ret
      exact ⟨rfl, rfl⟩
set_option maxRecDepth 100000 in
set_option maxHeartbeats 4000000 in
theorem specOK_any (d : Dk) (a0 a1 a2 : Option Addr) (c0 c1 c2 : Nat) (hd : d.nb ≤ 1048576 ∧ d.nc ≤ 1048576 ∧ d.ns ≤ 1048576) (w : World) (h : DiskV w d a0 a1 a2) :
    Calls Tryd.prog 56 #[.agg #[.slice a0 d.nb c0, .slice a1 d.nc c1, .slice a2 d.ns c2]] w fun e w' => e = .returned (.bool d.ok) ∧ Below w.heap.size w w' := by
  obtain ⟨hd0, hd1, hd2⟩ := hd
  have A1 : Hid (Below w.heap.size w (w.alloc (.cells #[.slice a0 d.nb c0, .slice a1 d.nc c1, .slice a2 d.ns c2] 28))) := (Below.refl w.heap.size w).alloc (Nat.le_refl _) _
  have RA : Hid (Box3 (w.alloc (.cells #[.slice a0 d.nb c0, .slice a1 d.nc c1, .slice a2 d.ns c2] 28)) w.heap.size 28 (.slice a0 d.nb c0) (.slice a1 d.nc c1) (.slice a2 d.ns c2)) := Box3.made w _ _ _ _
  obtain ⟨r, hr⟩ : ∃ r, r = d.ok := ⟨_, rfl⟩
  rw [← hr]
  have RT : Hid (d.Ok → r = true) := fun q => by rw [hr]; exact Dk.ok_true q
  have RF : Hid (¬ d.Ok → r = false) := fun q => by rw [hr]; exact Dk.ok_false q
  have HD : Hid (DiskV (w.alloc (.cells #[.slice a0 d.nb c0, .slice a1 d.nc c1, .slice a2 d.ns c2] 28)) d a0 a1 a2) := h.below A1.out
  clear h hr
  by_cases p1 : 1 ≤ d.nb ∧ d.nb ≤ 64
  · obtain ⟨p1a, p1b⟩ := p1
    have IN1 : Hid (∀ w : World, Calls Tryd.prog 63 #[.int .i64 (d.nb : Int), .int .i64 1, .int .i64 64] w fun e w' => e = .returned (.bool true) ∧ w = w') := fun w => in_any _ _ _ true (by simp; omega) w
    go_enter Tryd.func56, Tryd.ntmps56
    go_wp2_with fail
    refine (IN1.out _).mono ?_
    rintro e w1 ⟨rfl, rfl⟩
    clear IN1
    by_cases p2 : d.nc ≤ 4096
    · have e2 : ¬ (4096 : Int) < d.nc := by omega
      by_cases p3 : d.ns = 0 ∨ d.ns = d.nb
      · have OK0 : Hid ((∀ i, i < d.nb → (d.B i).size ≤ 200) → (∀ i, i < d.ns → (d.S i).size ≤ 200) → (∀ i, i < d.nc → (0 ≤ d.A i ∧ d.A i < d.nb) ∧ (d.D i).size ≤ 200) → d.Ok) := fun q1 q2 q3 => ⟨p1a, p1b, p2, p3, q1, q3, q2⟩
        have e3 : ((d.ns : Int) != 0) = true ∧ ((d.ns : Int) != (d.nb : Int)) = false ∨ ((d.ns : Int) != 0) = false := by
          rcases p3 with e | e
          · right; simp; omega
          · by_cases g : d.ns = 0
            · right; simp; omega
            · left; simp; omega
        have hns : d.ns ≤ 64 := by omega
        clear p3
        have k0 := RA.out.c0
        have k1 := RA.out.c1
        have k2 := RA.out.c2
        generalize (w.alloc (.cells #[.slice a0 d.nb c0, .slice a1 d.nc c1, .slice a2 d.ns c2] 28)) = v at *
        clear RA
        rcases e3 with ⟨e3, e4⟩ | e3
        all_goals
          go_wp2
          go_loopw [3] (fun i wr => ∃ k : Nat, k ≤ d.nb ∧ i = .int .i64 k ∧ (∀ j, j < k → (d.B j).size ≤ 200) ∧ v = wr) (fun i _ => d.nb - (intOf i).toNat)
          case atStart => exact ⟨0, by omega, rfl, fun j hj => absurd hj (by omega), rfl⟩
          case round =>
            obtain ⟨k, hk, rfl, hall, rfl⟩ := hrel
            have HL : Hid (∀ j, j < k → (d.B j).size ≤ 200) := hall
            clear hall
            by_cases hlt : k < d.nb
            · obtain ⟨b, off, rfl, hc⟩ := HD.out.1.opened (by omega)
              have cc := hc k hlt
              have hlt' : (k : Int) < (d.nb : Int) := by omega
              clear hc
              by_cases hs : 200 < (d.B k).size
              · obtain rfl : r = false := RF.out (fun q => by have := q.B k hlt; omega)
                have hs' : (200 : Int) < ((d.B k).size : Int) := by omega
                generalize d.B k = V at *
                go_wp2
                go_ret
                exact ⟨rfl, A1.out⟩
              · have hs' : ¬ (200 : Int) < ((d.B k).size : Int) := by omega
                have HS2 : Hid ((d.B k).size ≤ 200) := by show (d.B k).size ≤ 200; omega
                clear hs
                go_wp2
                go_roundw
                case rel => exact ⟨k + 1, by omega, by go_num, fun j hj => by
                  rcases (show j < k ∨ j = k by omega) with g | rfl
                  · exact HL.out j g
                  · exact HS2.out, trivial⟩
                case measure => simp [intOf]; omega
            · have hlt' : ¬ (k : Int) < (d.nb : Int) := by omega
              have OK1 : Hid ((∀ i, i < d.ns → (d.S i).size ≤ 200) → (∀ i, i < d.nc → (0 ≤ d.A i ∧ d.A i < d.nb) ∧ (d.D i).size ≤ 200) → d.Ok) := OK0.out (fun i hi => HL.out i (by omega))
              clear HL OK0
              go_wp2
              go_loopw [4] (fun i wr => ∃ k : Nat, k ≤ d.ns ∧ i = .int .i64 k ∧ (∀ j, j < k → (d.S j).size ≤ 200) ∧ v = wr) (fun i _ => d.ns - (intOf i).toNat)
              case atStart => exact ⟨0, by omega, rfl, fun j hj => absurd hj (by omega), rfl⟩
              case round =>
                obtain ⟨k, hk, rfl, hall, rfl⟩ := hrel
                have HL : Hid (∀ j, j < k → (d.S j).size ≤ 200) := hall
                clear hall
                by_cases hlt : k < d.ns
                · obtain ⟨b, off, rfl, hc⟩ := HD.out.2.2.opened (by omega)
                  have cc := hc k hlt
                  have hlt' : (k : Int) < (d.ns : Int) := by omega
                  clear hc
                  by_cases hs : 200 < (d.S k).size
                  · obtain rfl : r = false := RF.out (fun q => by have := q.S k hlt; omega)
                    have hs' : (200 : Int) < ((d.S k).size : Int) := by omega
                    generalize d.S k = V at *
                    go_wp2
                    go_ret
                    exact ⟨rfl, A1.out⟩
                  · have hs' : ¬ (200 : Int) < ((d.S k).size : Int) := by omega
                    have HS2 : Hid ((d.S k).size ≤ 200) := by show (d.S k).size ≤ 200; omega
                    clear hs
                    go_wp2
                    go_roundw
                    case rel => exact ⟨k + 1, by omega, by go_num, fun j hj => by
                      rcases (show j < k ∨ j = k by omega) with g | rfl
                      · exact HL.out j g
                      · exact HS2.out, trivial⟩
                    case measure => simp [intOf]; omega
                · have hlt' : ¬ (k : Int) < (d.ns : Int) := by omega
                  have OK2 : Hid ((∀ i, i < d.nc → (0 ≤ d.A i ∧ d.A i < d.nb) ∧ (d.D i).size ≤ 200) → d.Ok) := OK1.out (fun i hi => HL.out i (by omega))
                  clear HL OK1
                  go_wp2
                  go_loopw [5] (fun i wr => ∃ k q : Nat, k ≤ d.nc ∧ i = .int .i64 k ∧ (∀ j, j < k → (0 ≤ d.A j ∧ d.A j < d.nb) ∧ (d.D j).size ≤ 200) ∧ wr = v.drewN q) (fun i _ => d.nc - (intOf i).toNat)
                  case atStart => exact ⟨0, 0, by omega, rfl, fun j hj => absurd hj (by omega), rfl⟩
                  case round =>
                    obtain ⟨k, q, hk, rfl, hall, rfl⟩ := hrel
                    have HL : Hid (∀ j, j < k → (0 ≤ d.A j ∧ d.A j < d.nb) ∧ (d.D j).size ≤ 200) := hall
                    clear hall
                    by_cases hlt : k < d.nc
                    · obtain ⟨b, off, rfl, hc⟩ := HD.out.2.1.opened (by omega)
                      obtain ⟨cc, cd⟩ := hc k hlt
                      have hlt' : (k : Int) < (d.nc : Int) := by omega
                      clear hc
                      by_cases g : 0 ≤ d.A k ∧ d.A k < d.nb
                      · have IN2 : Hid (∀ w : World, Calls Tryd.prog 63 #[.int .i64 (d.A k), .int .i64 0, .int .i64 ((d.nb : Int) - 1)] w fun e w' => e = .returned (.bool true) ∧ w = w') := fun w => in_any _ _ _ true (by simp; omega) w
                        by_cases hs : 200 < (d.D k).size
                        · obtain rfl : r = false := RF.out (fun q => by have := (q.C k hlt).2; omega)
                          have hs' : (200 : Int) < ((d.D k).size : Int) := by omega
                          have HG : Hid (0 ≤ d.A k ∧ d.A k < d.nb) := g
                          clear g
                          go_wp2_with fail
                          go_quiet (exact ((IN2.out _).mono fun _ _ h => ⟨h.1, _, h.2.symm⟩))
                          go_wp2
                          go_ret
                          exact ⟨rfl, ⟨A1.out.os, A1.out.tape, A1.out.output, A1.out.size, A1.out.block⟩⟩
                        · have hs' : ¬ (200 : Int) < ((d.D k).size : Int) := by omega
                          have HG : Hid ((0 ≤ d.A k ∧ d.A k < d.nb) ∧ (d.D k).size ≤ 200) := ⟨g, by omega⟩
                          clear g
                          go_wp2_with fail
                          go_quiet (exact ((IN2.out _).mono fun _ _ h => ⟨h.1, _, h.2.symm⟩))
                          go_wp2
                          go_roundw
                          case rel => exact ⟨k + 1, _, by omega, by go_num, fun j hj => by
                            rcases (show j < k ∨ j = k by omega) with g | rfl
                            · exact HL.out j g
                            · exact HG.out, by first | rfl | rw [World.drewN_drewN]⟩
                          case measure => simp [intOf]; omega
                      · have IN2 : Hid (∀ w : World, Calls Tryd.prog 63 #[.int .i64 (d.A k), .int .i64 0, .int .i64 ((d.nb : Int) - 1)] w fun e w' => e = .returned (.bool false) ∧ w = w') := fun w => in_any _ _ _ false (by simp; omega) w
                        obtain rfl : r = false := RF.out (fun q => g (q.C k hlt).1)
                        clear g
                        go_wp2_with fail
                        go_quiet (exact ((IN2.out _).mono fun _ _ h => ⟨h.1, _, h.2.symm⟩))
                        go_wp2
                        go_ret
                        exact ⟨rfl, ⟨A1.out.os, A1.out.tape, A1.out.output, A1.out.size, A1.out.block⟩⟩
                    · have hlt' : ¬ (k : Int) < (d.nc : Int) := by omega
                      obtain rfl : r = true := RT.out (OK2.out (fun i hi => HL.out i (by omega)))
                      go_wp2
                      go_ret
                      exact ⟨rfl, ⟨A1.out.os, A1.out.tape, A1.out.output, A1.out.size, A1.out.block⟩⟩
      · obtain rfl : r = false := RF.out (fun q => p3 q.ns)
        have e3 : ((d.ns : Int) != 0) = true := by simp; omega
        have e4 : ((d.ns : Int) != (d.nb : Int)) = true := by simp; omega
        go_wp2
        go_ret
        exact ⟨rfl, A1.out⟩
    · have e2 : (4096 : Int) < d.nc := by omega
      obtain rfl : r = false := RF.out (fun q => p2 q.nc)
      go_wp2
      go_ret
      exact ⟨rfl, A1.out⟩
  · have IN1 : Hid (∀ w : World, Calls Tryd.prog 63 #[.int .i64 (d.nb : Int), .int .i64 1, .int .i64 64] w fun e w' => e = .returned (.bool false) ∧ w = w') := fun w => in_any _ _ _ false (by simp; omega) w
    obtain rfl : r = false := RF.out (fun q => p1 ⟨q.nb1, q.nb2⟩)
    go_enter Tryd.func56, Tryd.ntmps56
    go_wp2_with fail
    refine (IN1.out _).mono ?_
    rintro e w1 ⟨rfl, rfl⟩
    go_wp2
    go_ret
    exact ⟨rfl, A1.out⟩
end Go.Proofs.YtkhglllicblbbaaDoor
