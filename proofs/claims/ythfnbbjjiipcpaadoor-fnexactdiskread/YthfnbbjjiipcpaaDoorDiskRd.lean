/-
  What a disk reads: DiskRead of the program and of the model.
-/
import Derived.Test.YthfnbbjjiipcpaaDoorDrive
import Derived.Test.YthfnbbjjiipcpaaDoorErrIs
namespace Go.Proofs.YthfnbbjjiipcpaaDoor
open Go.ChangeShapes Go.WideShapes Go.ChangeAt Go.RowKit
/-- A disk of a modest size. -/
def Dk.Small (d : Dk) : Prop := d.nb ≤ 1048576 ∧ d.nc ≤ 1048576 ∧ d.ns ≤ 1048576
set_option maxRecDepth 100000 in
set_option maxHeartbeats 2000000 in
theorem l05Read_any (d : Dk) (a0 a1 a2 : Option Addr) (c0 c1 c2 x : Nat) (hx : x < d.nb) (hn : d.nb ≤ 64) (hc : d.nc ≤ 4096) (w : World) (h : DiskV w d a0 a1 a2) :
    Calls Tryd.prog 74 #[.agg #[.slice a0 d.nb c0, .slice a1 d.nc c1, .slice a2 d.ns c2], .int .i64 (x : Int)] w fun e w' => e = .returned (.string (d.rd x)) ∧ Below w.heap.size w w' := by
  have A1 : Hid (Below w.heap.size w (w.alloc (.cells #[.slice a0 d.nb c0, .slice a1 d.nc c1, .slice a2 d.ns c2] 39))) := (Below.refl w.heap.size w).alloc (Nat.le_refl _) _
  have RA : Hid (Box3 (w.alloc (.cells #[.slice a0 d.nb c0, .slice a1 d.nc c1, .slice a2 d.ns c2] 39)) w.heap.size 39 (.slice a0 d.nb c0) (.slice a1 d.nc c1) (.slice a2 d.ns c2)) := Box3.made w _ _ _ _
  have HD : Hid (DiskV (w.alloc (.cells #[.slice a0 d.nb c0, .slice a1 d.nc c1, .slice a2 d.ns c2] 39)) d a0 a1 a2) := h.below A1.out
  have hx1 : (x : Int) < (d.nb : Int) := by omega
  obtain ⟨R, hR⟩ : ∃ R, R = d.rd x := ⟨_, rfl⟩
  have HR : Hid (R = rdF d.A d.D (d.B x) (x : Int) d.nc) := hR
  rw [← hR]
  clear h hR
  go_enter Tryd.func74, Tryd.ntmps74
  go_wp2
  generalize (w.alloc (.cells #[.slice a0 d.nb c0, .slice a1 d.nc c1, .slice a2 d.ns c2] 39)) = v at *
  go_loopw [5] (fun i wr => ∃ k : Nat, k ≤ d.nc ∧ i = .int .i64 ((k : Int) - 1) ∧ R = rdF d.A d.D (d.B x) (x : Int) k ∧ v = wr) (fun i _ => (intOf i + 1).toNat)
  case atStart => exact ⟨d.nc, by omega, rfl, HR.out, rfl⟩
  case round =>
    clear HR
    obtain ⟨k, hk, rfl, hr, rfl⟩ := hrel
    have HR : Hid (R = rdF d.A d.D (d.B x) (x : Int) k) := hr
    have k0 := RA.out.c0
    have k1 := RA.out.c1
    clear hr
    rcases Nat.eq_zero_or_pos k with rfl | hpos
    · obtain ⟨b, off, rfl, hb⟩ := HD.out.1.opened (by omega)
      have cx := hb x hx
      have HV : Hid (R = d.B x) := HR.out
      clear hb HR
      generalize d.B x = V at *
      go_wp2
      go_ret
      exact ⟨by rw [HV.out]; rfl, A1.out⟩
    · obtain ⟨k, rfl⟩ : ∃ j, k = j + 1 := ⟨k - 1, by omega⟩
      obtain ⟨b, off, rfl, hb⟩ := HD.out.2.1.opened (by omega)
      obtain ⟨cc, cd⟩ := hb k (by omega)
      have e1 : ((k + 1 : Nat) : Int) - 1 = (k : Int) := by omega
      have hkk : (k : Int) < (d.nc : Int) := by omega
      have hk0 : (0 : Int) ≤ (k : Int) := by omega
      rw [e1]
      clear hb e1
      by_cases g : d.A k = (x : Int)
      · have HV : Hid (R = d.D k) := by
          have := HR.out
          unfold rdF at this
          rwa [if_pos g] at this
        have g1 : (d.A k == (x : Int)) = true := by simp [g]
        clear g HR
        go_wp2
        go_ret
        exact ⟨by rw [HV.out]; rfl, A1.out⟩
      · have HV : Hid (R = rdF d.A d.D (d.B x) (x : Int) k) := by
          have := HR.out
          unfold rdF at this
          rwa [if_neg g] at this
        have g1 : (d.A k == (x : Int)) = false := by simp [g]
        clear g HR
        go_wp2
        go_roundw
        case rel => exact ⟨k, by omega, rfl, HV.out, trivial⟩
        case measure => simp [intOf]
set_option maxRecDepth 100000 in
set_option maxHeartbeats 2000000 in
theorem implRead_bad (d : Dk) (a0 a1 a2 : Option Addr) (c0 c1 c2 : Nat) (x : Int) (hs : d.Small) (hok : ¬ d.Ok) (p0 p1 p2 p3 p4 : Addr) (w : World) (h : DiskV w d a0 a1 a2) (hE : Errs w p0 p1 p2 p3 p4) :
    Calls Tryd.prog 28 #[.agg #[.slice a0 d.nb c0, .slice a1 d.nc c1, .slice a2 d.ns c2], .int .i64 x] w fun e w' => e = .returned (.tuple #[.string ⟨#[]⟩, .int .i64 1]) ∧ Below w.heap.size w w' := by
  have A1 : Hid (Below w.heap.size w (w.alloc (.cells #[.slice a0 d.nb c0, .slice a1 d.nc c1, .slice a2 d.ns c2] 39))) := (Below.refl w.heap.size w).alloc (Nat.le_refl _) _
  have OK : Hid (Calls Tryd.prog 25 #[.agg #[.slice a0 d.nb c0, .slice a1 d.nc c1, .slice a2 d.ns c2]] (w.alloc (.cells #[.slice a0 d.nb c0, .slice a1 d.nc c1, .slice a2 d.ns c2] 39)) fun e w' => e = .returned (.bool false) ∧ Below (w.alloc (.cells #[.slice a0 d.nb c0, .slice a1 d.nc c1, .slice a2 d.ns c2] 39)).heap.size (w.alloc (.cells #[.slice a0 d.nb c0, .slice a1 d.nc c1, .slice a2 d.ns c2] 39)) w') := by
    have := implOK_any d a0 a1 a2 c0 c1 c2 hs p0 p1 _ (h.below A1.out) (hE.e0.below A1.out) (hE.e1.below A1.out)
    rwa [Dk.ok_false hok] at this
  clear h hE hok hs
  go_enter Tryd.func28, Tryd.ntmps28
  go_wp2_with fail
  refine (Calls.mono OK.out) ?_
  rintro e w1 ⟨rfl, hb⟩
  have B1 : Hid (Below w.heap.size w w1) := A1.out.trans (hb.mono A1.out.size)
  clear hb OK A1
  go_wp2
  go_ret2
  exact ⟨rfl, B1.out⟩
set_option maxRecDepth 100000 in
set_option maxHeartbeats 2000000 in
theorem implRead_ok (d : Dk) (a0 a1 a2 : Option Addr) (c0 c1 c2 : Nat) (x : Int) (R : ByteArray) (code : Int) (hs : d.Small) (hok : d.Ok) (hx : (0 ≤ x ∧ x < d.nb ∧ R = d.rd x.toNat ∧ code = 0) ∨ (¬ (0 ≤ x ∧ x < d.nb) ∧ R = ⟨#[]⟩ ∧ code = 4)) (p0 p1 p2 p3 p4 : Addr) (w : World) (h : DiskV w d a0 a1 a2) (hE : Errs w p0 p1 p2 p3 p4) :
    Calls Tryd.prog 28 #[.agg #[.slice a0 d.nb c0, .slice a1 d.nc c1, .slice a2 d.ns c2], .int .i64 x] w fun e w' => e = .returned (.tuple #[.string R, .int .i64 code]) ∧ Below w.heap.size w w' := by
  have A1 : Hid (Below w.heap.size w (w.alloc (.cells #[.slice a0 d.nb c0, .slice a1 d.nc c1, .slice a2 d.ns c2] 39))) := (Below.refl w.heap.size w).alloc (Nat.le_refl _) _
  have RA : Hid (Box3 (w.alloc (.cells #[.slice a0 d.nb c0, .slice a1 d.nc c1, .slice a2 d.ns c2] 39)) w.heap.size 39 (.slice a0 d.nb c0) (.slice a1 d.nc c1) (.slice a2 d.ns c2)) := Box3.made w _ _ _ _
  have OK : Hid (Calls Tryd.prog 25 #[.agg #[.slice a0 d.nb c0, .slice a1 d.nc c1, .slice a2 d.ns c2]] (w.alloc (.cells #[.slice a0 d.nb c0, .slice a1 d.nc c1, .slice a2 d.ns c2] 39)) fun e w' => e = .returned (.bool true) ∧ Below (w.alloc (.cells #[.slice a0 d.nb c0, .slice a1 d.nc c1, .slice a2 d.ns c2] 39)).heap.size (w.alloc (.cells #[.slice a0 d.nb c0, .slice a1 d.nc c1, .slice a2 d.ns c2] 39)) w') := by
    have := implOK_any d a0 a1 a2 c0 c1 c2 hs p0 p1 _ (h.below A1.out) (hE.e0.below A1.out) (hE.e1.below A1.out)
    rwa [Dk.ok_true hok] at this
  have DO : Hid (∀ w : World, Pens w a1 d.nc d.A d.D → Calls Tryd.prog 56 #[.agg #[.slice a0 d.nb c0, .slice a1 d.nc c1, .slice a2 d.ns c2]] w fun e w' => e = .returned (.pointer (some ⟨w.heap.size + 2, 0, none⟩)) ∧ Box4 w' (w.heap.size + 2) 98 (.slice a0 d.nb c0) (.slice a1 d.nc c1) (.slice a2 d.ns c2) (.map (some (w.heap.size + 1))) ∧ MapI w' (w.heap.size + 1) (lastM d.A d.D d.nc) ∧ Below w.heap.size w w') := fun w h => driveOf_any d a0 a1 a2 c0 c1 c2 hok.nc w h
  have HD : Hid (DiskV w d a0 a1 a2) := h
  have HE : Hid (Errs w p0 p1 p2 p3 p4) := hE
  obtain ⟨EV, hEV⟩ : ∃ EV : Value, (EV = .nilIface ∧ code = 0) ∨ (EV = .iface 212 (.pointer (some p0)) ∧ code = 4) := by
    rcases hx with q | q
    · exact ⟨_, .inl ⟨rfl, q.2.2.2⟩⟩
    · exact ⟨_, .inr ⟨rfl, q.2.2⟩⟩
  have RD : Hid (∀ (q b : Nat) (w : World), Box4 w q 98 (.slice a0 d.nb c0) (.slice a1 d.nc c1) (.slice a2 d.ns c2) (.map (some b)) → MapI w b (lastM d.A d.D d.nc) → Strs w a0 d.nb d.B → ErrAt w 0 p0 → Calls Tryd.prog 67 #[.pointer (some ⟨q, 0, none⟩), .int .i64 x] w fun e w' => e = .returned (.tuple #[.string R, EV]) ∧ Below w.heap.size w w') := fun q b w hq hm hB he => by
    rcases hx with ⟨x0, x1, rfl, rfl⟩ | ⟨x0, rfl, rfl⟩
    · rcases hEV with ⟨rfl, _⟩ | ⟨_, e⟩
      · obtain ⟨n, rfl⟩ := Int.eq_ofNat_of_zero_le x0
        rw [Int.toNat_natCast]
        exact read_yes d a0 a1 a2 c0 c1 c2 q b n (by omega) hok.nb2 w hq hm hB
      · exact absurd e (by decide)
    · rcases hEV with ⟨_, e⟩ | ⟨rfl, _⟩
      · exact absurd e (by decide)
      · exact read_no d a0 a1 a2 c0 c1 c2 q x _ x0 p0 w he hq
  have DC : Hid (∀ w : World, Errs w p0 p1 p2 p3 p4 → Calls Tryd.prog 57 #[EV] w fun e w' => e = .returned (.int .i64 code) ∧ w = w') := fun w he => by
    rcases hEV with ⟨rfl, rfl⟩ | ⟨rfl, rfl⟩
    · exact diskCode_nil p0 p1 p2 p3 p4 w he
    · exact diskCode_0 p0 p1 p2 p3 p4 w he
  clear h hE hok hs hx hEV
  go_enter Tryd.func28, Tryd.ntmps28
  go_wp2_with fail
  generalize (w.alloc (.cells #[.slice a0 d.nb c0, .slice a1 d.nc c1, .slice a2 d.ns c2] 39)) = v at *
  refine (Calls.mono OK.out) ?_
  rintro e w1 ⟨rfl, hb⟩
  replace A1 : Hid (Below w.heap.size w w1) := A1.out.trans (hb.mono A1.out.size)
  replace RA : Hid (Box3 w1 w.heap.size 39 (.slice a0 d.nb c0) (.slice a1 d.nc c1) (.slice a2 d.ns c2)) := RA.out.below hb
  have k0 := RA.out.c0
  have k1 := RA.out.c1
  have k2 := RA.out.c2
  clear hb OK
  go_wp2_with fail
  refine (DO.out _ (HD.out.2.1.below A1.out)).mono ?_
  rintro e w2 ⟨rfl, hq, hm, hb⟩
  replace A1 : Hid (Below w.heap.size w w2) := A1.out.trans (hb.mono A1.out.size)
  have HQ : Hid (Box4 w2 (w1.heap.size + 2) 98 (.slice a0 d.nb c0) (.slice a1 d.nc c1) (.slice a2 d.ns c2) (.map (some (w1.heap.size + 1)))) := hq
  have HM : Hid (MapI w2 (w1.heap.size + 1) (lastM d.A d.D d.nc)) := hm
  clear hb hq hm DO k0 k1 k2 RA
  generalize w1.heap.size = z at *
  go_wp2_with fail
  refine (RD.out _ _ _ HQ.out HM.out (HD.out.1.below A1.out) (HE.out.e0.below A1.out)).mono ?_
  rintro e w3 ⟨rfl, hb⟩
  replace A1 : Hid (Below w.heap.size w w3) := A1.out.trans (hb.mono A1.out.size)
  clear hb RD HQ HM
  go_wp2_with fail
  refine (DC.out _ (HE.out.below A1.out)).mono ?_
  rintro e w4 ⟨rfl, rfl⟩
  clear DC HE HD
  go_wp2
  go_ret2
  exact ⟨rfl, A1.out⟩
set_option maxRecDepth 100000 in
set_option maxHeartbeats 2000000 in
theorem specRead_any (d : Dk) (a0 a1 a2 : Option Addr) (c0 c1 c2 : Nat) (x : Int) (R : ByteArray) (code : Int) (hs : d.Small) (hx : (d.Ok ∧ 0 ≤ x ∧ x < d.nb ∧ R = d.rd x.toNat ∧ code = 0) ∨ (d.Ok ∧ ¬ (0 ≤ x ∧ x < d.nb) ∧ R = ⟨#[]⟩ ∧ code = 4) ∨ (¬ d.Ok ∧ R = ⟨#[]⟩ ∧ code = 1)) (w : World) (h : DiskV w d a0 a1 a2) :
    Calls Tryd.prog 35 #[.agg #[.slice a0 d.nb c0, .slice a1 d.nc c1, .slice a2 d.ns c2], .int .i64 x] w fun e w' => e = .returned (.tuple #[.string R, .int .i64 code]) ∧ Below w.heap.size w w' := by
  have A1 : Hid (Below w.heap.size w (w.alloc (.cells #[.slice a0 d.nb c0, .slice a1 d.nc c1, .slice a2 d.ns c2] 39))) := (Below.refl w.heap.size w).alloc (Nat.le_refl _) _
  have RA : Hid (Box3 (w.alloc (.cells #[.slice a0 d.nb c0, .slice a1 d.nc c1, .slice a2 d.ns c2] 39)) w.heap.size 39 (.slice a0 d.nb c0) (.slice a1 d.nc c1) (.slice a2 d.ns c2)) := Box3.made w _ _ _ _
  have HD : Hid (DiskV w d a0 a1 a2) := h
  have OK : Hid (∀ w : World, DiskV w d a0 a1 a2 → Calls Tryd.prog 32 #[.agg #[.slice a0 d.nb c0, .slice a1 d.nc c1, .slice a2 d.ns c2]] w fun e w' => e = .returned (.bool d.ok) ∧ Below w.heap.size w w') := fun w h => specOK_any d a0 a1 a2 c0 c1 c2 hs w h
  clear h
  rcases hx with ⟨hok, x0, x1, rfl, rfl⟩ | ⟨hok, x0, rfl, rfl⟩ | ⟨hok, rfl, rfl⟩
  · obtain ⟨n, rfl⟩ := Int.eq_ofNat_of_zero_le x0
    rw [Int.toNat_natCast]
    rw [Dk.ok_true hok] at OK
    have nb2 := hok.nb2
    have IN : Hid (∀ w : World, Calls Tryd.prog 40 #[.int .i64 (n : Int), .int .i64 0, .int .i64 ((d.nb : Int) - 1)] w fun e w' => e = .returned (.bool true) ∧ w = w') := fun w => in_any _ _ _ true (by simp; omega) w
    have LR : Hid (∀ w : World, DiskV w d a0 a1 a2 → Calls Tryd.prog 74 #[.agg #[.slice a0 d.nb c0, .slice a1 d.nc c1, .slice a2 d.ns c2], .int .i64 (n : Int)] w fun e w' => e = .returned (.string (d.rd n)) ∧ Below w.heap.size w w') := fun w h => l05Read_any d a0 a1 a2 c0 c1 c2 n (by omega) hok.nb2 hok.nc w h
    generalize d.rd n = R at *
    clear hok hs x0 x1
    go_enter Tryd.func35, Tryd.ntmps35
    go_wp2_with fail
    generalize (w.alloc (.cells #[.slice a0 d.nb c0, .slice a1 d.nc c1, .slice a2 d.ns c2] 39)) = v at *
    refine (OK.out _ (HD.out.below A1.out)).mono ?_
    rintro e w1 ⟨rfl, hb⟩
    replace A1 : Hid (Below w.heap.size w w1) := A1.out.trans (hb.mono A1.out.size)
    replace RA : Hid (Box3 w1 w.heap.size 39 (.slice a0 d.nb c0) (.slice a1 d.nc c1) (.slice a2 d.ns c2)) := RA.out.below hb
    have k0 := RA.out.c0
    have k1 := RA.out.c1
    have k2 := RA.out.c2
    clear hb OK
    go_wp2_with fail
    refine (IN.out _).mono ?_
    rintro e w2 ⟨rfl, rfl⟩
    clear IN
    go_wp2_with fail
    refine (LR.out _ (HD.out.below A1.out)).mono ?_
    rintro e w3 ⟨rfl, hb⟩
    replace A1 : Hid (Below w.heap.size w w3) := A1.out.trans (hb.mono A1.out.size)
    clear hb LR HD RA k0 k1 k2
    go_wp2
    go_ret2
    exact ⟨rfl, A1.out⟩
  · rw [Dk.ok_true hok] at OK
    have nb2 := hok.nb2
    have IN : Hid (∀ w : World, Calls Tryd.prog 40 #[.int .i64 x, .int .i64 0, .int .i64 ((d.nb : Int) - 1)] w fun e w' => e = .returned (.bool false) ∧ w = w') := fun w => in_any _ _ _ false (by simp; omega) w
    clear hok hs x0
    go_enter Tryd.func35, Tryd.ntmps35
    go_wp2_with fail
    generalize (w.alloc (.cells #[.slice a0 d.nb c0, .slice a1 d.nc c1, .slice a2 d.ns c2] 39)) = v at *
    refine (OK.out _ (HD.out.below A1.out)).mono ?_
    rintro e w1 ⟨rfl, hb⟩
    replace A1 : Hid (Below w.heap.size w w1) := A1.out.trans (hb.mono A1.out.size)
    replace RA : Hid (Box3 w1 w.heap.size 39 (.slice a0 d.nb c0) (.slice a1 d.nc c1) (.slice a2 d.ns c2)) := RA.out.below hb
    have k0 := RA.out.c0
    clear hb OK
    go_wp2_with fail
    refine (IN.out _).mono ?_
    rintro e w2 ⟨rfl, rfl⟩
    clear IN
    go_wp2
    go_ret2
    exact ⟨rfl, A1.out⟩
  · rw [Dk.ok_false hok] at OK
    clear hok hs
    go_enter Tryd.func35, Tryd.ntmps35
    go_wp2_with fail
    generalize (w.alloc (.cells #[.slice a0 d.nb c0, .slice a1 d.nc c1, .slice a2 d.ns c2] 39)) = v at *
    refine (OK.out _ (HD.out.below A1.out)).mono ?_
    rintro e w1 ⟨rfl, hb⟩
    replace A1 : Hid (Below w.heap.size w w1) := A1.out.trans (hb.mono A1.out.size)
    clear hb OK
    go_wp2
    go_ret2
    exact ⟨rfl, A1.out⟩
end Go.Proofs.YthfnbbjjiipcpaaDoor
