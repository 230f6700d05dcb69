/-
  What a disk reads: DiskRead of the program and of the model.
-/
import Derived.Test.YtkhglllicblbbaaDoorDrive
import Derived.Test.YtkhglllicblbbaaDoorErrIs
import Derived.Test.YtkhglllicblbbaaDoorAnyH
import Derived.Test.YtkhglllicblbbaaDoorM02
import Derived.Test.YtkhglllicblbbaaDoorM03
namespace Go.Proofs.YtkhglllicblbbaaDoor
open Go.ChangeShapes Go.WideShapes Go.ChangeAt Go.RowKit
/-- A disk of a modest size. -/
def Dk.Small (d : Dk) : Prop := d.nb ≤ 1048576 ∧ d.nc ≤ 1048576 ∧ d.ns ≤ 1048576
set_option maxRecDepth 100000 in
set_option maxHeartbeats 2000000 in
theorem implRead_bad (d : Dk) (a0 a1 a2 : Option Addr) (c0 c1 c2 : Nat) (x : Int) (hs : d.Small) (hok : ¬ d.Ok) (p0 p1 p2 p3 p4 : Addr) (w : World) (h : DiskV w d a0 a1 a2) (hE : Errs w p0 p1 p2 p3 p4) :
    Calls Tryd.prog 17 #[.agg #[.slice a0 d.nb c0, .slice a1 d.nc c1, .slice a2 d.ns c2], .int .i64 x] w fun e w' => e = .returned (.tuple #[.string ⟨#[]⟩, .int .i64 1]) ∧ Below w.heap.size w w' := by
  have A1 : Hid (Below w.heap.size w (w.alloc (.cells #[.slice a0 d.nb c0, .slice a1 d.nc c1, .slice a2 d.ns c2] 28))) := (Below.refl w.heap.size w).alloc (Nat.le_refl _) _
  have OK : Hid (Calls Tryd.prog 13 #[.agg #[.slice a0 d.nb c0, .slice a1 d.nc c1, .slice a2 d.ns c2]] (w.alloc (.cells #[.slice a0 d.nb c0, .slice a1 d.nc c1, .slice a2 d.ns c2] 28)) fun e w' => e = .returned (.bool false) ∧ Below (w.alloc (.cells #[.slice a0 d.nb c0, .slice a1 d.nc c1, .slice a2 d.ns c2] 28)).heap.size (w.alloc (.cells #[.slice a0 d.nb c0, .slice a1 d.nc c1, .slice a2 d.ns c2] 28)) w') := by
    have := implOK_any d a0 a1 a2 c0 c1 c2 hs p0 p1 _ (h.below A1.out) (hE.e0.below A1.out) (hE.e1.below A1.out)
    rwa [Dk.ok_false hok] at this
  clear h hE hok hs
  go_enter Tryd.func17, Tryd.ntmps17
  go_wp2_with fail
  refine (Calls.mono OK.out) ?_
  rintro e w1 ⟨rfl, hb⟩
  have B1 : Hid (Below w.heap.size w w1) := A1.out.trans (hb.mono A1.out.size)
  clear hb OK A1
  go_wp2
  go_ret2
  exact ⟨rfl, B1.out⟩
set_option maxRecDepth 100000 in
set_option maxHeartbeats 2000000 in
theorem implRead_ok (d : Dk) (a0 a1 a2 : Option Addr) (c0 c1 c2 : Nat) (x : Int) (R : ByteArray) (code : Int) (hs : d.Small) (hok : d.Ok) (hx : (0 ≤ x ∧ x < d.nb ∧ R = d.rd x.toNat ∧ code = 0) ∨ (¬ (0 ≤ x ∧ x < d.nb) ∧ R = ⟨#[]⟩ ∧ code = 4)) (p0 p1 p2 p3 p4 : Addr) (w : World) (h : DiskV w d a0 a1 a2) (hE : Errs w p0 p1 p2 p3 p4) :
    Calls Tryd.prog 17 #[.agg #[.slice a0 d.nb c0, .slice a1 d.nc c1, .slice a2 d.ns c2], .int .i64 x] w fun e w' => e = .returned (.tuple #[.string R, .int .i64 code]) ∧ Below w.heap.size w w' := by
  have A1 : Hid (Below w.heap.size w (w.alloc (.cells #[.slice a0 d.nb c0, .slice a1 d.nc c1, .slice a2 d.ns c2] 28))) := (Below.refl w.heap.size w).alloc (Nat.le_refl _) _
  have RA : Hid (Box3 (w.alloc (.cells #[.slice a0 d.nb c0, .slice a1 d.nc c1, .slice a2 d.ns c2] 28)) w.heap.size 28 (.slice a0 d.nb c0) (.slice a1 d.nc c1) (.slice a2 d.ns c2)) := Box3.made w _ _ _ _
  have OK : Hid (Calls Tryd.prog 13 #[.agg #[.slice a0 d.nb c0, .slice a1 d.nc c1, .slice a2 d.ns c2]] (w.alloc (.cells #[.slice a0 d.nb c0, .slice a1 d.nc c1, .slice a2 d.ns c2] 28)) fun e w' => e = .returned (.bool true) ∧ Below (w.alloc (.cells #[.slice a0 d.nb c0, .slice a1 d.nc c1, .slice a2 d.ns c2] 28)).heap.size (w.alloc (.cells #[.slice a0 d.nb c0, .slice a1 d.nc c1, .slice a2 d.ns c2] 28)) w') := by
    have := implOK_any d a0 a1 a2 c0 c1 c2 hs p0 p1 _ (h.below A1.out) (hE.e0.below A1.out) (hE.e1.below A1.out)
    rwa [Dk.ok_true hok] at this
  have DO : Hid (∀ w : World, Pens w a1 d.nc d.A d.D → Calls Tryd.prog 44 #[.agg #[.slice a0 d.nb c0, .slice a1 d.nc c1, .slice a2 d.ns c2]] w fun e w' => e = .returned (.pointer (some ⟨w.heap.size + 2, 0, none⟩)) ∧ Box4 w' (w.heap.size + 2) 86 (.slice a0 d.nb c0) (.slice a1 d.nc c1) (.slice a2 d.ns c2) (.map (some (w.heap.size + 1))) ∧ MapI w' (w.heap.size + 1) (lastM d.A d.D d.nc) ∧ Below w.heap.size w w') := fun w h => driveOf_any d a0 a1 a2 c0 c1 c2 hok.nc w h
  have HD : Hid (DiskV w d a0 a1 a2) := h
  have HE : Hid (Errs w p0 p1 p2 p3 p4) := hE
  obtain ⟨EV, hEV⟩ : ∃ EV : Value, (EV = .nilIface ∧ code = 0) ∨ (EV = .iface 170 (.pointer (some p0)) ∧ code = 4) := by
    rcases hx with q | q
    · exact ⟨_, .inl ⟨rfl, q.2.2.2⟩⟩
    · exact ⟨_, .inr ⟨rfl, q.2.2⟩⟩
  have RD : Hid (∀ (q b : Nat) (w : World), Box4 w q 86 (.slice a0 d.nb c0) (.slice a1 d.nc c1) (.slice a2 d.ns c2) (.map (some b)) → MapI w b (lastM d.A d.D d.nc) → Strs w a0 d.nb d.B → ErrAt w 0 p0 → Calls Tryd.prog 55 #[.pointer (some ⟨q, 0, none⟩), .int .i64 x] w fun e w' => e = .returned (.tuple #[.string R, EV]) ∧ Below w.heap.size w w') := fun q b w hq hm hB he => by
    rcases hx with ⟨x0, x1, rfl, rfl⟩ | ⟨x0, rfl, rfl⟩
    · rcases hEV with ⟨rfl, _⟩ | ⟨_, e⟩
      · obtain ⟨n, rfl⟩ := Int.eq_ofNat_of_zero_le x0
        rw [Int.toNat_natCast]
        exact read_yes d a0 a1 a2 c0 c1 c2 q b n (by omega) hok.nb2 w hq hm hB
      · exact absurd e (by decide)
    · rcases hEV with ⟨_, e⟩ | ⟨rfl, _⟩
      · exact absurd e (by decide)
      · exact read_no d a0 a1 a2 c0 c1 c2 q x _ x0 p0 w he hq
  have DC : Hid (∀ w : World, Errs w p0 p1 p2 p3 p4 → Calls Tryd.prog 45 #[EV] w fun e w' => e = .returned (.int .i64 code) ∧ w = w') := fun w he => by
    rcases hEV with ⟨rfl, rfl⟩ | ⟨rfl, rfl⟩
    · exact diskCode_nil p0 p1 p2 p3 p4 w he
    · exact diskCode_0 p0 p1 p2 p3 p4 w he
  clear h hE hok hs hx hEV
  go_enter Tryd.func17, Tryd.ntmps17
  go_wp2_with fail
  generalize (w.alloc (.cells #[.slice a0 d.nb c0, .slice a1 d.nc c1, .slice a2 d.ns c2] 28)) = v at *
  refine (Calls.mono OK.out) ?_
  rintro e w1 ⟨rfl, hb⟩
  replace A1 : Hid (Below w.heap.size w w1) := A1.out.trans (hb.mono A1.out.size)
  replace RA : Hid (Box3 w1 w.heap.size 28 (.slice a0 d.nb c0) (.slice a1 d.nc c1) (.slice a2 d.ns c2)) := RA.out.below hb
  have k0 := RA.out.c0
  have k1 := RA.out.c1
  have k2 := RA.out.c2
  clear hb OK
  go_wp2_with fail
  refine (DO.out _ (HD.out.2.1.below A1.out)).mono ?_
  rintro e w2 ⟨rfl, hq, hm, hb⟩
  replace A1 : Hid (Below w.heap.size w w2) := A1.out.trans (hb.mono A1.out.size)
  have HQ : Hid (Box4 w2 (w1.heap.size + 2) 86 (.slice a0 d.nb c0) (.slice a1 d.nc c1) (.slice a2 d.ns c2) (.map (some (w1.heap.size + 1)))) := hq
  have HM : Hid (MapI w2 (w1.heap.size + 1) (lastM d.A d.D d.nc)) := hm
  clear hb hq hm DO k0 k1 k2 RA
  generalize w1.heap.size = z at *
  go_wp2_with fail
  refine (RD.out _ _ _ HQ.out HM.out (HD.out.1.below A1.out) (HE.out.e0.below A1.out)).mono ?_
  rintro e w3 ⟨rfl, hb⟩
  replace A1 : Hid (Below w.heap.size w w3) := A1.out.trans (hb.mono A1.out.size)
  clear hb RD HQ HM
  go_wp2_with fail
  refine (DC.out _ (HE.out.below A1.out)).mono ?_
  rintro e w4 ⟨rfl, rfl⟩
  clear DC HE HD
  go_wp2
  go_ret2
  exact ⟨rfl, A1.out⟩
end Go.Proofs.YtkhglllicblbbaaDoor

/-
  Whether two disks read the same: DiskSame of the program and of the model.
-/
namespace Go.Proofs.YtkhglllicblbbaaDoor
open Go.ChangeShapes Go.WideShapes Go.ChangeAt Go.RowKit
/-- Two disks read the same. -/
def Same (d k : Dk) : Prop := d.nb = k.nb ∧ ∀ i, i < d.nb → d.rd i = k.rd i
theorem toList_ne {A B : ByteArray} (h : A ≠ B) : (A.toList == B.toList) = false := by
  rw [beq_eq_false_iff_ne]
  intro g
  rw [ByteArray.toList_eq, ByteArray.toList_eq] at g
  exact h (bytes_inj g)
set_option maxRecDepth 100000 in
set_option maxHeartbeats 4000000 in
theorem implSame_ok (d k : Dk) (a0 a1 a2 b0 b1 b2 : Option Addr) (c0 c1 c2 e0 e1 e2 : Nat) (r : Bool) (hr : r = true ↔ Same d k) (hs : d.Small) (hs' : k.Small) (hok : d.Ok) (hok' : k.Ok) (p0 p1 : Addr) (w : World) (h : DiskV w d a0 a1 a2) (h' : DiskV w k b0 b1 b2) (hE0 : ErrAt w 0 p0) (hE1 : ErrAt w 1 p1) :
    Calls Tryd.prog 11 #[.agg #[.slice a0 d.nb c0, .slice a1 d.nc c1, .slice a2 d.ns c2], .agg #[.slice b0 k.nb e0, .slice b1 k.nc e1, .slice b2 k.ns e2]] w fun e w' => e = .returned (.tuple #[.bool r, .int .i64 0]) ∧ Below w.heap.size w w' := by
  have A1 : Hid (Below w.heap.size w ((w.alloc (.cells #[.slice a0 d.nb c0, .slice a1 d.nc c1, .slice a2 d.ns c2] 28)).alloc (.cells #[.slice b0 k.nb e0, .slice b1 k.nc e1, .slice b2 k.ns e2] 28))) := ((Below.refl w.heap.size w).alloc (Nat.le_refl _) _).alloc (by simp) _
  have RA : Hid (Box3 ((w.alloc (.cells #[.slice a0 d.nb c0, .slice a1 d.nc c1, .slice a2 d.ns c2] 28)).alloc (.cells #[.slice b0 k.nb e0, .slice b1 k.nc e1, .slice b2 k.ns e2] 28)) w.heap.size 28 (.slice a0 d.nb c0) (.slice a1 d.nc c1) (.slice a2 d.ns c2)) := (Box3.made w _ _ _ _).alloc _
  have RB : Hid (Box3 ((w.alloc (.cells #[.slice a0 d.nb c0, .slice a1 d.nc c1, .slice a2 d.ns c2] 28)).alloc (.cells #[.slice b0 k.nb e0, .slice b1 k.nc e1, .slice b2 k.ns e2] 28)) (w.heap.size + 1) 28 (.slice b0 k.nb e0) (.slice b1 k.nc e1) (.slice b2 k.ns e2)) := Box3.madeAt (by simp) _ _ _ _
  have O1 : Hid (∀ w : World, DiskV w d a0 a1 a2 → ErrAt w 0 p0 → ErrAt w 1 p1 → Calls Tryd.prog 13 #[.agg #[.slice a0 d.nb c0, .slice a1 d.nc c1, .slice a2 d.ns c2]] w fun e w' => e = .returned (.bool true) ∧ Below w.heap.size w w') := fun w h x y => by have := implOK_any d a0 a1 a2 c0 c1 c2 hs p0 p1 w h x y; rwa [Dk.ok_true hok] at this
  have O2 : Hid (∀ w : World, DiskV w k b0 b1 b2 → ErrAt w 0 p0 → ErrAt w 1 p1 → Calls Tryd.prog 13 #[.agg #[.slice b0 k.nb e0, .slice b1 k.nc e1, .slice b2 k.ns e2]] w fun e w' => e = .returned (.bool true) ∧ Below w.heap.size w w') := fun w h x y => by have := implOK_any k b0 b1 b2 e0 e1 e2 hs' p0 p1 w h x y; rwa [Dk.ok_true hok'] at this
  have D1 : Hid (∀ w : World, Pens w a1 d.nc d.A d.D → Calls Tryd.prog 44 #[.agg #[.slice a0 d.nb c0, .slice a1 d.nc c1, .slice a2 d.ns c2]] w fun e w' => e = .returned (.pointer (some ⟨w.heap.size + 2, 0, none⟩)) ∧ Box4 w' (w.heap.size + 2) 86 (.slice a0 d.nb c0) (.slice a1 d.nc c1) (.slice a2 d.ns c2) (.map (some (w.heap.size + 1))) ∧ MapI w' (w.heap.size + 1) (lastM d.A d.D d.nc) ∧ Below w.heap.size w w') := fun w h => driveOf_any d a0 a1 a2 c0 c1 c2 hok.nc w h
  have D2 : Hid (∀ w : World, Pens w b1 k.nc k.A k.D → Calls Tryd.prog 44 #[.agg #[.slice b0 k.nb e0, .slice b1 k.nc e1, .slice b2 k.ns e2]] w fun e w' => e = .returned (.pointer (some ⟨w.heap.size + 2, 0, none⟩)) ∧ Box4 w' (w.heap.size + 2) 86 (.slice b0 k.nb e0) (.slice b1 k.nc e1) (.slice b2 k.ns e2) (.map (some (w.heap.size + 1))) ∧ MapI w' (w.heap.size + 1) (lastM k.A k.D k.nc) ∧ Below w.heap.size w w') := fun w h => driveOf_any k b0 b1 b2 e0 e1 e2 hok'.nc w h
  have S1 : Hid (∀ (q b x : Nat) (w : World), x < d.nb → Box4 w q 86 (.slice a0 d.nb c0) (.slice a1 d.nc c1) (.slice a2 d.ns c2) (.map (some b)) → MapI w b (lastM d.A d.D d.nc) → Strs w a0 d.nb d.B → Calls Tryd.prog 50 #[.pointer (some ⟨q, 0, none⟩), .int .i64 (x : Int)] w fun e w' => e = .returned (.string (d.rd x)) ∧ Below w.heap.size w w') := fun q b x w hx h1 h2 h3 => stands_any d a0 c0 q b x _ _ hx hok.nb2 w h1 h2 h3
  have S2 : Hid (∀ (q b x : Nat) (w : World), x < k.nb → Box4 w q 86 (.slice b0 k.nb e0) (.slice b1 k.nc e1) (.slice b2 k.ns e2) (.map (some b)) → MapI w b (lastM k.A k.D k.nc) → Strs w b0 k.nb k.B → Calls Tryd.prog 50 #[.pointer (some ⟨q, 0, none⟩), .int .i64 (x : Int)] w fun e w' => e = .returned (.string (k.rd x)) ∧ Below w.heap.size w w') := fun q b x w hx h1 h2 h3 => stands_any k b0 e0 q b x _ _ hx hok'.nb2 w h1 h2 h3
  have HX : Hid (DiskV w d a0 a1 a2) := h
  have HY : Hid (DiskV w k b0 b1 b2) := h'
  have E0 : Hid (ErrAt w 0 p0) := hE0
  have E1 : Hid (ErrAt w 1 p1) := hE1
  have HR : Hid (r = true ↔ Same d k) := hr
  have hn := hok.nb2
  have hn' := hok'.nb2
  clear h h' hE0 hE1 hr hok hok' hs hs'
  go_enter Tryd.func11, Tryd.ntmps11
  go_wp2_with fail
  generalize ((w.alloc (.cells #[.slice a0 d.nb c0, .slice a1 d.nc c1, .slice a2 d.ns c2] 28)).alloc (.cells #[.slice b0 k.nb e0, .slice b1 k.nc e1, .slice b2 k.ns e2] 28)) = v at *
  refine (O1.out _ (HX.out.below A1.out) (E0.out.below A1.out) (E1.out.below A1.out)).mono ?_
  rintro e w1 ⟨rfl, hb⟩
  replace A1 : Hid (Below w.heap.size w w1) := A1.out.trans (hb.mono A1.out.size)
  replace RA : Hid (Box3 w1 w.heap.size 28 (.slice a0 d.nb c0) (.slice a1 d.nc c1) (.slice a2 d.ns c2)) := RA.out.below hb
  replace RB : Hid (Box3 w1 (w.heap.size + 1) 28 (.slice b0 k.nb e0) (.slice b1 k.nc e1) (.slice b2 k.ns e2)) := RB.out.below hb
  have k0 := RB.out.c0
  have k1 := RB.out.c1
  have k2 := RB.out.c2
  clear hb O1
  go_wp2_with fail
  refine (O2.out _ (HY.out.below A1.out) (E0.out.below A1.out) (E1.out.below A1.out)).mono ?_
  rintro e w2 ⟨rfl, hb⟩
  replace A1 : Hid (Below w.heap.size w w2) := A1.out.trans (hb.mono A1.out.size)
  replace RA : Hid (Box3 w2 w.heap.size 28 (.slice a0 d.nb c0) (.slice a1 d.nc c1) (.slice a2 d.ns c2)) := RA.out.below hb
  replace RB : Hid (Box3 w2 (w.heap.size + 1) 28 (.slice b0 k.nb e0) (.slice b1 k.nc e1) (.slice b2 k.ns e2)) := RB.out.below hb
  clear hb O2 k0 k1 k2 E0 E1
  have k0 := RB.out.c0
  have k1 := RB.out.c1
  have k2 := RB.out.c2
  have j0 := RA.out.c0
  have j1 := RA.out.c1
  have j2 := RA.out.c2
  by_cases hnb : d.nb = k.nb
  · have x1 : ((d.nb : Int) != (k.nb : Int)) = false := by rw [hnb]; simp
    have HN : Hid (d.nb = k.nb) := hnb
    have B3 : Hid (Below w.heap.size w w2.drew) := A1.out.drew
    have RA3 : Hid (Box3 w2.drew w.heap.size 28 (.slice a0 d.nb c0) (.slice a1 d.nc c1) (.slice a2 d.ns c2)) := RA.out.below (Below.refl _ _).drew
    have RB3 : Hid (Box3 w2.drew (w.heap.size + 1) 28 (.slice b0 k.nb e0) (.slice b1 k.nc e1) (.slice b2 k.ns e2)) := RB.out.below (Below.refl _ _).drew
    have P3 : Hid (Pens w2.drew a1 d.nc d.A d.D) := HX.out.2.1.below B3.out
    have P4 : Hid (Pens w2.drew b1 k.nc k.A k.D) := HY.out.2.1.below B3.out
    clear hnb A1 RA RB
    go_wp2_with fail
    clear k0 k1 k2 j0 j1 j2 x1
    have H : Box3 w2.drew w.heap.size 28 (.slice a0 d.nb c0) (.slice a1 d.nc c1) (.slice a2 d.ns c2) ∧ Box3 w2.drew (w.heap.size + 1) 28 (.slice b0 k.nb e0) (.slice b1 k.nc e1) (.slice b2 k.ns e2) := ⟨RA3.out, RB3.out⟩
    refine wp_region_noPanic ?_
    refine wp_region_held_drew (S := fun w' => Box3 w' w.heap.size 28 (.slice a0 d.nb c0) (.slice a1 d.nc c1) (.slice a2 d.ns c2) ∧ Box3 w' (w.heap.size + 1) 28 (.slice b0 k.nb e0) (.slice b1 k.nc e1) (.slice b2 k.ns e2)) (by kernel_rfl) H (fun _ => ?_)
    generalize w2.drew = u0 at *
    refine wpAnyH_take (i := 0) (v := .agg #[.slice a0 d.nb c0, .slice a1 d.nc c1, .slice a2 d.ns c2]) rfl (by kernel_rfl) (by kernel_rfl) (by kernel_rfl) (fun _ _ _ h => h) (Or.inl ⟨by rfl, ?_⟩) H ?_
    · intro w' hSw; have t0 := hSw.1.c0; have t1 := hSw.1.c1; have t2 := hSw.1.c2; clear hSw; go_simp
    change wpAnyH _ _ _ _ _ _ _ { tmps := #[_, _, _, _, _, _, _, _, _, _, _, _, _, _, _, _, _, _, _, _, _, _, _, _, _, _, _, _, _, _, _, _, _, _, _, _, _, _, _, _, _, _], defers := _ } _
    refine wpAnyH_take (i := 2) (v := .agg #[.slice b0 k.nb e0, .slice b1 k.nc e1, .slice b2 k.ns e2]) rfl (by kernel_rfl) (by kernel_rfl) (by kernel_rfl) (fun _ _ _ h => h) (Or.inl ⟨by rfl, ?_⟩) H ?_
    · intro w' hSw; have t0 := hSw.2.c0; have t1 := hSw.2.c1; have t2 := hSw.2.c2; clear hSw; go_simp
    change wpAnyH _ _ _ _ _ _ _ { tmps := #[_, _, _, _, _, _, _, _, _, _, _, _, _, _, _, _, _, _, _, _, _, _, _, _, _, _, _, _, _, _, _, _, _, _, _, _, _, _, _, _, _, _], defers := _ } _
    refine wpAnyH_ready (rs := [1]) (by kernel_rfl) (by simp) ?_
    refine AllReadyH.cons rfl (fun KK hK => ?_) AllReadyH.nil
    go_simp
    refine (D1.out _ P3.out).mono ?_
    rintro e u1 ⟨rfl, hq, hm, hb⟩
    replace B3 : Hid (Below w.heap.size w u1) := B3.out.trans (hb.mono B3.out.size)
    replace H : Box3 u1 w.heap.size 28 (.slice a0 d.nb c0) (.slice a1 d.nc c1) (.slice a2 d.ns c2) ∧ Box3 u1 (w.heap.size + 1) 28 (.slice b0 k.nb e0) (.slice b1 k.nc e1) (.slice b2 k.ns e2) := ⟨H.1.below hb, H.2.below hb⟩
    have Q1 : Hid (Box4 u1 (u0.heap.size + 2) 86 (.slice a0 d.nb c0) (.slice a1 d.nc c1) (.slice a2 d.ns c2) (.map (some (u0.heap.size + 1)))) := hq
    have M1 : Hid (MapI u1 (u0.heap.size + 1) (lastM d.A d.D d.nc)) := hm
    replace P4 : Hid (Pens u1 b1 k.nc k.A k.D) := P4.out.below hb
    clear hb hq hm D1 P3
    refine hK.out _ _ H (fun _ => ?_)
    clear hK KK
    generalize u0.heap.size = z1 at *
    change wpAnyH _ _ _ _ _ _ _ { tmps := #[_, _, _, _, _, _, _, _, _, _, _, _, _, _, _, _, _, _, _, _, _, _, _, _, _, _, _, _, _, _, _, _, _, _, _, _, _, _, _, _, _, _], defers := _ } _
    refine wpAnyH_ready (rs := [3]) (by kernel_rfl) (by simp) ?_
    refine AllReadyH.cons rfl (fun KK hK => ?_) AllReadyH.nil
    go_simp
    refine (D2.out _ P4.out).mono ?_
    rintro e u2 ⟨rfl, hq, hm, hb⟩
    replace B3 : Hid (Below w.heap.size w u2) := B3.out.trans (hb.mono B3.out.size)
    replace H : Box3 u2 w.heap.size 28 (.slice a0 d.nb c0) (.slice a1 d.nc c1) (.slice a2 d.ns c2) ∧ Box3 u2 (w.heap.size + 1) 28 (.slice b0 k.nb e0) (.slice b1 k.nc e1) (.slice b2 k.ns e2) := ⟨H.1.below hb, H.2.below hb⟩
    have Q2 : Hid (Box4 u2 (u1.heap.size + 2) 86 (.slice b0 k.nb e0) (.slice b1 k.nc e1) (.slice b2 k.ns e2) (.map (some (u1.heap.size + 1)))) := hq
    have M2 : Hid (MapI u2 (u1.heap.size + 1) (lastM k.A k.D k.nc)) := hm
    replace Q1 : Hid (Box4 u2 (z1 + 2) 86 (.slice a0 d.nb c0) (.slice a1 d.nc c1) (.slice a2 d.ns c2) (.map (some (z1 + 1)))) := Q1.out.below hb
    replace M1 : Hid (MapI u2 (z1 + 1) (lastM d.A d.D d.nc)) := M1.out.below hb
    clear hb hq hm D2 P4
    refine hK.out _ _ H (fun _ => ?_)
    clear hK KK
    generalize u1.heap.size = z2 at *
    change wpAnyH _ _ _ _ _ _ _ { tmps := #[_, _, _, _, _, _, _, _, _, _, _, _, _, _, _, _, _, _, _, _, _, _, _, _, _, _, _, _, _, _, _, _, _, _, _, _, _, _, _, _, _, _], defers := _ } _
    refine wpAnyH_take (i := 4) (v := .pointer (some ⟨z1 + 2, 0, none⟩)) rfl (by kernel_rfl) (by kernel_rfl) (by kernel_rfl) (fun _ _ _ h => h) (Or.inl ⟨by rfl, ?_⟩) H ?_
    · intro w' hSw; go_simp
    change wpAnyH _ _ _ _ _ _ _ { tmps := #[_, _, _, _, _, _, _, _, _, _, _, _, _, _, _, _, _, _, _, _, _, _, _, _, _, _, _, _, _, _, _, _, _, _, _, _, _, _, _, _, _, _], defers := _ } _
    refine wpAnyH_take (i := 5) (v := .pointer (some ⟨z2 + 2, 0, none⟩)) rfl (by kernel_rfl) (by kernel_rfl) (by kernel_rfl) (fun _ _ _ h => h) (Or.inl ⟨by rfl, ?_⟩) H ?_
    · intro w' hSw; go_simp
    change wpAnyH _ _ _ _ _ _ _ { tmps := #[_, _, _, _, _, _, _, _, _, _, _, _, _, _, _, _, _, _, _, _, _, _, _, _, _, _, _, _, _, _, _, _, _, _, _, _, _, _, _, _, _, _], defers := _ } _
    have RA : Hid (Box3 u2 w.heap.size 28 (.slice a0 d.nb c0) (.slice a1 d.nc c1) (.slice a2 d.ns c2)) := H.1
    clear H RA3 RB3
    refine wpAnyH_done (by kernel_rfl) ?_ _
    refine NoPanic.normal ?_
    have k0 := RA.out.c0
    go_wp2
    have L : Hid (Box4 u2 (z1 + 2) 86 (.slice a0 d.nb c0) (.slice a1 d.nc c1) (.slice a2 d.ns c2) (.map (some (z1 + 1))) ∧ MapI u2 (z1 + 1) (lastM d.A d.D d.nc) ∧ Box4 u2 (z2 + 2) 86 (.slice b0 k.nb e0) (.slice b1 k.nc e1) (.slice b2 k.ns e2) (.map (some (z2 + 1))) ∧ MapI u2 (z2 + 1) (lastM k.A k.D k.nc) ∧ Below w.heap.size w u2) := ⟨Q1.out, M1.out, Q2.out, M2.out, B3.out⟩
    clear Q1 M1 Q2 M2 B3 RA k0
    go_loopw [31] (fun i wr => ∃ x : Nat, x ≤ d.nb ∧ i = .int .i64 x ∧ (∀ j, j < x → d.rd j = k.rd j) ∧ Box4 wr (z1 + 2) 86 (.slice a0 d.nb c0) (.slice a1 d.nc c1) (.slice a2 d.ns c2) (.map (some (z1 + 1))) ∧ MapI wr (z1 + 1) (lastM d.A d.D d.nc) ∧ Box4 wr (z2 + 2) 86 (.slice b0 k.nb e0) (.slice b1 k.nc e1) (.slice b2 k.ns e2) (.map (some (z2 + 1))) ∧ MapI wr (z2 + 1) (lastM k.A k.D k.nc) ∧ Below w.heap.size w wr) (fun i _ => d.nb - (intOf i).toNat)
    case atStart => exact ⟨0, by omega, rfl, fun j hj => absurd hj (by omega), L.out⟩
    case round =>
      clear L
      obtain ⟨x, hx, rfl, hall, q1, m1, q2, m2, hb⟩ := hrel
      have HL : Hid (∀ j, j < x → d.rd j = k.rd j) := hall
      have Q1 : Hid (Box4 wr (z1 + 2) 86 (.slice a0 d.nb c0) (.slice a1 d.nc c1) (.slice a2 d.ns c2) (.map (some (z1 + 1)))) := q1
      have M1 : Hid (MapI wr (z1 + 1) (lastM d.A d.D d.nc)) := m1
      have Q2 : Hid (Box4 wr (z2 + 2) 86 (.slice b0 k.nb e0) (.slice b1 k.nc e1) (.slice b2 k.ns e2) (.map (some (z2 + 1)))) := q2
      have M2 : Hid (MapI wr (z2 + 1) (lastM k.A k.D k.nc)) := m2
      have B3 : Hid (Below w.heap.size w wr) := hb
      clear hall q1 m1 q2 m2 hb
      by_cases hlt : x < d.nb
      · have hlt' : (x : Int) < (d.nb : Int) := by omega
        go_wp2_with fail
        refine (S1.out _ _ _ _ hlt Q1.out M1.out (HX.out.1.below B3.out)).mono ?_
        rintro e w4 ⟨rfl, hb⟩
        replace Q1 : Hid (Box4 w4 (z1 + 2) 86 (.slice a0 d.nb c0) (.slice a1 d.nc c1) (.slice a2 d.ns c2) (.map (some (z1 + 1)))) := Q1.out.below hb
        replace M1 : Hid (MapI w4 (z1 + 1) (lastM d.A d.D d.nc)) := M1.out.below hb
        replace Q2 : Hid (Box4 w4 (z2 + 2) 86 (.slice b0 k.nb e0) (.slice b1 k.nc e1) (.slice b2 k.ns e2) (.map (some (z2 + 1)))) := Q2.out.below hb
        replace M2 : Hid (MapI w4 (z2 + 1) (lastM k.A k.D k.nc)) := M2.out.below hb
        replace B3 : Hid (Below w.heap.size w w4) := B3.out.trans (hb.mono B3.out.size)
        clear hb
        go_wp2_with fail
        refine (S2.out _ _ _ _ (by have := HN.out; omega) Q2.out M2.out (HY.out.1.below B3.out)).mono ?_
        rintro e w5 ⟨rfl, hb⟩
        replace Q1 : Hid (Box4 w5 (z1 + 2) 86 (.slice a0 d.nb c0) (.slice a1 d.nc c1) (.slice a2 d.ns c2) (.map (some (z1 + 1)))) := Q1.out.below hb
        replace M1 : Hid (MapI w5 (z1 + 1) (lastM d.A d.D d.nc)) := M1.out.below hb
        replace Q2 : Hid (Box4 w5 (z2 + 2) 86 (.slice b0 k.nb e0) (.slice b1 k.nc e1) (.slice b2 k.ns e2) (.map (some (z2 + 1)))) := Q2.out.below hb
        replace M2 : Hid (MapI w5 (z2 + 1) (lastM k.A k.D k.nc)) := M2.out.below hb
        replace B3 : Hid (Below w.heap.size w w5) := B3.out.trans (hb.mono B3.out.size)
        clear hb
        by_cases hd : d.rd x = k.rd x
        · have HD2 : Hid (d.rd x = k.rd x) := hd
          rw [hd]
          clear hd
          go_wp2
          go_roundw
          case rel => exact ⟨x + 1, by omega, by go_num, fun j hj => by
            rcases (show j < x ∨ j = x by omega) with g | rfl
            · exact HL.out j g
            · exact HD2.out, Q1.out, M1.out, Q2.out, M2.out, B3.out⟩
          case measure => simp [intOf]; omega
        · obtain rfl : r = false := by
            rcases Bool.eq_false_or_eq_true r with h | h
            · exact absurd ((HR.out.1 h).2 x hlt) hd
            · exact h
          have hne := toList_ne hd
          generalize k.rd x = R at *
          generalize d.rd x = R2 at *
          clear Q1 Q2 M1 M2 S1 S2 HL hd
          go_wp2
          go_ret2
          exact ⟨rfl, B3.out⟩
      · have hlt' : ¬ (x : Int) < (d.nb : Int) := by omega
        obtain rfl : r = true := HR.out.2 ⟨HN.out, fun i hi => HL.out i (by omega)⟩
        clear Q1 Q2 M1 M2 S1 S2
        go_wp2
        go_ret2
        exact ⟨rfl, B3.out⟩
  · have x1 : ((d.nb : Int) != (k.nb : Int)) = true := by simp; omega
    obtain rfl : r = false := by
      rcases Bool.eq_false_or_eq_true r with h | h
      · exact absurd (HR.out.1 h).1 hnb
      · exact h
    clear D1 D2 S1 S2 HX HY HR hnb
    go_wp2
    go_ret2
    exact ⟨rfl, A1.out⟩
set_option maxRecDepth 100000 in
set_option maxHeartbeats 4000000 in
theorem implSame_bad (d k : Dk) (a0 a1 a2 b0 b1 b2 : Option Addr) (c0 c1 c2 e0 e1 e2 : Nat) (hs : d.Small) (hs' : k.Small) (hok : ¬ (d.Ok ∧ k.Ok)) (p0 p1 : Addr) (w : World) (h : DiskV w d a0 a1 a2) (h' : DiskV w k b0 b1 b2) (hE0 : ErrAt w 0 p0) (hE1 : ErrAt w 1 p1) :
    Calls Tryd.prog 11 #[.agg #[.slice a0 d.nb c0, .slice a1 d.nc c1, .slice a2 d.ns c2], .agg #[.slice b0 k.nb e0, .slice b1 k.nc e1, .slice b2 k.ns e2]] w fun e w' => e = .returned (.tuple #[.bool false, .int .i64 1]) ∧ Below w.heap.size w w' := by
  have A1 : Hid (Below w.heap.size w ((w.alloc (.cells #[.slice a0 d.nb c0, .slice a1 d.nc c1, .slice a2 d.ns c2] 28)).alloc (.cells #[.slice b0 k.nb e0, .slice b1 k.nc e1, .slice b2 k.ns e2] 28))) := ((Below.refl w.heap.size w).alloc (Nat.le_refl _) _).alloc (by simp) _
  have RB : Hid (Box3 ((w.alloc (.cells #[.slice a0 d.nb c0, .slice a1 d.nc c1, .slice a2 d.ns c2] 28)).alloc (.cells #[.slice b0 k.nb e0, .slice b1 k.nc e1, .slice b2 k.ns e2] 28)) (w.heap.size + 1) 28 (.slice b0 k.nb e0) (.slice b1 k.nc e1) (.slice b2 k.ns e2)) := Box3.madeAt (by simp) _ _ _ _
  have O1 : Hid (∀ w : World, DiskV w d a0 a1 a2 → ErrAt w 0 p0 → ErrAt w 1 p1 → Calls Tryd.prog 13 #[.agg #[.slice a0 d.nb c0, .slice a1 d.nc c1, .slice a2 d.ns c2]] w fun e w' => e = .returned (.bool d.ok) ∧ Below w.heap.size w w') := fun w h x y => implOK_any d a0 a1 a2 c0 c1 c2 hs p0 p1 w h x y
  have O2 : Hid (∀ w : World, DiskV w k b0 b1 b2 → ErrAt w 0 p0 → ErrAt w 1 p1 → Calls Tryd.prog 13 #[.agg #[.slice b0 k.nb e0, .slice b1 k.nc e1, .slice b2 k.ns e2]] w fun e w' => e = .returned (.bool k.ok) ∧ Below w.heap.size w w') := fun w h x y => implOK_any k b0 b1 b2 e0 e1 e2 hs' p0 p1 w h x y
  have HX : Hid (DiskV w d a0 a1 a2) := h
  have HY : Hid (DiskV w k b0 b1 b2) := h'
  have E0 : Hid (ErrAt w 0 p0) := hE0
  have E1 : Hid (ErrAt w 1 p1) := hE1
  clear h h' hE0 hE1 hs hs'
  by_cases hd : d.Ok
  · rw [Dk.ok_true hd] at O1
    rw [Dk.ok_false (fun q => hok ⟨hd, q⟩)] at O2
    clear hok hd
    go_enter Tryd.func11, Tryd.ntmps11
    go_wp2_with fail
    generalize ((w.alloc (.cells #[.slice a0 d.nb c0, .slice a1 d.nc c1, .slice a2 d.ns c2] 28)).alloc (.cells #[.slice b0 k.nb e0, .slice b1 k.nc e1, .slice b2 k.ns e2] 28)) = v at *
    refine (O1.out _ (HX.out.below A1.out) (E0.out.below A1.out) (E1.out.below A1.out)).mono ?_
    rintro e w1 ⟨rfl, hb⟩
    replace A1 : Hid (Below w.heap.size w w1) := A1.out.trans (hb.mono A1.out.size)
    replace RB : Hid (Box3 w1 (w.heap.size + 1) 28 (.slice b0 k.nb e0) (.slice b1 k.nc e1) (.slice b2 k.ns e2)) := RB.out.below hb
    have k0 := RB.out.c0
    have k1 := RB.out.c1
    have k2 := RB.out.c2
    clear hb O1
    go_wp2_with fail
    refine (O2.out _ (HY.out.below A1.out) (E0.out.below A1.out) (E1.out.below A1.out)).mono ?_
    rintro e w2 ⟨rfl, hb⟩
    replace A1 : Hid (Below w.heap.size w w2) := A1.out.trans (hb.mono A1.out.size)
    clear hb O2 k0 k1 k2 E0 E1 RB
    go_wp2
    go_ret2
    exact ⟨rfl, A1.out⟩
  · rw [Dk.ok_false hd] at O1
    clear hok hd O2
    go_enter Tryd.func11, Tryd.ntmps11
    go_wp2_with fail
    generalize ((w.alloc (.cells #[.slice a0 d.nb c0, .slice a1 d.nc c1, .slice a2 d.ns c2] 28)).alloc (.cells #[.slice b0 k.nb e0, .slice b1 k.nc e1, .slice b2 k.ns e2] 28)) = v at *
    refine (O1.out _ (HX.out.below A1.out) (E0.out.below A1.out) (E1.out.below A1.out)).mono ?_
    rintro e w1 ⟨rfl, hb⟩
    replace A1 : Hid (Below w.heap.size w w1) := A1.out.trans (hb.mono A1.out.size)
    clear hb O1 RB
    go_wp2
    go_ret2
    exact ⟨rfl, A1.out⟩
end Go.Proofs.YtkhglllicblbbaaDoor

/-
  Towards FnDisk: behind a sync a crash changes nothing; acts copied by append.
-/
namespace Go.Proofs.YtkhglllicblbbaaDoor
open Go.ChangeShapes Go.WideShapes Go.ChangeAt Go.RowKit
set_option linter.unusedVariables false
theorem same_end (d : Dk) (nk : Nat) (K : Nat → Bool) (t : Int) : Same d ((d.synced).crashed nk K t) := by
  refine ⟨rfl, fun i hi => ?_⟩
  rfl
theorem runD_congr (d : Dk) (A A' : Nat → Ac) : ∀ n, (∀ i, i < n → A i = A' i) → runD d A n = runD d A' n
  | 0, _ => rfl
  | n + 1, h => by
    show (runD d A n).done (A n) = (runD d A' n).done (A' n)
    rw [runD_congr d A A' n (fun i hi => h i (by omega)), h n (by omega)]
theorem done_sync (d : Dk) (x : Int) (s : ByteArray) (nk : Nat) (K : Nat → Bool) (t : Int) : d.done ⟨2, x, s, nk, K, t⟩ = d.synced := by
  have f : d.fault ⟨2, x, s, nk, K, t⟩ = 0 := by unfold Dk.fault; simp
  unfold Dk.done
  rw [if_pos f]
  unfold Dk.acted
  simp
theorem done_crashM (d : Dk) (x : Int) (s : ByteArray) (nk : Nat) (K : Nat → Bool) (t : Int) : d.done ⟨3, x, s, nk, K, t⟩ = d.crashed nk K t := by
  have f : d.fault ⟨3, x, s, nk, K, t⟩ = 0 := by unfold Dk.fault; simp
  unfold Dk.done
  rw [if_pos f]
  unfold Dk.acted
  simp
theorem runD_end (d : Dk) (A A' : Nat → Ac) (n : Nat) (x y : Int) (s r : ByteArray) (nk ml : Nat) (K M : Nat → Bool) (t u : Int) (h : ∀ i, i < n → A i = A' i) (h1 : A' n = ⟨2, x, s, nk, K, t⟩) (h2 : A' (n + 1) = ⟨3, y, r, ml, M, u⟩) : runD d A' (n + 2) = ((runD d A n).synced).crashed ml M u := by
  show ((runD d A' n).done (A' n)).done (A' (n + 1)) = _
  rw [h1, h2, done_sync, done_crashM, runD_congr d A A' n h]
/-- The flags of n acts, told by functions. -/
theorem Acts.told {w : World} {b off n : Nat} {A : Nat → Ac} (h : Acts w (some ⟨b, off, none⟩) n A) : ∃ (AK : Nat → Option Addr) (CK : Nat → Nat), ∀ i, i < n → ActC w b (off + i * 5) (A i) (AK i) (CK i) ∧ Bools w (AK i) (A i).nk (A i).K := by
  have q : ∀ i, ∃ y : Option Addr × Nat, i < n → ActC w b (off + i * 5) (A i) y.1 y.2 ∧ Bools w y.1 (A i).nk (A i).K := fun i => by
    by_cases hi : i < n
    · obtain ⟨b', o', ak, ck, e, h1, h2⟩ := h i hi
      cases e
      exact ⟨(ak, ck), fun _ => ⟨h1, h2⟩⟩
    · exact ⟨(none, 0), fun h => absurd h hi⟩
  obtain ⟨f, hf⟩ := Classical.skolem.1 q
  exact ⟨fun i => (f i).1, fun i => (f i).2, hf⟩
theorem actC_one (A : Nat → Ac) (AK : Nat → Option Addr) (CK : Nat → Nat) (i : Nat) : (actC A AK CK i).oneCell' = true := by
  unfold actC
  split
  · rfl
  split
  · rfl
  split
  · rfl
  split
  · rfl
  · rfl
set_option maxRecDepth 100000 in
/-- append of n acts to an empty row of the call's own. -/
theorem appAcN (w : World) (B g c0 n c b off : Nat) (A : Nat → Ac) (AK : Nat → Option Addr) (CK : Nat → Nat) (ty : TypeId) (hB : B ≤ w.heap.size) (hn : n ≤ 1000000) (h : AcR w B (.slice (some ⟨g, 0, none⟩) 0 c0) 0 A AK CK) (hx : ∀ i, i < n → ActC w b (off + i * 5) (A i) (AK i) (CK i)) :
    ∃ g' c' w', (Builtin.append_ #[23, 23] ty #[.slice (some ⟨g, 0, none⟩) 0 c0, .slice (some ⟨b, off, none⟩) n c]).run Tryd.prog w = .ok (.slice (some ⟨g', 0, none⟩) n c') w' ∧ AcR w' B (.slice (some ⟨g', 0, none⟩) n c') n A AK CK ∧ OnlyB g w w' ∧ (g' = g ∨ g' = w.heap.size) := by
  obtain ⟨i, hi, hz, hsz, hby⟩ := info_parts Tryd.infoDAc
  obtain ⟨v', w', hr, ho, hg, hne, hloc⟩ := run_append_own_at (P := Tryd.prog) w B 23 ty 38 i _ 5 64 Tryd.underlying23 hi hz hsz hby rfl (by decide) _ 0 _ h ⟨b, off, none⟩ n c ((List.range (n * 5)).map (actC A AK CK)) (by simp) (fun j u hj => by
    have hjm : j < n * 5 := by have := (List.getElem?_eq_some_iff.1 hj).1; simpa using this
    have hu : u = actC A AK CK j := by simpa [hjm] using hj.symm
    rw [show ((⟨b, off, none⟩ : Addr).add j) = ⟨b, off + j, none⟩ from Go.WideShapes.add_plain _ _ _, hu]
    obtain ⟨e0, e1, e2, e3, e4⟩ := actC_at A AK CK (j / 5)
    have q := hx (j / 5) (by omega)
    rcases (show j % 5 = 0 ∨ j % 5 = 1 ∨ j % 5 = 2 ∨ j % 5 = 3 ∨ j % 5 = 4 by omega) with e | e | e | e | e
    · rw [show j = j / 5 * 5 from by omega, e0]; exact q.c0
    · rw [show j = j / 5 * 5 + 1 from by omega, e1]; exact q.c1
    · rw [show j = j / 5 * 5 + 2 from by omega, e2]; exact q.c2
    · rw [show j = j / 5 * 5 + 3 from by omega, e3]; exact q.c3
    · rw [show j = j / 5 * 5 + 4 from by omega, e4]; exact q.c4) (fun u hu => by
      obtain ⟨j, _, rfl⟩ := List.mem_map.1 hu
      exact actC_one A AK CK j) (by unfold maxLen; omega) (by omega) hB
  rw [Nat.zero_add] at ho
  have ho' : AcR w' B v' n A AK CK := by
    unfold AcR
    simpa using ho
  have hform : ∃ g2 c2, v' = .slice (some ⟨g2, 0, none⟩) n c2 := by
    obtain ⟨hl, ⟨h1, h2⟩ | ⟨g', cap, cur, hv, _⟩⟩ := ho'
    · exact absurd (hne.1 h1).1 (by simp)
    · exact ⟨g', cap, hv⟩
  obtain ⟨g2, c2, rfl⟩ := hform
  refine ⟨g2, c2, w', hr, ho', grown_only hg, ?_⟩
  rcases hloc with e | e
  · exact .inl (Option.some.inj e)
  · exact .inr (Option.some.inj e)
end Go.Proofs.YtkhglllicblbbaaDoor

/-
  Towards FnDisk: how many writes wait, two acts appended, two rows of numbers compared.
-/
namespace Go.Proofs.YtkhglllicblbbaaDoor
open Go.ChangeShapes Go.WideShapes Go.ChangeAt Go.RowKit
set_option linter.unusedVariables false
theorem done_nc (d : Dk) (a : Ac) : (d.done a).nc ≤ d.nc + 1 := by
  unfold Dk.done
  split
  · unfold Dk.acted
    split
    · exact Nat.le_refl _
    split
    · exact Nat.zero_le _
    split
    · exact Nat.zero_le _
    split
    · exact Nat.le_succ _
    split
    · exact Nat.zero_le _
    · exact Nat.le_succ _
  · exact Nat.le_succ _
theorem runD_nc (d : Dk) (A : Nat → Ac) : ∀ q, (runD d A q).nc ≤ d.nc + q
  | 0 => Nat.le_refl _
  | q + 1 => by
    have h1 := runD_nc d A q
    have h2 := done_nc (runD d A q) (A q)
    show ((runD d A q).done (A q)).nc ≤ _
    omega
theorem rd_written (d : Dk) (x : Nat) (s : ByteArray) : (d.written (x : Int) s).rd x = s := by
  unfold Dk.rd Dk.written
  show rdF (catI d.nc d.A (fun _ => (x : Int))) (catT d.nc d.D (fun _ => s)) (d.B x) (x : Int) (d.nc + 1) = s
  unfold rdF
  rw [if_pos (by unfold catI; rw [if_neg (Nat.lt_irrefl _)])]
  unfold catT
  rw [if_neg (Nat.lt_irrefl _)]
set_option maxRecDepth 100000 in
/-- append of two acts. -/
theorem appAc2 (w : World) (B g n c : Nat) (A : Nat → Ac) (AK : Nat → Option Addr) (CK : Nat → Nat) (q : Nat) (x y : Ac) (ak al : Option Addr) (ck cl : Nat) (ty : TypeId) (hB : B ≤ w.heap.size) (hn : n ≤ 1000000) (h : AcR w B (.slice (some ⟨g, 0, none⟩) n c) n A AK CK) (hx : ActC w q 0 x ak ck) (hy : ActC w q 5 y al cl) :
    ∃ g' c' w', (Builtin.append_ #[23, 23] ty #[.slice (some ⟨g, 0, none⟩) n c, .slice (some ⟨q, 0, none⟩) 2 2]).run Tryd.prog w = .ok (.slice (some ⟨g', 0, none⟩) (n + 2) c') w' ∧ AcR w' B (.slice (some ⟨g', 0, none⟩) (n + 2) c') (n + 2) (updF (updF A n x) (n + 1) y) (updF (updF AK n ak) (n + 1) al) (updF (updF CK n ck) (n + 1) cl) ∧ OnlyB g w w' ∧ (g' = g ∨ g' = w.heap.size) := by
  obtain ⟨i, hi, hz, hsz, hby⟩ := info_parts Tryd.infoDAc
  obtain ⟨v', w', hr, ho, hg, hne, hloc⟩ := run_append_own_at (P := Tryd.prog) w B 23 ty 38 i _ 5 64 Tryd.underlying23 hi hz hsz hby rfl (by decide) _ n _ h ⟨q, 0, none⟩ 2 2 ([.int .i64 x.kd, .int .i64 x.x, .string x.s, .slice ak x.nk ck, .int .i64 x.t] ++ [.int .i64 y.kd, .int .i64 y.x, .string y.s, .slice al y.nk cl, .int .i64 y.t]) rfl (fun j u hj => by
    rw [show ((⟨q, 0, none⟩ : Addr).add j) = ⟨q, 0 + j, none⟩ from Go.WideShapes.add_plain _ _ _]
    match j, hj with
    | 0, hj => cases hj; exact hx.c0
    | 1, hj => cases hj; exact hx.c1
    | 2, hj => cases hj; exact hx.c2
    | 3, hj => cases hj; exact hx.c3
    | 4, hj => cases hj; exact hx.c4
    | 5, hj => cases hj; exact hy.c0
    | 6, hj => cases hj; exact hy.c1
    | 7, hj => cases hj; exact hy.c2
    | 8, hj => cases hj; exact hy.c3
    | 9, hj => cases hj; exact hy.c4) (fun u hu => by
      simp at hu
      rcases hu with rfl | rfl | rfl | rfl | rfl | rfl | rfl | rfl | rfl | rfl <;> rfl) (by unfold maxLen; omega) (by omega) hB
  rw [← List.append_assoc, actC_ext, actC_ext] at ho
  have hform : ∃ g2 c2, v' = .slice (some ⟨g2, 0, none⟩) (n + 2) c2 := by
    obtain ⟨hl, ⟨h1, h2⟩ | ⟨g', cap, cur, hv, _⟩⟩ := ho
    · omega
    · exact ⟨g', cap, hv⟩
  obtain ⟨g2, c2, rfl⟩ := hform
  refine ⟨g2, c2, w', hr, ho, grown_only hg, ?_⟩
  rcases hloc with e | e
  · exact .inl (Option.some.inj e)
  · exact .inr (Option.some.inj e)
/-- Two rows of numbers that read alike. -/
def Nums (w : World) (a : Option Addr) (n : Nat) (f : Nat → Int) : Prop := ∀ i, i < n → ∃ b off, a = some ⟨b, off, none⟩ ∧ w.cell? ⟨b, off + i, none⟩ = some (.int .i64 (f i))
theorem IntR.nums {w : World} {B : Nat} {v : Value} {n : Nat} {C : Nat → Int} (h : IntR w B v n C) : ∃ a c, v = .slice a n c ∧ Nums w a n C := by
  obtain ⟨hl, ⟨rfl, rfl⟩ | ⟨g, cap, cur, rfl, hB, hh, hn, hm, hs, ht⟩⟩ := h
  · exact ⟨none, 0, rfl, fun i hi => absurd hi (Nat.not_lt_zero i)⟩
  · refine ⟨some ⟨g, 0, none⟩, cap, rfl, fun i hi => ⟨g, 0, rfl, ?_⟩⟩
    rw [Nat.zero_add]
    have h1 : (cur.toList.take (n * 1))[i]? = some (.int .i64 (C i)) := by rw [ht]; simp [hi]
    rw [List.getElem?_take, if_pos (by omega), Array.getElem?_toList] at h1
    simp [World.cell?, hh, h1]
theorem Nums.opened {w : World} {a : Option Addr} {n : Nat} {f : Nat → Int} (h : Nums w a n f) (hn : 0 < n) : ∃ b off, a = some ⟨b, off, none⟩ ∧ ∀ i, i < n → w.cell? ⟨b, off + i, none⟩ = some (.int .i64 (f i)) := by
  obtain ⟨b, off, rfl, _⟩ := h 0 hn
  refine ⟨b, off, rfl, fun i hi => ?_⟩
  obtain ⟨b', off', e, hc⟩ := h i hi
  cases e
  exact hc
set_option maxRecDepth 100000 in
set_option maxHeartbeats 1000000 in
theorem sameNums_yes (a b : Option Addr) (n c d : Nat) (f : Nat → Int) (w : World) (h : Nums w a n f) (h' : Nums w b n f) (hn : n ≤ 1048576) :
    Calls Tryd.prog 12 #[.slice a n c, .slice b n d] w fun e w' => e = .returned (.bool true) ∧ ∃ q, w' = w.drewN q := by
  rcases Nat.eq_zero_or_pos n with rfl | hpos
  · go_enter Tryd.func12, Tryd.ntmps12
    go_wp2
    go_loopw [5] (fun i wr => i = .int .i64 0 ∧ wr = w) (fun _ _ => 0)
    case atStart => exact ⟨rfl, rfl⟩
    case round =>
      obtain ⟨rfl, rfl⟩ := hrel
      go_wp2
      go_ret
      exact ⟨rfl, 0, rfl⟩
  · obtain ⟨b1, o1, rfl, hc⟩ := h.opened hpos
    obtain ⟨b2, o2, rfl, hc'⟩ := h'.opened hpos
    have HC : Hid (∀ i, i < n → w.cell? ⟨b1, o1 + i, none⟩ = some (.int .i64 (f i))) := hc
    have HD : Hid (∀ i, i < n → w.cell? ⟨b2, o2 + i, none⟩ = some (.int .i64 (f i))) := hc'
    clear h h' hc hc'
    have hne : ((n : Int) != (n : Int)) = false := by simp
    go_enter Tryd.func12, Tryd.ntmps12
    go_wp2
    go_loopw [5] (fun i wr => ∃ k : Nat, k ≤ n ∧ i = .int .i64 k ∧ ∃ q, wr = w.drewN q) (fun i _ => n - (intOf i).toNat)
    case atStart => exact ⟨0, by omega, rfl, 0, rfl⟩
    case round =>
      obtain ⟨k, hk, rfl, q, rfl⟩ := hrel
      by_cases hlt : k < n
      · have c1 := HC.out k hlt
        have c2 := HD.out k hlt
        have hlt' : (k : Int) < (n : Int) := by omega
        generalize f k = V at *
        go_wp2
        go_quiet (fail)
        go_wp2
        go_roundw
        case rel => exact ⟨k + 1, by omega, by go_num, _, by first | rfl | rw [World.drewN_drewN]⟩
        case measure => simp [intOf]; omega
      · go_wp2
        go_ret
        exact ⟨rfl, q, rfl⟩
end Go.Proofs.YtkhglllicblbbaaDoor
