/-
  Texts of the proof, joined: SvcW.
-/
import Derived.Test.YtedncfcmhaaobaaZ24
namespace Go.Proofs.Ytedncfcmhaaobaa
open Go.ChangeShapes Go.WideShapes Go.ChangeAt Go.RowKit
set_option linter.unusedVariables false
set_option maxRecDepth 100000 in
set_option maxHeartbeats 4000000 in
theorem implSvOK_v (s : Sv) (p : Sa) (hx : s.max 1048576) (z : Bool) (hz : z = sB s.Ok) (w : World) (h : SvV w s p) :
  Calls Try.prog 29 #[.agg #[.slice p.a s.n p.ca, .int .i64 s.t, .slice p.b s.m p.cb, .slice p.d s.l p.cd]] w fun e w' => e = .returned (.bool z) ∧ Below w.heap.size w w' := by
 obtain ⟨pa, pb, pd, PA, PB, PD, PX, PY, PZ, ca, cb, cd⟩ := p
 dsimp only
 have BB : Hid (Below w.heap.size w (w.alloc (.cells #[.slice pa s.n ca, .int .i64 s.t, .slice pb s.m cb, .slice pd s.l cd] 28))) := (Below.refl w.heap.size w).alloc (Nat.le_refl _) _
 have S1 : Hid (BxF (w.alloc (.cells #[.slice pa s.n ca, .int .i64 s.t, .slice pb s.m cb, .slice pd s.l cd] 28)) w.heap.size 28 4 (fun i => if i = 0 then .slice pa s.n ca else if i = 1 then .int .i64 s.t else if i = 2 then .slice pb s.m cb else .slice pd s.l cd)) := BxF.sv _ _ _ _ _
 have HV : Hid (SvV (w.alloc (.cells #[.slice pa s.n ca, .int .i64 s.t, .slice pb s.m cb, .slice pd s.l cd] 28)) s ⟨pa, pb, pd, PA, PB, PD, PX, PY, PZ, ca, cb, cd⟩) := h.below BB.out
 have HZ : Hid (z = sB s.Ok) := hz
 have HX : Hid (s.max 1048576) := hx
 have hsm : s.m ≤ 1048576 := hx.2.1.1
 clear h hz
 by_cases c0 : 1 ≤ s.n ∧ s.n ≤ 7
 case neg =>
  replace HZ : Hid (z = false) := HZ.out.trans (sB_no (fun y => c0 y.1.1))
  have QS : Hid (∀ w : World, Calls Try.prog 51 #[.int .i64 (s.n : Int)] w fun e w' => e = .returned (.tuple #[.int .i64 0, .int .i64 4]) ∧ w = w') := fun w => implQs_no (s.n : Int) (by omega) w
  clear c0
  go_enter Try.func29, Try.ntmps29
  go_wp2_with fail
  generalize (w.alloc (.cells #[.slice pa s.n ca, .int .i64 s.t, .slice pb s.m cb, .slice pd s.l cd] 28)) = v0 at *
  obtain ⟨sb, hsb⟩ : ∃ x, x = w.heap.size := ⟨_, rfl⟩
  rw [← hsb] at S1 ⊢
  clear hsb
  refine (QS.out _).mono ?_
  rintro e _ ⟨rfl, rfl⟩
  clear QS
  clear S1 HV 
  go_wp2
  go_ret
  exact ⟨by rw [HZ.out]; rfl, BB.out⟩
 have QS : Hid (∀ w : World, Calls Try.prog 51 #[.int .i64 (s.n : Int)] w fun e w' => e = .returned (.tuple #[.int .i64 ((s.n : Int) / 2 + 1), .int .i64 0]) ∧ w = w') := fun w => implQs_yes (s.n : Int) (by omega) w
 by_cases ct : inS s.t
 case neg =>
  replace HZ : Hid (z = false) := HZ.out.trans (sB_no (fun y => ct y.1.2.1))
  have It : Hid (∀ w : World, Calls Try.prog 59 #[.int .i64 s.t] w fun e w' => e = .returned (.bool false) ∧ Below w.heap.size w w') := fun w => inScript_v s.t false (sB_no ct).symm w
  clear c0 ct
  go_enter Try.func29, Try.ntmps29
  go_wp2_with fail
  generalize (w.alloc (.cells #[.slice pa s.n ca, .int .i64 s.t, .slice pb s.m cb, .slice pd s.l cd] 28)) = v0 at *
  obtain ⟨sb, hsb⟩ : ∃ x, x = w.heap.size := ⟨_, rfl⟩
  rw [← hsb] at S1 ⊢
  clear hsb
  refine (QS.out _).mono ?_
  rintro e _ ⟨rfl, rfl⟩
  have t0 : v0.cell? ⟨sb, 0, none⟩ = some (.slice pa s.n ca) := S1.out.cell 0 (by omega)
  have t1 : v0.cell? ⟨sb, 1, none⟩ = some (.int .i64 s.t) := S1.out.cell 1 (by omega)
  have t2 : v0.cell? ⟨sb, 2, none⟩ = some (.slice pb s.m cb) := S1.out.cell 2 (by omega)
  have t3 : v0.cell? ⟨sb, 3, none⟩ = some (.slice pd s.l cd) := S1.out.cell 3 (by omega)
  go_wp2_with fail
  clear t0 t1 t2 t3
  refine (It.out _).mono ?_
  rintro e v1 ⟨rfl, hb⟩
  replace BB : Hid (Below w.heap.size w v1) := BB.out.trans (hb.mono BB.out.size)
  replace S1 : Hid (BxF v1 sb 28 4 (fun i => if i = 0 then .slice pa s.n ca else if i = 1 then .int .i64 s.t else if i = 2 then .slice pb s.m cb else .slice pd s.l cd)) := S1.out.below hb
  replace HV : Hid (SvV v1 s ⟨pa, pb, pd, PA, PB, PD, PX, PY, PZ, ca, cb, cd⟩) := HV.out.below hb
  clear hb
  clear S1 HV QS It
  go_wp2
  go_ret
  exact ⟨by rw [HZ.out]; rfl, BB.out⟩
 by_cases cm : inS (s.m : Int)
 case neg =>
  replace HZ : Hid (z = false) := HZ.out.trans (sB_no (fun y => cm ⟨by omega, by have := y.1.2.2.1; omega⟩))
  have It : Hid (∀ w : World, Calls Try.prog 59 #[.int .i64 s.t] w fun e w' => e = .returned (.bool true) ∧ Below w.heap.size w w') := fun w => inScript_v s.t true (sB_yes ct).symm w
  have Im : Hid (∀ w : World, Calls Try.prog 59 #[.int .i64 (s.m : Int)] w fun e w' => e = .returned (.bool false) ∧ Below w.heap.size w w') := fun w => inScript_v (s.m : Int) false (sB_no cm).symm w
  clear c0 ct cm
  go_enter Try.func29, Try.ntmps29
  go_wp2_with fail
  generalize (w.alloc (.cells #[.slice pa s.n ca, .int .i64 s.t, .slice pb s.m cb, .slice pd s.l cd] 28)) = v0 at *
  obtain ⟨sb, hsb⟩ : ∃ x, x = w.heap.size := ⟨_, rfl⟩
  rw [← hsb] at S1 ⊢
  clear hsb
  refine (QS.out _).mono ?_
  rintro e _ ⟨rfl, rfl⟩
  have t0 : v0.cell? ⟨sb, 0, none⟩ = some (.slice pa s.n ca) := S1.out.cell 0 (by omega)
  have t1 : v0.cell? ⟨sb, 1, none⟩ = some (.int .i64 s.t) := S1.out.cell 1 (by omega)
  have t2 : v0.cell? ⟨sb, 2, none⟩ = some (.slice pb s.m cb) := S1.out.cell 2 (by omega)
  have t3 : v0.cell? ⟨sb, 3, none⟩ = some (.slice pd s.l cd) := S1.out.cell 3 (by omega)
  go_wp2_with fail
  clear t0 t1 t2 t3
  refine (It.out _).mono ?_
  rintro e v1 ⟨rfl, hb⟩
  replace BB : Hid (Below w.heap.size w v1) := BB.out.trans (hb.mono BB.out.size)
  replace S1 : Hid (BxF v1 sb 28 4 (fun i => if i = 0 then .slice pa s.n ca else if i = 1 then .int .i64 s.t else if i = 2 then .slice pb s.m cb else .slice pd s.l cd)) := S1.out.below hb
  replace HV : Hid (SvV v1 s ⟨pa, pb, pd, PA, PB, PD, PX, PY, PZ, ca, cb, cd⟩) := HV.out.below hb
  clear hb
  have t0 : v1.cell? ⟨sb, 0, none⟩ = some (.slice pa s.n ca) := S1.out.cell 0 (by omega)
  have t1 : v1.cell? ⟨sb, 1, none⟩ = some (.int .i64 s.t) := S1.out.cell 1 (by omega)
  have t2 : v1.cell? ⟨sb, 2, none⟩ = some (.slice pb s.m cb) := S1.out.cell 2 (by omega)
  have t3 : v1.cell? ⟨sb, 3, none⟩ = some (.slice pd s.l cd) := S1.out.cell 3 (by omega)
  go_wp2_with fail
  clear t0 t1 t2 t3
  refine (Im.out _).mono ?_
  rintro e v2 ⟨rfl, hb⟩
  replace BB : Hid (Below w.heap.size w v2) := BB.out.trans (hb.mono BB.out.size)
  replace S1 : Hid (BxF v2 sb 28 4 (fun i => if i = 0 then .slice pa s.n ca else if i = 1 then .int .i64 s.t else if i = 2 then .slice pb s.m cb else .slice pd s.l cd)) := S1.out.below hb
  replace HV : Hid (SvV v2 s ⟨pa, pb, pd, PA, PB, PD, PX, PY, PZ, ca, cb, cd⟩) := HV.out.below hb
  clear hb
  clear S1 HV QS It Im
  go_wp2
  go_ret
  exact ⟨by rw [HZ.out]; rfl, BB.out⟩
 by_cases cl : inS (s.l : Int)
 case neg =>
  replace HZ : Hid (z = false) := HZ.out.trans (sB_no (fun y => cl ⟨by omega, by have := y.1.2.2.2; omega⟩))
  have It : Hid (∀ w : World, Calls Try.prog 59 #[.int .i64 s.t] w fun e w' => e = .returned (.bool true) ∧ Below w.heap.size w w') := fun w => inScript_v s.t true (sB_yes ct).symm w
  have Im : Hid (∀ w : World, Calls Try.prog 59 #[.int .i64 (s.m : Int)] w fun e w' => e = .returned (.bool true) ∧ Below w.heap.size w w') := fun w => inScript_v (s.m : Int) true (sB_yes cm).symm w
  have Il : Hid (∀ w : World, Calls Try.prog 59 #[.int .i64 (s.l : Int)] w fun e w' => e = .returned (.bool false) ∧ Below w.heap.size w w') := fun w => inScript_v (s.l : Int) false (sB_no cl).symm w
  clear c0 ct cm cl
  go_enter Try.func29, Try.ntmps29
  go_wp2_with fail
  generalize (w.alloc (.cells #[.slice pa s.n ca, .int .i64 s.t, .slice pb s.m cb, .slice pd s.l cd] 28)) = v0 at *
  obtain ⟨sb, hsb⟩ : ∃ x, x = w.heap.size := ⟨_, rfl⟩
  rw [← hsb] at S1 ⊢
  clear hsb
  refine (QS.out _).mono ?_
  rintro e _ ⟨rfl, rfl⟩
  have t0 : v0.cell? ⟨sb, 0, none⟩ = some (.slice pa s.n ca) := S1.out.cell 0 (by omega)
  have t1 : v0.cell? ⟨sb, 1, none⟩ = some (.int .i64 s.t) := S1.out.cell 1 (by omega)
  have t2 : v0.cell? ⟨sb, 2, none⟩ = some (.slice pb s.m cb) := S1.out.cell 2 (by omega)
  have t3 : v0.cell? ⟨sb, 3, none⟩ = some (.slice pd s.l cd) := S1.out.cell 3 (by omega)
  go_wp2_with fail
  clear t0 t1 t2 t3
  refine (It.out _).mono ?_
  rintro e v1 ⟨rfl, hb⟩
  replace BB : Hid (Below w.heap.size w v1) := BB.out.trans (hb.mono BB.out.size)
  replace S1 : Hid (BxF v1 sb 28 4 (fun i => if i = 0 then .slice pa s.n ca else if i = 1 then .int .i64 s.t else if i = 2 then .slice pb s.m cb else .slice pd s.l cd)) := S1.out.below hb
  replace HV : Hid (SvV v1 s ⟨pa, pb, pd, PA, PB, PD, PX, PY, PZ, ca, cb, cd⟩) := HV.out.below hb
  clear hb
  have t0 : v1.cell? ⟨sb, 0, none⟩ = some (.slice pa s.n ca) := S1.out.cell 0 (by omega)
  have t1 : v1.cell? ⟨sb, 1, none⟩ = some (.int .i64 s.t) := S1.out.cell 1 (by omega)
  have t2 : v1.cell? ⟨sb, 2, none⟩ = some (.slice pb s.m cb) := S1.out.cell 2 (by omega)
  have t3 : v1.cell? ⟨sb, 3, none⟩ = some (.slice pd s.l cd) := S1.out.cell 3 (by omega)
  go_wp2_with fail
  clear t0 t1 t2 t3
  refine (Im.out _).mono ?_
  rintro e v2 ⟨rfl, hb⟩
  replace BB : Hid (Below w.heap.size w v2) := BB.out.trans (hb.mono BB.out.size)
  replace S1 : Hid (BxF v2 sb 28 4 (fun i => if i = 0 then .slice pa s.n ca else if i = 1 then .int .i64 s.t else if i = 2 then .slice pb s.m cb else .slice pd s.l cd)) := S1.out.below hb
  replace HV : Hid (SvV v2 s ⟨pa, pb, pd, PA, PB, PD, PX, PY, PZ, ca, cb, cd⟩) := HV.out.below hb
  clear hb
  have t0 : v2.cell? ⟨sb, 0, none⟩ = some (.slice pa s.n ca) := S1.out.cell 0 (by omega)
  have t1 : v2.cell? ⟨sb, 1, none⟩ = some (.int .i64 s.t) := S1.out.cell 1 (by omega)
  have t2 : v2.cell? ⟨sb, 2, none⟩ = some (.slice pb s.m cb) := S1.out.cell 2 (by omega)
  have t3 : v2.cell? ⟨sb, 3, none⟩ = some (.slice pd s.l cd) := S1.out.cell 3 (by omega)
  go_wp2_with fail
  clear t0 t1 t2 t3
  refine (Il.out _).mono ?_
  rintro e v3 ⟨rfl, hb⟩
  replace BB : Hid (Below w.heap.size w v3) := BB.out.trans (hb.mono BB.out.size)
  replace S1 : Hid (BxF v3 sb 28 4 (fun i => if i = 0 then .slice pa s.n ca else if i = 1 then .int .i64 s.t else if i = 2 then .slice pb s.m cb else .slice pd s.l cd)) := S1.out.below hb
  replace HV : Hid (SvV v3 s ⟨pa, pb, pd, PA, PB, PD, PX, PY, PZ, ca, cb, cd⟩) := HV.out.below hb
  clear hb
  clear S1 HV QS It Im Il
  go_wp2
  go_ret
  exact ⟨by rw [HZ.out]; rfl, BB.out⟩
 have It : Hid (∀ w : World, Calls Try.prog 59 #[.int .i64 s.t] w fun e w' => e = .returned (.bool true) ∧ Below w.heap.size w w') := fun w => inScript_v s.t true (sB_yes ct).symm w
 have Im : Hid (∀ w : World, Calls Try.prog 59 #[.int .i64 (s.m : Int)] w fun e w' => e = .returned (.bool true) ∧ Below w.heap.size w w') := fun w => inScript_v (s.m : Int) true (sB_yes cm).symm w
 have Il : Hid (∀ w : World, Calls Try.prog 59 #[.int .i64 (s.l : Int)] w fun e w' => e = .returned (.bool true) ∧ Below w.heap.size w w') := fun w => inScript_v (s.l : Int) true (sB_yes cl).symm w
 have C0 : Hid ((1 ≤ s.n ∧ s.n ≤ 7) ∧ inS s.t ∧ s.m ≤ 200 ∧ s.l ≤ 200) := ⟨c0, ct, by have := cm.2; omega, by have := cl.2; omega⟩
 have WO : Hid (∀ (i : Nat) (w : World), i < s.m → SvV w s ⟨pa, pb, pd, PA, PB, PD, PX, PY, PZ, ca, cb, cd⟩ → Calls Try.prog 60 #[.agg #[.slice pa s.n ca, .int .i64 s.t, .slice pb s.m cb, .slice pd s.l cd], .int .i64 (i : Int), .agg #[.int .i64 (s.W i).mc, .int .i64 (s.W i).mt, .slice (PB i) (s.W i).ne (PY i), .int .i64 (s.W i).bg, .int .i64 (s.W i).en]] w fun e w' => e = .returned (.bool (sB ((s.W i).Ok s.n s.t s.m i))) ∧ Below w.heap.size w w') := fun i w hi h => wri_v s ⟨pa, pb, pd, PA, PB, PD, PX, PY, PZ, ca, cb, cd⟩ i (by omega) hsm (s.W i) (PB i) (PY i) (HX.out.2.1.2 i hi) _ rfl w (h.2.1.2 i hi)
 clear c0 ct cm cl
 go_enter Try.func29, Try.ntmps29
 go_wp2_with fail
 generalize (w.alloc (.cells #[.slice pa s.n ca, .int .i64 s.t, .slice pb s.m cb, .slice pd s.l cd] 28)) = v0 at *
 obtain ⟨sb, hsb⟩ : ∃ x, x = w.heap.size := ⟨_, rfl⟩
 rw [← hsb] at S1 ⊢
 clear hsb
 refine (QS.out _).mono ?_
 rintro e _ ⟨rfl, rfl⟩
 clear QS
 have t0 : v0.cell? ⟨sb, 0, none⟩ = some (.slice pa s.n ca) := S1.out.cell 0 (by omega)
 have t1 : v0.cell? ⟨sb, 1, none⟩ = some (.int .i64 s.t) := S1.out.cell 1 (by omega)
 have t2 : v0.cell? ⟨sb, 2, none⟩ = some (.slice pb s.m cb) := S1.out.cell 2 (by omega)
 have t3 : v0.cell? ⟨sb, 3, none⟩ = some (.slice pd s.l cd) := S1.out.cell 3 (by omega)
 go_wp2_with fail
 clear t0 t1 t2 t3
 refine (It.out _).mono ?_
 rintro e v1 ⟨rfl, hb⟩
 replace BB : Hid (Below w.heap.size w v1) := BB.out.trans (hb.mono BB.out.size)
 replace S1 : Hid (BxF v1 sb 28 4 (fun i => if i = 0 then .slice pa s.n ca else if i = 1 then .int .i64 s.t else if i = 2 then .slice pb s.m cb else .slice pd s.l cd)) := S1.out.below hb
 replace HV : Hid (SvV v1 s ⟨pa, pb, pd, PA, PB, PD, PX, PY, PZ, ca, cb, cd⟩) := HV.out.below hb
 clear hb
 have t0 : v1.cell? ⟨sb, 0, none⟩ = some (.slice pa s.n ca) := S1.out.cell 0 (by omega)
 have t1 : v1.cell? ⟨sb, 1, none⟩ = some (.int .i64 s.t) := S1.out.cell 1 (by omega)
 have t2 : v1.cell? ⟨sb, 2, none⟩ = some (.slice pb s.m cb) := S1.out.cell 2 (by omega)
 have t3 : v1.cell? ⟨sb, 3, none⟩ = some (.slice pd s.l cd) := S1.out.cell 3 (by omega)
 go_wp2_with fail
 clear t0 t1 t2 t3
 refine (Im.out _).mono ?_
 rintro e v2 ⟨rfl, hb⟩
 replace BB : Hid (Below w.heap.size w v2) := BB.out.trans (hb.mono BB.out.size)
 replace S1 : Hid (BxF v2 sb 28 4 (fun i => if i = 0 then .slice pa s.n ca else if i = 1 then .int .i64 s.t else if i = 2 then .slice pb s.m cb else .slice pd s.l cd)) := S1.out.below hb
 replace HV : Hid (SvV v2 s ⟨pa, pb, pd, PA, PB, PD, PX, PY, PZ, ca, cb, cd⟩) := HV.out.below hb
 clear hb
 have t0 : v2.cell? ⟨sb, 0, none⟩ = some (.slice pa s.n ca) := S1.out.cell 0 (by omega)
 have t1 : v2.cell? ⟨sb, 1, none⟩ = some (.int .i64 s.t) := S1.out.cell 1 (by omega)
 have t2 : v2.cell? ⟨sb, 2, none⟩ = some (.slice pb s.m cb) := S1.out.cell 2 (by omega)
 have t3 : v2.cell? ⟨sb, 3, none⟩ = some (.slice pd s.l cd) := S1.out.cell 3 (by omega)
 go_wp2_with fail
 clear t0 t1 t2 t3
 refine (Il.out _).mono ?_
 rintro e v3 ⟨rfl, hb⟩
 replace BB : Hid (Below w.heap.size w v3) := BB.out.trans (hb.mono BB.out.size)
 replace S1 : Hid (BxF v3 sb 28 4 (fun i => if i = 0 then .slice pa s.n ca else if i = 1 then .int .i64 s.t else if i = 2 then .slice pb s.m cb else .slice pd s.l cd)) := S1.out.below hb
 replace HV : Hid (SvV v3 s ⟨pa, pb, pd, PA, PB, PD, PX, PY, PZ, ca, cb, cd⟩) := HV.out.below hb
 clear hb
 clear It Im Il
 have t0 : v3.cell? ⟨sb, 0, none⟩ = some (.slice pa s.n ca) := S1.out.cell 0 (by omega)
 have t1 : v3.cell? ⟨sb, 1, none⟩ = some (.int .i64 s.t) := S1.out.cell 1 (by omega)
 have t2 : v3.cell? ⟨sb, 2, none⟩ = some (.slice pb s.m cb) := S1.out.cell 2 (by omega)
 have t3 : v3.cell? ⟨sb, 3, none⟩ = some (.slice pd s.l cd) := S1.out.cell 3 (by omega)
 go_wp2
 clear t0 t1 t2 t3
 go_loopw [39] (fun i wr => ∃ q : Nat, q ≤ s.m ∧ i = .int .i64 q ∧ (∀ j, j < q → (s.W j).Ok s.n s.t s.m j) ∧ Below v3.heap.size v3 wr) (fun i _ => s.m - (intOf i).toNat)
 case atStart => exact ⟨0, by omega, rfl, fun j hj => absurd hj (by omega), Below.refl _ _⟩
 case round =>
  obtain ⟨q, hq, rfl, hok, hb⟩ := hrel
  have HK : Hid (∀ j, j < q → (s.W j).Ok s.n s.t s.m j) := hok
  have HB : Hid (Below v3.heap.size v3 wr) := hb
  replace BB : Hid (Below w.heap.size w wr) := BB.out.trans (hb.mono BB.out.size)
  replace S1 : Hid (BxF wr sb 28 4 (fun i => if i = 0 then .slice pa s.n ca else if i = 1 then .int .i64 s.t else if i = 2 then .slice pb s.m cb else .slice pd s.l cd)) := S1.out.below hb
  replace HV : Hid (SvV wr s ⟨pa, pb, pd, PA, PB, PD, PX, PY, PZ, ca, cb, cd⟩) := HV.out.below hb
  clear hok
  by_cases hlt : q < s.m
  ·have hlt' : (q : Int) < (s.m : Int) := by omega
   obtain ⟨b, off, rfl, hc⟩ := HV.out.2.1.at hlt
   have c0 : wr.cell? ⟨b, off + q * 5, none⟩ = some (.int .i64 (s.W q).mc) := hc 0 (by omega)
   have c1 : wr.cell? ⟨b, off + q * 5 + 1, none⟩ = some (.int .i64 (s.W q).mt) := hc 1 (by omega)
   have c2 : wr.cell? ⟨b, off + q * 5 + 2, none⟩ = some (.slice (PB q) (s.W q).ne (PY q)) := hc 2 (by omega)
   have c3 : wr.cell? ⟨b, off + q * 5 + 3, none⟩ = some (.int .i64 (s.W q).bg) := hc 3 (by omega)
   have c4 : wr.cell? ⟨b, off + q * 5 + 4, none⟩ = some (.int .i64 (s.W q).en) := hc 4 (by omega)
   have WM := fun w => WO.out q w hlt
   have WB : Below wr.heap.size wr (wr.alloc (.cells #[.int .i64 (s.W q).mc, .int .i64 (s.W q).mt, .slice (PB q) (s.W q).ne (PY q), .int .i64 (s.W q).bg, .int .i64 (s.W q).en] 37)) := (Below.refl _ _).alloc (Nat.le_refl _) _
   have BB2 : Hid (Below w.heap.size w (wr.alloc (.cells #[.int .i64 (s.W q).mc, .int .i64 (s.W q).mt, .slice (PB q) (s.W q).ne (PY q), .int .i64 (s.W q).bg, .int .i64 (s.W q).en] 37))) := BB.out.trans (WB.mono BB.out.size)
   have HB2 : Hid (Below v3.heap.size v3 (wr.alloc (.cells #[.int .i64 (s.W q).mc, .int .i64 (s.W q).mt, .slice (PB q) (s.W q).ne (PY q), .int .i64 (s.W q).bg, .int .i64 (s.W q).en] 37))) := HB.out.trans (WB.mono HB.out.size)
   have HV2 : Hid (SvV (wr.alloc (.cells #[.int .i64 (s.W q).mc, .int .i64 (s.W q).mt, .slice (PB q) (s.W q).ne (PY q), .int .i64 (s.W q).bg, .int .i64 (s.W q).en] 37)) s ⟨pa, (some ⟨b, off, none⟩), pd, PA, PB, PD, PX, PY, PZ, ca, cb, cd⟩) := HV.out.below WB
   have S2 := S1.out.below WB
   have t0 : (wr.alloc (.cells #[.int .i64 (s.W q).mc, .int .i64 (s.W q).mt, .slice (PB q) (s.W q).ne (PY q), .int .i64 (s.W q).bg, .int .i64 (s.W q).en] 37)).cell? ⟨sb, 0, none⟩ = some (.slice pa s.n ca) := S2.cell 0 (by omega)
   have t1 : (wr.alloc (.cells #[.int .i64 (s.W q).mc, .int .i64 (s.W q).mt, .slice (PB q) (s.W q).ne (PY q), .int .i64 (s.W q).bg, .int .i64 (s.W q).en] 37)).cell? ⟨sb, 1, none⟩ = some (.int .i64 s.t) := S2.cell 1 (by omega)
   have t2 : (wr.alloc (.cells #[.int .i64 (s.W q).mc, .int .i64 (s.W q).mt, .slice (PB q) (s.W q).ne (PY q), .int .i64 (s.W q).bg, .int .i64 (s.W q).en] 37)).cell? ⟨sb, 2, none⟩ = some (.slice (some ⟨b, off, none⟩) s.m cb) := S2.cell 2 (by omega)
   have t3 : (wr.alloc (.cells #[.int .i64 (s.W q).mc, .int .i64 (s.W q).mt, .slice (PB q) (s.W q).ne (PY q), .int .i64 (s.W q).bg, .int .i64 (s.W q).en] 37)).cell? ⟨sb, 3, none⟩ = some (.slice pd s.l cd) := S2.cell 3 (by omega)
   have WMH : Hid _ := WM
   clear hc WB S2 WM
   generalize hWq : s.W q = wq at *
   generalize PB q = bq at *
   generalize PY q = yq at *
   have HWq : Hid (s.W q = wq) := hWq
   clear hWq
   go_wp2_with fail
   clear t0 t1 t2 t3 c0 c1 c2 c3 c4
   refine (WMH.out _ HV2.out).mono ?_
   rintro e w1 ⟨rfl, hb⟩
   have BB3 : Hid (Below w.heap.size w w1) := BB2.out.trans (hb.mono BB2.out.size)
   have HB3 : Hid (Below v3.heap.size v3 w1) := HB2.out.trans (hb.mono HB2.out.size)
   clear hb WMH HV2 HB2 BB2
   by_cases ho : wq.Ok s.n s.t s.m q
   ·rw [sB_yes ho]
    have HO : Hid (∀ j, j < q + 1 → (s.W j).Ok s.n s.t s.m j) := fun j hj => by
     rcases Nat.lt_or_ge j q with y | y
     ·exact HK.out j y
     ·obtain rfl : j = q := by omega
      rw [HWq.out]; exact ho
    clear ho
    go_wp2
    go_roundw
    case rel => exact ⟨q + 1, by omega, by go_num, HO.out, HB3.out⟩
    case measure => simp [intOf]; omega
   ·rw [sB_no ho]
    replace HZ : Hid (z = false) := HZ.out.trans (sB_no (fun y => ho (by have := y.2.1 q hlt; rwa [HWq.out] at this)))
    clear ho
    go_wp2
    go_ret
    exact ⟨by rw [HZ.out]; rfl, BB3.out⟩
  ·have hlt' : ¬ (q : Int) < (s.m : Int) := by omega
   have HW : Hid (∀ j, j < s.m → (s.W j).Ok s.n s.t s.m j) := fun j hj => HK.out j (by omega)
   have CR : Hid (∀ (y : Bool) (u : World), y = sB (∃ i, i < s.n ∧ ¬ (s.R i).Ok s.n) → SvV u s ⟨pa, pb, pd, PA, PB, PD, PX, PY, PZ, ca, cb, cd⟩ → BxF u sb 28 4 (fun i => if i = 0 then .slice pa s.n ca else if i = 1 then .int .i64 s.t else if i = 2 then .slice pb s.m cb else .slice pd s.l cd) → Calls Try.prog 65 #[.slice pa s.n ca, .func (.func 61) #[] #[.pointer (some ⟨sb, 0, none⟩)]] u fun e u' => e = .returned (.bool y) ∧ Below u.heap.size u u') := fun y u hy hv hs => containsRp sb pa s.n ca s.R PA PX (fun i => ¬ (s.R i).Ok s.n) HX.out.1.1 u hv.1 (fun i hi u' hb => clo1_v s ⟨pa, pb, pd, PA, PB, PD, PX, PY, PZ, ca, cb, cd⟩ (s.R i) (PA i) (PX i) (HX.out.1.2 i hi) sb u' (hs.below hb) ((hv.1.2 i hi).below hb)) y hy
   have CD : Hid (∀ (y : Bool) (u : World), y = sB (∃ i, i < s.l ∧ ¬ (s.Q i).Ok s.n s.t) → SvV u s ⟨pa, pb, pd, PA, PB, PD, PX, PY, PZ, ca, cb, cd⟩ → BxF u sb 28 4 (fun i => if i = 0 then .slice pa s.n ca else if i = 1 then .int .i64 s.t else if i = 2 then .slice pb s.m cb else .slice pd s.l cd) → Calls Try.prog 66 #[.slice pd s.l cd, .func (.func 63) #[] #[.pointer (some ⟨sb, 0, none⟩)]] u fun e u' => e = .returned (.bool y) ∧ Below u.heap.size u u') := fun y u hy hv hs => containsRo sb pd s.l cd s.Q PD PZ (fun i => ¬ (s.Q i).Ok s.n s.t) HX.out.2.2.1 u hv.2.2 (fun i hi u' hb => clo2_v s ⟨pa, pb, pd, PA, PB, PD, PX, PY, PZ, ca, cb, cd⟩ (s.Q i) (PD i) (PZ i) (HX.out.2.2.2 i hi) sb u' (hs.below hb) ((hv.2.2.2 i hi).below hb)) y hy
   have t0 : wr.cell? ⟨sb, 0, none⟩ = some (.slice pa s.n ca) := S1.out.cell 0 (by omega)
   clear hb WO HK HB
   by_cases oR : ∀ i, i < s.n → (s.R i).Ok s.n
   ·have KR := fun u => CR.out false u (sB_no (fun ⟨i, hi, y⟩ => y (oR i hi))).symm
    have KR' : Hid _ := KR
    have OR : Hid (∀ i, i < s.n → (s.R i).Ok s.n) := oR
    clear KR oR
    go_wp2_with fail
    clear t0
    refine (KR'.out _ HV.out S1.out).mono ?_
    rintro e w1 ⟨rfl, hb⟩
    replace BB : Hid (Below w.heap.size w w1) := BB.out.trans (hb.mono BB.out.size)
    replace S1 : Hid (BxF w1 sb 28 4 (fun i => if i = 0 then .slice pa s.n ca else if i = 1 then .int .i64 s.t else if i = 2 then .slice pb s.m cb else .slice pd s.l cd)) := S1.out.below hb
    replace HV : Hid (SvV w1 s ⟨pa, pb, pd, PA, PB, PD, PX, PY, PZ, ca, cb, cd⟩) := HV.out.below hb
    clear hb KR' CR
    have t3 : w1.cell? ⟨sb, 3, none⟩ = some (.slice pd s.l cd) := S1.out.cell 3 (by omega)
    by_cases oQ : ∀ i, i < s.l → (s.Q i).Ok s.n s.t
    ·have KD := fun u => CD.out false u (sB_no (fun ⟨i, hi, y⟩ => y (oQ i hi))).symm
     have KD' : Hid _ := KD
     replace HZ : Hid (z = true) := HZ.out.trans (sB_yes ⟨C0.out, HW.out, OR.out, oQ⟩)
     clear KD oQ
     go_wp2_with fail
     clear t3
     refine (KD'.out _ HV.out S1.out).mono ?_
     rintro e w2 ⟨rfl, hb⟩
     replace BB : Hid (Below w.heap.size w w2) := BB.out.trans (hb.mono BB.out.size)
     clear hb KD' CD S1 HV
     go_wp2
     go_ret
     exact ⟨by rw [HZ.out]; rfl, BB.out⟩
    ·have KD := fun u => CD.out true u (sB_yes (Classical.byContradiction fun y => oQ fun i hi => Classical.byContradiction fun y2 => y ⟨i, hi, y2⟩)).symm
     have KD' : Hid _ := KD
     replace HZ : Hid (z = false) := HZ.out.trans (sB_no (fun y => oQ y.2.2.2))
     clear KD oQ
     go_wp2_with fail
     clear t3
     refine (KD'.out _ HV.out S1.out).mono ?_
     rintro e w2 ⟨rfl, hb⟩
     replace BB : Hid (Below w.heap.size w w2) := BB.out.trans (hb.mono BB.out.size)
     clear hb KD' CD S1 HV
     go_wp2
     go_ret
     exact ⟨by rw [HZ.out]; rfl, BB.out⟩
   ·have KR := fun u => CR.out true u (sB_yes (Classical.byContradiction fun y => oR fun i hi => Classical.byContradiction fun y2 => y ⟨i, hi, y2⟩)).symm
    have KR' : Hid _ := KR
    replace HZ : Hid (z = false) := HZ.out.trans (sB_no (fun y => oR y.2.2.1))
    clear KR oR
    go_wp2_with fail
    clear t0
    refine (KR'.out _ HV.out S1.out).mono ?_
    rintro e w1 ⟨rfl, hb⟩
    replace BB : Hid (Below w.heap.size w w1) := BB.out.trans (hb.mono BB.out.size)
    clear hb KR' CR CD S1 HV
    go_wp2
    go_ret
    exact ⟨by rw [HZ.out]; rfl, BB.out⟩
end Go.Proofs.Ytedncfcmhaaobaa
