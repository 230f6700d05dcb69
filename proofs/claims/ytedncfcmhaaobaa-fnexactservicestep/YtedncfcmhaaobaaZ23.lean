/-
  Texts of the proof, joined: SvcP.
-/
import Derived.Test.YtedncfcmhaaobaaZ19
namespace Go.Proofs.Ytedncfcmhaaobaa
open Go.ChangeShapes Go.WideShapes Go.ChangeAt Go.RowKit
set_option linter.unusedVariables false
set_option maxRecDepth 100000 in
set_option maxHeartbeats 2000000 in
theorem rep_v (s : Sv) (p : Sa) (r : Rp) (A : Option Addr) (X : Nat) (hm : r.ne ≤ 1048576) (z : Bool) (hz : z = sB (r.Ok s.n)) (w : World) (h : Num w A r.ne r.E) :
    Calls Try.prog 62 #[.agg #[.slice p.a s.n p.ca, .int .i64 s.t, .slice p.b s.m p.cb, .slice p.d s.l p.cd], .agg #[.bool r.mute, .int .i64 r.nc, .int .i64 r.nt, .int .i64 r.sc, .int .i64 r.st, .slice A r.ne X, .int .i64 r.bc, .int .i64 r.bt]] w fun e w' => e = .returned (.bool z) ∧ Below w.heap.size w w' := by
  have s1 : (w.alloc (.cells #[.slice p.a s.n p.ca, .int .i64 s.t, .slice p.b s.m p.cb, .slice p.d s.l p.cd] 28)).heap.size = w.heap.size + 1 := by simp
  have BB : Hid (Below w.heap.size w ((w.alloc (.cells #[.slice p.a s.n p.ca, .int .i64 s.t, .slice p.b s.m p.cb, .slice p.d s.l p.cd] 28)).alloc (.cells #[.bool r.mute, .int .i64 r.nc, .int .i64 r.nt, .int .i64 r.sc, .int .i64 r.st, .slice A r.ne X, .int .i64 r.bc, .int .i64 r.bt] 43))) := ((Below.refl w.heap.size w).alloc (Nat.le_refl _) _).alloc (by rw [s1]; omega) _
  have S1 : Hid (BxF ((w.alloc (.cells #[.slice p.a s.n p.ca, .int .i64 s.t, .slice p.b s.m p.cb, .slice p.d s.l p.cd] 28)).alloc (.cells #[.bool r.mute, .int .i64 r.nc, .int .i64 r.nt, .int .i64 r.sc, .int .i64 r.st, .slice A r.ne X, .int .i64 r.bc, .int .i64 r.bt] 43)) w.heap.size 28 4 (fun i => if i = 0 then .slice p.a s.n p.ca else if i = 1 then .int .i64 s.t else if i = 2 then .slice p.b s.m p.cb else .slice p.d s.l p.cd)) := (BxF.sv _ _ _ _ _).alloc _
  have R1 : Hid (BxF ((w.alloc (.cells #[.slice p.a s.n p.ca, .int .i64 s.t, .slice p.b s.m p.cb, .slice p.d s.l p.cd] 28)).alloc (.cells #[.bool r.mute, .int .i64 r.nc, .int .i64 r.nt, .int .i64 r.sc, .int .i64 r.st, .slice A r.ne X, .int .i64 r.bc, .int .i64 r.bt] 43)) (w.heap.size + 1) 43 8 (rpV r (.slice A r.ne X))) := by have := BxF.rp (w.alloc (.cells #[.slice p.a s.n p.ca, .int .i64 s.t, .slice p.b s.m p.cb, .slice p.d s.l p.cd] 28)) r (.slice A r.ne X); rwa [s1] at this
  have HN : Hid (Num ((w.alloc (.cells #[.slice p.a s.n p.ca, .int .i64 s.t, .slice p.b s.m p.cb, .slice p.d s.l p.cd] 28)).alloc (.cells #[.bool r.mute, .int .i64 r.nc, .int .i64 r.nt, .int .i64 r.sc, .int .i64 r.st, .slice A r.ne X, .int .i64 r.bc, .int .i64 r.bt] 43)) A r.ne r.E) := Els.below h BB.out
  clear h s1
  by_cases p0 : 0 < r.ne ∧ r.mute = false
  · obtain rfl : z = false := hz.trans (sB_no (fun q => q.1 p0))
    obtain ⟨p1, p2'⟩ := p0
    have p2 : (!r.mute) = true := by rw [p2']; rfl
    have p3 : (0 : Int) < (r.ne : Int) := by omega
    clear hz HN S1 R1 p2'
    go_enter Try.func62, Try.ntmps62
    go_wp2
    go_ret
    exact ⟨rfl, BB.out⟩
  have pt : (¬ (0 : Int) < (r.ne : Int)) ∨ ((0 : Int) < (r.ne : Int) ∧ (!r.mute) = false) := by
    rcases Nat.eq_zero_or_pos r.ne with g | g
    · exact .inl (by omega)
    · refine .inr ⟨by omega, ?_⟩
      cases hmu : r.mute
      · exact absurd ⟨g, hmu⟩ p0
      · rfl
  clear p0
  have P0 : Hid (¬ (0 < r.ne ∧ r.mute = false)) := fun y => by
    rcases pt with g | ⟨_, g⟩
    · omega
    · rw [y.2] at g; cases g
  have PT : Hid _ := pt
  clear pt
  by_cases c0 : idsOk s.n r.ne r.E
  case neg =>
    obtain rfl : z = false := hz.trans (sB_no (fun q => c0 q.2.1))
    have C0 : Hid (∀ w : World, Num w A r.ne r.E → Calls Try.prog 91 #[.agg #[.slice p.a s.n p.ca, .int .i64 s.t, .slice p.b s.m p.cb, .slice p.d s.l p.cd], .slice A r.ne X] w fun e w' => e = .returned (.bool false) ∧ Below w.heap.size w w') := fun w h => ids_v s p A r.ne X r.E hm false ((sB_no c0).symm) w h
    clear hz c0
    rcases PT.out with pa | ⟨pa, pm⟩
    all_goals
     go_enter Try.func62, Try.ntmps62
     go_wp2_with fail
     generalize ((w.alloc (.cells #[.slice p.a s.n p.ca, .int .i64 s.t, .slice p.b s.m p.cb, .slice p.d s.l p.cd] 28)).alloc (.cells #[.bool r.mute, .int .i64 r.nc, .int .i64 r.nt, .int .i64 r.sc, .int .i64 r.st, .slice A r.ne X, .int .i64 r.bc, .int .i64 r.bt] 43)) = v0 at *
     obtain ⟨sb, hsb⟩ : ∃ x, x = w.heap.size := ⟨_, rfl⟩
     obtain ⟨rb, hrb⟩ : ∃ x, x = w.heap.size + 1 := ⟨_, rfl⟩
     rw [← hrb] at R1 ⊢
     rw [← hsb] at S1 ⊢
     clear hsb hrb
     refine (C0.out _ HN.out).mono ?_
     rintro e v1 ⟨rfl, hb⟩
     replace BB : Hid (Below w.heap.size w v1) := BB.out.trans (hb.mono BB.out.size)
     replace HN : Hid (Num v1 A r.ne r.E) := Els.below HN.out hb
     replace S1 : Hid (BxF v1 sb 28 4 (fun i => if i = 0 then .slice p.a s.n p.ca else if i = 1 then .int .i64 s.t else if i = 2 then .slice p.b s.m p.cb else .slice p.d s.l p.cd)) := S1.out.below hb
     replace R1 : Hid (BxF v1 rb 43 8 (rpV r (.slice A r.ne X))) := R1.out.below hb
     clear hb C0
     clear HN S1 R1
     go_wp2
     go_ret
     exact ⟨rfl, BB.out⟩
  by_cases c1 : mkOk r.nc r.nt
  case neg =>
    obtain rfl : z = false := hz.trans (sB_no (fun q => c1 q.2.2.1))
    have C0 : Hid (∀ w : World, Num w A r.ne r.E → Calls Try.prog 91 #[.agg #[.slice p.a s.n p.ca, .int .i64 s.t, .slice p.b s.m p.cb, .slice p.d s.l p.cd], .slice A r.ne X] w fun e w' => e = .returned (.bool true) ∧ Below w.heap.size w w') := fun w h => ids_v s p A r.ne X r.E hm true ((sB_yes c0).symm) w h
    have C1 : Hid (∀ w : World, Calls Try.prog 90 #[.agg #[.int .i64 r.nc, .int .i64 r.nt]] w fun e w' => e = .returned (.bool false) ∧ Below w.heap.size w w') := fun w => markOK_v r.nc r.nt false ((sB_no c1).symm) w
    clear hz c0 c1
    rcases PT.out with pa | ⟨pa, pm⟩
    all_goals
     go_enter Try.func62, Try.ntmps62
     go_wp2_with fail
     generalize ((w.alloc (.cells #[.slice p.a s.n p.ca, .int .i64 s.t, .slice p.b s.m p.cb, .slice p.d s.l p.cd] 28)).alloc (.cells #[.bool r.mute, .int .i64 r.nc, .int .i64 r.nt, .int .i64 r.sc, .int .i64 r.st, .slice A r.ne X, .int .i64 r.bc, .int .i64 r.bt] 43)) = v0 at *
     obtain ⟨sb, hsb⟩ : ∃ x, x = w.heap.size := ⟨_, rfl⟩
     obtain ⟨rb, hrb⟩ : ∃ x, x = w.heap.size + 1 := ⟨_, rfl⟩
     rw [← hrb] at R1 ⊢
     rw [← hsb] at S1 ⊢
     clear hsb hrb
     refine (C0.out _ HN.out).mono ?_
     rintro e v1 ⟨rfl, hb⟩
     replace BB : Hid (Below w.heap.size w v1) := BB.out.trans (hb.mono BB.out.size)
     replace HN : Hid (Num v1 A r.ne r.E) := Els.below HN.out hb
     replace S1 : Hid (BxF v1 sb 28 4 (fun i => if i = 0 then .slice p.a s.n p.ca else if i = 1 then .int .i64 s.t else if i = 2 then .slice p.b s.m p.cb else .slice p.d s.l p.cd)) := S1.out.below hb
     replace R1 : Hid (BxF v1 rb 43 8 (rpV r (.slice A r.ne X))) := R1.out.below hb
     clear hb C0
     have r_ := R1.out
     have r0 : v1.cell? ⟨rb, 0, none⟩ = some (.bool r.mute) := R1.out.cell 0 (by omega)
     have r1 : v1.cell? ⟨rb, 1, none⟩ = some (.int .i64 r.nc) := R1.out.cell 1 (by omega)
     have r2 : v1.cell? ⟨rb, 2, none⟩ = some (.int .i64 r.nt) := R1.out.cell 2 (by omega)
     have r3 : v1.cell? ⟨rb, 3, none⟩ = some (.int .i64 r.sc) := R1.out.cell 3 (by omega)
     have r4 : v1.cell? ⟨rb, 4, none⟩ = some (.int .i64 r.st) := R1.out.cell 4 (by omega)
     have r5 : v1.cell? ⟨rb, 5, none⟩ = some (.slice A r.ne X) := R1.out.cell 5 (by omega)
     have r6 : v1.cell? ⟨rb, 6, none⟩ = some (.int .i64 r.bc) := R1.out.cell 6 (by omega)
     have r7 : v1.cell? ⟨rb, 7, none⟩ = some (.int .i64 r.bt) := R1.out.cell 7 (by omega)
     have t0 : v1.cell? ⟨sb, 0, none⟩ = some (.slice p.a s.n p.ca) := S1.out.cell 0 (by omega)
     have t1 : v1.cell? ⟨sb, 1, none⟩ = some (.int .i64 s.t) := S1.out.cell 1 (by omega)
     have t2 : v1.cell? ⟨sb, 2, none⟩ = some (.slice p.b s.m p.cb) := S1.out.cell 2 (by omega)
     have t3 : v1.cell? ⟨sb, 3, none⟩ = some (.slice p.d s.l p.cd) := S1.out.cell 3 (by omega)
     clear r_
     go_wp2_with fail
     clear r0 r1 r2 r3 r4 r5 r6 r7 t0 t1 t2 t3
     refine (C1.out _).mono ?_
     rintro e v2 ⟨rfl, hb⟩
     replace BB : Hid (Below w.heap.size w v2) := BB.out.trans (hb.mono BB.out.size)
     replace HN : Hid (Num v2 A r.ne r.E) := Els.below HN.out hb
     replace S1 : Hid (BxF v2 sb 28 4 (fun i => if i = 0 then .slice p.a s.n p.ca else if i = 1 then .int .i64 s.t else if i = 2 then .slice p.b s.m p.cb else .slice p.d s.l p.cd)) := S1.out.below hb
     replace R1 : Hid (BxF v2 rb 43 8 (rpV r (.slice A r.ne X))) := R1.out.below hb
     clear hb C1
     clear HN S1 R1
     go_wp2
     go_ret
     exact ⟨rfl, BB.out⟩
  by_cases c2 : mkOk r.sc r.st
  case neg =>
    obtain rfl : z = false := hz.trans (sB_no (fun q => c2 q.2.2.2.1))
    have C0 : Hid (∀ w : World, Num w A r.ne r.E → Calls Try.prog 91 #[.agg #[.slice p.a s.n p.ca, .int .i64 s.t, .slice p.b s.m p.cb, .slice p.d s.l p.cd], .slice A r.ne X] w fun e w' => e = .returned (.bool true) ∧ Below w.heap.size w w') := fun w h => ids_v s p A r.ne X r.E hm true ((sB_yes c0).symm) w h
    have C1 : Hid (∀ w : World, Calls Try.prog 90 #[.agg #[.int .i64 r.nc, .int .i64 r.nt]] w fun e w' => e = .returned (.bool true) ∧ Below w.heap.size w w') := fun w => markOK_v r.nc r.nt true ((sB_yes c1).symm) w
    have C2 : Hid (∀ w : World, Calls Try.prog 90 #[.agg #[.int .i64 r.sc, .int .i64 r.st]] w fun e w' => e = .returned (.bool false) ∧ Below w.heap.size w w') := fun w => markOK_v r.sc r.st false ((sB_no c2).symm) w
    clear hz c0 c1 c2
    rcases PT.out with pa | ⟨pa, pm⟩
    all_goals
     go_enter Try.func62, Try.ntmps62
     go_wp2_with fail
     generalize ((w.alloc (.cells #[.slice p.a s.n p.ca, .int .i64 s.t, .slice p.b s.m p.cb, .slice p.d s.l p.cd] 28)).alloc (.cells #[.bool r.mute, .int .i64 r.nc, .int .i64 r.nt, .int .i64 r.sc, .int .i64 r.st, .slice A r.ne X, .int .i64 r.bc, .int .i64 r.bt] 43)) = v0 at *
     obtain ⟨sb, hsb⟩ : ∃ x, x = w.heap.size := ⟨_, rfl⟩
     obtain ⟨rb, hrb⟩ : ∃ x, x = w.heap.size + 1 := ⟨_, rfl⟩
     rw [← hrb] at R1 ⊢
     rw [← hsb] at S1 ⊢
     clear hsb hrb
     refine (C0.out _ HN.out).mono ?_
     rintro e v1 ⟨rfl, hb⟩
     replace BB : Hid (Below w.heap.size w v1) := BB.out.trans (hb.mono BB.out.size)
     replace HN : Hid (Num v1 A r.ne r.E) := Els.below HN.out hb
     replace S1 : Hid (BxF v1 sb 28 4 (fun i => if i = 0 then .slice p.a s.n p.ca else if i = 1 then .int .i64 s.t else if i = 2 then .slice p.b s.m p.cb else .slice p.d s.l p.cd)) := S1.out.below hb
     replace R1 : Hid (BxF v1 rb 43 8 (rpV r (.slice A r.ne X))) := R1.out.below hb
     clear hb C0
     have r_ := R1.out
     have r0 : v1.cell? ⟨rb, 0, none⟩ = some (.bool r.mute) := R1.out.cell 0 (by omega)
     have r1 : v1.cell? ⟨rb, 1, none⟩ = some (.int .i64 r.nc) := R1.out.cell 1 (by omega)
     have r2 : v1.cell? ⟨rb, 2, none⟩ = some (.int .i64 r.nt) := R1.out.cell 2 (by omega)
     have r3 : v1.cell? ⟨rb, 3, none⟩ = some (.int .i64 r.sc) := R1.out.cell 3 (by omega)
     have r4 : v1.cell? ⟨rb, 4, none⟩ = some (.int .i64 r.st) := R1.out.cell 4 (by omega)
     have r5 : v1.cell? ⟨rb, 5, none⟩ = some (.slice A r.ne X) := R1.out.cell 5 (by omega)
     have r6 : v1.cell? ⟨rb, 6, none⟩ = some (.int .i64 r.bc) := R1.out.cell 6 (by omega)
     have r7 : v1.cell? ⟨rb, 7, none⟩ = some (.int .i64 r.bt) := R1.out.cell 7 (by omega)
     have t0 : v1.cell? ⟨sb, 0, none⟩ = some (.slice p.a s.n p.ca) := S1.out.cell 0 (by omega)
     have t1 : v1.cell? ⟨sb, 1, none⟩ = some (.int .i64 s.t) := S1.out.cell 1 (by omega)
     have t2 : v1.cell? ⟨sb, 2, none⟩ = some (.slice p.b s.m p.cb) := S1.out.cell 2 (by omega)
     have t3 : v1.cell? ⟨sb, 3, none⟩ = some (.slice p.d s.l p.cd) := S1.out.cell 3 (by omega)
     clear r_
     go_wp2_with fail
     clear r0 r1 r2 r3 r4 r5 r6 r7 t0 t1 t2 t3
     refine (C1.out _).mono ?_
     rintro e v2 ⟨rfl, hb⟩
     replace BB : Hid (Below w.heap.size w v2) := BB.out.trans (hb.mono BB.out.size)
     replace HN : Hid (Num v2 A r.ne r.E) := Els.below HN.out hb
     replace S1 : Hid (BxF v2 sb 28 4 (fun i => if i = 0 then .slice p.a s.n p.ca else if i = 1 then .int .i64 s.t else if i = 2 then .slice p.b s.m p.cb else .slice p.d s.l p.cd)) := S1.out.below hb
     replace R1 : Hid (BxF v2 rb 43 8 (rpV r (.slice A r.ne X))) := R1.out.below hb
     clear hb C1
     have r_ := R1.out
     have r0 : v2.cell? ⟨rb, 0, none⟩ = some (.bool r.mute) := R1.out.cell 0 (by omega)
     have r1 : v2.cell? ⟨rb, 1, none⟩ = some (.int .i64 r.nc) := R1.out.cell 1 (by omega)
     have r2 : v2.cell? ⟨rb, 2, none⟩ = some (.int .i64 r.nt) := R1.out.cell 2 (by omega)
     have r3 : v2.cell? ⟨rb, 3, none⟩ = some (.int .i64 r.sc) := R1.out.cell 3 (by omega)
     have r4 : v2.cell? ⟨rb, 4, none⟩ = some (.int .i64 r.st) := R1.out.cell 4 (by omega)
     have r5 : v2.cell? ⟨rb, 5, none⟩ = some (.slice A r.ne X) := R1.out.cell 5 (by omega)
     have r6 : v2.cell? ⟨rb, 6, none⟩ = some (.int .i64 r.bc) := R1.out.cell 6 (by omega)
     have r7 : v2.cell? ⟨rb, 7, none⟩ = some (.int .i64 r.bt) := R1.out.cell 7 (by omega)
     have t0 : v2.cell? ⟨sb, 0, none⟩ = some (.slice p.a s.n p.ca) := S1.out.cell 0 (by omega)
     have t1 : v2.cell? ⟨sb, 1, none⟩ = some (.int .i64 s.t) := S1.out.cell 1 (by omega)
     have t2 : v2.cell? ⟨sb, 2, none⟩ = some (.slice p.b s.m p.cb) := S1.out.cell 2 (by omega)
     have t3 : v2.cell? ⟨sb, 3, none⟩ = some (.slice p.d s.l p.cd) := S1.out.cell 3 (by omega)
     clear r_
     go_wp2_with fail
     clear r0 r1 r2 r3 r4 r5 r6 r7 t0 t1 t2 t3
     refine (C2.out _).mono ?_
     rintro e v3 ⟨rfl, hb⟩
     replace BB : Hid (Below w.heap.size w v3) := BB.out.trans (hb.mono BB.out.size)
     replace HN : Hid (Num v3 A r.ne r.E) := Els.below HN.out hb
     replace S1 : Hid (BxF v3 sb 28 4 (fun i => if i = 0 then .slice p.a s.n p.ca else if i = 1 then .int .i64 s.t else if i = 2 then .slice p.b s.m p.cb else .slice p.d s.l p.cd)) := S1.out.below hb
     replace R1 : Hid (BxF v3 rb 43 8 (rpV r (.slice A r.ne X))) := R1.out.below hb
     clear hb C2
     clear HN S1 R1
     go_wp2
     go_ret
     exact ⟨rfl, BB.out⟩
  by_cases c3 : mkOk r.bc r.bt
  case neg =>
    obtain rfl : z = false := hz.trans (sB_no (fun q => c3 q.2.2.2.2))
    have C0 : Hid (∀ w : World, Num w A r.ne r.E → Calls Try.prog 91 #[.agg #[.slice p.a s.n p.ca, .int .i64 s.t, .slice p.b s.m p.cb, .slice p.d s.l p.cd], .slice A r.ne X] w fun e w' => e = .returned (.bool true) ∧ Below w.heap.size w w') := fun w h => ids_v s p A r.ne X r.E hm true ((sB_yes c0).symm) w h
    have C1 : Hid (∀ w : World, Calls Try.prog 90 #[.agg #[.int .i64 r.nc, .int .i64 r.nt]] w fun e w' => e = .returned (.bool true) ∧ Below w.heap.size w w') := fun w => markOK_v r.nc r.nt true ((sB_yes c1).symm) w
    have C2 : Hid (∀ w : World, Calls Try.prog 90 #[.agg #[.int .i64 r.sc, .int .i64 r.st]] w fun e w' => e = .returned (.bool true) ∧ Below w.heap.size w w') := fun w => markOK_v r.sc r.st true ((sB_yes c2).symm) w
    have C3 : Hid (∀ w : World, Calls Try.prog 90 #[.agg #[.int .i64 r.bc, .int .i64 r.bt]] w fun e w' => e = .returned (.bool false) ∧ Below w.heap.size w w') := fun w => markOK_v r.bc r.bt false ((sB_no c3).symm) w
    clear hz c0 c1 c2 c3
    rcases PT.out with pa | ⟨pa, pm⟩
    all_goals
     go_enter Try.func62, Try.ntmps62
     go_wp2_with fail
     generalize ((w.alloc (.cells #[.slice p.a s.n p.ca, .int .i64 s.t, .slice p.b s.m p.cb, .slice p.d s.l p.cd] 28)).alloc (.cells #[.bool r.mute, .int .i64 r.nc, .int .i64 r.nt, .int .i64 r.sc, .int .i64 r.st, .slice A r.ne X, .int .i64 r.bc, .int .i64 r.bt] 43)) = v0 at *
     obtain ⟨sb, hsb⟩ : ∃ x, x = w.heap.size := ⟨_, rfl⟩
     obtain ⟨rb, hrb⟩ : ∃ x, x = w.heap.size + 1 := ⟨_, rfl⟩
     rw [← hrb] at R1 ⊢
     rw [← hsb] at S1 ⊢
     clear hsb hrb
     refine (C0.out _ HN.out).mono ?_
     rintro e v1 ⟨rfl, hb⟩
     replace BB : Hid (Below w.heap.size w v1) := BB.out.trans (hb.mono BB.out.size)
     replace HN : Hid (Num v1 A r.ne r.E) := Els.below HN.out hb
     replace S1 : Hid (BxF v1 sb 28 4 (fun i => if i = 0 then .slice p.a s.n p.ca else if i = 1 then .int .i64 s.t else if i = 2 then .slice p.b s.m p.cb else .slice p.d s.l p.cd)) := S1.out.below hb
     replace R1 : Hid (BxF v1 rb 43 8 (rpV r (.slice A r.ne X))) := R1.out.below hb
     clear hb C0
     have r_ := R1.out
     have r0 : v1.cell? ⟨rb, 0, none⟩ = some (.bool r.mute) := R1.out.cell 0 (by omega)
     have r1 : v1.cell? ⟨rb, 1, none⟩ = some (.int .i64 r.nc) := R1.out.cell 1 (by omega)
     have r2 : v1.cell? ⟨rb, 2, none⟩ = some (.int .i64 r.nt) := R1.out.cell 2 (by omega)
     have r3 : v1.cell? ⟨rb, 3, none⟩ = some (.int .i64 r.sc) := R1.out.cell 3 (by omega)
     have r4 : v1.cell? ⟨rb, 4, none⟩ = some (.int .i64 r.st) := R1.out.cell 4 (by omega)
     have r5 : v1.cell? ⟨rb, 5, none⟩ = some (.slice A r.ne X) := R1.out.cell 5 (by omega)
     have r6 : v1.cell? ⟨rb, 6, none⟩ = some (.int .i64 r.bc) := R1.out.cell 6 (by omega)
     have r7 : v1.cell? ⟨rb, 7, none⟩ = some (.int .i64 r.bt) := R1.out.cell 7 (by omega)
     have t0 : v1.cell? ⟨sb, 0, none⟩ = some (.slice p.a s.n p.ca) := S1.out.cell 0 (by omega)
     have t1 : v1.cell? ⟨sb, 1, none⟩ = some (.int .i64 s.t) := S1.out.cell 1 (by omega)
     have t2 : v1.cell? ⟨sb, 2, none⟩ = some (.slice p.b s.m p.cb) := S1.out.cell 2 (by omega)
     have t3 : v1.cell? ⟨sb, 3, none⟩ = some (.slice p.d s.l p.cd) := S1.out.cell 3 (by omega)
     clear r_
     go_wp2_with fail
     clear r0 r1 r2 r3 r4 r5 r6 r7 t0 t1 t2 t3
     refine (C1.out _).mono ?_
     rintro e v2 ⟨rfl, hb⟩
     replace BB : Hid (Below w.heap.size w v2) := BB.out.trans (hb.mono BB.out.size)
     replace HN : Hid (Num v2 A r.ne r.E) := Els.below HN.out hb
     replace S1 : Hid (BxF v2 sb 28 4 (fun i => if i = 0 then .slice p.a s.n p.ca else if i = 1 then .int .i64 s.t else if i = 2 then .slice p.b s.m p.cb else .slice p.d s.l p.cd)) := S1.out.below hb
     replace R1 : Hid (BxF v2 rb 43 8 (rpV r (.slice A r.ne X))) := R1.out.below hb
     clear hb C1
     have r_ := R1.out
     have r0 : v2.cell? ⟨rb, 0, none⟩ = some (.bool r.mute) := R1.out.cell 0 (by omega)
     have r1 : v2.cell? ⟨rb, 1, none⟩ = some (.int .i64 r.nc) := R1.out.cell 1 (by omega)
     have r2 : v2.cell? ⟨rb, 2, none⟩ = some (.int .i64 r.nt) := R1.out.cell 2 (by omega)
     have r3 : v2.cell? ⟨rb, 3, none⟩ = some (.int .i64 r.sc) := R1.out.cell 3 (by omega)
     have r4 : v2.cell? ⟨rb, 4, none⟩ = some (.int .i64 r.st) := R1.out.cell 4 (by omega)
     have r5 : v2.cell? ⟨rb, 5, none⟩ = some (.slice A r.ne X) := R1.out.cell 5 (by omega)
     have r6 : v2.cell? ⟨rb, 6, none⟩ = some (.int .i64 r.bc) := R1.out.cell 6 (by omega)
     have r7 : v2.cell? ⟨rb, 7, none⟩ = some (.int .i64 r.bt) := R1.out.cell 7 (by omega)
     have t0 : v2.cell? ⟨sb, 0, none⟩ = some (.slice p.a s.n p.ca) := S1.out.cell 0 (by omega)
     have t1 : v2.cell? ⟨sb, 1, none⟩ = some (.int .i64 s.t) := S1.out.cell 1 (by omega)
     have t2 : v2.cell? ⟨sb, 2, none⟩ = some (.slice p.b s.m p.cb) := S1.out.cell 2 (by omega)
     have t3 : v2.cell? ⟨sb, 3, none⟩ = some (.slice p.d s.l p.cd) := S1.out.cell 3 (by omega)
     clear r_
     go_wp2_with fail
     clear r0 r1 r2 r3 r4 r5 r6 r7 t0 t1 t2 t3
     refine (C2.out _).mono ?_
     rintro e v3 ⟨rfl, hb⟩
     replace BB : Hid (Below w.heap.size w v3) := BB.out.trans (hb.mono BB.out.size)
     replace HN : Hid (Num v3 A r.ne r.E) := Els.below HN.out hb
     replace S1 : Hid (BxF v3 sb 28 4 (fun i => if i = 0 then .slice p.a s.n p.ca else if i = 1 then .int .i64 s.t else if i = 2 then .slice p.b s.m p.cb else .slice p.d s.l p.cd)) := S1.out.below hb
     replace R1 : Hid (BxF v3 rb 43 8 (rpV r (.slice A r.ne X))) := R1.out.below hb
     clear hb C2
     have r_ := R1.out
     have r0 : v3.cell? ⟨rb, 0, none⟩ = some (.bool r.mute) := R1.out.cell 0 (by omega)
     have r1 : v3.cell? ⟨rb, 1, none⟩ = some (.int .i64 r.nc) := R1.out.cell 1 (by omega)
     have r2 : v3.cell? ⟨rb, 2, none⟩ = some (.int .i64 r.nt) := R1.out.cell 2 (by omega)
     have r3 : v3.cell? ⟨rb, 3, none⟩ = some (.int .i64 r.sc) := R1.out.cell 3 (by omega)
     have r4 : v3.cell? ⟨rb, 4, none⟩ = some (.int .i64 r.st) := R1.out.cell 4 (by omega)
     have r5 : v3.cell? ⟨rb, 5, none⟩ = some (.slice A r.ne X) := R1.out.cell 5 (by omega)
     have r6 : v3.cell? ⟨rb, 6, none⟩ = some (.int .i64 r.bc) := R1.out.cell 6 (by omega)
     have r7 : v3.cell? ⟨rb, 7, none⟩ = some (.int .i64 r.bt) := R1.out.cell 7 (by omega)
     have t0 : v3.cell? ⟨sb, 0, none⟩ = some (.slice p.a s.n p.ca) := S1.out.cell 0 (by omega)
     have t1 : v3.cell? ⟨sb, 1, none⟩ = some (.int .i64 s.t) := S1.out.cell 1 (by omega)
     have t2 : v3.cell? ⟨sb, 2, none⟩ = some (.slice p.b s.m p.cb) := S1.out.cell 2 (by omega)
     have t3 : v3.cell? ⟨sb, 3, none⟩ = some (.slice p.d s.l p.cd) := S1.out.cell 3 (by omega)
     clear r_
     go_wp2_with fail
     clear r0 r1 r2 r3 r4 r5 r6 r7 t0 t1 t2 t3
     refine (C3.out _).mono ?_
     rintro e v4 ⟨rfl, hb⟩
     replace BB : Hid (Below w.heap.size w v4) := BB.out.trans (hb.mono BB.out.size)
     replace HN : Hid (Num v4 A r.ne r.E) := Els.below HN.out hb
     replace S1 : Hid (BxF v4 sb 28 4 (fun i => if i = 0 then .slice p.a s.n p.ca else if i = 1 then .int .i64 s.t else if i = 2 then .slice p.b s.m p.cb else .slice p.d s.l p.cd)) := S1.out.below hb
     replace R1 : Hid (BxF v4 rb 43 8 (rpV r (.slice A r.ne X))) := R1.out.below hb
     clear hb C3
     clear HN S1 R1
     go_wp2
     go_ret
     exact ⟨rfl, BB.out⟩
  obtain rfl : z = true := hz.trans (sB_yes ⟨P0.out, c0, c1, c2, c3⟩)
  have C0 : Hid (∀ w : World, Num w A r.ne r.E → Calls Try.prog 91 #[.agg #[.slice p.a s.n p.ca, .int .i64 s.t, .slice p.b s.m p.cb, .slice p.d s.l p.cd], .slice A r.ne X] w fun e w' => e = .returned (.bool true) ∧ Below w.heap.size w w') := fun w h => ids_v s p A r.ne X r.E hm true ((sB_yes c0).symm) w h
  have C1 : Hid (∀ w : World, Calls Try.prog 90 #[.agg #[.int .i64 r.nc, .int .i64 r.nt]] w fun e w' => e = .returned (.bool true) ∧ Below w.heap.size w w') := fun w => markOK_v r.nc r.nt true ((sB_yes c1).symm) w
  have C2 : Hid (∀ w : World, Calls Try.prog 90 #[.agg #[.int .i64 r.sc, .int .i64 r.st]] w fun e w' => e = .returned (.bool true) ∧ Below w.heap.size w w') := fun w => markOK_v r.sc r.st true ((sB_yes c2).symm) w
  have C3 : Hid (∀ w : World, Calls Try.prog 90 #[.agg #[.int .i64 r.bc, .int .i64 r.bt]] w fun e w' => e = .returned (.bool true) ∧ Below w.heap.size w w') := fun w => markOK_v r.bc r.bt true ((sB_yes c3).symm) w
  clear hz c0 c1 c2 c3
  rcases PT.out with pa | ⟨pa, pm⟩
  all_goals
   go_enter Try.func62, Try.ntmps62
   go_wp2_with fail
   generalize ((w.alloc (.cells #[.slice p.a s.n p.ca, .int .i64 s.t, .slice p.b s.m p.cb, .slice p.d s.l p.cd] 28)).alloc (.cells #[.bool r.mute, .int .i64 r.nc, .int .i64 r.nt, .int .i64 r.sc, .int .i64 r.st, .slice A r.ne X, .int .i64 r.bc, .int .i64 r.bt] 43)) = v0 at *
   obtain ⟨sb, hsb⟩ : ∃ x, x = w.heap.size := ⟨_, rfl⟩
   obtain ⟨rb, hrb⟩ : ∃ x, x = w.heap.size + 1 := ⟨_, rfl⟩
   rw [← hrb] at R1 ⊢
   rw [← hsb] at S1 ⊢
   clear hsb hrb
   refine (C0.out _ HN.out).mono ?_
   rintro e v1 ⟨rfl, hb⟩
   replace BB : Hid (Below w.heap.size w v1) := BB.out.trans (hb.mono BB.out.size)
   replace HN : Hid (Num v1 A r.ne r.E) := Els.below HN.out hb
   replace S1 : Hid (BxF v1 sb 28 4 (fun i => if i = 0 then .slice p.a s.n p.ca else if i = 1 then .int .i64 s.t else if i = 2 then .slice p.b s.m p.cb else .slice p.d s.l p.cd)) := S1.out.below hb
   replace R1 : Hid (BxF v1 rb 43 8 (rpV r (.slice A r.ne X))) := R1.out.below hb
   clear hb C0
   have r_ := R1.out
   have r0 : v1.cell? ⟨rb, 0, none⟩ = some (.bool r.mute) := R1.out.cell 0 (by omega)
   have r1 : v1.cell? ⟨rb, 1, none⟩ = some (.int .i64 r.nc) := R1.out.cell 1 (by omega)
   have r2 : v1.cell? ⟨rb, 2, none⟩ = some (.int .i64 r.nt) := R1.out.cell 2 (by omega)
   have r3 : v1.cell? ⟨rb, 3, none⟩ = some (.int .i64 r.sc) := R1.out.cell 3 (by omega)
   have r4 : v1.cell? ⟨rb, 4, none⟩ = some (.int .i64 r.st) := R1.out.cell 4 (by omega)
   have r5 : v1.cell? ⟨rb, 5, none⟩ = some (.slice A r.ne X) := R1.out.cell 5 (by omega)
   have r6 : v1.cell? ⟨rb, 6, none⟩ = some (.int .i64 r.bc) := R1.out.cell 6 (by omega)
   have r7 : v1.cell? ⟨rb, 7, none⟩ = some (.int .i64 r.bt) := R1.out.cell 7 (by omega)
   have t0 : v1.cell? ⟨sb, 0, none⟩ = some (.slice p.a s.n p.ca) := S1.out.cell 0 (by omega)
   have t1 : v1.cell? ⟨sb, 1, none⟩ = some (.int .i64 s.t) := S1.out.cell 1 (by omega)
   have t2 : v1.cell? ⟨sb, 2, none⟩ = some (.slice p.b s.m p.cb) := S1.out.cell 2 (by omega)
   have t3 : v1.cell? ⟨sb, 3, none⟩ = some (.slice p.d s.l p.cd) := S1.out.cell 3 (by omega)
   clear r_
   go_wp2_with fail
   clear r0 r1 r2 r3 r4 r5 r6 r7 t0 t1 t2 t3
   refine (C1.out _).mono ?_
   rintro e v2 ⟨rfl, hb⟩
   replace BB : Hid (Below w.heap.size w v2) := BB.out.trans (hb.mono BB.out.size)
   replace HN : Hid (Num v2 A r.ne r.E) := Els.below HN.out hb
   replace S1 : Hid (BxF v2 sb 28 4 (fun i => if i = 0 then .slice p.a s.n p.ca else if i = 1 then .int .i64 s.t else if i = 2 then .slice p.b s.m p.cb else .slice p.d s.l p.cd)) := S1.out.below hb
   replace R1 : Hid (BxF v2 rb 43 8 (rpV r (.slice A r.ne X))) := R1.out.below hb
   clear hb C1
   have r_ := R1.out
   have r0 : v2.cell? ⟨rb, 0, none⟩ = some (.bool r.mute) := R1.out.cell 0 (by omega)
   have r1 : v2.cell? ⟨rb, 1, none⟩ = some (.int .i64 r.nc) := R1.out.cell 1 (by omega)
   have r2 : v2.cell? ⟨rb, 2, none⟩ = some (.int .i64 r.nt) := R1.out.cell 2 (by omega)
   have r3 : v2.cell? ⟨rb, 3, none⟩ = some (.int .i64 r.sc) := R1.out.cell 3 (by omega)
   have r4 : v2.cell? ⟨rb, 4, none⟩ = some (.int .i64 r.st) := R1.out.cell 4 (by omega)
   have r5 : v2.cell? ⟨rb, 5, none⟩ = some (.slice A r.ne X) := R1.out.cell 5 (by omega)
   have r6 : v2.cell? ⟨rb, 6, none⟩ = some (.int .i64 r.bc) := R1.out.cell 6 (by omega)
   have r7 : v2.cell? ⟨rb, 7, none⟩ = some (.int .i64 r.bt) := R1.out.cell 7 (by omega)
   have t0 : v2.cell? ⟨sb, 0, none⟩ = some (.slice p.a s.n p.ca) := S1.out.cell 0 (by omega)
   have t1 : v2.cell? ⟨sb, 1, none⟩ = some (.int .i64 s.t) := S1.out.cell 1 (by omega)
   have t2 : v2.cell? ⟨sb, 2, none⟩ = some (.slice p.b s.m p.cb) := S1.out.cell 2 (by omega)
   have t3 : v2.cell? ⟨sb, 3, none⟩ = some (.slice p.d s.l p.cd) := S1.out.cell 3 (by omega)
   clear r_
   go_wp2_with fail
   clear r0 r1 r2 r3 r4 r5 r6 r7 t0 t1 t2 t3
   refine (C2.out _).mono ?_
   rintro e v3 ⟨rfl, hb⟩
   replace BB : Hid (Below w.heap.size w v3) := BB.out.trans (hb.mono BB.out.size)
   replace HN : Hid (Num v3 A r.ne r.E) := Els.below HN.out hb
   replace S1 : Hid (BxF v3 sb 28 4 (fun i => if i = 0 then .slice p.a s.n p.ca else if i = 1 then .int .i64 s.t else if i = 2 then .slice p.b s.m p.cb else .slice p.d s.l p.cd)) := S1.out.below hb
   replace R1 : Hid (BxF v3 rb 43 8 (rpV r (.slice A r.ne X))) := R1.out.below hb
   clear hb C2
   have r_ := R1.out
   have r0 : v3.cell? ⟨rb, 0, none⟩ = some (.bool r.mute) := R1.out.cell 0 (by omega)
   have r1 : v3.cell? ⟨rb, 1, none⟩ = some (.int .i64 r.nc) := R1.out.cell 1 (by omega)
   have r2 : v3.cell? ⟨rb, 2, none⟩ = some (.int .i64 r.nt) := R1.out.cell 2 (by omega)
   have r3 : v3.cell? ⟨rb, 3, none⟩ = some (.int .i64 r.sc) := R1.out.cell 3 (by omega)
   have r4 : v3.cell? ⟨rb, 4, none⟩ = some (.int .i64 r.st) := R1.out.cell 4 (by omega)
   have r5 : v3.cell? ⟨rb, 5, none⟩ = some (.slice A r.ne X) := R1.out.cell 5 (by omega)
   have r6 : v3.cell? ⟨rb, 6, none⟩ = some (.int .i64 r.bc) := R1.out.cell 6 (by omega)
   have r7 : v3.cell? ⟨rb, 7, none⟩ = some (.int .i64 r.bt) := R1.out.cell 7 (by omega)
   have t0 : v3.cell? ⟨sb, 0, none⟩ = some (.slice p.a s.n p.ca) := S1.out.cell 0 (by omega)
   have t1 : v3.cell? ⟨sb, 1, none⟩ = some (.int .i64 s.t) := S1.out.cell 1 (by omega)
   have t2 : v3.cell? ⟨sb, 2, none⟩ = some (.slice p.b s.m p.cb) := S1.out.cell 2 (by omega)
   have t3 : v3.cell? ⟨sb, 3, none⟩ = some (.slice p.d s.l p.cd) := S1.out.cell 3 (by omega)
   clear r_
   go_wp2_with fail
   clear r0 r1 r2 r3 r4 r5 r6 r7 t0 t1 t2 t3
   refine (C3.out _).mono ?_
   rintro e v4 ⟨rfl, hb⟩
   replace BB : Hid (Below w.heap.size w v4) := BB.out.trans (hb.mono BB.out.size)
   replace HN : Hid (Num v4 A r.ne r.E) := Els.below HN.out hb
   replace S1 : Hid (BxF v4 sb 28 4 (fun i => if i = 0 then .slice p.a s.n p.ca else if i = 1 then .int .i64 s.t else if i = 2 then .slice p.b s.m p.cb else .slice p.d s.l p.cd)) := S1.out.below hb
   replace R1 : Hid (BxF v4 rb 43 8 (rpV r (.slice A r.ne X))) := R1.out.below hb
   clear hb C3
   clear HN S1 R1
   go_wp2
   go_ret
   exact ⟨rfl, BB.out⟩
set_option maxRecDepth 100000 in
set_option maxHeartbeats 2000000 in
theorem rea_v (s : Sv) (p : Sa) (r : Ro) (A : Option Addr) (X : Nat) (hm : r.ne ≤ 1048576) (z : Bool) (hz : z = sB (r.Ok s.n s.t)) (w : World) (h : Num w A r.ne r.E) :
    Calls Try.prog 64 #[.agg #[.slice p.a s.n p.ca, .int .i64 s.t, .slice p.b s.m p.cb, .slice p.d s.l p.cd], .agg #[.slice A r.ne X, .int .i64 r.bc, .int .i64 r.bt, .int .i64 r.bg, .int .i64 r.en]] w fun e w' => e = .returned (.bool z) ∧ Below w.heap.size w w' := by
  have s1 : (w.alloc (.cells #[.slice p.a s.n p.ca, .int .i64 s.t, .slice p.b s.m p.cb, .slice p.d s.l p.cd] 28)).heap.size = w.heap.size + 1 := by simp
  have BB : Hid (Below w.heap.size w ((w.alloc (.cells #[.slice p.a s.n p.ca, .int .i64 s.t, .slice p.b s.m p.cb, .slice p.d s.l p.cd] 28)).alloc (.cells #[.slice A r.ne X, .int .i64 r.bc, .int .i64 r.bt, .int .i64 r.bg, .int .i64 r.en] 90))) := ((Below.refl w.heap.size w).alloc (Nat.le_refl _) _).alloc (by rw [s1]; omega) _
  have S1 : Hid (BxF ((w.alloc (.cells #[.slice p.a s.n p.ca, .int .i64 s.t, .slice p.b s.m p.cb, .slice p.d s.l p.cd] 28)).alloc (.cells #[.slice A r.ne X, .int .i64 r.bc, .int .i64 r.bt, .int .i64 r.bg, .int .i64 r.en] 90)) w.heap.size 28 4 (fun i => if i = 0 then .slice p.a s.n p.ca else if i = 1 then .int .i64 s.t else if i = 2 then .slice p.b s.m p.cb else .slice p.d s.l p.cd)) := (BxF.sv _ _ _ _ _).alloc _
  have R1 : Hid (BxF ((w.alloc (.cells #[.slice p.a s.n p.ca, .int .i64 s.t, .slice p.b s.m p.cb, .slice p.d s.l p.cd] 28)).alloc (.cells #[.slice A r.ne X, .int .i64 r.bc, .int .i64 r.bt, .int .i64 r.bg, .int .i64 r.en] 90)) (w.heap.size + 1) 90 5 (roV r (.slice A r.ne X))) := by have := BxF.ro (w.alloc (.cells #[.slice p.a s.n p.ca, .int .i64 s.t, .slice p.b s.m p.cb, .slice p.d s.l p.cd] 28)) r (.slice A r.ne X); rwa [s1] at this
  have HN : Hid (Num ((w.alloc (.cells #[.slice p.a s.n p.ca, .int .i64 s.t, .slice p.b s.m p.cb, .slice p.d s.l p.cd] 28)).alloc (.cells #[.slice A r.ne X, .int .i64 r.bc, .int .i64 r.bt, .int .i64 r.bg, .int .i64 r.en] 90)) A r.ne r.E) := Els.below h BB.out
  clear h s1
  by_cases c0 : mkOk r.bc r.bt
  case neg =>
    obtain rfl : z = false := hz.trans (sB_no (fun q => c0 q.1))
    have C0 : Hid (∀ w : World, Calls Try.prog 90 #[.agg #[.int .i64 r.bc, .int .i64 r.bt]] w fun e w' => e = .returned (.bool false) ∧ Below w.heap.size w w') := fun w => markOK_v r.bc r.bt false ((sB_no c0).symm) w
    clear hz c0
    go_enter Try.func64, Try.ntmps64
    go_wp2_with fail
    generalize ((w.alloc (.cells #[.slice p.a s.n p.ca, .int .i64 s.t, .slice p.b s.m p.cb, .slice p.d s.l p.cd] 28)).alloc (.cells #[.slice A r.ne X, .int .i64 r.bc, .int .i64 r.bt, .int .i64 r.bg, .int .i64 r.en] 90)) = v0 at *
    obtain ⟨sb, hsb⟩ : ∃ x, x = w.heap.size := ⟨_, rfl⟩
    obtain ⟨rb, hrb⟩ : ∃ x, x = w.heap.size + 1 := ⟨_, rfl⟩
    rw [← hrb] at R1 ⊢
    rw [← hsb] at S1 ⊢
    clear hsb hrb
    refine (C0.out _).mono ?_
    rintro e v1 ⟨rfl, hb⟩
    replace BB : Hid (Below w.heap.size w v1) := BB.out.trans (hb.mono BB.out.size)
    replace HN : Hid (Num v1 A r.ne r.E) := Els.below HN.out hb
    replace S1 : Hid (BxF v1 sb 28 4 (fun i => if i = 0 then .slice p.a s.n p.ca else if i = 1 then .int .i64 s.t else if i = 2 then .slice p.b s.m p.cb else .slice p.d s.l p.cd)) := S1.out.below hb
    replace R1 : Hid (BxF v1 rb 90 5 (roV r (.slice A r.ne X))) := R1.out.below hb
    clear hb C0
    clear HN S1 R1
    go_wp2
    go_ret
    exact ⟨rfl, BB.out⟩
  by_cases c1 : idsOk s.n r.ne r.E
  case neg =>
    obtain rfl : z = false := hz.trans (sB_no (fun q => c1 q.2.1))
    have C0 : Hid (∀ w : World, Calls Try.prog 90 #[.agg #[.int .i64 r.bc, .int .i64 r.bt]] w fun e w' => e = .returned (.bool true) ∧ Below w.heap.size w w') := fun w => markOK_v r.bc r.bt true ((sB_yes c0).symm) w
    have C1 : Hid (∀ w : World, Num w A r.ne r.E → Calls Try.prog 91 #[.agg #[.slice p.a s.n p.ca, .int .i64 s.t, .slice p.b s.m p.cb, .slice p.d s.l p.cd], .slice A r.ne X] w fun e w' => e = .returned (.bool false) ∧ Below w.heap.size w w') := fun w h => ids_v s p A r.ne X r.E hm false ((sB_no c1).symm) w h
    clear hz c0 c1
    go_enter Try.func64, Try.ntmps64
    go_wp2_with fail
    generalize ((w.alloc (.cells #[.slice p.a s.n p.ca, .int .i64 s.t, .slice p.b s.m p.cb, .slice p.d s.l p.cd] 28)).alloc (.cells #[.slice A r.ne X, .int .i64 r.bc, .int .i64 r.bt, .int .i64 r.bg, .int .i64 r.en] 90)) = v0 at *
    obtain ⟨sb, hsb⟩ : ∃ x, x = w.heap.size := ⟨_, rfl⟩
    obtain ⟨rb, hrb⟩ : ∃ x, x = w.heap.size + 1 := ⟨_, rfl⟩
    rw [← hrb] at R1 ⊢
    rw [← hsb] at S1 ⊢
    clear hsb hrb
    refine (C0.out _).mono ?_
    rintro e v1 ⟨rfl, hb⟩
    replace BB : Hid (Below w.heap.size w v1) := BB.out.trans (hb.mono BB.out.size)
    replace HN : Hid (Num v1 A r.ne r.E) := Els.below HN.out hb
    replace S1 : Hid (BxF v1 sb 28 4 (fun i => if i = 0 then .slice p.a s.n p.ca else if i = 1 then .int .i64 s.t else if i = 2 then .slice p.b s.m p.cb else .slice p.d s.l p.cd)) := S1.out.below hb
    replace R1 : Hid (BxF v1 rb 90 5 (roV r (.slice A r.ne X))) := R1.out.below hb
    clear hb C0
    have r_ := R1.out
    have r0 : v1.cell? ⟨rb, 0, none⟩ = some (.slice A r.ne X) := R1.out.cell 0 (by omega)
    have r1 : v1.cell? ⟨rb, 1, none⟩ = some (.int .i64 r.bc) := R1.out.cell 1 (by omega)
    have r2 : v1.cell? ⟨rb, 2, none⟩ = some (.int .i64 r.bt) := R1.out.cell 2 (by omega)
    have r3 : v1.cell? ⟨rb, 3, none⟩ = some (.int .i64 r.bg) := R1.out.cell 3 (by omega)
    have r4 : v1.cell? ⟨rb, 4, none⟩ = some (.int .i64 r.en) := R1.out.cell 4 (by omega)
    have t0 : v1.cell? ⟨sb, 0, none⟩ = some (.slice p.a s.n p.ca) := S1.out.cell 0 (by omega)
    have t1 : v1.cell? ⟨sb, 1, none⟩ = some (.int .i64 s.t) := S1.out.cell 1 (by omega)
    have t2 : v1.cell? ⟨sb, 2, none⟩ = some (.slice p.b s.m p.cb) := S1.out.cell 2 (by omega)
    have t3 : v1.cell? ⟨sb, 3, none⟩ = some (.slice p.d s.l p.cd) := S1.out.cell 3 (by omega)
    clear r_
    go_wp2_with fail
    clear r0 r1 r2 r3 r4 t0 t1 t2 t3
    refine (C1.out _ HN.out).mono ?_
    rintro e v2 ⟨rfl, hb⟩
    replace BB : Hid (Below w.heap.size w v2) := BB.out.trans (hb.mono BB.out.size)
    replace HN : Hid (Num v2 A r.ne r.E) := Els.below HN.out hb
    replace S1 : Hid (BxF v2 sb 28 4 (fun i => if i = 0 then .slice p.a s.n p.ca else if i = 1 then .int .i64 s.t else if i = 2 then .slice p.b s.m p.cb else .slice p.d s.l p.cd)) := S1.out.below hb
    replace R1 : Hid (BxF v2 rb 90 5 (roV r (.slice A r.ne X))) := R1.out.below hb
    clear hb C1
    clear HN S1 R1
    go_wp2
    go_ret
    exact ⟨rfl, BB.out⟩
  by_cases c2 : tmOk s.t r.bg r.en
  case neg =>
    obtain rfl : z = false := hz.trans (sB_no (fun q => c2 q.2.2))
    have C0 : Hid (∀ w : World, Calls Try.prog 90 #[.agg #[.int .i64 r.bc, .int .i64 r.bt]] w fun e w' => e = .returned (.bool true) ∧ Below w.heap.size w w') := fun w => markOK_v r.bc r.bt true ((sB_yes c0).symm) w
    have C1 : Hid (∀ w : World, Num w A r.ne r.E → Calls Try.prog 91 #[.agg #[.slice p.a s.n p.ca, .int .i64 s.t, .slice p.b s.m p.cb, .slice p.d s.l p.cd], .slice A r.ne X] w fun e w' => e = .returned (.bool true) ∧ Below w.heap.size w w') := fun w h => ids_v s p A r.ne X r.E hm true ((sB_yes c1).symm) w h
    have C2 : Hid (∀ w : World, Calls Try.prog 92 #[.agg #[.slice p.a s.n p.ca, .int .i64 s.t, .slice p.b s.m p.cb, .slice p.d s.l p.cd], .int .i64 r.bg, .int .i64 r.en] w fun e w' => e = .returned (.bool false) ∧ Below w.heap.size w w') := fun w => times_v s p r.bg r.en false ((sB_no c2).symm) w
    clear hz c0 c1 c2
    go_enter Try.func64, Try.ntmps64
    go_wp2_with fail
    generalize ((w.alloc (.cells #[.slice p.a s.n p.ca, .int .i64 s.t, .slice p.b s.m p.cb, .slice p.d s.l p.cd] 28)).alloc (.cells #[.slice A r.ne X, .int .i64 r.bc, .int .i64 r.bt, .int .i64 r.bg, .int .i64 r.en] 90)) = v0 at *
    obtain ⟨sb, hsb⟩ : ∃ x, x = w.heap.size := ⟨_, rfl⟩
    obtain ⟨rb, hrb⟩ : ∃ x, x = w.heap.size + 1 := ⟨_, rfl⟩
    rw [← hrb] at R1 ⊢
    rw [← hsb] at S1 ⊢
    clear hsb hrb
    refine (C0.out _).mono ?_
    rintro e v1 ⟨rfl, hb⟩
    replace BB : Hid (Below w.heap.size w v1) := BB.out.trans (hb.mono BB.out.size)
    replace HN : Hid (Num v1 A r.ne r.E) := Els.below HN.out hb
    replace S1 : Hid (BxF v1 sb 28 4 (fun i => if i = 0 then .slice p.a s.n p.ca else if i = 1 then .int .i64 s.t else if i = 2 then .slice p.b s.m p.cb else .slice p.d s.l p.cd)) := S1.out.below hb
    replace R1 : Hid (BxF v1 rb 90 5 (roV r (.slice A r.ne X))) := R1.out.below hb
    clear hb C0
    have r_ := R1.out
    have r0 : v1.cell? ⟨rb, 0, none⟩ = some (.slice A r.ne X) := R1.out.cell 0 (by omega)
    have r1 : v1.cell? ⟨rb, 1, none⟩ = some (.int .i64 r.bc) := R1.out.cell 1 (by omega)
    have r2 : v1.cell? ⟨rb, 2, none⟩ = some (.int .i64 r.bt) := R1.out.cell 2 (by omega)
    have r3 : v1.cell? ⟨rb, 3, none⟩ = some (.int .i64 r.bg) := R1.out.cell 3 (by omega)
    have r4 : v1.cell? ⟨rb, 4, none⟩ = some (.int .i64 r.en) := R1.out.cell 4 (by omega)
    have t0 : v1.cell? ⟨sb, 0, none⟩ = some (.slice p.a s.n p.ca) := S1.out.cell 0 (by omega)
    have t1 : v1.cell? ⟨sb, 1, none⟩ = some (.int .i64 s.t) := S1.out.cell 1 (by omega)
    have t2 : v1.cell? ⟨sb, 2, none⟩ = some (.slice p.b s.m p.cb) := S1.out.cell 2 (by omega)
    have t3 : v1.cell? ⟨sb, 3, none⟩ = some (.slice p.d s.l p.cd) := S1.out.cell 3 (by omega)
    clear r_
    go_wp2_with fail
    clear r0 r1 r2 r3 r4 t0 t1 t2 t3
    refine (C1.out _ HN.out).mono ?_
    rintro e v2 ⟨rfl, hb⟩
    replace BB : Hid (Below w.heap.size w v2) := BB.out.trans (hb.mono BB.out.size)
    replace HN : Hid (Num v2 A r.ne r.E) := Els.below HN.out hb
    replace S1 : Hid (BxF v2 sb 28 4 (fun i => if i = 0 then .slice p.a s.n p.ca else if i = 1 then .int .i64 s.t else if i = 2 then .slice p.b s.m p.cb else .slice p.d s.l p.cd)) := S1.out.below hb
    replace R1 : Hid (BxF v2 rb 90 5 (roV r (.slice A r.ne X))) := R1.out.below hb
    clear hb C1
    have r_ := R1.out
    have r0 : v2.cell? ⟨rb, 0, none⟩ = some (.slice A r.ne X) := R1.out.cell 0 (by omega)
    have r1 : v2.cell? ⟨rb, 1, none⟩ = some (.int .i64 r.bc) := R1.out.cell 1 (by omega)
    have r2 : v2.cell? ⟨rb, 2, none⟩ = some (.int .i64 r.bt) := R1.out.cell 2 (by omega)
    have r3 : v2.cell? ⟨rb, 3, none⟩ = some (.int .i64 r.bg) := R1.out.cell 3 (by omega)
    have r4 : v2.cell? ⟨rb, 4, none⟩ = some (.int .i64 r.en) := R1.out.cell 4 (by omega)
    have t0 : v2.cell? ⟨sb, 0, none⟩ = some (.slice p.a s.n p.ca) := S1.out.cell 0 (by omega)
    have t1 : v2.cell? ⟨sb, 1, none⟩ = some (.int .i64 s.t) := S1.out.cell 1 (by omega)
    have t2 : v2.cell? ⟨sb, 2, none⟩ = some (.slice p.b s.m p.cb) := S1.out.cell 2 (by omega)
    have t3 : v2.cell? ⟨sb, 3, none⟩ = some (.slice p.d s.l p.cd) := S1.out.cell 3 (by omega)
    clear r_
    go_wp2_with fail
    clear r0 r1 r2 r3 r4 t0 t1 t2 t3
    refine (C2.out _).mono ?_
    rintro e v3 ⟨rfl, hb⟩
    replace BB : Hid (Below w.heap.size w v3) := BB.out.trans (hb.mono BB.out.size)
    replace HN : Hid (Num v3 A r.ne r.E) := Els.below HN.out hb
    replace S1 : Hid (BxF v3 sb 28 4 (fun i => if i = 0 then .slice p.a s.n p.ca else if i = 1 then .int .i64 s.t else if i = 2 then .slice p.b s.m p.cb else .slice p.d s.l p.cd)) := S1.out.below hb
    replace R1 : Hid (BxF v3 rb 90 5 (roV r (.slice A r.ne X))) := R1.out.below hb
    clear hb C2
    clear HN S1 R1
    go_wp2
    go_ret
    exact ⟨rfl, BB.out⟩
  obtain rfl : z = true := hz.trans (sB_yes ⟨c0, c1, c2⟩)
  have C0 : Hid (∀ w : World, Calls Try.prog 90 #[.agg #[.int .i64 r.bc, .int .i64 r.bt]] w fun e w' => e = .returned (.bool true) ∧ Below w.heap.size w w') := fun w => markOK_v r.bc r.bt true ((sB_yes c0).symm) w
  have C1 : Hid (∀ w : World, Num w A r.ne r.E → Calls Try.prog 91 #[.agg #[.slice p.a s.n p.ca, .int .i64 s.t, .slice p.b s.m p.cb, .slice p.d s.l p.cd], .slice A r.ne X] w fun e w' => e = .returned (.bool true) ∧ Below w.heap.size w w') := fun w h => ids_v s p A r.ne X r.E hm true ((sB_yes c1).symm) w h
  have C2 : Hid (∀ w : World, Calls Try.prog 92 #[.agg #[.slice p.a s.n p.ca, .int .i64 s.t, .slice p.b s.m p.cb, .slice p.d s.l p.cd], .int .i64 r.bg, .int .i64 r.en] w fun e w' => e = .returned (.bool true) ∧ Below w.heap.size w w') := fun w => times_v s p r.bg r.en true ((sB_yes c2).symm) w
  clear hz c0 c1 c2
  go_enter Try.func64, Try.ntmps64
  go_wp2_with fail
  generalize ((w.alloc (.cells #[.slice p.a s.n p.ca, .int .i64 s.t, .slice p.b s.m p.cb, .slice p.d s.l p.cd] 28)).alloc (.cells #[.slice A r.ne X, .int .i64 r.bc, .int .i64 r.bt, .int .i64 r.bg, .int .i64 r.en] 90)) = v0 at *
  obtain ⟨sb, hsb⟩ : ∃ x, x = w.heap.size := ⟨_, rfl⟩
  obtain ⟨rb, hrb⟩ : ∃ x, x = w.heap.size + 1 := ⟨_, rfl⟩
  rw [← hrb] at R1 ⊢
  rw [← hsb] at S1 ⊢
  clear hsb hrb
  refine (C0.out _).mono ?_
  rintro e v1 ⟨rfl, hb⟩
  replace BB : Hid (Below w.heap.size w v1) := BB.out.trans (hb.mono BB.out.size)
  replace HN : Hid (Num v1 A r.ne r.E) := Els.below HN.out hb
  replace S1 : Hid (BxF v1 sb 28 4 (fun i => if i = 0 then .slice p.a s.n p.ca else if i = 1 then .int .i64 s.t else if i = 2 then .slice p.b s.m p.cb else .slice p.d s.l p.cd)) := S1.out.below hb
  replace R1 : Hid (BxF v1 rb 90 5 (roV r (.slice A r.ne X))) := R1.out.below hb
  clear hb C0
  have r_ := R1.out
  have r0 : v1.cell? ⟨rb, 0, none⟩ = some (.slice A r.ne X) := R1.out.cell 0 (by omega)
  have r1 : v1.cell? ⟨rb, 1, none⟩ = some (.int .i64 r.bc) := R1.out.cell 1 (by omega)
  have r2 : v1.cell? ⟨rb, 2, none⟩ = some (.int .i64 r.bt) := R1.out.cell 2 (by omega)
  have r3 : v1.cell? ⟨rb, 3, none⟩ = some (.int .i64 r.bg) := R1.out.cell 3 (by omega)
  have r4 : v1.cell? ⟨rb, 4, none⟩ = some (.int .i64 r.en) := R1.out.cell 4 (by omega)
  have t0 : v1.cell? ⟨sb, 0, none⟩ = some (.slice p.a s.n p.ca) := S1.out.cell 0 (by omega)
  have t1 : v1.cell? ⟨sb, 1, none⟩ = some (.int .i64 s.t) := S1.out.cell 1 (by omega)
  have t2 : v1.cell? ⟨sb, 2, none⟩ = some (.slice p.b s.m p.cb) := S1.out.cell 2 (by omega)
  have t3 : v1.cell? ⟨sb, 3, none⟩ = some (.slice p.d s.l p.cd) := S1.out.cell 3 (by omega)
  clear r_
  go_wp2_with fail
  clear r0 r1 r2 r3 r4 t0 t1 t2 t3
  refine (C1.out _ HN.out).mono ?_
  rintro e v2 ⟨rfl, hb⟩
  replace BB : Hid (Below w.heap.size w v2) := BB.out.trans (hb.mono BB.out.size)
  replace HN : Hid (Num v2 A r.ne r.E) := Els.below HN.out hb
  replace S1 : Hid (BxF v2 sb 28 4 (fun i => if i = 0 then .slice p.a s.n p.ca else if i = 1 then .int .i64 s.t else if i = 2 then .slice p.b s.m p.cb else .slice p.d s.l p.cd)) := S1.out.below hb
  replace R1 : Hid (BxF v2 rb 90 5 (roV r (.slice A r.ne X))) := R1.out.below hb
  clear hb C1
  have r_ := R1.out
  have r0 : v2.cell? ⟨rb, 0, none⟩ = some (.slice A r.ne X) := R1.out.cell 0 (by omega)
  have r1 : v2.cell? ⟨rb, 1, none⟩ = some (.int .i64 r.bc) := R1.out.cell 1 (by omega)
  have r2 : v2.cell? ⟨rb, 2, none⟩ = some (.int .i64 r.bt) := R1.out.cell 2 (by omega)
  have r3 : v2.cell? ⟨rb, 3, none⟩ = some (.int .i64 r.bg) := R1.out.cell 3 (by omega)
  have r4 : v2.cell? ⟨rb, 4, none⟩ = some (.int .i64 r.en) := R1.out.cell 4 (by omega)
  have t0 : v2.cell? ⟨sb, 0, none⟩ = some (.slice p.a s.n p.ca) := S1.out.cell 0 (by omega)
  have t1 : v2.cell? ⟨sb, 1, none⟩ = some (.int .i64 s.t) := S1.out.cell 1 (by omega)
  have t2 : v2.cell? ⟨sb, 2, none⟩ = some (.slice p.b s.m p.cb) := S1.out.cell 2 (by omega)
  have t3 : v2.cell? ⟨sb, 3, none⟩ = some (.slice p.d s.l p.cd) := S1.out.cell 3 (by omega)
  clear r_
  go_wp2_with fail
  clear r0 r1 r2 r3 r4 t0 t1 t2 t3
  refine (C2.out _).mono ?_
  rintro e v3 ⟨rfl, hb⟩
  replace BB : Hid (Below w.heap.size w v3) := BB.out.trans (hb.mono BB.out.size)
  replace HN : Hid (Num v3 A r.ne r.E) := Els.below HN.out hb
  replace S1 : Hid (BxF v3 sb 28 4 (fun i => if i = 0 then .slice p.a s.n p.ca else if i = 1 then .int .i64 s.t else if i = 2 then .slice p.b s.m p.cb else .slice p.d s.l p.cd)) := S1.out.below hb
  replace R1 : Hid (BxF v3 rb 90 5 (roV r (.slice A r.ne X))) := R1.out.below hb
  clear hb C2
  clear HN S1 R1
  go_wp2
  go_ret
  exact ⟨rfl, BB.out⟩
set_option maxRecDepth 100000 in
set_option maxHeartbeats 2000000 in
theorem wri_v (s : Sv) (p : Sa) (i : Nat) (hi : i ≤ 1048576) (hsm : s.m ≤ 1048576) (r : Wo) (A : Option Addr) (X : Nat) (hm : r.ne ≤ 1048576) (z : Bool) (hz : z = sB (r.Ok s.n s.t s.m i)) (w : World) (h : Num w A r.ne r.E) :
    Calls Try.prog 60 #[.agg #[.slice p.a s.n p.ca, .int .i64 s.t, .slice p.b s.m p.cb, .slice p.d s.l p.cd], .int .i64 (i : Int), .agg #[.int .i64 r.mc, .int .i64 r.mt, .slice A r.ne X, .int .i64 r.bg, .int .i64 r.en]] w fun e w' => e = .returned (.bool z) ∧ Below w.heap.size w w' := by
  have s1 : (w.alloc (.cells #[.slice p.a s.n p.ca, .int .i64 s.t, .slice p.b s.m p.cb, .slice p.d s.l p.cd] 28)).heap.size = w.heap.size + 1 := by simp
  have BB : Hid (Below w.heap.size w ((w.alloc (.cells #[.slice p.a s.n p.ca, .int .i64 s.t, .slice p.b s.m p.cb, .slice p.d s.l p.cd] 28)).alloc (.cells #[.int .i64 r.mc, .int .i64 r.mt, .slice A r.ne X, .int .i64 r.bg, .int .i64 r.en] 37))) := ((Below.refl w.heap.size w).alloc (Nat.le_refl _) _).alloc (by rw [s1]; omega) _
  have S1 : Hid (BxF ((w.alloc (.cells #[.slice p.a s.n p.ca, .int .i64 s.t, .slice p.b s.m p.cb, .slice p.d s.l p.cd] 28)).alloc (.cells #[.int .i64 r.mc, .int .i64 r.mt, .slice A r.ne X, .int .i64 r.bg, .int .i64 r.en] 37)) w.heap.size 28 4 (fun i => if i = 0 then .slice p.a s.n p.ca else if i = 1 then .int .i64 s.t else if i = 2 then .slice p.b s.m p.cb else .slice p.d s.l p.cd)) := (BxF.sv _ _ _ _ _).alloc _
  have R1 : Hid (BxF ((w.alloc (.cells #[.slice p.a s.n p.ca, .int .i64 s.t, .slice p.b s.m p.cb, .slice p.d s.l p.cd] 28)).alloc (.cells #[.int .i64 r.mc, .int .i64 r.mt, .slice A r.ne X, .int .i64 r.bg, .int .i64 r.en] 37)) (w.heap.size + 1) 37 5 (woV r (.slice A r.ne X))) := by have := BxF.wo (w.alloc (.cells #[.slice p.a s.n p.ca, .int .i64 s.t, .slice p.b s.m p.cb, .slice p.d s.l p.cd] 28)) r (.slice A r.ne X); rwa [s1] at this
  have HN : Hid (Num ((w.alloc (.cells #[.slice p.a s.n p.ca, .int .i64 s.t, .slice p.b s.m p.cb, .slice p.d s.l p.cd] 28)).alloc (.cells #[.int .i64 r.mc, .int .i64 r.mt, .slice A r.ne X, .int .i64 r.bg, .int .i64 r.en] 37)) A r.ne r.E) := Els.below h BB.out
  clear h s1
  have wr : IntKind.i64.wrap ((s.m : Int) - 1) = (s.m : Int) - 1 := IntWalk.i64_in _ (by omega)
  by_cases p0 : r.en = -1 ∧ i + 1 < s.m
  · obtain rfl : z = false := hz.trans (sB_no (fun q => q.1 p0))
    obtain ⟨p1', p2⟩ := p0
    have p1 : (r.en == -1) = true := by rw [p1']; rfl
    have p3 : (i : Int) < (s.m : Int) - 1 := by omega
    clear hz HN S1 R1 p1'
    go_enter Try.func60, Try.ntmps60
    go_wp2
    go_ret
    exact ⟨rfl, BB.out⟩
  have pt : (r.en == -1) = false ∨ ((r.en == -1) = true ∧ ¬ (i : Int) < (s.m : Int) - 1) := by
    by_cases g : r.en = -1
    · exact .inr ⟨by rw [g]; rfl, fun y => p0 ⟨g, by omega⟩⟩
    · exact .inl (by simp; exact g)
  have PT : Hid _ := pt
  clear pt
  by_cases p1 : r.mc = (i : Int) + 1
  case neg =>
    obtain rfl : z = false := hz.trans (sB_no (fun q => p1 q.2.1))
    have e1 : (r.mc == (i : Int) + 1) = false := by simp; omega
    clear hz HN S1 R1 p0 p1
    rcases PT.out with pa | ⟨pa, pm⟩
    all_goals
      go_enter Try.func60, Try.ntmps60
      go_wp2
      go_ret
      exact ⟨rfl, BB.out⟩
  have e1 : (r.mc == (i : Int) + 1) = true := by simp; omega
  by_cases c0 : mkOk r.mc r.mt
  case neg =>
    obtain rfl : z = false := hz.trans (sB_no (fun q => c0 q.2.2.1))
    have C0 : Hid (∀ w : World, Calls Try.prog 90 #[.agg #[.int .i64 r.mc, .int .i64 r.mt]] w fun e w' => e = .returned (.bool false) ∧ Below w.heap.size w w') := fun w => markOK_v r.mc r.mt false ((sB_no c0).symm) w
    clear hz p1 c0
    rcases PT.out with pa | ⟨pa, pm⟩
    all_goals
     go_enter Try.func60, Try.ntmps60
     go_wp2_with fail
     generalize ((w.alloc (.cells #[.slice p.a s.n p.ca, .int .i64 s.t, .slice p.b s.m p.cb, .slice p.d s.l p.cd] 28)).alloc (.cells #[.int .i64 r.mc, .int .i64 r.mt, .slice A r.ne X, .int .i64 r.bg, .int .i64 r.en] 37)) = v0 at *
     obtain ⟨sb, hsb⟩ : ∃ x, x = w.heap.size := ⟨_, rfl⟩
     obtain ⟨rb, hrb⟩ : ∃ x, x = w.heap.size + 1 := ⟨_, rfl⟩
     rw [← hrb] at R1 ⊢
     rw [← hsb] at S1 ⊢
     clear hsb hrb
     refine (C0.out _).mono ?_
     rintro e v1 ⟨rfl, hb⟩
     replace BB : Hid (Below w.heap.size w v1) := BB.out.trans (hb.mono BB.out.size)
     replace HN : Hid (Num v1 A r.ne r.E) := Els.below HN.out hb
     replace S1 : Hid (BxF v1 sb 28 4 (fun i => if i = 0 then .slice p.a s.n p.ca else if i = 1 then .int .i64 s.t else if i = 2 then .slice p.b s.m p.cb else .slice p.d s.l p.cd)) := S1.out.below hb
     replace R1 : Hid (BxF v1 rb 37 5 (woV r (.slice A r.ne X))) := R1.out.below hb
     clear hb C0
     clear HN S1 R1
     go_wp2
     go_ret
     exact ⟨rfl, BB.out⟩
  by_cases c1 : idsOk s.n r.ne r.E
  case neg =>
    obtain rfl : z = false := hz.trans (sB_no (fun q => c1 q.2.2.2.1))
    have C0 : Hid (∀ w : World, Calls Try.prog 90 #[.agg #[.int .i64 r.mc, .int .i64 r.mt]] w fun e w' => e = .returned (.bool true) ∧ Below w.heap.size w w') := fun w => markOK_v r.mc r.mt true ((sB_yes c0).symm) w
    have C1 : Hid (∀ w : World, Num w A r.ne r.E → Calls Try.prog 91 #[.agg #[.slice p.a s.n p.ca, .int .i64 s.t, .slice p.b s.m p.cb, .slice p.d s.l p.cd], .slice A r.ne X] w fun e w' => e = .returned (.bool false) ∧ Below w.heap.size w w') := fun w h => ids_v s p A r.ne X r.E hm false ((sB_no c1).symm) w h
    clear hz p1 c0 c1
    rcases PT.out with pa | ⟨pa, pm⟩
    all_goals
     go_enter Try.func60, Try.ntmps60
     go_wp2_with fail
     generalize ((w.alloc (.cells #[.slice p.a s.n p.ca, .int .i64 s.t, .slice p.b s.m p.cb, .slice p.d s.l p.cd] 28)).alloc (.cells #[.int .i64 r.mc, .int .i64 r.mt, .slice A r.ne X, .int .i64 r.bg, .int .i64 r.en] 37)) = v0 at *
     obtain ⟨sb, hsb⟩ : ∃ x, x = w.heap.size := ⟨_, rfl⟩
     obtain ⟨rb, hrb⟩ : ∃ x, x = w.heap.size + 1 := ⟨_, rfl⟩
     rw [← hrb] at R1 ⊢
     rw [← hsb] at S1 ⊢
     clear hsb hrb
     refine (C0.out _).mono ?_
     rintro e v1 ⟨rfl, hb⟩
     replace BB : Hid (Below w.heap.size w v1) := BB.out.trans (hb.mono BB.out.size)
     replace HN : Hid (Num v1 A r.ne r.E) := Els.below HN.out hb
     replace S1 : Hid (BxF v1 sb 28 4 (fun i => if i = 0 then .slice p.a s.n p.ca else if i = 1 then .int .i64 s.t else if i = 2 then .slice p.b s.m p.cb else .slice p.d s.l p.cd)) := S1.out.below hb
     replace R1 : Hid (BxF v1 rb 37 5 (woV r (.slice A r.ne X))) := R1.out.below hb
     clear hb C0
     have r_ := R1.out
     have r0 : v1.cell? ⟨rb, 0, none⟩ = some (.int .i64 r.mc) := R1.out.cell 0 (by omega)
     have r1 : v1.cell? ⟨rb, 1, none⟩ = some (.int .i64 r.mt) := R1.out.cell 1 (by omega)
     have r2 : v1.cell? ⟨rb, 2, none⟩ = some (.slice A r.ne X) := R1.out.cell 2 (by omega)
     have r3 : v1.cell? ⟨rb, 3, none⟩ = some (.int .i64 r.bg) := R1.out.cell 3 (by omega)
     have r4 : v1.cell? ⟨rb, 4, none⟩ = some (.int .i64 r.en) := R1.out.cell 4 (by omega)
     have t0 : v1.cell? ⟨sb, 0, none⟩ = some (.slice p.a s.n p.ca) := S1.out.cell 0 (by omega)
     have t1 : v1.cell? ⟨sb, 1, none⟩ = some (.int .i64 s.t) := S1.out.cell 1 (by omega)
     have t2 : v1.cell? ⟨sb, 2, none⟩ = some (.slice p.b s.m p.cb) := S1.out.cell 2 (by omega)
     have t3 : v1.cell? ⟨sb, 3, none⟩ = some (.slice p.d s.l p.cd) := S1.out.cell 3 (by omega)
     clear r_
     go_wp2_with fail
     clear r0 r1 r2 r3 r4 t0 t1 t2 t3
     refine (C1.out _ HN.out).mono ?_
     rintro e v2 ⟨rfl, hb⟩
     replace BB : Hid (Below w.heap.size w v2) := BB.out.trans (hb.mono BB.out.size)
     replace HN : Hid (Num v2 A r.ne r.E) := Els.below HN.out hb
     replace S1 : Hid (BxF v2 sb 28 4 (fun i => if i = 0 then .slice p.a s.n p.ca else if i = 1 then .int .i64 s.t else if i = 2 then .slice p.b s.m p.cb else .slice p.d s.l p.cd)) := S1.out.below hb
     replace R1 : Hid (BxF v2 rb 37 5 (woV r (.slice A r.ne X))) := R1.out.below hb
     clear hb C1
     clear HN S1 R1
     go_wp2
     go_ret
     exact ⟨rfl, BB.out⟩
  by_cases c2 : tmOk s.t r.bg r.en
  case neg =>
    obtain rfl : z = false := hz.trans (sB_no (fun q => c2 q.2.2.2.2))
    have C0 : Hid (∀ w : World, Calls Try.prog 90 #[.agg #[.int .i64 r.mc, .int .i64 r.mt]] w fun e w' => e = .returned (.bool true) ∧ Below w.heap.size w w') := fun w => markOK_v r.mc r.mt true ((sB_yes c0).symm) w
    have C1 : Hid (∀ w : World, Num w A r.ne r.E → Calls Try.prog 91 #[.agg #[.slice p.a s.n p.ca, .int .i64 s.t, .slice p.b s.m p.cb, .slice p.d s.l p.cd], .slice A r.ne X] w fun e w' => e = .returned (.bool true) ∧ Below w.heap.size w w') := fun w h => ids_v s p A r.ne X r.E hm true ((sB_yes c1).symm) w h
    have C2 : Hid (∀ w : World, Calls Try.prog 92 #[.agg #[.slice p.a s.n p.ca, .int .i64 s.t, .slice p.b s.m p.cb, .slice p.d s.l p.cd], .int .i64 r.bg, .int .i64 r.en] w fun e w' => e = .returned (.bool false) ∧ Below w.heap.size w w') := fun w => times_v s p r.bg r.en false ((sB_no c2).symm) w
    clear hz p1 c0 c1 c2
    rcases PT.out with pa | ⟨pa, pm⟩
    all_goals
     go_enter Try.func60, Try.ntmps60
     go_wp2_with fail
     generalize ((w.alloc (.cells #[.slice p.a s.n p.ca, .int .i64 s.t, .slice p.b s.m p.cb, .slice p.d s.l p.cd] 28)).alloc (.cells #[.int .i64 r.mc, .int .i64 r.mt, .slice A r.ne X, .int .i64 r.bg, .int .i64 r.en] 37)) = v0 at *
     obtain ⟨sb, hsb⟩ : ∃ x, x = w.heap.size := ⟨_, rfl⟩
     obtain ⟨rb, hrb⟩ : ∃ x, x = w.heap.size + 1 := ⟨_, rfl⟩
     rw [← hrb] at R1 ⊢
     rw [← hsb] at S1 ⊢
     clear hsb hrb
     refine (C0.out _).mono ?_
     rintro e v1 ⟨rfl, hb⟩
     replace BB : Hid (Below w.heap.size w v1) := BB.out.trans (hb.mono BB.out.size)
     replace HN : Hid (Num v1 A r.ne r.E) := Els.below HN.out hb
     replace S1 : Hid (BxF v1 sb 28 4 (fun i => if i = 0 then .slice p.a s.n p.ca else if i = 1 then .int .i64 s.t else if i = 2 then .slice p.b s.m p.cb else .slice p.d s.l p.cd)) := S1.out.below hb
     replace R1 : Hid (BxF v1 rb 37 5 (woV r (.slice A r.ne X))) := R1.out.below hb
     clear hb C0
     have r_ := R1.out
     have r0 : v1.cell? ⟨rb, 0, none⟩ = some (.int .i64 r.mc) := R1.out.cell 0 (by omega)
     have r1 : v1.cell? ⟨rb, 1, none⟩ = some (.int .i64 r.mt) := R1.out.cell 1 (by omega)
     have r2 : v1.cell? ⟨rb, 2, none⟩ = some (.slice A r.ne X) := R1.out.cell 2 (by omega)
     have r3 : v1.cell? ⟨rb, 3, none⟩ = some (.int .i64 r.bg) := R1.out.cell 3 (by omega)
     have r4 : v1.cell? ⟨rb, 4, none⟩ = some (.int .i64 r.en) := R1.out.cell 4 (by omega)
     have t0 : v1.cell? ⟨sb, 0, none⟩ = some (.slice p.a s.n p.ca) := S1.out.cell 0 (by omega)
     have t1 : v1.cell? ⟨sb, 1, none⟩ = some (.int .i64 s.t) := S1.out.cell 1 (by omega)
     have t2 : v1.cell? ⟨sb, 2, none⟩ = some (.slice p.b s.m p.cb) := S1.out.cell 2 (by omega)
     have t3 : v1.cell? ⟨sb, 3, none⟩ = some (.slice p.d s.l p.cd) := S1.out.cell 3 (by omega)
     clear r_
     go_wp2_with fail
     clear r0 r1 r2 r3 r4 t0 t1 t2 t3
     refine (C1.out _ HN.out).mono ?_
     rintro e v2 ⟨rfl, hb⟩
     replace BB : Hid (Below w.heap.size w v2) := BB.out.trans (hb.mono BB.out.size)
     replace HN : Hid (Num v2 A r.ne r.E) := Els.below HN.out hb
     replace S1 : Hid (BxF v2 sb 28 4 (fun i => if i = 0 then .slice p.a s.n p.ca else if i = 1 then .int .i64 s.t else if i = 2 then .slice p.b s.m p.cb else .slice p.d s.l p.cd)) := S1.out.below hb
     replace R1 : Hid (BxF v2 rb 37 5 (woV r (.slice A r.ne X))) := R1.out.below hb
     clear hb C1
     have r_ := R1.out
     have r0 : v2.cell? ⟨rb, 0, none⟩ = some (.int .i64 r.mc) := R1.out.cell 0 (by omega)
     have r1 : v2.cell? ⟨rb, 1, none⟩ = some (.int .i64 r.mt) := R1.out.cell 1 (by omega)
     have r2 : v2.cell? ⟨rb, 2, none⟩ = some (.slice A r.ne X) := R1.out.cell 2 (by omega)
     have r3 : v2.cell? ⟨rb, 3, none⟩ = some (.int .i64 r.bg) := R1.out.cell 3 (by omega)
     have r4 : v2.cell? ⟨rb, 4, none⟩ = some (.int .i64 r.en) := R1.out.cell 4 (by omega)
     have t0 : v2.cell? ⟨sb, 0, none⟩ = some (.slice p.a s.n p.ca) := S1.out.cell 0 (by omega)
     have t1 : v2.cell? ⟨sb, 1, none⟩ = some (.int .i64 s.t) := S1.out.cell 1 (by omega)
     have t2 : v2.cell? ⟨sb, 2, none⟩ = some (.slice p.b s.m p.cb) := S1.out.cell 2 (by omega)
     have t3 : v2.cell? ⟨sb, 3, none⟩ = some (.slice p.d s.l p.cd) := S1.out.cell 3 (by omega)
     clear r_
     go_wp2_with fail
     clear r0 r1 r2 r3 r4 t0 t1 t2 t3
     refine (C2.out _).mono ?_
     rintro e v3 ⟨rfl, hb⟩
     replace BB : Hid (Below w.heap.size w v3) := BB.out.trans (hb.mono BB.out.size)
     replace HN : Hid (Num v3 A r.ne r.E) := Els.below HN.out hb
     replace S1 : Hid (BxF v3 sb 28 4 (fun i => if i = 0 then .slice p.a s.n p.ca else if i = 1 then .int .i64 s.t else if i = 2 then .slice p.b s.m p.cb else .slice p.d s.l p.cd)) := S1.out.below hb
     replace R1 : Hid (BxF v3 rb 37 5 (woV r (.slice A r.ne X))) := R1.out.below hb
     clear hb C2
     clear HN S1 R1
     go_wp2
     go_ret
     exact ⟨rfl, BB.out⟩
  obtain rfl : z = true := hz.trans (sB_yes ⟨p0, p1, c0, c1, c2⟩)
  have C0 : Hid (∀ w : World, Calls Try.prog 90 #[.agg #[.int .i64 r.mc, .int .i64 r.mt]] w fun e w' => e = .returned (.bool true) ∧ Below w.heap.size w w') := fun w => markOK_v r.mc r.mt true ((sB_yes c0).symm) w
  have C1 : Hid (∀ w : World, Num w A r.ne r.E → Calls Try.prog 91 #[.agg #[.slice p.a s.n p.ca, .int .i64 s.t, .slice p.b s.m p.cb, .slice p.d s.l p.cd], .slice A r.ne X] w fun e w' => e = .returned (.bool true) ∧ Below w.heap.size w w') := fun w h => ids_v s p A r.ne X r.E hm true ((sB_yes c1).symm) w h
  have C2 : Hid (∀ w : World, Calls Try.prog 92 #[.agg #[.slice p.a s.n p.ca, .int .i64 s.t, .slice p.b s.m p.cb, .slice p.d s.l p.cd], .int .i64 r.bg, .int .i64 r.en] w fun e w' => e = .returned (.bool true) ∧ Below w.heap.size w w') := fun w => times_v s p r.bg r.en true ((sB_yes c2).symm) w
  clear hz p1 c0 c1 c2
  rcases PT.out with pa | ⟨pa, pm⟩
  all_goals
   go_enter Try.func60, Try.ntmps60
   go_wp2_with fail
   generalize ((w.alloc (.cells #[.slice p.a s.n p.ca, .int .i64 s.t, .slice p.b s.m p.cb, .slice p.d s.l p.cd] 28)).alloc (.cells #[.int .i64 r.mc, .int .i64 r.mt, .slice A r.ne X, .int .i64 r.bg, .int .i64 r.en] 37)) = v0 at *
   obtain ⟨sb, hsb⟩ : ∃ x, x = w.heap.size := ⟨_, rfl⟩
   obtain ⟨rb, hrb⟩ : ∃ x, x = w.heap.size + 1 := ⟨_, rfl⟩
   rw [← hrb] at R1 ⊢
   rw [← hsb] at S1 ⊢
   clear hsb hrb
   refine (C0.out _).mono ?_
   rintro e v1 ⟨rfl, hb⟩
   replace BB : Hid (Below w.heap.size w v1) := BB.out.trans (hb.mono BB.out.size)
   replace HN : Hid (Num v1 A r.ne r.E) := Els.below HN.out hb
   replace S1 : Hid (BxF v1 sb 28 4 (fun i => if i = 0 then .slice p.a s.n p.ca else if i = 1 then .int .i64 s.t else if i = 2 then .slice p.b s.m p.cb else .slice p.d s.l p.cd)) := S1.out.below hb
   replace R1 : Hid (BxF v1 rb 37 5 (woV r (.slice A r.ne X))) := R1.out.below hb
   clear hb C0
   have r_ := R1.out
   have r0 : v1.cell? ⟨rb, 0, none⟩ = some (.int .i64 r.mc) := R1.out.cell 0 (by omega)
   have r1 : v1.cell? ⟨rb, 1, none⟩ = some (.int .i64 r.mt) := R1.out.cell 1 (by omega)
   have r2 : v1.cell? ⟨rb, 2, none⟩ = some (.slice A r.ne X) := R1.out.cell 2 (by omega)
   have r3 : v1.cell? ⟨rb, 3, none⟩ = some (.int .i64 r.bg) := R1.out.cell 3 (by omega)
   have r4 : v1.cell? ⟨rb, 4, none⟩ = some (.int .i64 r.en) := R1.out.cell 4 (by omega)
   have t0 : v1.cell? ⟨sb, 0, none⟩ = some (.slice p.a s.n p.ca) := S1.out.cell 0 (by omega)
   have t1 : v1.cell? ⟨sb, 1, none⟩ = some (.int .i64 s.t) := S1.out.cell 1 (by omega)
   have t2 : v1.cell? ⟨sb, 2, none⟩ = some (.slice p.b s.m p.cb) := S1.out.cell 2 (by omega)
   have t3 : v1.cell? ⟨sb, 3, none⟩ = some (.slice p.d s.l p.cd) := S1.out.cell 3 (by omega)
   clear r_
   go_wp2_with fail
   clear r0 r1 r2 r3 r4 t0 t1 t2 t3
   refine (C1.out _ HN.out).mono ?_
   rintro e v2 ⟨rfl, hb⟩
   replace BB : Hid (Below w.heap.size w v2) := BB.out.trans (hb.mono BB.out.size)
   replace HN : Hid (Num v2 A r.ne r.E) := Els.below HN.out hb
   replace S1 : Hid (BxF v2 sb 28 4 (fun i => if i = 0 then .slice p.a s.n p.ca else if i = 1 then .int .i64 s.t else if i = 2 then .slice p.b s.m p.cb else .slice p.d s.l p.cd)) := S1.out.below hb
   replace R1 : Hid (BxF v2 rb 37 5 (woV r (.slice A r.ne X))) := R1.out.below hb
   clear hb C1
   have r_ := R1.out
   have r0 : v2.cell? ⟨rb, 0, none⟩ = some (.int .i64 r.mc) := R1.out.cell 0 (by omega)
   have r1 : v2.cell? ⟨rb, 1, none⟩ = some (.int .i64 r.mt) := R1.out.cell 1 (by omega)
   have r2 : v2.cell? ⟨rb, 2, none⟩ = some (.slice A r.ne X) := R1.out.cell 2 (by omega)
   have r3 : v2.cell? ⟨rb, 3, none⟩ = some (.int .i64 r.bg) := R1.out.cell 3 (by omega)
   have r4 : v2.cell? ⟨rb, 4, none⟩ = some (.int .i64 r.en) := R1.out.cell 4 (by omega)
   have t0 : v2.cell? ⟨sb, 0, none⟩ = some (.slice p.a s.n p.ca) := S1.out.cell 0 (by omega)
   have t1 : v2.cell? ⟨sb, 1, none⟩ = some (.int .i64 s.t) := S1.out.cell 1 (by omega)
   have t2 : v2.cell? ⟨sb, 2, none⟩ = some (.slice p.b s.m p.cb) := S1.out.cell 2 (by omega)
   have t3 : v2.cell? ⟨sb, 3, none⟩ = some (.slice p.d s.l p.cd) := S1.out.cell 3 (by omega)
   clear r_
   go_wp2_with fail
   clear r0 r1 r2 r3 r4 t0 t1 t2 t3
   refine (C2.out _).mono ?_
   rintro e v3 ⟨rfl, hb⟩
   replace BB : Hid (Below w.heap.size w v3) := BB.out.trans (hb.mono BB.out.size)
   replace HN : Hid (Num v3 A r.ne r.E) := Els.below HN.out hb
   replace S1 : Hid (BxF v3 sb 28 4 (fun i => if i = 0 then .slice p.a s.n p.ca else if i = 1 then .int .i64 s.t else if i = 2 then .slice p.b s.m p.cb else .slice p.d s.l p.cd)) := S1.out.below hb
   replace R1 : Hid (BxF v3 rb 37 5 (woV r (.slice A r.ne X))) := R1.out.below hb
   clear hb C2
   clear HN S1 R1
   go_wp2
   go_ret
   exact ⟨rfl, BB.out⟩
end Go.Proofs.Ytedncfcmhaaobaa
