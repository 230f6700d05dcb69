/-
  Texts of the proof, joined: SvcY.
-/
import Derived.Test.YtedncfcmhaaobaaZ50
namespace Go.Proofs.Ytedncfcmhaaobaa
open Go.ChangeShapes Go.WideShapes Go.ChangeAt Go.RowKit
set_option linter.unusedVariables false
set_option maxRecDepth 100000 in
set_option maxHeartbeats 8000000 in
theorem specSvOK_v (s : Sv) (p : Sa) (hx : s.max 1048576) (z : Bool) (hz : z = sB s.Ok) (w : World) (h : SvV w s p) :
  Calls Try.prog 31 #[.agg #[.slice p.a s.n p.ca, .int .i64 s.t, .slice p.b s.m p.cb, .slice p.d s.l p.cd]] w fun e w' => e = .returned (.bool z) ∧ Below w.heap.size w w' := by
 obtain ⟨pa, pb, pd, PA, PB, PD, PX, PY, PZ, ca, cb, cd⟩ := p
 dsimp only
 have BB : Hid (Below w.heap.size w (w.alloc (.cells #[.slice pa s.n ca, .int .i64 s.t, .slice pb s.m cb, .slice pd s.l cd] 28))) := (Below.refl w.heap.size w).alloc (Nat.le_refl _) _
 have S1 : Hid (BxF (w.alloc (.cells #[.slice pa s.n ca, .int .i64 s.t, .slice pb s.m cb, .slice pd s.l cd] 28)) w.heap.size 28 4 (fun i => if i = 0 then .slice pa s.n ca else if i = 1 then .int .i64 s.t else if i = 2 then .slice pb s.m cb else .slice pd s.l cd)) := BxF.sv _ _ _ _ _
 have HV : Hid (SvV (w.alloc (.cells #[.slice pa s.n ca, .int .i64 s.t, .slice pb s.m cb, .slice pd s.l cd] 28)) s ⟨pa, pb, pd, PA, PB, PD, PX, PY, PZ, ca, cb, cd⟩) := h.below BB.out
 have HZ : Hid (z = sB s.Ok) := hz
 have HX : Hid (s.max 1048576) := hx
 have hsm : s.m ≤ 1048576 := hx.2.1.1
 have hnn : s.n ≤ 1048576 := hx.1.1
 have hsl : s.l ≤ 1048576 := hx.2.2.1
 clear h hz hx
 go_enter Try.func31, Try.ntmps31
 go_wp2_with fail
 generalize (w.alloc (.cells #[.slice pa s.n ca, .int .i64 s.t, .slice pb s.m cb, .slice pd s.l cd] 28)) = v0 at *
 obtain ⟨sb, hsb⟩ : ∃ x, x = w.heap.size := ⟨_, rfl⟩
 rw [← hsb] at S1 ⊢
 clear hsb
 have C0 : Hid (∀ w : World, Calls Try.prog 71 #[.int .i64 (s.n : Int), .int .i64 1, .int .i64 7] w fun e w' => e = .returned (.bool (sB (1 ≤ (s.n : Int) ∧ (s.n : Int) ≤ 7))) ∧ Below w.heap.size w w') := fun w => in_v (s.n : Int) 1 7 (sB (1 ≤ (s.n : Int) ∧ (s.n : Int) ≤ 7)) (rfl) w
 refine (C0.out _).mono ?_
 rintro e v1 ⟨rfl, hb⟩
 replace BB : Hid (Below w.heap.size w v1) := BB.out.trans (hb.mono BB.out.size)
 replace S1 : Hid (BxF v1 sb 28 4 (fun i => if i = 0 then .slice pa s.n ca else if i = 1 then .int .i64 s.t else if i = 2 then .slice pb s.m cb else .slice pd s.l cd)) := S1.out.below hb
 replace HV : Hid (SvV v1 s ⟨pa, pb, pd, PA, PB, PD, PX, PY, PZ, ca, cb, cd⟩) := HV.out.below hb
 clear hb C0
 by_cases c0 : 1 ≤ (s.n : Int) ∧ (s.n : Int) ≤ 7
 case neg =>
  replace HZ : Hid (z = false) := HZ.out.trans (sB_no (fun y => c0 (by have := y.1.1; omega)))
  rw [sB_no c0]
  go_wp2
  go_ret
  exact ⟨by rw [HZ.out]; rfl, BB.out⟩
 rw [sB_yes c0]
 have t0 : v1.cell? ⟨sb, 0, none⟩ = some (.slice pa s.n ca) := S1.out.cell 0 (by omega)
 have t1 : v1.cell? ⟨sb, 1, none⟩ = some (.int .i64 s.t) := S1.out.cell 1 (by omega)
 have t2 : v1.cell? ⟨sb, 2, none⟩ = some (.slice pb s.m cb) := S1.out.cell 2 (by omega)
 have t3 : v1.cell? ⟨sb, 3, none⟩ = some (.slice pd s.l cd) := S1.out.cell 3 (by omega)
 go_wp2_with fail
 clear t0 t1 t2 t3
 have C1 : Hid (∀ w : World, Calls Try.prog 71 #[.int .i64 s.t, .int .i64 0, .int .i64 200] w fun e w' => e = .returned (.bool (sB (0 ≤ s.t ∧ s.t ≤ 200))) ∧ Below w.heap.size w w') := fun w => in_v s.t 0 200 (sB (0 ≤ s.t ∧ s.t ≤ 200)) (rfl) w
 refine (C1.out _).mono ?_
 rintro e v2 ⟨rfl, hb⟩
 replace BB : Hid (Below w.heap.size w v2) := BB.out.trans (hb.mono BB.out.size)
 replace S1 : Hid (BxF v2 sb 28 4 (fun i => if i = 0 then .slice pa s.n ca else if i = 1 then .int .i64 s.t else if i = 2 then .slice pb s.m cb else .slice pd s.l cd)) := S1.out.below hb
 replace HV : Hid (SvV v2 s ⟨pa, pb, pd, PA, PB, PD, PX, PY, PZ, ca, cb, cd⟩) := HV.out.below hb
 clear hb C1
 by_cases c1 : 0 ≤ s.t ∧ s.t ≤ 200
 case neg =>
  replace HZ : Hid (z = false) := HZ.out.trans (sB_no (fun y => c1 y.1.2.1))
  rw [sB_no c1]
  go_wp2
  go_ret
  exact ⟨by rw [HZ.out]; rfl, BB.out⟩
 rw [sB_yes c1]
 have t0 : v2.cell? ⟨sb, 0, none⟩ = some (.slice pa s.n ca) := S1.out.cell 0 (by omega)
 have t1 : v2.cell? ⟨sb, 1, none⟩ = some (.int .i64 s.t) := S1.out.cell 1 (by omega)
 have t2 : v2.cell? ⟨sb, 2, none⟩ = some (.slice pb s.m cb) := S1.out.cell 2 (by omega)
 have t3 : v2.cell? ⟨sb, 3, none⟩ = some (.slice pd s.l cd) := S1.out.cell 3 (by omega)
 by_cases d0 : s.m ≤ 200
 case neg =>
  replace HZ : Hid (z = false) := HZ.out.trans (sB_no (fun y => d0 y.1.2.2.1))
  have e0 : (200 : Int) < (s.m : Int) := by omega
  go_wp2
  go_ret
  exact ⟨by rw [HZ.out]; rfl, BB.out⟩
 have e0 : ¬ (200 : Int) < (s.m : Int) := by omega
 by_cases d1 : s.l ≤ 200
 case neg =>
  replace HZ : Hid (z = false) := HZ.out.trans (sB_no (fun y => d1 y.1.2.2.2))
  have e1 : (200 : Int) < (s.l : Int) := by omega
  go_wp2
  go_ret
  exact ⟨by rw [HZ.out]; rfl, BB.out⟩
 have e1 : ¬ (200 : Int) < (s.l : Int) := by omega
 have C9 : Hid ((1 ≤ s.n ∧ s.n ≤ 7) ∧ inS s.t ∧ s.m ≤ 200 ∧ s.l ≤ 200) := ⟨by omega, c1, d0, d1⟩
 clear c0 c1
 go_wp2
 clear t0 t1 t2 t3
 generalize v2 = v at *
 go_loopw [4] (fun i wr => ∃ q : Nat, q ≤ s.n ∧ i = .int .i64 q ∧ (∀ j, j < q → (s.R j).Ok s.n) ∧ Below v.heap.size v wr) (fun i _ => s.n - (intOf i).toNat)
 case atStart => exact ⟨0, by omega, rfl, fun j hj => absurd hj (by omega), Below.refl _ _⟩
 case round =>
  obtain ⟨q, hq, rfl, hok, hb⟩ := hrel
  have HK : Hid (∀ j, j < q → (s.R j).Ok s.n) := hok
  have HB : Hid (Below v.heap.size v wr) := hb
  replace BB : Hid (Below w.heap.size w wr) := BB.out.trans (hb.mono BB.out.size)
  replace S1 : Hid (BxF wr sb 28 4 (fun i => if i = 0 then .slice pa s.n ca else if i = 1 then .int .i64 s.t else if i = 2 then .slice pb s.m cb else .slice pd s.l cd)) := S1.out.below hb
  replace HV : Hid (SvV wr s ⟨pa, pb, pd, PA, PB, PD, PX, PY, PZ, ca, cb, cd⟩) := HV.out.below hb
  clear hok hb
  by_cases hlt : q < s.n
  ·have hlt' : (q : Int) < (s.n : Int) := by omega
   have hne : (s.R q).ne ≤ 1048576 := HX.out.1.2 q hlt
   have hn0 := HV.out.1.2 q hlt
   obtain ⟨b, off, rfl, hc⟩ := HV.out.1.at hlt
   have HN : Hid (Num wr (PA q) (s.R q).ne (s.R q).E) := hn0
   clear hn0
   generalize hR : s.R q = r at *
   generalize hA : PA q = A at *
   generalize hX : PX q = X at *
   have HR : Hid (s.R q = r) := hR
   clear hR
   have c_0 : wr.cell? ⟨b, off + q * 8, none⟩ = some (.bool r.mute) := by have := hc 0 (by omega); simpa [rpF, woF, roF, rpV, woV, roV, hA, hX] using this
   have c_1 : wr.cell? ⟨b, off + q * 8 + 1, none⟩ = some (.int .i64 r.nc) := by have := hc 1 (by omega); simpa [rpF, woF, roF, rpV, woV, roV, hA, hX] using this
   have c_2 : wr.cell? ⟨b, off + q * 8 + 2, none⟩ = some (.int .i64 r.nt) := by have := hc 2 (by omega); simpa [rpF, woF, roF, rpV, woV, roV, hA, hX] using this
   have c_3 : wr.cell? ⟨b, off + q * 8 + 3, none⟩ = some (.int .i64 r.sc) := by have := hc 3 (by omega); simpa [rpF, woF, roF, rpV, woV, roV, hA, hX] using this
   have c_4 : wr.cell? ⟨b, off + q * 8 + 4, none⟩ = some (.int .i64 r.st) := by have := hc 4 (by omega); simpa [rpF, woF, roF, rpV, woV, roV, hA, hX] using this
   have c_5 : wr.cell? ⟨b, off + q * 8 + 5, none⟩ = some (.slice A r.ne X) := by have := hc 5 (by omega); simpa [rpF, woF, roF, rpV, woV, roV, hA, hX] using this
   have c_6 : wr.cell? ⟨b, off + q * 8 + 6, none⟩ = some (.int .i64 r.bc) := by have := hc 6 (by omega); simpa [rpF, woF, roF, rpV, woV, roV, hA, hX] using this
   have c_7 : wr.cell? ⟨b, off + q * 8 + 7, none⟩ = some (.int .i64 r.bt) := by have := hc 7 (by omega); simpa [rpF, woF, roF, rpV, woV, roV, hA, hX] using this
   clear hA hX hc
   have WB : Below wr.heap.size wr (wr.alloc (.cells #[.bool r.mute, .int .i64 r.nc, .int .i64 r.nt, .int .i64 r.sc, .int .i64 r.st, .slice A r.ne X, .int .i64 r.bc, .int .i64 r.bt] 43)) := (Below.refl _ _).alloc (Nat.le_refl _) _
   replace HN : Hid (Num (wr.alloc (.cells #[.bool r.mute, .int .i64 r.nc, .int .i64 r.nt, .int .i64 r.sc, .int .i64 r.st, .slice A r.ne X, .int .i64 r.bc, .int .i64 r.bt] 43)) A r.ne r.E) := Els.below HN.out WB
   have B2 : Hid (Below w.heap.size w (wr.alloc (.cells #[.bool r.mute, .int .i64 r.nc, .int .i64 r.nt, .int .i64 r.sc, .int .i64 r.st, .slice A r.ne X, .int .i64 r.bc, .int .i64 r.bt] 43))) := BB.out.trans (WB.mono BB.out.size)
   have HB2 : Hid (Below v.heap.size v (wr.alloc (.cells #[.bool r.mute, .int .i64 r.nc, .int .i64 r.nt, .int .i64 r.sc, .int .i64 r.st, .slice A r.ne X, .int .i64 r.bc, .int .i64 r.bt] 43))) := HB.out.trans (WB.mono HB.out.size)
   have R2 : Hid (BxF (wr.alloc (.cells #[.bool r.mute, .int .i64 r.nc, .int .i64 r.nt, .int .i64 r.sc, .int .i64 r.st, .slice A r.ne X, .int .i64 r.bc, .int .i64 r.bt] 43)) wr.heap.size 43 8 (rpV r (.slice A r.ne X))) := BxF.rp wr r (.slice A r.ne X)
   have S2 : Hid (BxF (wr.alloc (.cells #[.bool r.mute, .int .i64 r.nc, .int .i64 r.nt, .int .i64 r.sc, .int .i64 r.st, .slice A r.ne X, .int .i64 r.bc, .int .i64 r.bt] 43)) sb 28 4 (fun i => if i = 0 then .slice (some ⟨b, off, none⟩) s.n ca else if i = 1 then .int .i64 s.t else if i = 2 then .slice pb s.m cb else .slice pd s.l cd)) := S1.out.below WB
   have t0 : wr.cell? ⟨sb, 0, none⟩ = some (.slice (some ⟨b, off, none⟩) s.n ca) := S1.out.cell 0 (by omega)
   have t1 : wr.cell? ⟨sb, 1, none⟩ = some (.int .i64 s.t) := S1.out.cell 1 (by omega)
   have t2 : wr.cell? ⟨sb, 2, none⟩ = some (.slice pb s.m cb) := S1.out.cell 2 (by omega)
   have t3 : wr.cell? ⟨sb, 3, none⟩ = some (.slice pd s.l cd) := S1.out.cell 3 (by omega)
   have NO : Hid (¬ r.Ok s.n → z = false) := fun y => HZ.out.trans (sB_no (fun g => y (by have := g.2.2.1 q hlt; rwa [HR.out] at this)))
   have YE : Hid (r.Ok s.n → ∀ j, j < q + 1 → (s.R j).Ok s.n) := fun y j hj => by
    rcases Nat.lt_or_ge j q with g | g
    ·exact HK.out j g
    ·obtain rfl : j = q := by omega
     rw [HR.out]; exact y
   clear WB HR HK HB BB S1 HV HZ
   go_wp2_with fail
   clear t0 t1 t2 t3 c_0 c_1 c_2 c_3 c_4 c_5 c_6 c_7
   generalize (wr.alloc (.cells #[.bool r.mute, .int .i64 r.nc, .int .i64 r.nt, .int .i64 r.sc, .int .i64 r.st, .slice A r.ne X, .int .i64 r.bc, .int .i64 r.bt] 43)) = u0 at *
   obtain ⟨rb, hrb⟩ : ∃ x, x = wr.heap.size := ⟨_, rfl⟩
   rw [← hrb] at R2 ⊢
   clear hrb
   have C0 : Hid (∀ w : World, Calls Try.prog 72 #[.agg #[.int .i64 r.nc, .int .i64 r.nt]] w fun e w' => e = .returned (.bool (sB (mkOk r.nc r.nt))) ∧ Below w.heap.size w w') := fun w => l09Mark_v r.nc r.nt (sB (mkOk r.nc r.nt)) (rfl) w
   refine (C0.out _).mono ?_
   rintro e u1 ⟨rfl, hb⟩
   replace B2 : Hid (Below w.heap.size w u1) := B2.out.trans (hb.mono B2.out.size)
   replace HB2 : Hid (Below v.heap.size v u1) := HB2.out.trans (hb.mono HB2.out.size)
   replace HN : Hid (Num u1 A r.ne r.E) := Els.below HN.out hb
   replace R2 : Hid (BxF u1 rb 43 8 (rpV r (.slice A r.ne X))) := R2.out.below hb
   replace S2 : Hid (BxF u1 sb 28 4 (fun i => if i = 0 then .slice (some ⟨b, off, none⟩) s.n ca else if i = 1 then .int .i64 s.t else if i = 2 then .slice pb s.m cb else .slice pd s.l cd)) := S2.out.below hb
   clear hb C0
   by_cases c0 : mkOk r.nc r.nt
   case neg =>
    rw [sB_no c0]
    clear YE
    replace NO : Hid (z = false) := NO.out (fun y => c0 (y.2.2.1))
    clear c0
    clear HN R2 S2
    go_wp2
    go_ret
    exact ⟨by rw [NO.out]; rfl, B2.out⟩
   rw [sB_yes c0]
   have r0 : u1.cell? ⟨rb, 0, none⟩ = some (.bool r.mute) := R2.out.cell 0 (by omega)
   have r1 : u1.cell? ⟨rb, 1, none⟩ = some (.int .i64 r.nc) := R2.out.cell 1 (by omega)
   have r2 : u1.cell? ⟨rb, 2, none⟩ = some (.int .i64 r.nt) := R2.out.cell 2 (by omega)
   have r3 : u1.cell? ⟨rb, 3, none⟩ = some (.int .i64 r.sc) := R2.out.cell 3 (by omega)
   have r4 : u1.cell? ⟨rb, 4, none⟩ = some (.int .i64 r.st) := R2.out.cell 4 (by omega)
   have r5 : u1.cell? ⟨rb, 5, none⟩ = some (.slice A r.ne X) := R2.out.cell 5 (by omega)
   have r6 : u1.cell? ⟨rb, 6, none⟩ = some (.int .i64 r.bc) := R2.out.cell 6 (by omega)
   have r7 : u1.cell? ⟨rb, 7, none⟩ = some (.int .i64 r.bt) := R2.out.cell 7 (by omega)
   have t0 : u1.cell? ⟨sb, 0, none⟩ = some (.slice (some ⟨b, off, none⟩) s.n ca) := S2.out.cell 0 (by omega)
   have t1 : u1.cell? ⟨sb, 1, none⟩ = some (.int .i64 s.t) := S2.out.cell 1 (by omega)
   have t2 : u1.cell? ⟨sb, 2, none⟩ = some (.slice pb s.m cb) := S2.out.cell 2 (by omega)
   have t3 : u1.cell? ⟨sb, 3, none⟩ = some (.slice pd s.l cd) := S2.out.cell 3 (by omega)
   go_wp2_with fail
   clear t0 t1 t2 t3 r0 r1 r2 r3 r4 r5 r6 r7
   have C1 : Hid (∀ w : World, Calls Try.prog 72 #[.agg #[.int .i64 r.sc, .int .i64 r.st]] w fun e w' => e = .returned (.bool (sB (mkOk r.sc r.st))) ∧ Below w.heap.size w w') := fun w => l09Mark_v r.sc r.st (sB (mkOk r.sc r.st)) (rfl) w
   refine (C1.out _).mono ?_
   rintro e u2 ⟨rfl, hb⟩
   replace B2 : Hid (Below w.heap.size w u2) := B2.out.trans (hb.mono B2.out.size)
   replace HB2 : Hid (Below v.heap.size v u2) := HB2.out.trans (hb.mono HB2.out.size)
   replace HN : Hid (Num u2 A r.ne r.E) := Els.below HN.out hb
   replace R2 : Hid (BxF u2 rb 43 8 (rpV r (.slice A r.ne X))) := R2.out.below hb
   replace S2 : Hid (BxF u2 sb 28 4 (fun i => if i = 0 then .slice (some ⟨b, off, none⟩) s.n ca else if i = 1 then .int .i64 s.t else if i = 2 then .slice pb s.m cb else .slice pd s.l cd)) := S2.out.below hb
   clear hb C1
   by_cases c1 : mkOk r.sc r.st
   case neg =>
    rw [sB_no c1]
    clear YE
    replace NO : Hid (z = false) := NO.out (fun y => c1 (y.2.2.2.1))
    clear c0 c1
    clear HN R2 S2
    go_wp2
    go_ret
    exact ⟨by rw [NO.out]; rfl, B2.out⟩
   rw [sB_yes c1]
   have r0 : u2.cell? ⟨rb, 0, none⟩ = some (.bool r.mute) := R2.out.cell 0 (by omega)
   have r1 : u2.cell? ⟨rb, 1, none⟩ = some (.int .i64 r.nc) := R2.out.cell 1 (by omega)
   have r2 : u2.cell? ⟨rb, 2, none⟩ = some (.int .i64 r.nt) := R2.out.cell 2 (by omega)
   have r3 : u2.cell? ⟨rb, 3, none⟩ = some (.int .i64 r.sc) := R2.out.cell 3 (by omega)
   have r4 : u2.cell? ⟨rb, 4, none⟩ = some (.int .i64 r.st) := R2.out.cell 4 (by omega)
   have r5 : u2.cell? ⟨rb, 5, none⟩ = some (.slice A r.ne X) := R2.out.cell 5 (by omega)
   have r6 : u2.cell? ⟨rb, 6, none⟩ = some (.int .i64 r.bc) := R2.out.cell 6 (by omega)
   have r7 : u2.cell? ⟨rb, 7, none⟩ = some (.int .i64 r.bt) := R2.out.cell 7 (by omega)
   have t0 : u2.cell? ⟨sb, 0, none⟩ = some (.slice (some ⟨b, off, none⟩) s.n ca) := S2.out.cell 0 (by omega)
   have t1 : u2.cell? ⟨sb, 1, none⟩ = some (.int .i64 s.t) := S2.out.cell 1 (by omega)
   have t2 : u2.cell? ⟨sb, 2, none⟩ = some (.slice pb s.m cb) := S2.out.cell 2 (by omega)
   have t3 : u2.cell? ⟨sb, 3, none⟩ = some (.slice pd s.l cd) := S2.out.cell 3 (by omega)
   go_wp2_with fail
   clear t0 t1 t2 t3 r0 r1 r2 r3 r4 r5 r6 r7
   have C2 : Hid (∀ w : World, Calls Try.prog 72 #[.agg #[.int .i64 r.bc, .int .i64 r.bt]] w fun e w' => e = .returned (.bool (sB (mkOk r.bc r.bt))) ∧ Below w.heap.size w w') := fun w => l09Mark_v r.bc r.bt (sB (mkOk r.bc r.bt)) (rfl) w
   refine (C2.out _).mono ?_
   rintro e u3 ⟨rfl, hb⟩
   replace B2 : Hid (Below w.heap.size w u3) := B2.out.trans (hb.mono B2.out.size)
   replace HB2 : Hid (Below v.heap.size v u3) := HB2.out.trans (hb.mono HB2.out.size)
   replace HN : Hid (Num u3 A r.ne r.E) := Els.below HN.out hb
   replace R2 : Hid (BxF u3 rb 43 8 (rpV r (.slice A r.ne X))) := R2.out.below hb
   replace S2 : Hid (BxF u3 sb 28 4 (fun i => if i = 0 then .slice (some ⟨b, off, none⟩) s.n ca else if i = 1 then .int .i64 s.t else if i = 2 then .slice pb s.m cb else .slice pd s.l cd)) := S2.out.below hb
   clear hb C2
   by_cases c2 : mkOk r.bc r.bt
   case neg =>
    rw [sB_no c2]
    clear YE
    replace NO : Hid (z = false) := NO.out (fun y => c2 (y.2.2.2.2))
    clear c0 c1 c2
    clear HN R2 S2
    go_wp2
    go_ret
    exact ⟨by rw [NO.out]; rfl, B2.out⟩
   rw [sB_yes c2]
   have r0 : u3.cell? ⟨rb, 0, none⟩ = some (.bool r.mute) := R2.out.cell 0 (by omega)
   have r1 : u3.cell? ⟨rb, 1, none⟩ = some (.int .i64 r.nc) := R2.out.cell 1 (by omega)
   have r2 : u3.cell? ⟨rb, 2, none⟩ = some (.int .i64 r.nt) := R2.out.cell 2 (by omega)
   have r3 : u3.cell? ⟨rb, 3, none⟩ = some (.int .i64 r.sc) := R2.out.cell 3 (by omega)
   have r4 : u3.cell? ⟨rb, 4, none⟩ = some (.int .i64 r.st) := R2.out.cell 4 (by omega)
   have r5 : u3.cell? ⟨rb, 5, none⟩ = some (.slice A r.ne X) := R2.out.cell 5 (by omega)
   have r6 : u3.cell? ⟨rb, 6, none⟩ = some (.int .i64 r.bc) := R2.out.cell 6 (by omega)
   have r7 : u3.cell? ⟨rb, 7, none⟩ = some (.int .i64 r.bt) := R2.out.cell 7 (by omega)
   have t0 : u3.cell? ⟨sb, 0, none⟩ = some (.slice (some ⟨b, off, none⟩) s.n ca) := S2.out.cell 0 (by omega)
   have t1 : u3.cell? ⟨sb, 1, none⟩ = some (.int .i64 s.t) := S2.out.cell 1 (by omega)
   have t2 : u3.cell? ⟨sb, 2, none⟩ = some (.slice pb s.m cb) := S2.out.cell 2 (by omega)
   have t3 : u3.cell? ⟨sb, 3, none⟩ = some (.slice pd s.l cd) := S2.out.cell 3 (by omega)
   go_wp2_with fail
   clear t0 t1 t2 t3 r0 r1 r2 r3 r4 r5 r6 r7
   have C3 : Hid (∀ w : World, Num w A r.ne r.E → Calls Try.prog 73 #[.slice A r.ne X, .int .i64 (s.n : Int)] w fun e w' => e = .returned (.bool (sB (idsOk s.n r.ne r.E))) ∧ Below w.heap.size w w') := fun w h => l09Ids_v s.n hnn A r.ne X r.E hne (sB (idsOk s.n r.ne r.E)) (rfl) w h
   refine (C3.out _ HN.out).mono ?_
   rintro e u4 ⟨rfl, hb⟩
   replace B2 : Hid (Below w.heap.size w u4) := B2.out.trans (hb.mono B2.out.size)
   replace HB2 : Hid (Below v.heap.size v u4) := HB2.out.trans (hb.mono HB2.out.size)
   replace HN : Hid (Num u4 A r.ne r.E) := Els.below HN.out hb
   replace R2 : Hid (BxF u4 rb 43 8 (rpV r (.slice A r.ne X))) := R2.out.below hb
   replace S2 : Hid (BxF u4 sb 28 4 (fun i => if i = 0 then .slice (some ⟨b, off, none⟩) s.n ca else if i = 1 then .int .i64 s.t else if i = 2 then .slice pb s.m cb else .slice pd s.l cd)) := S2.out.below hb
   clear hb C3
   by_cases c3 : idsOk s.n r.ne r.E
   case neg =>
    rw [sB_no c3]
    clear YE
    replace NO : Hid (z = false) := NO.out (fun y => c3 (y.2.1))
    clear c0 c1 c2 c3
    clear HN R2 S2
    go_wp2
    go_ret
    exact ⟨by rw [NO.out]; rfl, B2.out⟩
   rw [sB_yes c3]
   by_cases p0 : 0 < r.ne ∧ r.mute = false
   ·have p1 : (0 : Int) < (r.ne : Int) := by omega
    have p2 : (!r.mute) = true := by rw [p0.2]; rfl
    clear YE
    replace NO : Hid (z = false) := NO.out (fun y => y.1 p0)
    clear p0 c0 c1 c2 c3
    have r0 : u4.cell? ⟨rb, 0, none⟩ = some (.bool r.mute) := R2.out.cell 0 (by omega)
    have r1 : u4.cell? ⟨rb, 1, none⟩ = some (.int .i64 r.nc) := R2.out.cell 1 (by omega)
    have r2 : u4.cell? ⟨rb, 2, none⟩ = some (.int .i64 r.nt) := R2.out.cell 2 (by omega)
    have r3 : u4.cell? ⟨rb, 3, none⟩ = some (.int .i64 r.sc) := R2.out.cell 3 (by omega)
    have r4 : u4.cell? ⟨rb, 4, none⟩ = some (.int .i64 r.st) := R2.out.cell 4 (by omega)
    have r5 : u4.cell? ⟨rb, 5, none⟩ = some (.slice A r.ne X) := R2.out.cell 5 (by omega)
    have r6 : u4.cell? ⟨rb, 6, none⟩ = some (.int .i64 r.bc) := R2.out.cell 6 (by omega)
    have r7 : u4.cell? ⟨rb, 7, none⟩ = some (.int .i64 r.bt) := R2.out.cell 7 (by omega)
    have t0 : u4.cell? ⟨sb, 0, none⟩ = some (.slice (some ⟨b, off, none⟩) s.n ca) := S2.out.cell 0 (by omega)
    have t1 : u4.cell? ⟨sb, 1, none⟩ = some (.int .i64 s.t) := S2.out.cell 1 (by omega)
    have t2 : u4.cell? ⟨sb, 2, none⟩ = some (.slice pb s.m cb) := S2.out.cell 2 (by omega)
    have t3 : u4.cell? ⟨sb, 3, none⟩ = some (.slice pd s.l cd) := S2.out.cell 3 (by omega)
    clear HN R2 S2
    go_wp2
    go_ret
    exact ⟨by rw [NO.out]; rfl, B2.out⟩
   cases hmu : r.mute
   ·have p1 : ¬ (0 : Int) < (r.ne : Int) := fun y => p0 ⟨by omega, hmu⟩
    have p2 : (!r.mute) = true := by rw [hmu]; rfl
    replace YE : Hid (∀ j, j < q + 1 → (s.R j).Ok s.n) := YE.out (⟨p0, c3, c0, c1, c2⟩)
    clear NO
    clear p0 hmu c0 c1 c2 c3
    have r0 : u4.cell? ⟨rb, 0, none⟩ = some (.bool r.mute) := R2.out.cell 0 (by omega)
    have r1 : u4.cell? ⟨rb, 1, none⟩ = some (.int .i64 r.nc) := R2.out.cell 1 (by omega)
    have r2 : u4.cell? ⟨rb, 2, none⟩ = some (.int .i64 r.nt) := R2.out.cell 2 (by omega)
    have r3 : u4.cell? ⟨rb, 3, none⟩ = some (.int .i64 r.sc) := R2.out.cell 3 (by omega)
    have r4 : u4.cell? ⟨rb, 4, none⟩ = some (.int .i64 r.st) := R2.out.cell 4 (by omega)
    have r5 : u4.cell? ⟨rb, 5, none⟩ = some (.slice A r.ne X) := R2.out.cell 5 (by omega)
    have r6 : u4.cell? ⟨rb, 6, none⟩ = some (.int .i64 r.bc) := R2.out.cell 6 (by omega)
    have r7 : u4.cell? ⟨rb, 7, none⟩ = some (.int .i64 r.bt) := R2.out.cell 7 (by omega)
    have t0 : u4.cell? ⟨sb, 0, none⟩ = some (.slice (some ⟨b, off, none⟩) s.n ca) := S2.out.cell 0 (by omega)
    have t1 : u4.cell? ⟨sb, 1, none⟩ = some (.int .i64 s.t) := S2.out.cell 1 (by omega)
    have t2 : u4.cell? ⟨sb, 2, none⟩ = some (.slice pb s.m cb) := S2.out.cell 2 (by omega)
    have t3 : u4.cell? ⟨sb, 3, none⟩ = some (.slice pd s.l cd) := S2.out.cell 3 (by omega)
    clear HN R2 S2
    go_wp2
    go_roundw
    case rel => exact ⟨q + 1, by omega, by go_num, YE.out, HB2.out⟩
    case measure => simp [intOf]; omega
   ·have p2 : (!r.mute) = false := by rw [hmu]; rfl
    replace YE : Hid (∀ j, j < q + 1 → (s.R j).Ok s.n) := YE.out (⟨p0, c3, c0, c1, c2⟩)
    clear NO
    clear p0 hmu c0 c1 c2 c3
    have r0 : u4.cell? ⟨rb, 0, none⟩ = some (.bool r.mute) := R2.out.cell 0 (by omega)
    have r1 : u4.cell? ⟨rb, 1, none⟩ = some (.int .i64 r.nc) := R2.out.cell 1 (by omega)
    have r2 : u4.cell? ⟨rb, 2, none⟩ = some (.int .i64 r.nt) := R2.out.cell 2 (by omega)
    have r3 : u4.cell? ⟨rb, 3, none⟩ = some (.int .i64 r.sc) := R2.out.cell 3 (by omega)
    have r4 : u4.cell? ⟨rb, 4, none⟩ = some (.int .i64 r.st) := R2.out.cell 4 (by omega)
    have r5 : u4.cell? ⟨rb, 5, none⟩ = some (.slice A r.ne X) := R2.out.cell 5 (by omega)
    have r6 : u4.cell? ⟨rb, 6, none⟩ = some (.int .i64 r.bc) := R2.out.cell 6 (by omega)
    have r7 : u4.cell? ⟨rb, 7, none⟩ = some (.int .i64 r.bt) := R2.out.cell 7 (by omega)
    have t0 : u4.cell? ⟨sb, 0, none⟩ = some (.slice (some ⟨b, off, none⟩) s.n ca) := S2.out.cell 0 (by omega)
    have t1 : u4.cell? ⟨sb, 1, none⟩ = some (.int .i64 s.t) := S2.out.cell 1 (by omega)
    have t2 : u4.cell? ⟨sb, 2, none⟩ = some (.slice pb s.m cb) := S2.out.cell 2 (by omega)
    have t3 : u4.cell? ⟨sb, 3, none⟩ = some (.slice pd s.l cd) := S2.out.cell 3 (by omega)
    clear HN R2 S2
    go_wp2
    go_roundw
    case rel => exact ⟨q + 1, by omega, by go_num, YE.out, HB2.out⟩
    case measure => simp [intOf]; omega
  ·have hlt' : ¬ (q : Int) < (s.n : Int) := by omega
   have AR : Hid (∀ j, j < s.n → (s.R j).Ok s.n) := fun j hj => HK.out j (by omega)
   have t0 : wr.cell? ⟨sb, 0, none⟩ = some (.slice pa s.n ca) := S1.out.cell 0 (by omega)
   have t1 : wr.cell? ⟨sb, 1, none⟩ = some (.int .i64 s.t) := S1.out.cell 1 (by omega)
   have t2 : wr.cell? ⟨sb, 2, none⟩ = some (.slice pb s.m cb) := S1.out.cell 2 (by omega)
   have t3 : wr.cell? ⟨sb, 3, none⟩ = some (.slice pd s.l cd) := S1.out.cell 3 (by omega)
   clear HK HB
   go_wp2
   clear t0 t1 t2 t3
   skip
   clear hlt hlt' hq
   skip
   skip
   generalize wr = va at *
   go_loopw [6] (fun i wr => ∃ q : Nat, q ≤ s.m ∧ i = .int .i64 q ∧ (∀ j, j < q → (s.W j).Ok s.n s.t s.m j) ∧ Below va.heap.size va wr) (fun i _ => s.m - (intOf i).toNat)
   case atStart => exact ⟨0, by omega, rfl, fun j hj => absurd hj (by omega), Below.refl _ _⟩
   case round =>
    obtain ⟨q, hq, rfl, hok, hb⟩ := hrel
    have HK : Hid (∀ j, j < q → (s.W j).Ok s.n s.t s.m j) := hok
    have HB : Hid (Below va.heap.size va wr) := hb
    replace BB : Hid (Below w.heap.size w wr) := BB.out.trans (hb.mono BB.out.size)
    replace S1 : Hid (BxF wr sb 28 4 (fun i => if i = 0 then .slice pa s.n ca else if i = 1 then .int .i64 s.t else if i = 2 then .slice pb s.m cb else .slice pd s.l cd)) := S1.out.below hb
    replace HV : Hid (SvV wr s ⟨pa, pb, pd, PA, PB, PD, PX, PY, PZ, ca, cb, cd⟩) := HV.out.below hb
    clear hok hb
    by_cases hlt : q < s.m
    ·have hlt' : (q : Int) < (s.m : Int) := by omega
     have hne : (s.W q).ne ≤ 1048576 := HX.out.2.1.2 q hlt
     have hn0 := HV.out.2.1.2 q hlt
     obtain ⟨b, off, rfl, hc⟩ := HV.out.2.1.at hlt
     have HN : Hid (Num wr (PB q) (s.W q).ne (s.W q).E) := hn0
     clear hn0
     generalize hR : s.W q = r at *
     obtain ⟨mc, mt, ne, E, bg, en⟩ := r
     dsimp only at hne HN
     generalize hA : PB q = A at *
     generalize hX : PY q = X at *
     have HR : Hid (s.W q = ⟨mc, mt, ne, E, bg, en⟩) := hR
     clear hR
     have c_0 : wr.cell? ⟨b, off + q * 5, none⟩ = some (.int .i64 mc) := by have := hc 0 (by omega); simpa [rpF, woF, roF, rpV, woV, roV, hA, hX] using this
     have c_1 : wr.cell? ⟨b, off + q * 5 + 1, none⟩ = some (.int .i64 mt) := by have := hc 1 (by omega); simpa [rpF, woF, roF, rpV, woV, roV, hA, hX] using this
     have c_2 : wr.cell? ⟨b, off + q * 5 + 2, none⟩ = some (.slice A ne X) := by have := hc 2 (by omega); simpa [rpF, woF, roF, rpV, woV, roV, hA, hX] using this
     have c_3 : wr.cell? ⟨b, off + q * 5 + 3, none⟩ = some (.int .i64 bg) := by have := hc 3 (by omega); simpa [rpF, woF, roF, rpV, woV, roV, hA, hX] using this
     have c_4 : wr.cell? ⟨b, off + q * 5 + 4, none⟩ = some (.int .i64 en) := by have := hc 4 (by omega); simpa [rpF, woF, roF, rpV, woV, roV, hA, hX] using this
     clear hA hX hc
     have WB : Below wr.heap.size wr (wr.alloc (.cells #[.int .i64 mc, .int .i64 mt, .slice A ne X, .int .i64 bg, .int .i64 en] 37)) := (Below.refl _ _).alloc (Nat.le_refl _) _
     replace HN : Hid (Num (wr.alloc (.cells #[.int .i64 mc, .int .i64 mt, .slice A ne X, .int .i64 bg, .int .i64 en] 37)) A ne E) := Els.below HN.out WB
     have B2 : Hid (Below w.heap.size w (wr.alloc (.cells #[.int .i64 mc, .int .i64 mt, .slice A ne X, .int .i64 bg, .int .i64 en] 37))) := BB.out.trans (WB.mono BB.out.size)
     have HB2 : Hid (Below va.heap.size va (wr.alloc (.cells #[.int .i64 mc, .int .i64 mt, .slice A ne X, .int .i64 bg, .int .i64 en] 37))) := HB.out.trans (WB.mono HB.out.size)
     have R2 : Hid (BxF (wr.alloc (.cells #[.int .i64 mc, .int .i64 mt, .slice A ne X, .int .i64 bg, .int .i64 en] 37)) wr.heap.size 37 5 (woV ⟨mc, mt, ne, E, bg, en⟩ (.slice A ne X))) := BxF.wo wr ⟨mc, mt, ne, E, bg, en⟩ (.slice A ne X)
     have S2 : Hid (BxF (wr.alloc (.cells #[.int .i64 mc, .int .i64 mt, .slice A ne X, .int .i64 bg, .int .i64 en] 37)) sb 28 4 (fun i => if i = 0 then .slice pa s.n ca else if i = 1 then .int .i64 s.t else if i = 2 then .slice (some ⟨b, off, none⟩) s.m cb else .slice pd s.l cd)) := S1.out.below WB
     have t0 : wr.cell? ⟨sb, 0, none⟩ = some (.slice pa s.n ca) := S1.out.cell 0 (by omega)
     have t1 : wr.cell? ⟨sb, 1, none⟩ = some (.int .i64 s.t) := S1.out.cell 1 (by omega)
     have t2 : wr.cell? ⟨sb, 2, none⟩ = some (.slice (some ⟨b, off, none⟩) s.m cb) := S1.out.cell 2 (by omega)
     have t3 : wr.cell? ⟨sb, 3, none⟩ = some (.slice pd s.l cd) := S1.out.cell 3 (by omega)
     have NO : Hid (¬ (⟨mc, mt, ne, E, bg, en⟩ : Wo).Ok s.n s.t s.m q → z = false) := fun y => HZ.out.trans (sB_no (fun g => y (by have := g.2.1 q hlt; rwa [HR.out] at this)))
     have YE : Hid ((⟨mc, mt, ne, E, bg, en⟩ : Wo).Ok s.n s.t s.m q → ∀ j, j < q + 1 → (s.W j).Ok s.n s.t s.m j) := fun y j hj => by
      rcases Nat.lt_or_ge j q with g | g
      ·exact HK.out j g
      ·obtain rfl : j = q := by omega
       rw [HR.out]; exact y
     clear WB HR HK HB BB S1 HV HZ
     have wm : IntKind.i64.wrap ((s.m : Int) - 1) = (s.m : Int) - 1 := IntWalk.i64_in _ (by omega)
     have wq : IntKind.i64.wrap ((q : Int) + 1) = (q : Int) + 1 := IntWalk.i64_in _ (by omega)
     by_cases p1 : mc = (q : Int) + 1
     case neg =>
      clear YE
      replace NO : Hid (z = false) := NO.out (fun y => p1 y.2.1)
      clear HN R2 S2
      go_wp2
      go_ret
      exact ⟨by rw [NO.out]; rfl, B2.out⟩
     subst p1
     go_wp2_with fail
     clear t0 t1 t2 t3 c_0 c_1 c_2 c_3 c_4
     generalize (wr.alloc (.cells #[.int .i64 ((q : Int) + 1), .int .i64 mt, .slice A ne X, .int .i64 bg, .int .i64 en] 37)) = u0 at *
     obtain ⟨rb, hrb⟩ : ∃ x, x = wr.heap.size := ⟨_, rfl⟩
     rw [← hrb] at R2 ⊢
     clear hrb
     have C0 : Hid (∀ w : World, Calls Try.prog 72 #[.agg #[.int .i64 ((q : Int) + 1), .int .i64 mt]] w fun e w' => e = .returned (.bool (sB (mkOk ((q : Int) + 1) mt))) ∧ Below w.heap.size w w') := fun w => l09Mark_v ((q : Int) + 1) mt (sB (mkOk ((q : Int) + 1) mt)) (rfl) w
     refine (C0.out _).mono ?_
     rintro e u1 ⟨rfl, hb⟩
     replace B2 : Hid (Below w.heap.size w u1) := B2.out.trans (hb.mono B2.out.size)
     replace HB2 : Hid (Below va.heap.size va u1) := HB2.out.trans (hb.mono HB2.out.size)
     replace HN : Hid (Num u1 A ne E) := Els.below HN.out hb
     replace R2 : Hid (BxF u1 rb 37 5 (woV ⟨((q : Int) + 1), mt, ne, E, bg, en⟩ (.slice A ne X))) := R2.out.below hb
     replace S2 : Hid (BxF u1 sb 28 4 (fun i => if i = 0 then .slice pa s.n ca else if i = 1 then .int .i64 s.t else if i = 2 then .slice (some ⟨b, off, none⟩) s.m cb else .slice pd s.l cd)) := S2.out.below hb
     clear hb C0
     by_cases c0 : mkOk ((q : Int) + 1) mt
     case neg =>
      rw [sB_no c0]
      clear YE
      replace NO : Hid (z = false) := NO.out (fun y => c0 (y.2.2.1))
      clear c0
      clear HN R2 S2
      go_wp2
      go_ret
      exact ⟨by rw [NO.out]; rfl, B2.out⟩
     rw [sB_yes c0]
     have r0 : u1.cell? ⟨rb, 0, none⟩ = some (.int .i64 ((q : Int) + 1)) := R2.out.cell 0 (by omega)
     have r1 : u1.cell? ⟨rb, 1, none⟩ = some (.int .i64 mt) := R2.out.cell 1 (by omega)
     have r2 : u1.cell? ⟨rb, 2, none⟩ = some (.slice A ne X) := R2.out.cell 2 (by omega)
     have r3 : u1.cell? ⟨rb, 3, none⟩ = some (.int .i64 bg) := R2.out.cell 3 (by omega)
     have r4 : u1.cell? ⟨rb, 4, none⟩ = some (.int .i64 en) := R2.out.cell 4 (by omega)
     have t0 : u1.cell? ⟨sb, 0, none⟩ = some (.slice pa s.n ca) := S2.out.cell 0 (by omega)
     have t1 : u1.cell? ⟨sb, 1, none⟩ = some (.int .i64 s.t) := S2.out.cell 1 (by omega)
     have t2 : u1.cell? ⟨sb, 2, none⟩ = some (.slice (some ⟨b, off, none⟩) s.m cb) := S2.out.cell 2 (by omega)
     have t3 : u1.cell? ⟨sb, 3, none⟩ = some (.slice pd s.l cd) := S2.out.cell 3 (by omega)
     go_wp2_with fail
     clear t0 t1 t2 t3 r0 r1 r2 r3 r4
     have C1 : Hid (∀ w : World, Num w A ne E → Calls Try.prog 73 #[.slice A ne X, .int .i64 (s.n : Int)] w fun e w' => e = .returned (.bool (sB (idsOk s.n ne E))) ∧ Below w.heap.size w w') := fun w h => l09Ids_v s.n hnn A ne X E hne (sB (idsOk s.n ne E)) (rfl) w h
     refine (C1.out _ HN.out).mono ?_
     rintro e u2 ⟨rfl, hb⟩
     replace B2 : Hid (Below w.heap.size w u2) := B2.out.trans (hb.mono B2.out.size)
     replace HB2 : Hid (Below va.heap.size va u2) := HB2.out.trans (hb.mono HB2.out.size)
     replace HN : Hid (Num u2 A ne E) := Els.below HN.out hb
     replace R2 : Hid (BxF u2 rb 37 5 (woV ⟨((q : Int) + 1), mt, ne, E, bg, en⟩ (.slice A ne X))) := R2.out.below hb
     replace S2 : Hid (BxF u2 sb 28 4 (fun i => if i = 0 then .slice pa s.n ca else if i = 1 then .int .i64 s.t else if i = 2 then .slice (some ⟨b, off, none⟩) s.m cb else .slice pd s.l cd)) := S2.out.below hb
     clear hb C1
     by_cases c1 : idsOk s.n ne E
     case neg =>
      rw [sB_no c1]
      clear YE
      replace NO : Hid (z = false) := NO.out (fun y => c1 (y.2.2.2.1))
      clear c0 c1
      clear HN R2 S2
      go_wp2
      go_ret
      exact ⟨by rw [NO.out]; rfl, B2.out⟩
     rw [sB_yes c1]
     have r0 : u2.cell? ⟨rb, 0, none⟩ = some (.int .i64 ((q : Int) + 1)) := R2.out.cell 0 (by omega)
     have r1 : u2.cell? ⟨rb, 1, none⟩ = some (.int .i64 mt) := R2.out.cell 1 (by omega)
     have r2 : u2.cell? ⟨rb, 2, none⟩ = some (.slice A ne X) := R2.out.cell 2 (by omega)
     have r3 : u2.cell? ⟨rb, 3, none⟩ = some (.int .i64 bg) := R2.out.cell 3 (by omega)
     have r4 : u2.cell? ⟨rb, 4, none⟩ = some (.int .i64 en) := R2.out.cell 4 (by omega)
     have t0 : u2.cell? ⟨sb, 0, none⟩ = some (.slice pa s.n ca) := S2.out.cell 0 (by omega)
     have t1 : u2.cell? ⟨sb, 1, none⟩ = some (.int .i64 s.t) := S2.out.cell 1 (by omega)
     have t2 : u2.cell? ⟨sb, 2, none⟩ = some (.slice (some ⟨b, off, none⟩) s.m cb) := S2.out.cell 2 (by omega)
     have t3 : u2.cell? ⟨sb, 3, none⟩ = some (.slice pd s.l cd) := S2.out.cell 3 (by omega)
     go_wp2_with fail
     clear t0 t1 t2 t3 r0 r1 r2 r3 r4
     have C2 : Hid (∀ w : World, Calls Try.prog 71 #[.int .i64 bg, .int .i64 1, .int .i64 s.t] w fun e w' => e = .returned (.bool (sB (1 ≤ bg ∧ bg ≤ s.t))) ∧ Below w.heap.size w w') := fun w => in_v bg 1 s.t (sB (1 ≤ bg ∧ bg ≤ s.t)) (rfl) w
     refine (C2.out _).mono ?_
     rintro e u3 ⟨rfl, hb⟩
     replace B2 : Hid (Below w.heap.size w u3) := B2.out.trans (hb.mono B2.out.size)
     replace HB2 : Hid (Below va.heap.size va u3) := HB2.out.trans (hb.mono HB2.out.size)
     replace HN : Hid (Num u3 A ne E) := Els.below HN.out hb
     replace R2 : Hid (BxF u3 rb 37 5 (woV ⟨((q : Int) + 1), mt, ne, E, bg, en⟩ (.slice A ne X))) := R2.out.below hb
     replace S2 : Hid (BxF u3 sb 28 4 (fun i => if i = 0 then .slice pa s.n ca else if i = 1 then .int .i64 s.t else if i = 2 then .slice (some ⟨b, off, none⟩) s.m cb else .slice pd s.l cd)) := S2.out.below hb
     clear hb C2
     by_cases c2 : 1 ≤ bg ∧ bg ≤ s.t
     case neg =>
      rw [sB_no c2]
      clear YE
      replace NO : Hid (z = false) := NO.out (fun y => c2 (y.2.2.2.2.1))
      clear c0 c1 c2
      clear HN R2 S2
      go_wp2
      go_ret
      exact ⟨by rw [NO.out]; rfl, B2.out⟩
     rw [sB_yes c2]
     by_cases p2 : en = -1
     case neg =>
      have e2 : (en == -1) = false := by simp; exact p2
      have P2 : Hid (¬ en = -1) := p2
      have r0 : u3.cell? ⟨rb, 0, none⟩ = some (.int .i64 ((q : Int) + 1)) := R2.out.cell 0 (by omega)
      have r1 : u3.cell? ⟨rb, 1, none⟩ = some (.int .i64 mt) := R2.out.cell 1 (by omega)
      have r2 : u3.cell? ⟨rb, 2, none⟩ = some (.slice A ne X) := R2.out.cell 2 (by omega)
      have r3 : u3.cell? ⟨rb, 3, none⟩ = some (.int .i64 bg) := R2.out.cell 3 (by omega)
      have r4 : u3.cell? ⟨rb, 4, none⟩ = some (.int .i64 en) := R2.out.cell 4 (by omega)
      have t0 : u3.cell? ⟨sb, 0, none⟩ = some (.slice pa s.n ca) := S2.out.cell 0 (by omega)
      have t1 : u3.cell? ⟨sb, 1, none⟩ = some (.int .i64 s.t) := S2.out.cell 1 (by omega)
      have t2 : u3.cell? ⟨sb, 2, none⟩ = some (.slice (some ⟨b, off, none⟩) s.m cb) := S2.out.cell 2 (by omega)
      have t3 : u3.cell? ⟨sb, 3, none⟩ = some (.slice pd s.l cd) := S2.out.cell 3 (by omega)
      go_wp2_with fail
      clear t0 t1 t2 t3 r0 r1 r2 r3 r4
      have C3 : Hid (∀ w : World, Calls Try.prog 71 #[.int .i64 en, .int .i64 bg, .int .i64 s.t] w fun e w' => e = .returned (.bool (sB (bg ≤ en ∧ en ≤ s.t))) ∧ Below w.heap.size w w') := fun w => in_v en bg s.t (sB (bg ≤ en ∧ en ≤ s.t)) (rfl) w
      refine (C3.out _).mono ?_
      rintro e u4 ⟨rfl, hb⟩
      replace B2 : Hid (Below w.heap.size w u4) := B2.out.trans (hb.mono B2.out.size)
      replace HB2 : Hid (Below va.heap.size va u4) := HB2.out.trans (hb.mono HB2.out.size)
      replace HN : Hid (Num u4 A ne E) := Els.below HN.out hb
      replace R2 : Hid (BxF u4 rb 37 5 (woV ⟨((q : Int) + 1), mt, ne, E, bg, en⟩ (.slice A ne X))) := R2.out.below hb
      replace S2 : Hid (BxF u4 sb 28 4 (fun i => if i = 0 then .slice pa s.n ca else if i = 1 then .int .i64 s.t else if i = 2 then .slice (some ⟨b, off, none⟩) s.m cb else .slice pd s.l cd)) := S2.out.below hb
      clear hb C3
      by_cases c3 : bg ≤ en ∧ en ≤ s.t
      ·rw [sB_yes c3]
       replace YE : Hid (∀ j, j < q + 1 → (s.W j).Ok s.n s.t s.m j) := YE.out (⟨fun y => P2.out y.1, rfl, c0, c1, c2, .inr c3⟩)
       clear NO
       clear c0 c1 c2 c3
       have r0 : u4.cell? ⟨rb, 0, none⟩ = some (.int .i64 ((q : Int) + 1)) := R2.out.cell 0 (by omega)
       have r1 : u4.cell? ⟨rb, 1, none⟩ = some (.int .i64 mt) := R2.out.cell 1 (by omega)
       have r2 : u4.cell? ⟨rb, 2, none⟩ = some (.slice A ne X) := R2.out.cell 2 (by omega)
       have r3 : u4.cell? ⟨rb, 3, none⟩ = some (.int .i64 bg) := R2.out.cell 3 (by omega)
       have r4 : u4.cell? ⟨rb, 4, none⟩ = some (.int .i64 en) := R2.out.cell 4 (by omega)
       have t0 : u4.cell? ⟨sb, 0, none⟩ = some (.slice pa s.n ca) := S2.out.cell 0 (by omega)
       have t1 : u4.cell? ⟨sb, 1, none⟩ = some (.int .i64 s.t) := S2.out.cell 1 (by omega)
       have t2 : u4.cell? ⟨sb, 2, none⟩ = some (.slice (some ⟨b, off, none⟩) s.m cb) := S2.out.cell 2 (by omega)
       have t3 : u4.cell? ⟨sb, 3, none⟩ = some (.slice pd s.l cd) := S2.out.cell 3 (by omega)
       clear HN R2 S2
       go_wp2
       go_roundw
       case rel => exact ⟨q + 1, by omega, by go_num, YE.out, HB2.out⟩
       case measure => simp [intOf]; omega
      ·rw [sB_no c3]
       clear YE
       replace NO : Hid (z = false) := NO.out (fun y => y.2.2.2.2.2.elim P2.out c3)
       clear c0 c1 c2 c3
       clear HN R2 S2
       go_wp2
       go_ret
       exact ⟨by rw [NO.out]; rfl, B2.out⟩
     subst p2
     by_cases p3 : q + 1 < s.m
     ·have e3 : (q : Int) < (s.m : Int) - 1 := by omega
      clear YE
      replace NO : Hid (z = false) := NO.out (fun y => y.1 ⟨rfl, p3⟩)
      clear p3 c0 c1 c2
      have r0 : u3.cell? ⟨rb, 0, none⟩ = some (.int .i64 ((q : Int) + 1)) := R2.out.cell 0 (by omega)
      have r1 : u3.cell? ⟨rb, 1, none⟩ = some (.int .i64 mt) := R2.out.cell 1 (by omega)
      have r2 : u3.cell? ⟨rb, 2, none⟩ = some (.slice A ne X) := R2.out.cell 2 (by omega)
      have r3 : u3.cell? ⟨rb, 3, none⟩ = some (.int .i64 bg) := R2.out.cell 3 (by omega)
      have r4 : u3.cell? ⟨rb, 4, none⟩ = some (.int .i64 (-1)) := R2.out.cell 4 (by omega)
      have t0 : u3.cell? ⟨sb, 0, none⟩ = some (.slice pa s.n ca) := S2.out.cell 0 (by omega)
      have t1 : u3.cell? ⟨sb, 1, none⟩ = some (.int .i64 s.t) := S2.out.cell 1 (by omega)
      have t2 : u3.cell? ⟨sb, 2, none⟩ = some (.slice (some ⟨b, off, none⟩) s.m cb) := S2.out.cell 2 (by omega)
      have t3 : u3.cell? ⟨sb, 3, none⟩ = some (.slice pd s.l cd) := S2.out.cell 3 (by omega)
      clear HN R2 S2
      go_wp2
      go_ret
      exact ⟨by rw [NO.out]; rfl, B2.out⟩
     ·have e3 : ¬ (q : Int) < (s.m : Int) - 1 := by omega
      replace YE : Hid (∀ j, j < q + 1 → (s.W j).Ok s.n s.t s.m j) := YE.out (⟨fun y => p3 y.2, rfl, c0, c1, c2, .inl rfl⟩)
      clear NO
      clear p3 c0 c1 c2
      have r0 : u3.cell? ⟨rb, 0, none⟩ = some (.int .i64 ((q : Int) + 1)) := R2.out.cell 0 (by omega)
      have r1 : u3.cell? ⟨rb, 1, none⟩ = some (.int .i64 mt) := R2.out.cell 1 (by omega)
      have r2 : u3.cell? ⟨rb, 2, none⟩ = some (.slice A ne X) := R2.out.cell 2 (by omega)
      have r3 : u3.cell? ⟨rb, 3, none⟩ = some (.int .i64 bg) := R2.out.cell 3 (by omega)
      have r4 : u3.cell? ⟨rb, 4, none⟩ = some (.int .i64 (-1)) := R2.out.cell 4 (by omega)
      have t0 : u3.cell? ⟨sb, 0, none⟩ = some (.slice pa s.n ca) := S2.out.cell 0 (by omega)
      have t1 : u3.cell? ⟨sb, 1, none⟩ = some (.int .i64 s.t) := S2.out.cell 1 (by omega)
      have t2 : u3.cell? ⟨sb, 2, none⟩ = some (.slice (some ⟨b, off, none⟩) s.m cb) := S2.out.cell 2 (by omega)
      have t3 : u3.cell? ⟨sb, 3, none⟩ = some (.slice pd s.l cd) := S2.out.cell 3 (by omega)
      clear HN R2 S2
      go_wp2
      go_roundw
      case rel => exact ⟨q + 1, by omega, by go_num, YE.out, HB2.out⟩
      case measure => simp [intOf]; omega
    ·have hlt' : ¬ (q : Int) < (s.m : Int) := by omega
     have AW : Hid (∀ j, j < s.m → (s.W j).Ok s.n s.t s.m j) := fun j hj => HK.out j (by omega)
     have t0 : wr.cell? ⟨sb, 0, none⟩ = some (.slice pa s.n ca) := S1.out.cell 0 (by omega)
     have t1 : wr.cell? ⟨sb, 1, none⟩ = some (.int .i64 s.t) := S1.out.cell 1 (by omega)
     have t2 : wr.cell? ⟨sb, 2, none⟩ = some (.slice pb s.m cb) := S1.out.cell 2 (by omega)
     have t3 : wr.cell? ⟨sb, 3, none⟩ = some (.slice pd s.l cd) := S1.out.cell 3 (by omega)
     clear HK HB
     go_wp2
     clear t0 t1 t2 t3
     skip
     clear hlt hlt' hq
     skip
     skip
     generalize wr = vb at *
     go_loopw [8] (fun i wr => ∃ q : Nat, q ≤ s.l ∧ i = .int .i64 q ∧ (∀ j, j < q → (s.Q j).Ok s.n s.t) ∧ Below vb.heap.size vb wr) (fun i _ => s.l - (intOf i).toNat)
     case atStart => exact ⟨0, by omega, rfl, fun j hj => absurd hj (by omega), Below.refl _ _⟩
     case round =>
      obtain ⟨q, hq, rfl, hok, hb⟩ := hrel
      have HK : Hid (∀ j, j < q → (s.Q j).Ok s.n s.t) := hok
      have HB : Hid (Below vb.heap.size vb wr) := hb
      replace BB : Hid (Below w.heap.size w wr) := BB.out.trans (hb.mono BB.out.size)
      replace S1 : Hid (BxF wr sb 28 4 (fun i => if i = 0 then .slice pa s.n ca else if i = 1 then .int .i64 s.t else if i = 2 then .slice pb s.m cb else .slice pd s.l cd)) := S1.out.below hb
      replace HV : Hid (SvV wr s ⟨pa, pb, pd, PA, PB, PD, PX, PY, PZ, ca, cb, cd⟩) := HV.out.below hb
      clear hok hb
      by_cases hlt : q < s.l
      ·have hlt' : (q : Int) < (s.l : Int) := by omega
       have hne : (s.Q q).ne ≤ 1048576 := HX.out.2.2.2 q hlt
       have hn0 := HV.out.2.2.2 q hlt
       obtain ⟨b, off, rfl, hc⟩ := HV.out.2.2.at hlt
       have HN : Hid (Num wr (PD q) (s.Q q).ne (s.Q q).E) := hn0
       clear hn0
       generalize hR : s.Q q = r at *
       obtain ⟨ne, E, bc, bt, bg, en⟩ := r
       dsimp only at hne HN
       generalize hA : PD q = A at *
       generalize hX : PZ q = X at *
       have HR : Hid (s.Q q = ⟨ne, E, bc, bt, bg, en⟩) := hR
       clear hR
       have c_0 : wr.cell? ⟨b, off + q * 5, none⟩ = some (.slice A ne X) := by have := hc 0 (by omega); simpa [rpF, woF, roF, rpV, woV, roV, hA, hX] using this
       have c_1 : wr.cell? ⟨b, off + q * 5 + 1, none⟩ = some (.int .i64 bc) := by have := hc 1 (by omega); simpa [rpF, woF, roF, rpV, woV, roV, hA, hX] using this
       have c_2 : wr.cell? ⟨b, off + q * 5 + 2, none⟩ = some (.int .i64 bt) := by have := hc 2 (by omega); simpa [rpF, woF, roF, rpV, woV, roV, hA, hX] using this
       have c_3 : wr.cell? ⟨b, off + q * 5 + 3, none⟩ = some (.int .i64 bg) := by have := hc 3 (by omega); simpa [rpF, woF, roF, rpV, woV, roV, hA, hX] using this
       have c_4 : wr.cell? ⟨b, off + q * 5 + 4, none⟩ = some (.int .i64 en) := by have := hc 4 (by omega); simpa [rpF, woF, roF, rpV, woV, roV, hA, hX] using this
       clear hA hX hc
       have WB : Below wr.heap.size wr (wr.alloc (.cells #[.slice A ne X, .int .i64 bc, .int .i64 bt, .int .i64 bg, .int .i64 en] 90)) := (Below.refl _ _).alloc (Nat.le_refl _) _
       replace HN : Hid (Num (wr.alloc (.cells #[.slice A ne X, .int .i64 bc, .int .i64 bt, .int .i64 bg, .int .i64 en] 90)) A ne E) := Els.below HN.out WB
       have B2 : Hid (Below w.heap.size w (wr.alloc (.cells #[.slice A ne X, .int .i64 bc, .int .i64 bt, .int .i64 bg, .int .i64 en] 90))) := BB.out.trans (WB.mono BB.out.size)
       have HB2 : Hid (Below vb.heap.size vb (wr.alloc (.cells #[.slice A ne X, .int .i64 bc, .int .i64 bt, .int .i64 bg, .int .i64 en] 90))) := HB.out.trans (WB.mono HB.out.size)
       have R2 : Hid (BxF (wr.alloc (.cells #[.slice A ne X, .int .i64 bc, .int .i64 bt, .int .i64 bg, .int .i64 en] 90)) wr.heap.size 90 5 (roV ⟨ne, E, bc, bt, bg, en⟩ (.slice A ne X))) := BxF.ro wr ⟨ne, E, bc, bt, bg, en⟩ (.slice A ne X)
       have S2 : Hid (BxF (wr.alloc (.cells #[.slice A ne X, .int .i64 bc, .int .i64 bt, .int .i64 bg, .int .i64 en] 90)) sb 28 4 (fun i => if i = 0 then .slice pa s.n ca else if i = 1 then .int .i64 s.t else if i = 2 then .slice pb s.m cb else .slice (some ⟨b, off, none⟩) s.l cd)) := S1.out.below WB
       have t0 : wr.cell? ⟨sb, 0, none⟩ = some (.slice pa s.n ca) := S1.out.cell 0 (by omega)
       have t1 : wr.cell? ⟨sb, 1, none⟩ = some (.int .i64 s.t) := S1.out.cell 1 (by omega)
       have t2 : wr.cell? ⟨sb, 2, none⟩ = some (.slice pb s.m cb) := S1.out.cell 2 (by omega)
       have t3 : wr.cell? ⟨sb, 3, none⟩ = some (.slice (some ⟨b, off, none⟩) s.l cd) := S1.out.cell 3 (by omega)
       have NO : Hid (¬ (⟨ne, E, bc, bt, bg, en⟩ : Ro).Ok s.n s.t → z = false) := fun y => HZ.out.trans (sB_no (fun g => y (by have := g.2.2.2 q hlt; rwa [HR.out] at this)))
       have YE : Hid ((⟨ne, E, bc, bt, bg, en⟩ : Ro).Ok s.n s.t → ∀ j, j < q + 1 → (s.Q j).Ok s.n s.t) := fun y j hj => by
        rcases Nat.lt_or_ge j q with g | g
        ·exact HK.out j g
        ·obtain rfl : j = q := by omega
         rw [HR.out]; exact y
       clear WB HR HK HB BB S1 HV HZ
       go_wp2_with fail
       clear t0 t1 t2 t3 c_0 c_1 c_2 c_3 c_4
       generalize (wr.alloc (.cells #[.slice A ne X, .int .i64 bc, .int .i64 bt, .int .i64 bg, .int .i64 en] 90)) = u0 at *
       obtain ⟨rb, hrb⟩ : ∃ x, x = wr.heap.size := ⟨_, rfl⟩
       rw [← hrb] at R2 ⊢
       clear hrb
       have C0 : Hid (∀ w : World, Num w A ne E → Calls Try.prog 73 #[.slice A ne X, .int .i64 (s.n : Int)] w fun e w' => e = .returned (.bool (sB (idsOk s.n ne E))) ∧ Below w.heap.size w w') := fun w h => l09Ids_v s.n hnn A ne X E hne (sB (idsOk s.n ne E)) (rfl) w h
       refine (C0.out _ HN.out).mono ?_
       rintro e u1 ⟨rfl, hb⟩
       replace B2 : Hid (Below w.heap.size w u1) := B2.out.trans (hb.mono B2.out.size)
       replace HB2 : Hid (Below vb.heap.size vb u1) := HB2.out.trans (hb.mono HB2.out.size)
       replace HN : Hid (Num u1 A ne E) := Els.below HN.out hb
       replace R2 : Hid (BxF u1 rb 90 5 (roV ⟨ne, E, bc, bt, bg, en⟩ (.slice A ne X))) := R2.out.below hb
       replace S2 : Hid (BxF u1 sb 28 4 (fun i => if i = 0 then .slice pa s.n ca else if i = 1 then .int .i64 s.t else if i = 2 then .slice pb s.m cb else .slice (some ⟨b, off, none⟩) s.l cd)) := S2.out.below hb
       clear hb C0
       by_cases c0 : idsOk s.n ne E
       case neg =>
        rw [sB_no c0]
        clear YE
        replace NO : Hid (z = false) := NO.out (fun y => c0 (y.2.1))
        clear c0
        clear HN R2 S2
        go_wp2
        go_ret
        exact ⟨by rw [NO.out]; rfl, B2.out⟩
       rw [sB_yes c0]
       have r0 : u1.cell? ⟨rb, 0, none⟩ = some (.slice A ne X) := R2.out.cell 0 (by omega)
       have r1 : u1.cell? ⟨rb, 1, none⟩ = some (.int .i64 bc) := R2.out.cell 1 (by omega)
       have r2 : u1.cell? ⟨rb, 2, none⟩ = some (.int .i64 bt) := R2.out.cell 2 (by omega)
       have r3 : u1.cell? ⟨rb, 3, none⟩ = some (.int .i64 bg) := R2.out.cell 3 (by omega)
       have r4 : u1.cell? ⟨rb, 4, none⟩ = some (.int .i64 en) := R2.out.cell 4 (by omega)
       have t0 : u1.cell? ⟨sb, 0, none⟩ = some (.slice pa s.n ca) := S2.out.cell 0 (by omega)
       have t1 : u1.cell? ⟨sb, 1, none⟩ = some (.int .i64 s.t) := S2.out.cell 1 (by omega)
       have t2 : u1.cell? ⟨sb, 2, none⟩ = some (.slice pb s.m cb) := S2.out.cell 2 (by omega)
       have t3 : u1.cell? ⟨sb, 3, none⟩ = some (.slice (some ⟨b, off, none⟩) s.l cd) := S2.out.cell 3 (by omega)
       go_wp2_with fail
       clear t0 t1 t2 t3 r0 r1 r2 r3 r4
       have C1 : Hid (∀ w : World, Calls Try.prog 72 #[.agg #[.int .i64 bc, .int .i64 bt]] w fun e w' => e = .returned (.bool (sB (mkOk bc bt))) ∧ Below w.heap.size w w') := fun w => l09Mark_v bc bt (sB (mkOk bc bt)) (rfl) w
       refine (C1.out _).mono ?_
       rintro e u2 ⟨rfl, hb⟩
       replace B2 : Hid (Below w.heap.size w u2) := B2.out.trans (hb.mono B2.out.size)
       replace HB2 : Hid (Below vb.heap.size vb u2) := HB2.out.trans (hb.mono HB2.out.size)
       replace HN : Hid (Num u2 A ne E) := Els.below HN.out hb
       replace R2 : Hid (BxF u2 rb 90 5 (roV ⟨ne, E, bc, bt, bg, en⟩ (.slice A ne X))) := R2.out.below hb
       replace S2 : Hid (BxF u2 sb 28 4 (fun i => if i = 0 then .slice pa s.n ca else if i = 1 then .int .i64 s.t else if i = 2 then .slice pb s.m cb else .slice (some ⟨b, off, none⟩) s.l cd)) := S2.out.below hb
       clear hb C1
       by_cases c1 : mkOk bc bt
       case neg =>
        rw [sB_no c1]
        clear YE
        replace NO : Hid (z = false) := NO.out (fun y => c1 (y.1))
        clear c0 c1
        clear HN R2 S2
        go_wp2
        go_ret
        exact ⟨by rw [NO.out]; rfl, B2.out⟩
       rw [sB_yes c1]
       have r0 : u2.cell? ⟨rb, 0, none⟩ = some (.slice A ne X) := R2.out.cell 0 (by omega)
       have r1 : u2.cell? ⟨rb, 1, none⟩ = some (.int .i64 bc) := R2.out.cell 1 (by omega)
       have r2 : u2.cell? ⟨rb, 2, none⟩ = some (.int .i64 bt) := R2.out.cell 2 (by omega)
       have r3 : u2.cell? ⟨rb, 3, none⟩ = some (.int .i64 bg) := R2.out.cell 3 (by omega)
       have r4 : u2.cell? ⟨rb, 4, none⟩ = some (.int .i64 en) := R2.out.cell 4 (by omega)
       have t0 : u2.cell? ⟨sb, 0, none⟩ = some (.slice pa s.n ca) := S2.out.cell 0 (by omega)
       have t1 : u2.cell? ⟨sb, 1, none⟩ = some (.int .i64 s.t) := S2.out.cell 1 (by omega)
       have t2 : u2.cell? ⟨sb, 2, none⟩ = some (.slice pb s.m cb) := S2.out.cell 2 (by omega)
       have t3 : u2.cell? ⟨sb, 3, none⟩ = some (.slice (some ⟨b, off, none⟩) s.l cd) := S2.out.cell 3 (by omega)
       go_wp2_with fail
       clear t0 t1 t2 t3 r0 r1 r2 r3 r4
       have C2 : Hid (∀ w : World, Calls Try.prog 71 #[.int .i64 bg, .int .i64 1, .int .i64 s.t] w fun e w' => e = .returned (.bool (sB (1 ≤ bg ∧ bg ≤ s.t))) ∧ Below w.heap.size w w') := fun w => in_v bg 1 s.t (sB (1 ≤ bg ∧ bg ≤ s.t)) (rfl) w
       refine (C2.out _).mono ?_
       rintro e u3 ⟨rfl, hb⟩
       replace B2 : Hid (Below w.heap.size w u3) := B2.out.trans (hb.mono B2.out.size)
       replace HB2 : Hid (Below vb.heap.size vb u3) := HB2.out.trans (hb.mono HB2.out.size)
       replace HN : Hid (Num u3 A ne E) := Els.below HN.out hb
       replace R2 : Hid (BxF u3 rb 90 5 (roV ⟨ne, E, bc, bt, bg, en⟩ (.slice A ne X))) := R2.out.below hb
       replace S2 : Hid (BxF u3 sb 28 4 (fun i => if i = 0 then .slice pa s.n ca else if i = 1 then .int .i64 s.t else if i = 2 then .slice pb s.m cb else .slice (some ⟨b, off, none⟩) s.l cd)) := S2.out.below hb
       clear hb C2
       by_cases c2 : 1 ≤ bg ∧ bg ≤ s.t
       case neg =>
        rw [sB_no c2]
        clear YE
        replace NO : Hid (z = false) := NO.out (fun y => c2 (y.2.2.1))
        clear c0 c1 c2
        clear HN R2 S2
        go_wp2
        go_ret
        exact ⟨by rw [NO.out]; rfl, B2.out⟩
       rw [sB_yes c2]
       by_cases p2 : en = -1
       case neg =>
        have P2 : Hid (¬ en = -1) := p2
        have r0 : u3.cell? ⟨rb, 0, none⟩ = some (.slice A ne X) := R2.out.cell 0 (by omega)
        have r1 : u3.cell? ⟨rb, 1, none⟩ = some (.int .i64 bc) := R2.out.cell 1 (by omega)
        have r2 : u3.cell? ⟨rb, 2, none⟩ = some (.int .i64 bt) := R2.out.cell 2 (by omega)
        have r3 : u3.cell? ⟨rb, 3, none⟩ = some (.int .i64 bg) := R2.out.cell 3 (by omega)
        have r4 : u3.cell? ⟨rb, 4, none⟩ = some (.int .i64 en) := R2.out.cell 4 (by omega)
        have t0 : u3.cell? ⟨sb, 0, none⟩ = some (.slice pa s.n ca) := S2.out.cell 0 (by omega)
        have t1 : u3.cell? ⟨sb, 1, none⟩ = some (.int .i64 s.t) := S2.out.cell 1 (by omega)
        have t2 : u3.cell? ⟨sb, 2, none⟩ = some (.slice pb s.m cb) := S2.out.cell 2 (by omega)
        have t3 : u3.cell? ⟨sb, 3, none⟩ = some (.slice (some ⟨b, off, none⟩) s.l cd) := S2.out.cell 3 (by omega)
        go_wp2_with fail
        clear t0 t1 t2 t3 r0 r1 r2 r3 r4
        have C3 : Hid (∀ w : World, Calls Try.prog 71 #[.int .i64 en, .int .i64 bg, .int .i64 s.t] w fun e w' => e = .returned (.bool (sB (bg ≤ en ∧ en ≤ s.t))) ∧ Below w.heap.size w w') := fun w => in_v en bg s.t (sB (bg ≤ en ∧ en ≤ s.t)) (rfl) w
        refine (C3.out _).mono ?_
        rintro e u4 ⟨rfl, hb⟩
        replace B2 : Hid (Below w.heap.size w u4) := B2.out.trans (hb.mono B2.out.size)
        replace HB2 : Hid (Below vb.heap.size vb u4) := HB2.out.trans (hb.mono HB2.out.size)
        replace HN : Hid (Num u4 A ne E) := Els.below HN.out hb
        replace R2 : Hid (BxF u4 rb 90 5 (roV ⟨ne, E, bc, bt, bg, en⟩ (.slice A ne X))) := R2.out.below hb
        replace S2 : Hid (BxF u4 sb 28 4 (fun i => if i = 0 then .slice pa s.n ca else if i = 1 then .int .i64 s.t else if i = 2 then .slice pb s.m cb else .slice (some ⟨b, off, none⟩) s.l cd)) := S2.out.below hb
        clear hb C3
        by_cases c3 : bg ≤ en ∧ en ≤ s.t
        ·rw [sB_yes c3]
         replace YE : Hid (∀ j, j < q + 1 → (s.Q j).Ok s.n s.t) := YE.out (⟨c1, c0, c2, .inr c3⟩)
         clear NO
         clear c0 c1 c2 c3
         have r0 : u4.cell? ⟨rb, 0, none⟩ = some (.slice A ne X) := R2.out.cell 0 (by omega)
         have r1 : u4.cell? ⟨rb, 1, none⟩ = some (.int .i64 bc) := R2.out.cell 1 (by omega)
         have r2 : u4.cell? ⟨rb, 2, none⟩ = some (.int .i64 bt) := R2.out.cell 2 (by omega)
         have r3 : u4.cell? ⟨rb, 3, none⟩ = some (.int .i64 bg) := R2.out.cell 3 (by omega)
         have r4 : u4.cell? ⟨rb, 4, none⟩ = some (.int .i64 en) := R2.out.cell 4 (by omega)
         have t0 : u4.cell? ⟨sb, 0, none⟩ = some (.slice pa s.n ca) := S2.out.cell 0 (by omega)
         have t1 : u4.cell? ⟨sb, 1, none⟩ = some (.int .i64 s.t) := S2.out.cell 1 (by omega)
         have t2 : u4.cell? ⟨sb, 2, none⟩ = some (.slice pb s.m cb) := S2.out.cell 2 (by omega)
         have t3 : u4.cell? ⟨sb, 3, none⟩ = some (.slice (some ⟨b, off, none⟩) s.l cd) := S2.out.cell 3 (by omega)
         clear HN R2 S2
         go_wp2
         go_roundw
         case rel => exact ⟨q + 1, by omega, by go_num, YE.out, HB2.out⟩
         case measure => simp [intOf]; omega
        ·rw [sB_no c3]
         clear YE
         replace NO : Hid (z = false) := NO.out (fun y => y.2.2.2.elim P2.out c3)
         clear c0 c1 c2 c3
         clear HN R2 S2
         go_wp2
         go_ret
         exact ⟨by rw [NO.out]; rfl, B2.out⟩
       subst p2
       replace YE : Hid (∀ j, j < q + 1 → (s.Q j).Ok s.n s.t) := YE.out (⟨c1, c0, c2, .inl rfl⟩)
       clear NO
       clear c0 c1 c2
       have r0 : u3.cell? ⟨rb, 0, none⟩ = some (.slice A ne X) := R2.out.cell 0 (by omega)
       have r1 : u3.cell? ⟨rb, 1, none⟩ = some (.int .i64 bc) := R2.out.cell 1 (by omega)
       have r2 : u3.cell? ⟨rb, 2, none⟩ = some (.int .i64 bt) := R2.out.cell 2 (by omega)
       have r3 : u3.cell? ⟨rb, 3, none⟩ = some (.int .i64 bg) := R2.out.cell 3 (by omega)
       have r4 : u3.cell? ⟨rb, 4, none⟩ = some (.int .i64 (-1)) := R2.out.cell 4 (by omega)
       have t0 : u3.cell? ⟨sb, 0, none⟩ = some (.slice pa s.n ca) := S2.out.cell 0 (by omega)
       have t1 : u3.cell? ⟨sb, 1, none⟩ = some (.int .i64 s.t) := S2.out.cell 1 (by omega)
       have t2 : u3.cell? ⟨sb, 2, none⟩ = some (.slice pb s.m cb) := S2.out.cell 2 (by omega)
       have t3 : u3.cell? ⟨sb, 3, none⟩ = some (.slice (some ⟨b, off, none⟩) s.l cd) := S2.out.cell 3 (by omega)
       clear HN R2 S2
       go_wp2
       go_roundw
       case rel => exact ⟨q + 1, by omega, by go_num, YE.out, HB2.out⟩
       case measure => simp [intOf]; omega
      ·have hlt' : ¬ (q : Int) < (s.l : Int) := by omega
       have AQ : Hid (∀ j, j < s.l → (s.Q j).Ok s.n s.t) := fun j hj => HK.out j (by omega)
       have t0 : wr.cell? ⟨sb, 0, none⟩ = some (.slice pa s.n ca) := S1.out.cell 0 (by omega)
       have t1 : wr.cell? ⟨sb, 1, none⟩ = some (.int .i64 s.t) := S1.out.cell 1 (by omega)
       have t2 : wr.cell? ⟨sb, 2, none⟩ = some (.slice pb s.m cb) := S1.out.cell 2 (by omega)
       have t3 : wr.cell? ⟨sb, 3, none⟩ = some (.slice pd s.l cd) := S1.out.cell 3 (by omega)
       clear HK HB
       go_wp2
       clear t0 t1 t2 t3
       go_ret
       exact ⟨by rw [HZ.out, sB_yes ⟨C9.out, AW.out, AR.out, AQ.out⟩]; rfl, BB.out⟩
end Go.Proofs.Ytedncfcmhaaobaa
