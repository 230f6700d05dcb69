/-
  Texts of the proof, joined: QuTi.
-/
import Derived.Test.YtedncfcmhaaobaaZ31
import Derived.Test.YtedncfcmhaaobaaZ40
import Derived.Test.YtedncfcmhaaobaaZ48
import Derived.Test.YtedncfcmhaaobaaZ25
import Derived.Test.YtedncfcmhaaobaaZ34
namespace Go.Proofs.Ytedncfcmhaaobaa
open Go.ChangeShapes Go.WideShapes Go.ChangeAt Go.RowKit
set_option linter.unusedVariables false
set_option maxRecDepth 100000 in
set_option maxHeartbeats 4000000 in
theorem implStep_v (s : Sv) (p : Sa) (ak ar an : Int) (hmx : s.max 1048576) (w : World) (h : SvV w s p) (hzp : SzP s p) (hzo : SzO p) :
  Calls Try.prog 9 #[.agg #[.slice p.a s.n p.ca, .int .i64 s.t, .slice p.b s.m p.cb, .slice p.d s.l p.cd], .agg #[.int .i64 ak, .int .i64 ar, .int .i64 an]] w fun e w' => RetSs w.heap.size s ⟨ak, ar, an⟩ e w' ∧ Below w.heap.size w w' := by
 obtain ⟨pa, pb, pd, PA, PB, PD, PX, PY, PZ, ca, cb, cd⟩ := p
 have B0 : Hid (Below w.heap.size w (((w.alloc (.cells #[.slice pa s.n ca, .int .i64 s.t, .slice pb s.m cb, .slice pd s.l cd] 28)).alloc (.cells #[.int .i64 ak, .int .i64 ar, .int .i64 an] 41)).alloc (.cells #[.slice none 0 0, .int .i64 0, .slice none 0 0, .slice none 0 0] 28))) := (((Below.refl w.heap.size w).alloc (Nat.le_refl _) _).alloc (by simp) _).alloc (by simp; omega) _
 have X : Hid (Box4 (((w.alloc (.cells #[.slice pa s.n ca, .int .i64 s.t, .slice pb s.m cb, .slice pd s.l cd] 28)).alloc (.cells #[.int .i64 ak, .int .i64 ar, .int .i64 an] 41)).alloc (.cells #[.slice none 0 0, .int .i64 0, .slice none 0 0, .slice none 0 0] 28)) w.heap.size 28 (.slice pa s.n ca) (.int .i64 s.t) (.slice pb s.m cb) (.slice pd s.l cd)) := ((Box4.madeAt rfl _ _ _ _ _).alloc _).alloc _
 have Y : Hid (Box3 (((w.alloc (.cells #[.slice pa s.n ca, .int .i64 s.t, .slice pb s.m cb, .slice pd s.l cd] 28)).alloc (.cells #[.int .i64 ak, .int .i64 ar, .int .i64 an] 41)).alloc (.cells #[.slice none 0 0, .int .i64 0, .slice none 0 0, .slice none 0 0] 28)) (w.heap.size + 1) 41 (.int .i64 ak) (.int .i64 ar) (.int .i64 an)) := World.rowIs.alloc (Box3.madeAt (by simp) _ _ _ _) _
 have R0 : Hid (Box4 (((w.alloc (.cells #[.slice pa s.n ca, .int .i64 s.t, .slice pb s.m cb, .slice pd s.l cd] 28)).alloc (.cells #[.int .i64 ak, .int .i64 ar, .int .i64 an] 41)).alloc (.cells #[.slice none 0 0, .int .i64 0, .slice none 0 0, .slice none 0 0] 28)) (w.heap.size + 2) 28 (.slice none 0 0) (.int .i64 0) (.slice none 0 0) (.slice none 0 0)) := Box4.madeAt (by simp) _ _ _ _ _
 have G0 : Hid (∀ u, Below w.heap.size w u → SvV u s ⟨pa, pb, pd, PA, PB, PD, PX, PY, PZ, ca, cb, cd⟩) := fun u hu => h.below hu
 by_cases ok : s.Ok
 ·have SO : Hid (∀ u : World, Below w.heap.size w u → Calls Try.prog 29 #[.agg #[.slice pa s.n ca, .int .i64 s.t, .slice pb s.m cb, .slice pd s.l cd]] u fun e w' => e = .returned (.bool true) ∧ Below u.heap.size u w') := fun u hu => implSvOK_v s ⟨pa, pb, pd, PA, PB, PD, PX, PY, PZ, ca, cb, cd⟩ hmx true (sB_yes ok).symm u (G0.out u hu)
  have OK : Hid s.Ok := ok
  have CP : Hid (∀ u : World, Below w.heap.size w u → Calls Try.prog 30 #[.agg #[.slice pa s.n ca, .int .i64 s.t, .slice pb s.m cb, .slice pd s.l cd]] u fun e w' => RetOw u.heap.size s e w' ∧ Below u.heap.size u w') := fun u hu => copied_any s ⟨pa, pb, pd, PA, PB, PD, PX, PY, PZ, ca, cb, cd⟩ (mxUp (ok_mx ok) (by omega)) u (G0.out u hu) hzp hzo
  have DO : Hid (∀ (B b : Nat) (u : World), B ≤ u.heap.size → SvX NA u B b s → Calls Try.prog 26 #[.pointer (some ⟨b, 0, none⟩), .agg #[.int .i64 ak, .int .i64 ar, .int .i64 an]] u fun e w' => RetSp NA B b s ⟨ak, ar, an⟩ e w' ∧ Blw NA B u w') := fun B b u hB hX => do_v B b s ak ar an ok u hB hX
  clear h hmx ok hzp hzo
  dsimp only
  go_enter Try.func9, Try.ntmps9
  have x0 := X.out.c0
  go_wp2_with fail
  generalize (((w.alloc (.cells #[.slice pa s.n ca, .int .i64 s.t, .slice pb s.m cb, .slice pd s.l cd] 28)).alloc (.cells #[.int .i64 ak, .int .i64 ar, .int .i64 an] 41)).alloc (.cells #[.slice none 0 0, .int .i64 0, .slice none 0 0, .slice none 0 0] 28)) = v at *
  refine (SO.out _ B0.out).mono ?_
  rintro e v1 ⟨rfl, hb⟩
  clear x0
  replace X : Hid (Box4 v1 w.heap.size 28 (.slice pa s.n ca) (.int .i64 s.t) (.slice pb s.m cb) (.slice pd s.l cd)) := X.out.below hb
  replace Y : Hid (Box3 v1 (w.heap.size + 1) 41 (.int .i64 ak) (.int .i64 ar) (.int .i64 an)) := Y.out.below hb
  replace R0 : Hid (Box4 v1 (w.heap.size + 2) 28 (.slice none 0 0) (.int .i64 0) (.slice none 0 0) (.slice none 0 0)) := R0.out.below hb
  replace B0 : Hid (Below w.heap.size w v1) := B0.out.trans (hb.mono B0.out.size)
  clear hb SO
  have x0 := X.out.c0
  have x1 := X.out.c1
  have x2 := X.out.c2
  have x3 := X.out.c3
  go_wp2_with fail
  obtain ⟨B, hB⟩ : ∃ x, x = v1.heap.size := ⟨_, rfl⟩
  have HB : Hid (w.heap.size + 2 < B ∧ w.heap.size ≤ B) := ⟨by rw [hB]; exact R0.out.lt, by rw [hB]; exact B0.out.size⟩
  refine (CP.out _ B0.out).mono ?_
  rintro e v2 ⟨⟨vr, vw, vq, VR, VW, VQ, rfl, hO, hD⟩, hb⟩
  obtain ⟨r1, r2, rfl⟩ := hO.r.form
  obtain ⟨t1, t2, rfl⟩ := hO.x.form
  obtain ⟨q1, q2, rfl⟩ := hO.q.form
  rw [← hB] at hO
  have B2 : B ≤ v2.heap.size := by rw [hB]; exact hb.size
  clear x0 x1 x2 x3
  replace X : Hid (Box4 v2 w.heap.size 28 (.slice pa s.n ca) (.int .i64 s.t) (.slice pb s.m cb) (.slice pd s.l cd)) := X.out.below hb
  replace Y : Hid (Box3 v2 (w.heap.size + 1) 41 (.int .i64 ak) (.int .i64 ar) (.int .i64 an)) := Y.out.below hb
  replace R0 : Hid (Box4 v2 (w.heap.size + 2) 28 (.slice none 0 0) (.int .i64 0) (.slice none 0 0) (.slice none 0 0)) := R0.out.below hb
  replace B0 : Hid (Below w.heap.size w v2) := B0.out.trans (hb.mono B0.out.size)
  have hA : Below v2.heap.size v2 (v2.alloc (.cells #[.slice r1 s.n r2, .int .i64 s.t, .slice t1 s.m t2, .slice q1 s.l q2] 28)) := (Below.refl _ _).alloc (Nat.le_refl _) _
  obtain ⟨nb, hnb⟩ : ∃ x, x = v2.heap.size := ⟨_, rfl⟩
  have S3 : Hid (SvX NA (v2.alloc (.cells #[.slice r1 s.n r2, .int .i64 s.t, .slice t1 s.m t2, .slice q1 s.l q2] 28)) B nb s) := ⟨_, _, _, VR, VW, VQ, by omega, Box4.madeAt hnb.symm _ _ _ _ _, hO.below hA, hD, (SvP.made (by omega) (Box4.madeAt hnb.symm _ _ _ _ _) (hO.below hA) hD).n⟩
  have BV : Hid (B ≤ (v2.alloc (.cells #[.slice r1 s.n r2, .int .i64 s.t, .slice t1 s.m t2, .slice q1 s.l q2] 28)).heap.size) := Nat.le_trans B2 hA.size
  clear hO hD hb CP B2 hB X
  replace Y : Hid (Box3 (v2.alloc (.cells #[.slice r1 s.n r2, .int .i64 s.t, .slice t1 s.m t2, .slice q1 s.l q2] 28)) (w.heap.size + 1) 41 (.int .i64 ak) (.int .i64 ar) (.int .i64 an)) := Y.out.below hA
  replace R0 : Hid (Box4 (v2.alloc (.cells #[.slice r1 s.n r2, .int .i64 s.t, .slice t1 s.m t2, .slice q1 s.l q2] 28)) (w.heap.size + 2) 28 (.slice none 0 0) (.int .i64 0) (.slice none 0 0) (.slice none 0 0)) := R0.out.below hA
  replace B0 : Hid (Below w.heap.size w (v2.alloc (.cells #[.slice r1 s.n r2, .int .i64 s.t, .slice t1 s.m t2, .slice q1 s.l q2] 28))) := B0.out.trans (hA.mono B0.out.size)
  clear hA
  have d0 := Y.out.c0
  have d1 := Y.out.c1
  have d2 := Y.out.c2
  go_wp2_with fail
  rw [← hnb]
  clear hnb
  generalize (v2.alloc (.cells #[.slice r1 s.n r2, .int .i64 s.t, .slice t1 s.m t2, .slice q1 s.l q2] 28)) = v3 at *
  refine (DO.out B nb _ BV.out S3.out).mono ?_
  rintro e v4 ⟨⟨s', c, hst, rfl, hX⟩, hbl⟩
  have HS : Hid (StepS s ⟨ak, ar, an⟩ s' c) := hst
  obtain ⟨ur, uw, uq, UR, UW, UQ, hBn, hx, ho, hd, hn⟩ := hX
  obtain ⟨e1, e2, rfl⟩ := ho.r.form
  obtain ⟨e3, e4, rfl⟩ := ho.x.form
  obtain ⟨e5, e6, rfl⟩ := ho.q.form
  replace R0 : Hid (Box4 v4 (w.heap.size + 2) 28 (.slice none 0 0) (.int .i64 0) (.slice none 0 0) (.slice none 0 0)) := R0.out.ofBlock (hbl.1.block _ HB.out.1)
  replace B0 : Hid (Below w.heap.size w v4) := B0.out.trans (hbl.1.mono HB.out.2)
  replace ho := ho.mono HB.out.2
  clear d0 d1 d2 S3 BV DO hst hn hBn hbl HB Y
  have k0 := hx.c0
  have k1 := hx.c1
  have k2 := hx.c2
  have k3 := hx.c3
  have y0 := R0.out.c0
  have y1 := R0.out.c1
  have y2 := R0.out.c2
  have y3 := R0.out.c3
  have f0 := R0.out.fr 0
  have f1 := R0.out.fr 1
  have f2 := R0.out.fr 2
  have f3 := R0.out.fr 3
  have X9 : Hid (Box4 ((((v4.setCell ⟨w.heap.size + 2, 0, none⟩ (.slice e1 s'.n e2)).setCell ⟨w.heap.size + 2, 1, none⟩ (.int .i64 s'.t)).setCell ⟨w.heap.size + 2, 2, none⟩ (.slice e3 s'.m e4)).setCell ⟨w.heap.size + 2, 3, none⟩ (.slice e5 s'.l e6)) (w.heap.size + 2) 28 (.slice e1 s'.n e2) (.int .i64 s'.t) (.slice e3 s'.m e4) (.slice e5 s'.l e6)) := (((R0.out.set0 _).set1 _).set2 _).set3 _
  have B9 : Hid (Below w.heap.size w ((((v4.setCell ⟨w.heap.size + 2, 0, none⟩ (.slice e1 s'.n e2)).setCell ⟨w.heap.size + 2, 1, none⟩ (.int .i64 s'.t)).setCell ⟨w.heap.size + 2, 2, none⟩ (.slice e3 s'.m e4)).setCell ⟨w.heap.size + 2, 3, none⟩ (.slice e5 s'.l e6))) := below_res B0.out (by omega) _ _ _ _
  have Q9 : Hid (RetSs w.heap.size s ⟨ak, ar, an⟩ (.returned (.tuple #[.agg #[.slice e1 s'.n e2, .int .i64 s'.t, .slice e3 s'.m e4, .slice e5 s'.l e6], .int .i64 c])) ((((v4.setCell ⟨w.heap.size + 2, 0, none⟩ (.slice e1 s'.n e2)).setCell ⟨w.heap.size + 2, 1, none⟩ (.int .i64 s'.t)).setCell ⟨w.heap.size + 2, 2, none⟩ (.slice e3 s'.m e4)).setCell ⟨w.heap.size + 2, 3, none⟩ (.slice e5 s'.l e6))) := ⟨s', c, _, _, _, UR, UW, UQ, rfl, .inl ⟨OK.out, HS.out⟩, ho.res R0.out _ _ _ _, hd⟩
  clear ho hd hx
  go_wp2
  exact ret_cell2 (b := w.heap.size + 2) Try.results9 rfl rfl (Box4.loadsv X9.out) ⟨Q9.out, B9.out⟩
 ·have SO : Hid (∀ u : World, Below w.heap.size w u → Calls Try.prog 29 #[.agg #[.slice pa s.n ca, .int .i64 s.t, .slice pb s.m cb, .slice pd s.l cd]] u fun e w' => e = .returned (.bool false) ∧ Below u.heap.size u w') := fun u hu => implSvOK_v s ⟨pa, pb, pd, PA, PB, PD, PX, PY, PZ, ca, cb, cd⟩ hmx false (sB_no ok).symm u (G0.out u hu)
  have NO : Hid (¬ s.Ok) := ok
  clear h hmx ok hzp hzo
  dsimp only
  go_enter Try.func9, Try.ntmps9
  have x0 := X.out.c0
  go_wp2_with fail
  generalize (((w.alloc (.cells #[.slice pa s.n ca, .int .i64 s.t, .slice pb s.m cb, .slice pd s.l cd] 28)).alloc (.cells #[.int .i64 ak, .int .i64 ar, .int .i64 an] 41)).alloc (.cells #[.slice none 0 0, .int .i64 0, .slice none 0 0, .slice none 0 0] 28)) = v at *
  refine (SO.out _ B0.out).mono ?_
  rintro e v1 ⟨rfl, hb⟩
  clear x0
  replace X : Hid (Box4 v1 w.heap.size 28 (.slice pa s.n ca) (.int .i64 s.t) (.slice pb s.m cb) (.slice pd s.l cd)) := X.out.below hb
  replace Y : Hid (Box3 v1 (w.heap.size + 1) 41 (.int .i64 ak) (.int .i64 ar) (.int .i64 an)) := Y.out.below hb
  replace R0 : Hid (Box4 v1 (w.heap.size + 2) 28 (.slice none 0 0) (.int .i64 0) (.slice none 0 0) (.slice none 0 0)) := R0.out.below hb
  replace B0 : Hid (Below w.heap.size w v1) := B0.out.trans (hb.mono B0.out.size)
  clear hb SO
  have y0 := R0.out.c0
  have y1 := R0.out.c1
  have y2 := R0.out.c2
  have y3 := R0.out.c3
  have f0 := R0.out.fr 0
  have f1 := R0.out.fr 1
  have f2 := R0.out.fr 2
  have f3 := R0.out.fr 3
  have X9 : Hid (Box4 ((((v1.setCell ⟨w.heap.size + 2, 0, none⟩ (.slice none 0 0)).setCell ⟨w.heap.size + 2, 1, none⟩ (.int .i64 0)).setCell ⟨w.heap.size + 2, 2, none⟩ (.slice none 0 0)).setCell ⟨w.heap.size + 2, 3, none⟩ (.slice none 0 0)) (w.heap.size + 2) 28 (.slice none 0 0) (.int .i64 0) (.slice none 0 0) (.slice none 0 0)) := (((R0.out.set0 _).set1 _).set2 _).set3 _
  have B9 : Hid (Below w.heap.size w ((((v1.setCell ⟨w.heap.size + 2, 0, none⟩ (.slice none 0 0)).setCell ⟨w.heap.size + 2, 1, none⟩ (.int .i64 0)).setCell ⟨w.heap.size + 2, 2, none⟩ (.slice none 0 0)).setCell ⟨w.heap.size + 2, 3, none⟩ (.slice none 0 0))) := below_res B0.out (by omega) _ _ _ _
  go_wp2
  exact ret_cell2 (b := w.heap.size + 2) Try.results9 rfl rfl (Box4.loadsv X9.out) ⟨retSs_no NO.out _ _ _, B9.out⟩
end Go.Proofs.Ytedncfcmhaaobaa
