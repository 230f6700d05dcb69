/-
  Texts of the proof, joined: LawServiceRun.
-/
import Derived.Test.YtedncfcmhaaobaaY38
import Derived.Test.YtedncfcmhaaobaaY52
import Derived.Test.YtedncfcmhaaobaaY53
import Derived.Test.YtedncfcmhaaobaaY14
namespace Go.Proofs.Ytedncfcmhaaobaa
open Go.ChangeShapes Go.WideShapes Go.ChangeAt Go.RowKit
set_option linter.unusedVariables false
def qaX (QX : Nat → Qx) (i : Nat) : Qa := ⟨(QX i).k, (QX i).r, (QX i).n⟩
theorem els_qx {w : World} {a : Option Addr} {n : Nat} {QX : Nat → Qx} (h : Els w 3 a n (qxF QX)) : Els w 3 a n (quF (qaX QX)) := h.congr (fun i _ j hj => by rcases (show j = 0 ∨ j = 1 ∨ j = 2 by omega) with rfl | rfl | rfl <;> rfl)
theorem ap_ps {w : World} {B B' m : Nat} {v vr vw vq : Value} {C : Nat → Int} {s : Sv} {VR VW VQ : Nat → Value} (hi : IE w B v m C) (ho : SvO w B' s vr vw vq VR VW VQ) (ap : ApC v s VR VW VQ) (u : Nat) (e : v.ownBlock = some u) : ¬ PS vr vw vq s VR VW VQ u := fun z => by
 obtain ⟨a1, a2, a3⟩ := ap u e
 rcases z with (z | ⟨i, hi2, z⟩) | (z | ⟨i, hi2, z⟩) | (z | ⟨i, hi2, z⟩)
 ·exact EO.apart hi ho.r (by decide) u e z
 ·exact a1 i hi2 z
 ·exact EO.apart hi ho.x (by decide) u e z
 ·exact a2 i hi2 z
 ·exact EO.apart hi ho.q (by decide) u e z
 ·exact a3 i hi2 z
theorem SvO.keepAp {w w' : World} {B B' m : Nat} {v vr vw vq : Value} {C : Nat → Int} {s : Sv} {VR VW VQ : Nat → Value} (ho : SvO w B' s vr vw vq VR VW VQ) (hi : IE w B v m C) (ap : ApC v s VR VW VQ) (hc : ChB (fun u => v.ownBlock = some u) w w') : SvO w' B' s vr vw vq VR VW VQ :=
 ⟨EO.ch ho.r hc (fun u e z => EO.apart hi ho.r (by decide) u z e), EO.ch ho.x hc (fun u e z => EO.apart hi ho.x (by decide) u z e), EO.ch ho.q hc (fun u e z => EO.apart hi ho.q (by decide) u z e), fun i h => EO.ch (ho.e i h) hc (fun u e z => (ap u z).1 i h e), fun i h => EO.ch (ho.a i h) hc (fun u e z => (ap u z).2.1 i h e), fun i h => EO.ch (ho.f i h) hc (fun u e z => (ap u z).2.2 i h e)⟩
set_option maxRecDepth 100000 in
set_option maxHeartbeats 8000000 in
theorem law_serviceRun (n : Int) (aa : Option Addr) (m ac : Nat) (QX : Nat → Qx) (hm : m ≤ maxLen) (w : World) (h : Els w 3 aa m (qxF QX)) :
  Calls Try.prog 5 #[.int .i64 n, .slice aa m ac] w fun e w' => e = .returned (.bool true) ∧ Below w.heap.size w w' := by
 have HE : Hid (∀ u : World, Below w.heap.size w u → Els u 3 aa m (qxF QX)) := fun u hb => h.below hb
 have SZ : Hid (∀ w : World, Calls Try.prog 17 #[.slice aa m ac, .int .i64 1048576] w fun e w' => (∃ y : Int, e = .returned (.int .i64 y) ∧ y ≤ 1048576 ∧ (0 ≤ y → m ≤ 1048576)) ∧ Below w.heap.size w w') := fun w => szQuActS_any aa m ac 1048576 w (by omega) (by omega) hm
 clear h hm
 go_enter Try.func5, Try.ntmps5
 go_wp2_with fail
 refine (SZ.out _).mono ?_
 rintro e v1 ⟨⟨y, rfl, hy1, hy⟩, hb⟩
 have A0 : Hid (Below w.heap.size w v1) := hb
 clear hb SZ
 by_cases hy0 : y < 0
 ·clear hy
  go_wp2
  go_ret
  exact ⟨rfl, A0.out⟩
 have hx : m ≤ 1048576 := hy (by omega)
 have TO : Hid (∀ u : World, Below w.heap.size w u → Calls Try.prog 19 #[.slice aa m ac] u fun e w' => e = .returned (.slice (some ⟨u.heap.size, 0, none⟩) m m) ∧ RowE w' 3 (some ⟨u.heap.size, 0, none⟩) u.heap.size m (qxF QX) ∧ u.heap.size < w'.heap.size ∧ Below u.heap.size u w') := fun u hu => toQuActS_any aa m ac QX u (HE.out u hu) hx
 have EA : Hid (∀ (a b : Option Addr) (c d : Nat) (u : World), Els u 3 a m (qxF QX) → Els u 3 b m (qxF QX) → Calls Try.prog 21 #[.slice a m c, .slice b m d] u fun e w' => e = .returned (.bool true) ∧ Below u.heap.size u w') := fun a b c d u h h' => eqQuActS_yes a b m c d QX u h h' hx
 have MA : Hid (∀ (a : Option Addr) (g c : Nat) (u : World), RowE u 3 a g m (qxF QX) → Calls Try.prog 22 #[.slice a m c, .int .i64 ((1 : Nat) : Int)] u fun e w' => e = .returned (.int .i64 ((1 + 3 * m : Nat) : Int)) ∧ RowE w' 3 a g m (qxF (qxM 1)) ∧ TurnedE g m u w') := fun a g c u h => markQuActK a g m c 1 QX (by omega) (by omega) u h
 have EQ : Hid (∀ (s1 : Sv) (q q' : Sa) (u : World), s1.max 1048576 → SvV u s1 q → SvV u s1 q' → Calls Try.prog 14 #[.agg #[.slice q.a s1.n q.ca, .int .i64 s1.t, .slice q.b s1.m q.cb, .slice q.d s1.l q.cd], .agg #[.slice q'.a s1.n q'.ca, .int .i64 s1.t, .slice q'.b s1.m q'.cb, .slice q'.d s1.l q'.cd]] u fun e w' => e = .returned (.bool true) ∧ Below u.heap.size u w') := fun s1 q q' u hx h h' => eqService_any s1 q q' hx u h h'
 clear hx hy hy1
 go_wp2_with fail
 refine (TO.out _ A0.out).mono ?_
 rintro e v2 ⟨rfl, hr, hlt, hb⟩
 replace A0 : Hid (Below w.heap.size w v2) := A0.out.trans (hb.mono A0.out.size)
 have RR : Hid (Els v2 3 (some ⟨v1.heap.size, 0, none⟩) m (quF (qaX QX))) := els_qx hr.els
 clear hr hlt hb
 go_wp2_with fail
 refine (specRun_x n _ m m (qaX QX) _ RR.out).mono ?_
 rintro e v3 ⟨⟨s1, m1, C, c, q6, UR, UW, UQ, ca, cc0, rfl, hri, how, hic, -⟩, hb⟩
 have RI : Hid (RunIs n m (qaX QX) s1 m1 C c) := hri
 have M1 : Hid (s1.max 300 ∧ m1 ≤ 200) := hri.mx
 have hA : Below v3.heap.size v3 (v3.alloc (.cells #[.slice q6.a s1.n q6.ca, .int .i64 s1.t, .slice q6.b s1.m q6.cb, .slice q6.d s1.l q6.cd] 28)) := (Below.refl _ _).alloc (Nat.le_refl _) _
 replace A0 : Hid (Below w.heap.size w (v3.alloc (.cells #[.slice q6.a s1.n q6.ca, .int .i64 s1.t, .slice q6.b s1.m q6.cb, .slice q6.d s1.l q6.cd] 28))) := A0.out.trans ((hb.trans (hA.mono hb.size)).mono A0.out.size)
 have W6 : Hid (Box4 (v3.alloc (.cells #[.slice q6.a s1.n q6.ca, .int .i64 s1.t, .slice q6.b s1.m q6.cb, .slice q6.d s1.l q6.cd] 28)) v3.heap.size 28 (.slice q6.a s1.n q6.ca) (.int .i64 s1.t) (.slice q6.b s1.m q6.cb) (.slice q6.d s1.l q6.cd)) := Box4.madeAt rfl _ _ _ _ _
 have O6 : Hid (SvV (v3.alloc (.cells #[.slice q6.a s1.n q6.ca, .int .i64 s1.t, .slice q6.b s1.m q6.cb, .slice q6.d s1.l q6.cd] 28)) s1 q6) := how.sv.below hA
 have I6 : Hid (Num (v3.alloc (.cells #[.slice q6.a s1.n q6.ca, .int .i64 s1.t, .slice q6.b s1.m q6.cb, .slice q6.d s1.l q6.cd] 28)) ca m1 C) := (IE.num hic).below hA
 clear hri how hic hb hA RR
 go_wp2_with fail
 obtain ⟨b6, hb6⟩ : ∃ x, x = v3.heap.size := ⟨_, rfl⟩
 generalize (v3.alloc (.cells #[.slice q6.a s1.n q6.ca, .int .i64 s1.t, .slice q6.b s1.m q6.cb, .slice q6.d s1.l q6.cd] 28)) = v5 at *
 rw [← hb6] at W6 ⊢
 clear hb6
 have BZ : Hid (Below v5.heap.size v5 v5) := Below.refl _ _
 obtain ⟨gx, hgx⟩ : ∃ x, x = v5.heap.size := ⟨_, rfl⟩
 refine (TO.out _ A0.out).mono ?_
 rintro e v6 ⟨rfl, hr, hlt, hb⟩
 replace BZ : Hid (Below v5.heap.size v5 v6) := hb
 rw [← hgx] at hr hlt ⊢
 have RX : Hid (RowE v6 3 (some ⟨gx, 0, none⟩) gx m (qxF QX)) := hr
 have LG : Hid (v5.heap.size ≤ gx ∧ gx < v6.heap.size) := ⟨by omega, hlt⟩
 clear hr hlt hb hgx
 go_wp2_with fail
 refine (implRun_x n _ m m (qaX QX) _ (els_qx RX.out.els)).mono ?_
 rintro e v7 ⟨⟨s2, m2, C2, c2, q9, VR, VW, VQ, ga, gc, rfl, hri2, how, hic, hap⟩, hb⟩
 obtain ⟨es, em, ec, eC⟩ := RI.out.uniq hri2
 subst es em ec
 have hic2 : IE v7 v6.heap.size (.slice ga m1 gc) m1 C := IE.congr hic (fun i hi => (eC i hi).symm)
 have AP : Hid (ApC (.slice ga m1 gc) s1 VR VW VQ) := hap
 obtain ⟨B1, hB1⟩ : ∃ x, x = v6.heap.size := ⟨_, rfl⟩
 have LB1 : Hid (v5.heap.size ≤ B1 ∧ gx < B1) := by have := LG.out; have := BZ.out.size; exact ⟨by omega, by omega⟩
 rw [← hB1] at how hic2
 have hA : Below v7.heap.size v7 (v7.alloc (.cells #[.slice q9.a s1.n q9.ca, .int .i64 s1.t, .slice q9.b s1.m q9.cb, .slice q9.d s1.l q9.cd] 28)) := (Below.refl _ _).alloc (Nat.le_refl _) _
 replace BZ : Hid (Below v5.heap.size v5 (v7.alloc (.cells #[.slice q9.a s1.n q9.ca, .int .i64 s1.t, .slice q9.b s1.m q9.cb, .slice q9.d s1.l q9.cd] 28))) := BZ.out.trans ((hb.trans (hA.mono hb.size)).mono BZ.out.size)
 replace RX : Hid (RowE (v7.alloc (.cells #[.slice q9.a s1.n q9.ca, .int .i64 s1.t, .slice q9.b s1.m q9.cb, .slice q9.d s1.l q9.cd] 28)) 3 (some ⟨gx, 0, none⟩) gx m (qxF QX)) := RX.out.below (by omega) (hb.trans (hA.mono hb.size))
 have G9 : Hid (Box4 (v7.alloc (.cells #[.slice q9.a s1.n q9.ca, .int .i64 s1.t, .slice q9.b s1.m q9.cb, .slice q9.d s1.l q9.cd] 28)) v7.heap.size 28 (.slice q9.a s1.n q9.ca) (.int .i64 s1.t) (.slice q9.b s1.m q9.cb) (.slice q9.d s1.l q9.cd)) := Box4.madeAt rfl _ _ _ _ _
 have O9 : Hid (OwP (v7.alloc (.cells #[.slice q9.a s1.n q9.ca, .int .i64 s1.t, .slice q9.b s1.m q9.cb, .slice q9.d s1.l q9.cd] 28)) B1 s1 q9 VR VW VQ) := how.below hA
 have I9 : Hid (IE (v7.alloc (.cells #[.slice q9.a s1.n q9.ca, .int .i64 s1.t, .slice q9.b s1.m q9.cb, .slice q9.d s1.l q9.cd] 28)) B1 (.slice ga m1 gc) m1 C) := EO.below hic2 hA
 have L9 : Hid (B1 ≤ v7.heap.size ∧ B1 ≤ (v7.alloc (.cells #[.slice q9.a s1.n q9.ca, .int .i64 s1.t, .slice q9.b s1.m q9.cb, .slice q9.d s1.l q9.cd] 28)).heap.size) := ⟨by rw [hB1]; exact hb.size, by rw [hB1]; exact Nat.le_trans hb.size hA.size⟩
 have cc : (c != c) = false := by simp
 clear hri2 how hic hap hb eC hic2 hB1 hA
 have k0 := G9.out.c0
 have k1 := G9.out.c1
 have k2 := G9.out.c2
 have k3 := G9.out.c3
 have w6 := W6.out.below BZ.out
 have j0 := w6.c0
 have j1 := w6.c1
 have j2 := w6.c2
 have j3 := w6.c3
 clear w6
 go_wp2_with fail
 clear k0 k1 k2 k3 j0 j1 j2 j3
 obtain ⟨b9, hb9⟩ : ∃ x, x = v7.heap.size := ⟨_, rfl⟩
 generalize (v7.alloc (.cells #[.slice q9.a s1.n q9.ca, .int .i64 s1.t, .slice q9.b s1.m q9.cb, .slice q9.d s1.l q9.cd] 28)) = v8 at *
 rw [← hb9] at G9 L9 ⊢
 clear hb9
 refine (EQ.out s1 q9 q6 _ (mxUp M1.out.1 (by omega)) O9.out.sv (O6.out.below BZ.out)).mono ?_
 rintro e v9 ⟨rfl, hb⟩
 replace BZ : Hid (Below v5.heap.size v5 v9) := BZ.out.trans (hb.mono BZ.out.size)
 replace RX : Hid (RowE v9 3 (some ⟨gx, 0, none⟩) gx m (qxF QX)) := RX.out.below (by omega) hb
 replace G9 : Hid (Box4 v9 b9 28 (.slice q9.a s1.n q9.ca) (.int .i64 s1.t) (.slice q9.b s1.m q9.cb) (.slice q9.d s1.l q9.cd)) := G9.out.below hb
 replace O9 : Hid (OwP v9 B1 s1 q9 VR VW VQ) := O9.out.below hb
 replace I9 : Hid (IE v9 B1 (.slice ga m1 gc) m1 C) := EO.below I9.out hb
 replace L9 : Hid (B1 ≤ b9 ∧ B1 ≤ v9.heap.size) := ⟨L9.out.1, Nat.le_trans L9.out.2 hb.size⟩
 clear hb
 go_wp2_with fail
 refine (eqNum_yes ga ca m1 gc cc0 C _ (IE.num I9.out) (I6.out.below BZ.out) (by have := M1.out.2; omega)).mono ?_
 rintro e va ⟨rfl, hb⟩
 replace BZ : Hid (Below v5.heap.size v5 va) := BZ.out.trans (hb.mono BZ.out.size)
 replace RX : Hid (RowE va 3 (some ⟨gx, 0, none⟩) gx m (qxF QX)) := RX.out.below (by omega) hb
 replace G9 : Hid (Box4 va b9 28 (.slice q9.a s1.n q9.ca) (.int .i64 s1.t) (.slice q9.b s1.m q9.cb) (.slice q9.d s1.l q9.cd)) := G9.out.below hb
 replace O9 : Hid (OwP va B1 s1 q9 VR VW VQ) := O9.out.below hb
 replace I9 : Hid (IE va B1 (.slice ga m1 gc) m1 C) := EO.below I9.out hb
 replace L9 : Hid (B1 ≤ b9 ∧ B1 ≤ va.heap.size) := ⟨L9.out.1, Nat.le_trans L9.out.2 hb.size⟩
 clear hb
 go_wp2_with fail
 refine (TO.out _ (A0.out.trans (BZ.out.mono A0.out.size))).mono ?_
 rintro e vb ⟨rfl, hr, -, hb⟩
 have RF : Hid (Els vb 3 (some ⟨va.heap.size, 0, none⟩) m (qxF QX)) := hr.els
 clear hr
 replace BZ : Hid (Below v5.heap.size v5 vb) := BZ.out.trans (hb.mono BZ.out.size)
 replace RX : Hid (RowE vb 3 (some ⟨gx, 0, none⟩) gx m (qxF QX)) := RX.out.below (by omega) hb
 replace G9 : Hid (Box4 vb b9 28 (.slice q9.a s1.n q9.ca) (.int .i64 s1.t) (.slice q9.b s1.m q9.cb) (.slice q9.d s1.l q9.cd)) := G9.out.below hb
 replace O9 : Hid (OwP vb B1 s1 q9 VR VW VQ) := O9.out.below hb
 replace I9 : Hid (IE vb B1 (.slice ga m1 gc) m1 C) := EO.below I9.out hb
 replace L9 : Hid (B1 ≤ b9 ∧ B1 ≤ vb.heap.size) := ⟨L9.out.1, Nat.le_trans L9.out.2 hb.size⟩
 clear hb
 go_wp2_with fail
 refine (EA.out _ _ _ _ _ RX.out.els RF.out).mono ?_
 rintro e vc ⟨rfl, hb⟩
 clear RF
 replace BZ : Hid (Below v5.heap.size v5 vc) := BZ.out.trans (hb.mono BZ.out.size)
 replace RX : Hid (RowE vc 3 (some ⟨gx, 0, none⟩) gx m (qxF QX)) := RX.out.below (by omega) hb
 replace G9 : Hid (Box4 vc b9 28 (.slice q9.a s1.n q9.ca) (.int .i64 s1.t) (.slice q9.b s1.m q9.cb) (.slice q9.d s1.l q9.cd)) := G9.out.below hb
 replace O9 : Hid (OwP vc B1 s1 q9 VR VW VQ) := O9.out.below hb
 replace I9 : Hid (IE vc B1 (.slice ga m1 gc) m1 C) := EO.below I9.out hb
 replace L9 : Hid (B1 ≤ b9 ∧ B1 ≤ vc.heap.size) := ⟨L9.out.1, Nat.le_trans L9.out.2 hb.size⟩
 clear hb
 go_wp2_with fail
 refine (MA.out _ gx _ _ RX.out).mono ?_
 rintro e vd ⟨rfl, -, ht⟩
 have lb := LB1.out
 have l9 := L9.out
 replace G9 : Hid (Box4 vd b9 28 (.slice q9.a s1.n q9.ca) (.int .i64 s1.t) (.slice q9.b s1.m q9.cb) (.slice q9.d s1.l q9.cd)) := G9.out.ofBlock (ht.1.block _ G9.out.lt (by omega))
 replace O9 : Hid (OwP vd B1 s1 q9 VR VW VQ) := O9.out.keepGe (fun g h1 h2 => ht.1.block g h2 (by omega))
 replace I9 : Hid (IE vd B1 (.slice ga m1 gc) m1 C) := EO.keep I9.out (fun g e => ht.1.block g (EO.ge I9.out g e).2 (by have := (EO.ge I9.out g e).1; omega))
 replace BZ : Hid (Below v5.heap.size v5 vd) := BZ.out.trans (ht.1.toBelow LG.out.1 BZ.out.size)
 replace L9 : Hid (B1 ≤ b9 ∧ B1 ≤ vd.heap.size) := ⟨l9.1, Nat.le_trans l9.2 ht.1.size⟩
 have km0 : ¬ ((1 + 3 * m : Nat) : Int) < 0 := by omega
 clear ht lb l9 RX MA EA
 have k0 := G9.out.c0
 have k1 := G9.out.c1
 have k2 := G9.out.c2
 have k3 := G9.out.c3
 have w6 := W6.out.below BZ.out
 have j0 := w6.c0
 have j1 := w6.c1
 have j2 := w6.c2
 have j3 := w6.c3
 clear w6
 go_wp2_with fail
 clear k0 k1 k2 k3 j0 j1 j2 j3
 clear km0
 refine (EQ.out s1 q9 q6 _ (mxUp M1.out.1 (by omega)) O9.out.sv (O6.out.below BZ.out)).mono ?_
 rintro e ve ⟨rfl, hb⟩
 replace BZ : Hid (Below v5.heap.size v5 ve) := BZ.out.trans (hb.mono BZ.out.size)
 replace G9 : Hid (Box4 ve b9 28 (.slice q9.a s1.n q9.ca) (.int .i64 s1.t) (.slice q9.b s1.m q9.cb) (.slice q9.d s1.l q9.cd)) := G9.out.below hb
 replace O9 : Hid (OwP ve B1 s1 q9 VR VW VQ) := O9.out.below hb
 replace I9 : Hid (IE ve B1 (.slice ga m1 gc) m1 C) := EO.below I9.out hb
 replace L9 : Hid (B1 ≤ b9 ∧ B1 ≤ ve.heap.size) := ⟨L9.out.1, Nat.le_trans L9.out.2 hb.size⟩
 clear hb
 go_wp2_with fail
 refine (eqNum_yes ga ca m1 gc cc0 C _ (IE.num I9.out) (I6.out.below BZ.out) (by have := M1.out.2; omega)).mono ?_
 rintro e vf ⟨rfl, hb⟩
 replace BZ : Hid (Below v5.heap.size v5 vf) := BZ.out.trans (hb.mono BZ.out.size)
 replace G9 : Hid (Box4 vf b9 28 (.slice q9.a s1.n q9.ca) (.int .i64 s1.t) (.slice q9.b s1.m q9.cb) (.slice q9.d s1.l q9.cd)) := G9.out.below hb
 replace O9 : Hid (OwP vf B1 s1 q9 VR VW VQ) := O9.out.below hb
 replace I9 : Hid (IE vf B1 (.slice ga m1 gc) m1 C) := EO.below I9.out hb
 replace L9 : Hid (B1 ≤ b9 ∧ B1 ≤ vf.heap.size) := ⟨L9.out.1, Nat.le_trans L9.out.2 hb.size⟩
 clear hb
 have k0 := G9.out.c0
 have k1 := G9.out.c1
 have k2 := G9.out.c2
 have k3 := G9.out.c3
 go_wp2_with fail
 clear k0 k1 k2 k3
 refine (markSv_c B1 s1 q9 M1.out.1 _ VR VW VQ O9.out.o O9.out.d L9.out.2).mono ?_
 rintro e vg ⟨rfl, hO, hb0, hkb, hcs⟩
 have OM : Hid (SvO vg B1 (mkS s1) (.slice q9.a s1.n q9.ca) (.slice q9.b s1.m q9.cb) (.slice q9.d s1.l q9.cd) VR VW VQ) := hO
 replace G9 : Hid (Box4 vg b9 28 (.slice q9.a s1.n q9.ca) (.int .i64 s1.t) (.slice q9.b s1.m q9.cb) (.slice q9.d s1.l q9.cd)) := hkb _ _ _ _ _ G9.out
 replace I9 : Hid (IE vg B1 (.slice ga m1 gc) m1 C) := EO.ch I9.out hcs (fun u e => ap_ps I9.out O9.out.o AP.out u e)
 replace BZ : Hid (Below v5.heap.size v5 vg) := BZ.out.trans (hb0.mono LB1.out.1)
 replace L9 : Hid (B1 ≤ b9 ∧ B1 ≤ vg.heap.size) := ⟨L9.out.1, Nat.le_trans L9.out.2 hb0.size⟩
 have en := (endS_le M1.out.1).2.2
 have m2 := M1.out.2
 clear hO hb0 hkb hcs O9
 go_wp2_with fail
 refine (markInt_o B1 ga m1 gc (endS s1) C (by omega) (by omega) _ I9.out).mono ?_
 rintro e vh ⟨rfl, hI, hC⟩
 replace OM : Hid (SvO vh B1 (mkS s1) (.slice q9.a s1.n q9.ca) (.slice q9.b s1.m q9.cb) (.slice q9.d s1.l q9.cd) VR VW VQ) := OM.out.keepAp I9.out AP.out hC
 replace G9 : Hid (Box4 vh b9 28 (.slice q9.a s1.n q9.ca) (.int .i64 s1.t) (.slice q9.b s1.m q9.cb) (.slice q9.d s1.l q9.cd)) := G9.out.ch hC (fun e => EO.notB4 I9.out G9.out (by decide) e)
 replace BZ : Hid (Below v5.heap.size v5 vh) := BZ.out.trans ((hC.toBelow (fun u e => (EO.ge I9.out u e).1) L9.out.2).mono LB1.out.1)
 have IM : Hid (IE vh B1 (.slice ga m1 gc) m1 (mkC (endS s1))) := hI
 have n0 : ¬ ((endS s1 : Nat) : Int) < 0 := by omega
 have n1 : ¬ ((endS s1 + m1 : Nat) : Int) < 0 := by omega
 have ne : (((endS s1 + m1 : Nat) : Int) != ((endS s1 + m1 : Nat) : Int)) = false := by simp
 have HB : Hid (endS s1 + m1 ≤ 10000000) := by show _ ≤ _; omega
 clear hI hC I9 L9 LB1 AP en m2
 have k0 := G9.out.c0
 have k1 := G9.out.c1
 have k2 := G9.out.c2
 have k3 := G9.out.c3
 go_wp2_with fail
 clear k0 k1 k2 k3
 refine (OwP.held M1.out.1 OM.out).mono ?_
 rintro e vi ⟨rfl, hb⟩
 replace BZ : Hid (Below v5.heap.size v5 vi) := BZ.out.trans (hb.mono BZ.out.size)
 replace G9 : Hid (Box4 vi b9 28 (.slice q9.a s1.n q9.ca) (.int .i64 s1.t) (.slice q9.b s1.m q9.cb) (.slice q9.d s1.l q9.cd)) := G9.out.below hb
 replace OM : Hid (SvO vi B1 (mkS s1) (.slice q9.a s1.n q9.ca) (.slice q9.b s1.m q9.cb) (.slice q9.d s1.l q9.cd) VR VW VQ) := OM.out.below hb
 replace IM : Hid (IE vi B1 (.slice ga m1 gc) m1 (mkC (endS s1))) := EO.below IM.out hb
 clear hb
 go_wp2_with fail
 refine (heldIntK ga m1 gc (endS s1) HB.out _ (IE.num IM.out)).mono ?_
 rintro e vj ⟨rfl, hb⟩
 replace BZ : Hid (Below v5.heap.size v5 vj) := BZ.out.trans (hb.mono BZ.out.size)
 replace G9 : Hid (Box4 vj b9 28 (.slice q9.a s1.n q9.ca) (.int .i64 s1.t) (.slice q9.b s1.m q9.cb) (.slice q9.d s1.l q9.cd)) := G9.out.below hb
 replace OM : Hid (SvO vj B1 (mkS s1) (.slice q9.a s1.n q9.ca) (.slice q9.b s1.m q9.cb) (.slice q9.d s1.l q9.cd) VR VW VQ) := OM.out.below hb
 replace IM : Hid (IE vj B1 (.slice ga m1 gc) m1 (mkC (endS s1))) := EO.below IM.out hb
 clear hb
 go_wp2_with fail
 refine (TO.out _ (A0.out.trans (BZ.out.mono A0.out.size))).mono ?_
 rintro e vk ⟨rfl, hr, -, hb⟩
 have RF : Hid (Els vk 3 (some ⟨vj.heap.size, 0, none⟩) m (quF (qaX QX))) := els_qx hr.els
 clear hr
 replace BZ : Hid (Below v5.heap.size v5 vk) := BZ.out.trans (hb.mono BZ.out.size)
 replace G9 : Hid (Box4 vk b9 28 (.slice q9.a s1.n q9.ca) (.int .i64 s1.t) (.slice q9.b s1.m q9.cb) (.slice q9.d s1.l q9.cd)) := G9.out.below hb
 replace OM : Hid (SvO vk B1 (mkS s1) (.slice q9.a s1.n q9.ca) (.slice q9.b s1.m q9.cb) (.slice q9.d s1.l q9.cd) VR VW VQ) := OM.out.below hb
 replace IM : Hid (IE vk B1 (.slice ga m1 gc) m1 (mkC (endS s1))) := EO.below IM.out hb
 clear hb
 go_wp2_with fail
 refine (implRun_x n _ m m (qaX QX) _ RF.out).mono ?_
 rintro e vl ⟨⟨s2, m2, C2, c2, q14, WR, WW, WQ, ha, hc, rfl, hri2, how, hic, -⟩, hb⟩
 obtain ⟨es, em, ec, eC⟩ := RI.out.uniq hri2
 subst es em ec
 have hA : Below vl.heap.size vl (vl.alloc (.cells #[.slice q14.a s1.n q14.ca, .int .i64 s1.t, .slice q14.b s1.m q14.cb, .slice q14.d s1.l q14.cd] 28)) := (Below.refl _ _).alloc (Nat.le_refl _) _
 have V14 : Hid (SvV (vl.alloc (.cells #[.slice q14.a s1.n q14.ca, .int .i64 s1.t, .slice q14.b s1.m q14.cb, .slice q14.d s1.l q14.cd] 28)) s1 q14) := how.sv.below hA
 have I14 : Hid (Num (vl.alloc (.cells #[.slice q14.a s1.n q14.ca, .int .i64 s1.t, .slice q14.b s1.m q14.cb, .slice q14.d s1.l q14.cd] 28)) ha m1 C) := (IE.num (IE.congr hic (fun i hi => (eC i hi).symm))).below hA
 have G14 : Hid (Box4 (vl.alloc (.cells #[.slice q14.a s1.n q14.ca, .int .i64 s1.t, .slice q14.b s1.m q14.cb, .slice q14.d s1.l q14.cd] 28)) vl.heap.size 28 (.slice q14.a s1.n q14.ca) (.int .i64 s1.t) (.slice q14.b s1.m q14.cb) (.slice q14.d s1.l q14.cd)) := Box4.madeAt rfl _ _ _ _ _
 replace hb := hb.trans (hA.mono hb.size)
 clear hri2 how hic eC hA RF
 replace BZ : Hid (Below v5.heap.size v5 (vl.alloc (.cells #[.slice q14.a s1.n q14.ca, .int .i64 s1.t, .slice q14.b s1.m q14.cb, .slice q14.d s1.l q14.cd] 28))) := BZ.out.trans (hb.mono BZ.out.size)
 replace G9 : Hid (Box4 (vl.alloc (.cells #[.slice q14.a s1.n q14.ca, .int .i64 s1.t, .slice q14.b s1.m q14.cb, .slice q14.d s1.l q14.cd] 28)) b9 28 (.slice q9.a s1.n q9.ca) (.int .i64 s1.t) (.slice q9.b s1.m q9.cb) (.slice q9.d s1.l q9.cd)) := G9.out.below hb
 replace OM : Hid (SvO (vl.alloc (.cells #[.slice q14.a s1.n q14.ca, .int .i64 s1.t, .slice q14.b s1.m q14.cb, .slice q14.d s1.l q14.cd] 28)) B1 (mkS s1) (.slice q9.a s1.n q9.ca) (.slice q9.b s1.m q9.cb) (.slice q9.d s1.l q9.cd) VR VW VQ) := OM.out.below hb
 replace IM : Hid (IE (vl.alloc (.cells #[.slice q14.a s1.n q14.ca, .int .i64 s1.t, .slice q14.b s1.m q14.cb, .slice q14.d s1.l q14.cd] 28)) B1 (.slice ga m1 gc) m1 (mkC (endS s1))) := EO.below IM.out hb
 clear hb
 have k0 := G14.out.c0
 have k1 := G14.out.c1
 have k2 := G14.out.c2
 have k3 := G14.out.c3
 have w6 := W6.out.below BZ.out
 have j0 := w6.c0
 have j1 := w6.c1
 have j2 := w6.c2
 have j3 := w6.c3
 clear w6
 go_wp2_with fail
 clear k0 k1 k2 k3 j0 j1 j2 j3
 generalize (vl.alloc (.cells #[.slice q14.a s1.n q14.ca, .int .i64 s1.t, .slice q14.b s1.m q14.cb, .slice q14.d s1.l q14.cd] 28)) = vm at *
 refine (EQ.out s1 q14 q6 _ (mxUp M1.out.1 (by omega)) V14.out (O6.out.below BZ.out)).mono ?_
 rintro e vn ⟨rfl, hb⟩
 replace I14 : Hid (Num vn ha m1 C) := I14.out.below hb
 replace BZ : Hid (Below v5.heap.size v5 vn) := BZ.out.trans (hb.mono BZ.out.size)
 replace G9 : Hid (Box4 vn b9 28 (.slice q9.a s1.n q9.ca) (.int .i64 s1.t) (.slice q9.b s1.m q9.cb) (.slice q9.d s1.l q9.cd)) := G9.out.below hb
 replace OM : Hid (SvO vn B1 (mkS s1) (.slice q9.a s1.n q9.ca) (.slice q9.b s1.m q9.cb) (.slice q9.d s1.l q9.cd) VR VW VQ) := OM.out.below hb
 replace IM : Hid (IE vn B1 (.slice ga m1 gc) m1 (mkC (endS s1))) := EO.below IM.out hb
 clear hb
 go_wp2_with fail
 refine (eqNum_yes ha ca m1 hc cc0 C _ I14.out (I6.out.below BZ.out) (by have := M1.out.2; omega)).mono ?_
 rintro e vo ⟨rfl, hb⟩
 replace BZ : Hid (Below v5.heap.size v5 vo) := BZ.out.trans (hb.mono BZ.out.size)
 replace G9 : Hid (Box4 vo b9 28 (.slice q9.a s1.n q9.ca) (.int .i64 s1.t) (.slice q9.b s1.m q9.cb) (.slice q9.d s1.l q9.cd)) := G9.out.below hb
 replace OM : Hid (SvO vo B1 (mkS s1) (.slice q9.a s1.n q9.ca) (.slice q9.b s1.m q9.cb) (.slice q9.d s1.l q9.cd) VR VW VQ) := OM.out.below hb
 replace IM : Hid (IE vo B1 (.slice ga m1 gc) m1 (mkC (endS s1))) := EO.below IM.out hb
 clear hb
 clear G14 V14 I14 W6 O6 I6 EQ
 have k0 := G9.out.c0
 have k1 := G9.out.c1
 have k2 := G9.out.c2
 have k3 := G9.out.c3
 go_wp2_with fail
 clear k0 k1 k2 k3
 refine (OwP.held M1.out.1 OM.out).mono ?_
 rintro e vp ⟨rfl, hb⟩
 replace BZ : Hid (Below v5.heap.size v5 vp) := BZ.out.trans (hb.mono BZ.out.size)
 replace G9 : Hid (Box4 vp b9 28 (.slice q9.a s1.n q9.ca) (.int .i64 s1.t) (.slice q9.b s1.m q9.cb) (.slice q9.d s1.l q9.cd)) := G9.out.below hb
 replace OM : Hid (SvO vp B1 (mkS s1) (.slice q9.a s1.n q9.ca) (.slice q9.b s1.m q9.cb) (.slice q9.d s1.l q9.cd) VR VW VQ) := OM.out.below hb
 replace IM : Hid (IE vp B1 (.slice ga m1 gc) m1 (mkC (endS s1))) := EO.below IM.out hb
 clear hb
 go_wp2_with fail
 refine (heldIntK ga m1 gc (endS s1) HB.out _ (IE.num IM.out)).mono ?_
 rintro e vq ⟨rfl, hb⟩
 replace BZ : Hid (Below v5.heap.size v5 vq) := BZ.out.trans (hb.mono BZ.out.size)
 replace G9 : Hid (Box4 vq b9 28 (.slice q9.a s1.n q9.ca) (.int .i64 s1.t) (.slice q9.b s1.m q9.cb) (.slice q9.d s1.l q9.cd)) := G9.out.below hb
 replace OM : Hid (SvO vq B1 (mkS s1) (.slice q9.a s1.n q9.ca) (.slice q9.b s1.m q9.cb) (.slice q9.d s1.l q9.cd) VR VW VQ) := OM.out.below hb
 replace IM : Hid (IE vq B1 (.slice ga m1 gc) m1 (mkC (endS s1))) := EO.below IM.out hb
 clear hb
 have AF : Hid (Below w.heap.size w vq) := A0.out.trans (BZ.out.mono A0.out.size)
 clear G9 OM IM BZ TO A0 HE RI M1
 go_wp2
 go_ret
 exact ⟨rfl, AF.out⟩
end Go.Proofs.Ytedncfcmhaaobaa
