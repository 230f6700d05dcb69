/-
  Texts of the proof, joined: LawServiceStep.
-/
import Derived.Test.YtedncfcmhaaobaaZ44
import Derived.Test.YtedncfcmhaaobaaZ45
import Derived.Test.YtedncfcmhaaobaaZ49
import Derived.Test.YtedncfcmhaaobaaZ52
import Derived.Test.YtedncfcmhaaobaaZ53
import Derived.Deep.DeepCutAuto
import Derived.Test.YtedncfcmhaaobaaTkH
namespace Go.Proofs.Ytedncfcmhaaobaa
open Go.ChangeShapes Go.WideShapes Go.ChangeAt Go.RowKit
set_option linter.unusedVariables false
set_option maxRecDepth 100000 in
set_option maxHeartbeats 8000000 in
theorem law_serviceStep (s : Sv) (p : Sa) (ak ar an : Int) (hm : s.max maxLen) (w : World) (h : SvV w s p) :
  Calls Try.prog 4 #[.agg #[.slice p.a s.n p.ca, .int .i64 s.t, .slice p.b s.m p.cb, .slice p.d s.l p.cd], .agg #[.int .i64 ak, .int .i64 ar, .int .i64 an]] w fun e w' => e = .returned (.bool true) ∧ Below w.heap.size w w' := by
 have A0 : Hid (Below w.heap.size w ((w.alloc (.cells #[.slice p.a s.n p.ca, .int .i64 s.t, .slice p.b s.m p.cb, .slice p.d s.l p.cd] 49)).alloc (.cells #[.int .i64 ak, .int .i64 ar, .int .i64 an] 50))) := ((Below.refl _ _).alloc (Nat.le_refl _) _).alloc (by simp) _
 have X : Hid (Box4 ((w.alloc (.cells #[.slice p.a s.n p.ca, .int .i64 s.t, .slice p.b s.m p.cb, .slice p.d s.l p.cd] 49)).alloc (.cells #[.int .i64 ak, .int .i64 ar, .int .i64 an] 50)) w.heap.size 49 (.slice p.a s.n p.ca) (.int .i64 s.t) (.slice p.b s.m p.cb) (.slice p.d s.l p.cd)) := (Box4.madeAt rfl _ _ _ _ _).alloc _
 have Y : Hid (Box3 ((w.alloc (.cells #[.slice p.a s.n p.ca, .int .i64 s.t, .slice p.b s.m p.cb, .slice p.d s.l p.cd] 49)).alloc (.cells #[.int .i64 ak, .int .i64 ar, .int .i64 an] 50)) (w.heap.size + 1) 50 (.int .i64 ak) (.int .i64 ar) (.int .i64 an)) := Box3.madeAt (by simp) _ _ _ _
 have HE : Hid (∀ u : World, Below w.heap.size w u → SvV u s p) := fun u hb => h.below hb
 have SZ : Hid (∀ w : World, SvV w s p → Calls Try.prog 11 #[.agg #[.slice p.a s.n p.ca, .int .i64 s.t, .slice p.b s.m p.cb, .slice p.d s.l p.cd], .int .i64 1048576] w fun e w' => (∃ y : Int, e = .returned (.int .i64 y) ∧ (0 ≤ y → s.max 1048576)) ∧ Below w.heap.size w w') := fun w h => szService_any s p w h hm
 clear h hm
 go_enter Try.func4, Try.ntmps4
 have k0 := X.out.c0
 have k1 := X.out.c1
 have k2 := X.out.c2
 have k3 := X.out.c3
 go_wp2_with fail
 clear k0 k1 k2 k3
 generalize ((w.alloc (.cells #[.slice p.a s.n p.ca, .int .i64 s.t, .slice p.b s.m p.cb, .slice p.d s.l p.cd] 49)).alloc (.cells #[.int .i64 ak, .int .i64 ar, .int .i64 an] 50)) = v0 at *
 refine (SZ.out _ (HE.out _ A0.out)).mono ?_
 rintro e v1 ⟨⟨y, rfl, hy⟩, hb⟩
 replace A0 : Hid (Below w.heap.size w v1) := A0.out.trans (hb.mono A0.out.size)
 replace X : Hid (Box4 v1 w.heap.size 49 (.slice p.a s.n p.ca) (.int .i64 s.t) (.slice p.b s.m p.cb) (.slice p.d s.l p.cd)) := X.out.below hb
 replace Y : Hid (Box3 v1 (w.heap.size + 1) 50 (.int .i64 ak) (.int .i64 ar) (.int .i64 an)) := Y.out.below hb
 clear hb SZ
 by_cases hy0 : y < 0
 ·clear hy
  go_wp2
  go_ret
  exact ⟨rfl, A0.out⟩
 have hx : s.max 1048576 := hy (by omega)
 have MX : Hid (s.max 1048576) := hx
 have TX : Hid (∀ u : World, Below w.heap.size w u → Calls Try.prog 12 #[.agg #[.slice p.a s.n p.ca, .int .i64 s.t, .slice p.b s.m p.cb, .slice p.d s.l p.cd]] u fun e w' => (∃ (ga gb gd : Nat) (VA VB VD : Nat → Nat), e = .returned (.agg #[.slice (some ⟨ga, 0, none⟩) s.n s.n, .int .i64 s.t, .slice (some ⟨gb, 0, none⟩) s.m s.m, .slice (some ⟨gd, 0, none⟩) s.l s.l]) ∧ CpS w' u.heap.size s ga gb gd VA VB VD ∧ OrdS s ga gb gd VA VB) ∧ Below u.heap.size u w') := fun u hu => (toService_ord s p hx u (HE.out u hu)).mono fun e w' q => by
  obtain ⟨⟨ga, gb, gd, VA, VB, VD, he, h1, h2, h3, h4⟩, hb⟩ := q
  exact ⟨⟨ga, gb, gd, VA, VB, VD, he, ⟨h1, h2, h3⟩, h4⟩, hb⟩
 have EQ : Hid (∀ (s1 : Sv) (q q' : Sa) (u : World), s1.max 1048576 → SvV u s1 q → SvV u s1 q' → Calls Try.prog 14 #[.agg #[.slice q.a s1.n q.ca, .int .i64 s1.t, .slice q.b s1.m q.cb, .slice q.d s1.l q.cd], .agg #[.slice q'.a s1.n q'.ca, .int .i64 s1.t, .slice q'.b s1.m q'.cb, .slice q'.d s1.l q'.cd]] u fun e w' => e = .returned (.bool true) ∧ Below u.heap.size u w') := fun s1 q q' u hx h h' => eqService_any s1 q q' hx u h h'
 have MK : Hid (∀ (ga gb gd B S : Nat) (VA VB VD : Nat → Nat) (w : World), CpS w B s ga gb gd VA VB VD → OrdS s ga gb gd VA VB → (gd < S ∧ ∀ j, j < s.l → VD j < S) → S ≤ w.heap.size → Calls Try.prog 15 #[.agg #[.slice (some ⟨ga, 0, none⟩) s.n s.n, .int .i64 s.t, .slice (some ⟨gb, 0, none⟩) s.m s.m, .slice (some ⟨gd, 0, none⟩) s.l s.l], .int .i64 1] w fun e w' => (∃ k : Nat, e = .returned (.int .i64 (k : Int))) ∧ MidK B S w w') := fun ga gb gd B S VA VB VD w h1 h4 h5 h6 => markService_any s ga gb gd B S VA VB VD hx w h1.a h1.b h1.d h4 h5 h6
 clear hx hy
 go_wp2_with fail
 go_cut [6, 7] (fun pv cv wx => ∃ (b6 : Nat) (s1 : Sv) (c : Int) (q6 : Sa) (UR UW UQ : Nat → Value), pv = .pointer (some ⟨b6, 0, none⟩) ∧ cv = .int .i64 c ∧ StIs s ⟨ak, ar, an⟩ s1 c ∧ Box4 wx b6 28 (.slice q6.a s1.n q6.ca) (.int .i64 s1.t) (.slice q6.b s1.m q6.cb) (.slice q6.d s1.l q6.cd) ∧ OwP wx w.heap.size s1 q6 UR UW UQ ∧ Below v1.heap.size v1 wx)
 case first =>
  have H : Below v1.heap.size v1 v1.drew := (Below.refl _ _).drew
  refine wp_region_noPanic ?_
  refine wp_region_held_drew (S := fun w' => Below v1.heap.size v1 w') (by kernel_rfl) H (fun _ => ?_)
  generalize v1.drew = y0 at *
  refine tkH (i := 0) (v := .agg #[.slice p.a s.n p.ca, .int .i64 s.t, .slice p.b s.m p.cb, .slice p.d s.l p.cd]) rfl (by kernel_rfl) (by rfl) ?_ H ?_
  ·intro w' hSw; have h9 := X.out.below (hSw); have c0 := h9.c0; have c1 := h9.c1; have c2 := h9.c2; have c3 := h9.c3; clear h9 hSw; go_simp
  refine tkH (i := 2) (v := .agg #[.int .i64 ak, .int .i64 ar, .int .i64 an]) rfl (by kernel_rfl) (by rfl) ?_ H ?_
  ·intro w' hSw; have h9 := Y.out.below (hSw); have c0 := h9.c0; have c1 := h9.c1; have c2 := h9.c2; clear h9 hSw; go_simp
  change wpAnyH _ _ _ _ _ _ _ { tmps := #[_,_,_,_,_,_,_,_,_,_,_,_,_,_,_,_,_,_,_,_,_,_,_,_,_,_,_,_,_,_,_,_,_,_,_,_,_,_,_,_,_,_,_,_,_,_,_,_,_,_,_,_,_,_,_,_,_,_,_,_,_,_,_,_,_,_,_,_,_,_,_,_,_,_,_,_,_,_,_,_,_,_,_,_,_,_,_,_,_,_,_,_,_,_,_,_,_,_,_,_,_,_,_,_], defers := _ } _
  refine wpAnyH_ready (rs := [1, 8]) (by kernel_rfl) (by simp) ?_
  refine (AllReadyH.cons rfl (fun KK hK => ?b1) (AllReadyH.cons rfl (fun KK hK => ?b2) AllReadyH.nil))
  case' b1 =>
   go_simp
   refine (TX.out y0 (A0.out.trans ((H).mono A0.out.size))).mono ?_
   rintro e y1 ⟨⟨ga, gb, gd, VA, VB, VD, rfl, hc, ho⟩, hb⟩
   replace hc : CpS y1 w.heap.size s ga gb gd VA VB VD := ⟨⟨⟨Nat.le_trans (Nat.le_trans A0.out.size H.size) hc.a.1.1, hc.a.1.2⟩, hc.a.2⟩, ⟨⟨Nat.le_trans (Nat.le_trans A0.out.size H.size) hc.b.1.1, hc.b.1.2⟩, hc.b.2⟩, ⟨⟨Nat.le_trans (Nat.le_trans A0.out.size H.size) hc.d.1.1, hc.d.1.2⟩, hc.d.2⟩⟩
   replace H : Below v1.heap.size v1 y1 := H.trans (hb.mono H.size)
   have CP : Hid (CpS y1 w.heap.size s ga gb gd VA VB VD) := hc
   clear hb hc ho
   refine hK.out _ _ H (fun _ => ?_)
   clear hK KK
   change wpAnyH _ _ _ _ _ _ _ { tmps := #[_,_,_,_,_,_,_,_,_,_,_,_,_,_,_,_,_,_,_,_,_,_,_,_,_,_,_,_,_,_,_,_,_,_,_,_,_,_,_,_,_,_,_,_,_,_,_,_,_,_,_,_,_,_,_,_,_,_,_,_,_,_,_,_,_,_,_,_,_,_,_,_,_,_,_,_,_,_,_,_,_,_,_,_,_,_,_,_,_,_,_,_,_,_,_,_,_,_,_,_,_,_,_,_], defers := _ } _
   refine wpAnyH_ready (rs := [3, 8]) (by kernel_rfl) (by simp) ?_
   refine (AllReadyH.cons rfl (fun KK hK => ?b3) (AllReadyH.cons rfl (fun KK hK => ?b4) AllReadyH.nil))
   case' b3 =>
    go_simp
    refine (toQuAct_any ak ar an y1).mono ?_
    rintro e y2 ⟨rfl, hb⟩
    replace CP : Hid (CpS y2 w.heap.size s ga gb gd VA VB VD) := CP.out.below hb
    replace H : Below v1.heap.size v1 y2 := H.trans (hb.mono H.size)
    clear hb
    refine hK.out _ _ H (fun _ => ?_)
    clear hK KK
    change wpAnyH _ _ _ _ _ _ _ { tmps := #[_,_,_,_,_,_,_,_,_,_,_,_,_,_,_,_,_,_,_,_,_,_,_,_,_,_,_,_,_,_,_,_,_,_,_,_,_,_,_,_,_,_,_,_,_,_,_,_,_,_,_,_,_,_,_,_,_,_,_,_,_,_,_,_,_,_,_,_,_,_,_,_,_,_,_,_,_,_,_,_,_,_,_,_,_,_,_,_,_,_,_,_,_,_,_,_,_,_,_,_,_,_,_,_], defers := _ } _
    refine wpAnyH_ready (rs := [4, 8]) (by kernel_rfl) (by simp) ?_
    refine (AllReadyH.cons rfl (fun KK hK => ?b5) (AllReadyH.cons rfl (fun KK hK => ?b6) AllReadyH.nil))
    case' b5 =>
     go_simp
     refine (specStep_v s (saOf s ga gb gd VA VB VD) ak ar an MX.out y2 CP.out.v (saOf_z s ga gb gd VA VB VD).1 (saOf_z s ga gb gd VA VB VD).2).mono ?_
     rintro e y3 ⟨h9, hb⟩
     replace CP : Hid (CpS y3 w.heap.size s ga gb gd VA VB VD) := CP.out.below hb
     replace h9 := RetSs.mono h9 (Nat.le_trans A0.out.size H.size)
     obtain ⟨s1, c, q6, UR, UW, UQ, rfl, hst, how⟩ := h9.ow
     have ST : Hid (StIs s ⟨ak, ar, an⟩ s1 c) := hst
     replace H : Below v1.heap.size v1 y3 := H.trans (hb.mono H.size)
     have OW : Hid (OwP y3 w.heap.size s1 q6 UR UW UQ) := how
     clear hb hst how
     refine hK.out _ _ H (fun _ => ?_)
     clear hK KK
     refine tkH (i := 5) (v := .tuple #[.agg #[.slice q6.a s1.n q6.ca, .int .i64 s1.t, .slice q6.b s1.m q6.cb, .slice q6.d s1.l q6.cd], .int .i64 c]) rfl (by kernel_rfl) (by rfl) ?_ H ?_
     ·intro w' hSw; clear hSw; go_simp
     refine tkH (i := 6) (v := .agg #[.slice q6.a s1.n q6.ca, .int .i64 s1.t, .slice q6.b s1.m q6.cb, .slice q6.d s1.l q6.cd]) rfl (by kernel_rfl) (by rfl) ?_ H ?_
     ·intro w' hSw; clear hSw; go_simp
     change wpAnyH _ _ _ _ _ _ _ { tmps := #[_,_,_,_,_,_,_,_,_,_,_,_,_,_,_,_,_,_,_,_,_,_,_,_,_,_,_,_,_,_,_,_,_,_,_,_,_,_,_,_,_,_,_,_,_,_,_,_,_,_,_,_,_,_,_,_,_,_,_,_,_,_,_,_,_,_,_,_,_,_,_,_,_,_,_,_,_,_,_,_,_,_,_,_,_,_,_,_,_,_,_,_,_,_,_,_,_,_,_,_,_,_,_,_], defers := _ } _
     refine tkH (i := 7) (v := .int .i64 c) rfl (by kernel_rfl) (by rfl) ?_ H ?_
     ·intro w' hSw; clear hSw; go_simp
     change wpAnyH _ _ _ _ _ _ _ { tmps := #[_,_,_,_,_,_,_,_,_,_,_,_,_,_,_,_,_,_,_,_,_,_,_,_,_,_,_,_,_,_,_,_,_,_,_,_,_,_,_,_,_,_,_,_,_,_,_,_,_,_,_,_,_,_,_,_,_,_,_,_,_,_,_,_,_,_,_,_,_,_,_,_,_,_,_,_,_,_,_,_,_,_,_,_,_,_,_,_,_,_,_,_,_,_,_,_,_,_,_,_,_,_,_,_], defers := _ } _
     refine rdH (i := 8) (by kernel_rfl) rfl (fun KK hK => ?_)
     go_simp
     have hb : Below y3.heap.size y3 (y3.alloc (.cells #[.slice none 0 0, .int .i64 0, .slice none 0 0, .slice none 0 0] 28)) := (Below.refl _ _).alloc (Nat.le_refl _) _
     have PX9 : Hid (Box4 (y3.alloc (.cells #[.slice none 0 0, .int .i64 0, .slice none 0 0, .slice none 0 0] 28)) y3.heap.size 28 (.slice none 0 0) (.int .i64 0) (.slice none 0 0) (.slice none 0 0)) := Box4.madeAt rfl _ _ _ _ _
     have Lxb : Hid (v1.heap.size ≤ y3.heap.size) := H.size
     replace CP : Hid (CpS (y3.alloc (.cells #[.slice none 0 0, .int .i64 0, .slice none 0 0, .slice none 0 0] 28)) w.heap.size s ga gb gd VA VB VD) := CP.out.below hb
     replace OW : Hid (OwP (y3.alloc (.cells #[.slice none 0 0, .int .i64 0, .slice none 0 0, .slice none 0 0] 28)) w.heap.size s1 q6 UR UW UQ) := OW.out.below hb
     replace H : Below v1.heap.size v1 (y3.alloc (.cells #[.slice none 0 0, .int .i64 0, .slice none 0 0, .slice none 0 0] 28)) := H.trans (hb.mono H.size)
     clear hb
     refine hK.out _ _ H (fun _ => ?_)
     clear hK KK
     generalize (y3.alloc (.cells #[.slice none 0 0, .int .i64 0, .slice none 0 0, .slice none 0 0] 28)) = y4 at *
     generalize y3.heap.size = xb at *
     change wpAnyH _ _ _ _ _ _ _ { tmps := #[_,_,_,_,_,_,_,_,_,_,_,_,_,_,_,_,_,_,_,_,_,_,_,_,_,_,_,_,_,_,_,_,_,_,_,_,_,_,_,_,_,_,_,_,_,_,_,_,_,_,_,_,_,_,_,_,_,_,_,_,_,_,_,_,_,_,_,_,_,_,_,_,_,_,_,_,_,_,_,_,_,_,_,_,_,_,_,_,_,_,_,_,_,_,_,_,_,_,_,_,_,_,_,_], defers := _ } _
    case' b6 =>
     go_simp
     have hb : Below y2.heap.size y2 (y2.alloc (.cells #[.slice none 0 0, .int .i64 0, .slice none 0 0, .slice none 0 0] 28)) := (Below.refl _ _).alloc (Nat.le_refl _) _
     have PX9 : Hid (Box4 (y2.alloc (.cells #[.slice none 0 0, .int .i64 0, .slice none 0 0, .slice none 0 0] 28)) y2.heap.size 28 (.slice none 0 0) (.int .i64 0) (.slice none 0 0) (.slice none 0 0)) := Box4.madeAt rfl _ _ _ _ _
     have Lxb : Hid (v1.heap.size ≤ y2.heap.size) := H.size
     replace CP : Hid (CpS (y2.alloc (.cells #[.slice none 0 0, .int .i64 0, .slice none 0 0, .slice none 0 0] 28)) w.heap.size s ga gb gd VA VB VD) := CP.out.below hb
     replace H : Below v1.heap.size v1 (y2.alloc (.cells #[.slice none 0 0, .int .i64 0, .slice none 0 0, .slice none 0 0] 28)) := H.trans (hb.mono H.size)
     clear hb
     refine hK.out _ _ H (fun _ => ?_)
     clear hK KK
     generalize (y2.alloc (.cells #[.slice none 0 0, .int .i64 0, .slice none 0 0, .slice none 0 0] 28)) = y3 at *
     generalize y2.heap.size = xb at *
     change wpAnyH _ _ _ _ _ _ _ { tmps := #[_,_,_,_,_,_,_,_,_,_,_,_,_,_,_,_,_,_,_,_,_,_,_,_,_,_,_,_,_,_,_,_,_,_,_,_,_,_,_,_,_,_,_,_,_,_,_,_,_,_,_,_,_,_,_,_,_,_,_,_,_,_,_,_,_,_,_,_,_,_,_,_,_,_,_,_,_,_,_,_,_,_,_,_,_,_,_,_,_,_,_,_,_,_,_,_,_,_,_,_,_,_,_,_], defers := _ } _
     refine rdH (i := 4) (by kernel_rfl) rfl (fun KK hK => ?_)
     go_simp
     refine (specStep_v s (saOf s ga gb gd VA VB VD) ak ar an MX.out y3 CP.out.v (saOf_z s ga gb gd VA VB VD).1 (saOf_z s ga gb gd VA VB VD).2).mono ?_
     rintro e y4 ⟨h9, hb⟩
     replace CP : Hid (CpS y4 w.heap.size s ga gb gd VA VB VD) := CP.out.below hb
     replace PX9 : Hid (Box4 y4 xb 28 (.slice none 0 0) (.int .i64 0) (.slice none 0 0) (.slice none 0 0)) := PX9.out.below hb
     replace h9 := RetSs.mono h9 (Nat.le_trans A0.out.size H.size)
     obtain ⟨s1, c, q6, UR, UW, UQ, rfl, hst, how⟩ := h9.ow
     have ST : Hid (StIs s ⟨ak, ar, an⟩ s1 c) := hst
     replace H : Below v1.heap.size v1 y4 := H.trans (hb.mono H.size)
     have OW : Hid (OwP y4 w.heap.size s1 q6 UR UW UQ) := how
     clear hb hst how
     refine hK.out _ _ H (fun _ => ?_)
     clear hK KK
     refine tkH (i := 5) (v := .tuple #[.agg #[.slice q6.a s1.n q6.ca, .int .i64 s1.t, .slice q6.b s1.m q6.cb, .slice q6.d s1.l q6.cd], .int .i64 c]) rfl (by kernel_rfl) (by rfl) ?_ H ?_
     ·intro w' hSw; clear hSw; go_simp
     refine tkH (i := 6) (v := .agg #[.slice q6.a s1.n q6.ca, .int .i64 s1.t, .slice q6.b s1.m q6.cb, .slice q6.d s1.l q6.cd]) rfl (by kernel_rfl) (by rfl) ?_ H ?_
     ·intro w' hSw; clear hSw; go_simp
     refine tkH (i := 7) (v := .int .i64 c) rfl (by kernel_rfl) (by rfl) ?_ H ?_
     ·intro w' hSw; clear hSw; go_simp
     change wpAnyH _ _ _ _ _ _ _ { tmps := #[_,_,_,_,_,_,_,_,_,_,_,_,_,_,_,_,_,_,_,_,_,_,_,_,_,_,_,_,_,_,_,_,_,_,_,_,_,_,_,_,_,_,_,_,_,_,_,_,_,_,_,_,_,_,_,_,_,_,_,_,_,_,_,_,_,_,_,_,_,_,_,_,_,_,_,_,_,_,_,_,_,_,_,_,_,_,_,_,_,_,_,_,_,_,_,_,_,_,_,_,_,_,_,_], defers := _ } _
   case' b4 =>
    go_simp
    have hb : Below y1.heap.size y1 (y1.alloc (.cells #[.slice none 0 0, .int .i64 0, .slice none 0 0, .slice none 0 0] 28)) := (Below.refl _ _).alloc (Nat.le_refl _) _
    have PX9 : Hid (Box4 (y1.alloc (.cells #[.slice none 0 0, .int .i64 0, .slice none 0 0, .slice none 0 0] 28)) y1.heap.size 28 (.slice none 0 0) (.int .i64 0) (.slice none 0 0) (.slice none 0 0)) := Box4.madeAt rfl _ _ _ _ _
    have Lxb : Hid (v1.heap.size ≤ y1.heap.size) := H.size
    replace CP : Hid (CpS (y1.alloc (.cells #[.slice none 0 0, .int .i64 0, .slice none 0 0, .slice none 0 0] 28)) w.heap.size s ga gb gd VA VB VD) := CP.out.below hb
    replace H : Below v1.heap.size v1 (y1.alloc (.cells #[.slice none 0 0, .int .i64 0, .slice none 0 0, .slice none 0 0] 28)) := H.trans (hb.mono H.size)
    clear hb
    refine hK.out _ _ H (fun _ => ?_)
    clear hK KK
    generalize (y1.alloc (.cells #[.slice none 0 0, .int .i64 0, .slice none 0 0, .slice none 0 0] 28)) = y2 at *
    generalize y1.heap.size = xb at *
    change wpAnyH _ _ _ _ _ _ _ { tmps := #[_,_,_,_,_,_,_,_,_,_,_,_,_,_,_,_,_,_,_,_,_,_,_,_,_,_,_,_,_,_,_,_,_,_,_,_,_,_,_,_,_,_,_,_,_,_,_,_,_,_,_,_,_,_,_,_,_,_,_,_,_,_,_,_,_,_,_,_,_,_,_,_,_,_,_,_,_,_,_,_,_,_,_,_,_,_,_,_,_,_,_,_,_,_,_,_,_,_,_,_,_,_,_,_], defers := _ } _
    refine rdH (i := 3) (by kernel_rfl) rfl (fun KK hK => ?_)
    go_simp
    refine (toQuAct_any ak ar an y2).mono ?_
    rintro e y3 ⟨rfl, hb⟩
    replace CP : Hid (CpS y3 w.heap.size s ga gb gd VA VB VD) := CP.out.below hb
    replace PX9 : Hid (Box4 y3 xb 28 (.slice none 0 0) (.int .i64 0) (.slice none 0 0) (.slice none 0 0)) := PX9.out.below hb
    replace H : Below v1.heap.size v1 y3 := H.trans (hb.mono H.size)
    clear hb
    refine hK.out _ _ H (fun _ => ?_)
    clear hK KK
    change wpAnyH _ _ _ _ _ _ _ { tmps := #[_,_,_,_,_,_,_,_,_,_,_,_,_,_,_,_,_,_,_,_,_,_,_,_,_,_,_,_,_,_,_,_,_,_,_,_,_,_,_,_,_,_,_,_,_,_,_,_,_,_,_,_,_,_,_,_,_,_,_,_,_,_,_,_,_,_,_,_,_,_,_,_,_,_,_,_,_,_,_,_,_,_,_,_,_,_,_,_,_,_,_,_,_,_,_,_,_,_,_,_,_,_,_,_], defers := _ } _
    refine rdH (i := 4) (by kernel_rfl) rfl (fun KK hK => ?_)
    go_simp
    refine (specStep_v s (saOf s ga gb gd VA VB VD) ak ar an MX.out y3 CP.out.v (saOf_z s ga gb gd VA VB VD).1 (saOf_z s ga gb gd VA VB VD).2).mono ?_
    rintro e y4 ⟨h9, hb⟩
    replace CP : Hid (CpS y4 w.heap.size s ga gb gd VA VB VD) := CP.out.below hb
    replace PX9 : Hid (Box4 y4 xb 28 (.slice none 0 0) (.int .i64 0) (.slice none 0 0) (.slice none 0 0)) := PX9.out.below hb
    replace h9 := RetSs.mono h9 (Nat.le_trans A0.out.size H.size)
    obtain ⟨s1, c, q6, UR, UW, UQ, rfl, hst, how⟩ := h9.ow
    have ST : Hid (StIs s ⟨ak, ar, an⟩ s1 c) := hst
    replace H : Below v1.heap.size v1 y4 := H.trans (hb.mono H.size)
    have OW : Hid (OwP y4 w.heap.size s1 q6 UR UW UQ) := how
    clear hb hst how
    refine hK.out _ _ H (fun _ => ?_)
    clear hK KK
    change wpAnyH _ _ _ _ _ _ _ { tmps := #[_,_,_,_,_,_,_,_,_,_,_,_,_,_,_,_,_,_,_,_,_,_,_,_,_,_,_,_,_,_,_,_,_,_,_,_,_,_,_,_,_,_,_,_,_,_,_,_,_,_,_,_,_,_,_,_,_,_,_,_,_,_,_,_,_,_,_,_,_,_,_,_,_,_,_,_,_,_,_,_,_,_,_,_,_,_,_,_,_,_,_,_,_,_,_,_,_,_,_,_,_,_,_,_], defers := _ } _
    refine tkH (i := 5) (v := .tuple #[.agg #[.slice q6.a s1.n q6.ca, .int .i64 s1.t, .slice q6.b s1.m q6.cb, .slice q6.d s1.l q6.cd], .int .i64 c]) rfl (by kernel_rfl) (by rfl) ?_ H ?_
    ·intro w' hSw; clear hSw; go_simp
    refine tkH (i := 6) (v := .agg #[.slice q6.a s1.n q6.ca, .int .i64 s1.t, .slice q6.b s1.m q6.cb, .slice q6.d s1.l q6.cd]) rfl (by kernel_rfl) (by rfl) ?_ H ?_
    ·intro w' hSw; clear hSw; go_simp
    refine tkH (i := 7) (v := .int .i64 c) rfl (by kernel_rfl) (by rfl) ?_ H ?_
    ·intro w' hSw; clear hSw; go_simp
    change wpAnyH _ _ _ _ _ _ _ { tmps := #[_,_,_,_,_,_,_,_,_,_,_,_,_,_,_,_,_,_,_,_,_,_,_,_,_,_,_,_,_,_,_,_,_,_,_,_,_,_,_,_,_,_,_,_,_,_,_,_,_,_,_,_,_,_,_,_,_,_,_,_,_,_,_,_,_,_,_,_,_,_,_,_,_,_,_,_,_,_,_,_,_,_,_,_,_,_,_,_,_,_,_,_,_,_,_,_,_,_,_,_,_,_,_,_], defers := _ } _
  case' b2 =>
   go_simp
   have hb : Below y0.heap.size y0 (y0.alloc (.cells #[.slice none 0 0, .int .i64 0, .slice none 0 0, .slice none 0 0] 28)) := (Below.refl _ _).alloc (Nat.le_refl _) _
   have PX9 : Hid (Box4 (y0.alloc (.cells #[.slice none 0 0, .int .i64 0, .slice none 0 0, .slice none 0 0] 28)) y0.heap.size 28 (.slice none 0 0) (.int .i64 0) (.slice none 0 0) (.slice none 0 0)) := Box4.madeAt rfl _ _ _ _ _
   have Lxb : Hid (v1.heap.size ≤ y0.heap.size) := H.size
   replace H : Below v1.heap.size v1 (y0.alloc (.cells #[.slice none 0 0, .int .i64 0, .slice none 0 0, .slice none 0 0] 28)) := H.trans (hb.mono H.size)
   clear hb
   refine hK.out _ _ H (fun _ => ?_)
   clear hK KK
   generalize (y0.alloc (.cells #[.slice none 0 0, .int .i64 0, .slice none 0 0, .slice none 0 0] 28)) = y1 at *
   generalize y0.heap.size = xb at *
   change wpAnyH _ _ _ _ _ _ _ { tmps := #[_,_,_,_,_,_,_,_,_,_,_,_,_,_,_,_,_,_,_,_,_,_,_,_,_,_,_,_,_,_,_,_,_,_,_,_,_,_,_,_,_,_,_,_,_,_,_,_,_,_,_,_,_,_,_,_,_,_,_,_,_,_,_,_,_,_,_,_,_,_,_,_,_,_,_,_,_,_,_,_,_,_,_,_,_,_,_,_,_,_,_,_,_,_,_,_,_,_,_,_,_,_,_,_], defers := _ } _
   refine rdH (i := 1) (by kernel_rfl) rfl (fun KK hK => ?_)
   go_simp
   refine (TX.out y1 (A0.out.trans ((H).mono A0.out.size))).mono ?_
   rintro e y2 ⟨⟨ga, gb, gd, VA, VB, VD, rfl, hc, ho⟩, hb⟩
   replace PX9 : Hid (Box4 y2 xb 28 (.slice none 0 0) (.int .i64 0) (.slice none 0 0) (.slice none 0 0)) := PX9.out.below hb
   replace hc : CpS y2 w.heap.size s ga gb gd VA VB VD := ⟨⟨⟨Nat.le_trans (Nat.le_trans A0.out.size H.size) hc.a.1.1, hc.a.1.2⟩, hc.a.2⟩, ⟨⟨Nat.le_trans (Nat.le_trans A0.out.size H.size) hc.b.1.1, hc.b.1.2⟩, hc.b.2⟩, ⟨⟨Nat.le_trans (Nat.le_trans A0.out.size H.size) hc.d.1.1, hc.d.1.2⟩, hc.d.2⟩⟩
   replace H : Below v1.heap.size v1 y2 := H.trans (hb.mono H.size)
   have CP : Hid (CpS y2 w.heap.size s ga gb gd VA VB VD) := hc
   clear hb hc ho
   refine hK.out _ _ H (fun _ => ?_)
   clear hK KK
   change wpAnyH _ _ _ _ _ _ _ { tmps := #[_,_,_,_,_,_,_,_,_,_,_,_,_,_,_,_,_,_,_,_,_,_,_,_,_,_,_,_,_,_,_,_,_,_,_,_,_,_,_,_,_,_,_,_,_,_,_,_,_,_,_,_,_,_,_,_,_,_,_,_,_,_,_,_,_,_,_,_,_,_,_,_,_,_,_,_,_,_,_,_,_,_,_,_,_,_,_,_,_,_,_,_,_,_,_,_,_,_,_,_,_,_,_,_], defers := _ } _
   refine rdH (i := 3) (by kernel_rfl) rfl (fun KK hK => ?_)
   go_simp
   refine (toQuAct_any ak ar an y2).mono ?_
   rintro e y3 ⟨rfl, hb⟩
   replace PX9 : Hid (Box4 y3 xb 28 (.slice none 0 0) (.int .i64 0) (.slice none 0 0) (.slice none 0 0)) := PX9.out.below hb
   replace CP : Hid (CpS y3 w.heap.size s ga gb gd VA VB VD) := CP.out.below hb
   replace H : Below v1.heap.size v1 y3 := H.trans (hb.mono H.size)
   clear hb
   refine hK.out _ _ H (fun _ => ?_)
   clear hK KK
   change wpAnyH _ _ _ _ _ _ _ { tmps := #[_,_,_,_,_,_,_,_,_,_,_,_,_,_,_,_,_,_,_,_,_,_,_,_,_,_,_,_,_,_,_,_,_,_,_,_,_,_,_,_,_,_,_,_,_,_,_,_,_,_,_,_,_,_,_,_,_,_,_,_,_,_,_,_,_,_,_,_,_,_,_,_,_,_,_,_,_,_,_,_,_,_,_,_,_,_,_,_,_,_,_,_,_,_,_,_,_,_,_,_,_,_,_,_], defers := _ } _
   refine rdH (i := 4) (by kernel_rfl) rfl (fun KK hK => ?_)
   go_simp
   refine (specStep_v s (saOf s ga gb gd VA VB VD) ak ar an MX.out y3 CP.out.v (saOf_z s ga gb gd VA VB VD).1 (saOf_z s ga gb gd VA VB VD).2).mono ?_
   rintro e y4 ⟨h9, hb⟩
   replace PX9 : Hid (Box4 y4 xb 28 (.slice none 0 0) (.int .i64 0) (.slice none 0 0) (.slice none 0 0)) := PX9.out.below hb
   replace CP : Hid (CpS y4 w.heap.size s ga gb gd VA VB VD) := CP.out.below hb
   replace h9 := RetSs.mono h9 (Nat.le_trans A0.out.size H.size)
   obtain ⟨s1, c, q6, UR, UW, UQ, rfl, hst, how⟩ := h9.ow
   have ST : Hid (StIs s ⟨ak, ar, an⟩ s1 c) := hst
   replace H : Below v1.heap.size v1 y4 := H.trans (hb.mono H.size)
   have OW : Hid (OwP y4 w.heap.size s1 q6 UR UW UQ) := how
   clear hb hst how
   refine hK.out _ _ H (fun _ => ?_)
   clear hK KK
   refine tkH (i := 5) (v := .tuple #[.agg #[.slice q6.a s1.n q6.ca, .int .i64 s1.t, .slice q6.b s1.m q6.cb, .slice q6.d s1.l q6.cd], .int .i64 c]) rfl (by kernel_rfl) (by rfl) ?_ H ?_
   ·intro w' hSw; clear hSw; go_simp
   change wpAnyH _ _ _ _ _ _ _ { tmps := #[_,_,_,_,_,_,_,_,_,_,_,_,_,_,_,_,_,_,_,_,_,_,_,_,_,_,_,_,_,_,_,_,_,_,_,_,_,_,_,_,_,_,_,_,_,_,_,_,_,_,_,_,_,_,_,_,_,_,_,_,_,_,_,_,_,_,_,_,_,_,_,_,_,_,_,_,_,_,_,_,_,_,_,_,_,_,_,_,_,_,_,_,_,_,_,_,_,_,_,_,_,_,_,_], defers := _ } _
   refine tkH (i := 6) (v := .agg #[.slice q6.a s1.n q6.ca, .int .i64 s1.t, .slice q6.b s1.m q6.cb, .slice q6.d s1.l q6.cd]) rfl (by kernel_rfl) (by rfl) ?_ H ?_
   ·intro w' hSw; clear hSw; go_simp
   refine tkH (i := 7) (v := .int .i64 c) rfl (by kernel_rfl) (by rfl) ?_ H ?_
   ·intro w' hSw; clear hSw; go_simp
   change wpAnyH _ _ _ _ _ _ _ { tmps := #[_,_,_,_,_,_,_,_,_,_,_,_,_,_,_,_,_,_,_,_,_,_,_,_,_,_,_,_,_,_,_,_,_,_,_,_,_,_,_,_,_,_,_,_,_,_,_,_,_,_,_,_,_,_,_,_,_,_,_,_,_,_,_,_,_,_,_,_,_,_,_,_,_,_,_,_,_,_,_,_,_,_,_,_,_,_,_,_,_,_,_,_,_,_,_,_,_,_,_,_,_,_,_,_], defers := _ } _
  all_goals
   refine rdH (i := 9) (by kernel_rfl) rfl (fun KK hK => ?_)
   have k0 := PX9.out.c0
   have k1 := PX9.out.c1
   have k2 := PX9.out.c2
   have k3 := PX9.out.c3
   have f0 := PX9.out.fr 0
   have f1 := PX9.out.fr 1
   have f2 := PX9.out.fr 2
   have f3 := PX9.out.fr 3
   go_simp
   have Z9 : Hid (Box4 ((((y4.setCell ⟨xb, 0, none⟩ (.slice q6.a s1.n q6.ca)).setCell ⟨xb, 1, none⟩ (.int .i64 s1.t)).setCell ⟨xb, 2, none⟩ (.slice q6.b s1.m q6.cb)).setCell ⟨xb, 3, none⟩ (.slice q6.d s1.l q6.cd)) xb 28 (.slice q6.a s1.n q6.ca) (.int .i64 s1.t) (.slice q6.b s1.m q6.cb) (.slice q6.d s1.l q6.cd)) := (((PX9.out.set0 _).set1 _).set2 _).set3 _
   have O9 : Hid (OwP ((((y4.setCell ⟨xb, 0, none⟩ (.slice q6.a s1.n q6.ca)).setCell ⟨xb, 1, none⟩ (.int .i64 s1.t)).setCell ⟨xb, 2, none⟩ (.slice q6.b s1.m q6.cb)).setCell ⟨xb, 3, none⟩ (.slice q6.d s1.l q6.cd)) w.heap.size s1 q6 UR UW UQ) := OW.out.res PX9.out _ _ _ _
   replace H : Below v1.heap.size v1 ((((y4.setCell ⟨xb, 0, none⟩ (.slice q6.a s1.n q6.ca)).setCell ⟨xb, 1, none⟩ (.int .i64 s1.t)).setCell ⟨xb, 2, none⟩ (.slice q6.b s1.m q6.cb)).setCell ⟨xb, 3, none⟩ (.slice q6.d s1.l q6.cd)) := below_res H Lxb.out _ _ _ _
   clear k0 k1 k2 k3 f0 f1 f2 f3 PX9 OW
   generalize ((((y4.setCell ⟨xb, 0, none⟩ (.slice q6.a s1.n q6.ca)).setCell ⟨xb, 1, none⟩ (.int .i64 s1.t)).setCell ⟨xb, 2, none⟩ (.slice q6.b s1.m q6.cb)).setCell ⟨xb, 3, none⟩ (.slice q6.d s1.l q6.cd)) = y5 at *
   refine hK.out _ _ H (fun _ => ?_)
   clear hK KK
   refine tkH (i := 10) (v := .int .i64 c) rfl (by kernel_rfl) (by rfl) ?_ H ?_
   ·intro w' hSw; clear hSw; go_simp
   change wpAnyH _ _ _ _ _ _ _ { tmps := #[_,_,_,_,_,_,_,_,_,_,_,_,_,_,_,_,_,_,_,_,_,_,_,_,_,_,_,_,_,_,_,_,_,_,_,_,_,_,_,_,_,_,_,_,_,_,_,_,_,_,_,_,_,_,_,_,_,_,_,_,_,_,_,_,_,_,_,_,_,_,_,_,_,_,_,_,_,_,_,_,_,_,_,_,_,_,_,_,_,_,_,_,_,_,_,_,_,_,_,_,_,_,_,_], defers := _ } _
   refine wpAnyH_done (by kernel_rfl) ?_ _
   refine NoPanic.normal ?_
   change Exit.then _ _ Exit.normal { tmps := #[_, _, _, _, _, _, _, _, _, _, _, _, _, _, _, _, _, _, _, _, _, _, _, _, _, _, _, _, _, _, _, _, _, _, _, _, _, _, _, _, _, _, _, _, _, _, _, _, _, _, _, _, _, _, _, _, _, _, _, _, _, _, _, _, _, _, _, _, _, _, _, _, _, _, _, _, _, _, _, _, _, _, _, _, _, _, _, _, _, _, _, _, _, _, _, _, _, _, _, _, _, _, _, _], defers := _ } _
   go_wp2_with fail
   go_meet
   exact ⟨xb, s1, c, q6, UR, UW, UQ, rfl, rfl, ST.out, Z9.out, O9.out, H⟩
 case rest =>
 obtain ⟨b6, s1, c, q6, UR, UW, UQ, rfl, rfl, hst, hz6, ho6, hb⟩ := hcut
 have ST : Hid (StIs s ⟨ak, ar, an⟩ s1 c) := hst
 have M1 : Hid (s1.max 300) := mxUp hst.mx (by omega)
 replace A0 : Hid (Below w.heap.size w wc) := A0.out.trans (hb.mono A0.out.size)
 replace X : Hid (Box4 wc w.heap.size 49 (.slice p.a s.n p.ca) (.int .i64 s.t) (.slice p.b s.m p.cb) (.slice p.d s.l p.cd)) := X.out.below hb
 replace Y : Hid (Box3 wc (w.heap.size + 1) 50 (.int .i64 ak) (.int .i64 ar) (.int .i64 an)) := Y.out.below hb
 have W6 : Hid (Box4 wc b6 28 (.slice q6.a s1.n q6.ca) (.int .i64 s1.t) (.slice q6.b s1.m q6.cb) (.slice q6.d s1.l q6.cd)) := hz6
 have O6 : Hid (SvV wc s1 q6) := ho6.sv
 clear hst hz6 ho6 hb
 generalize wc = v5 at *
 have BZ : Hid (Below v5.heap.size v5 v5) := Below.refl _ _
 have k0 := X.out.c0
 have k1 := X.out.c1
 have k2 := X.out.c2
 have k3 := X.out.c3
 go_wp2_with fail
 clear k0 k1 k2 k3
 refine (TX.out _ A0.out).mono ?_
 rintro e v6 ⟨⟨ga, gb, gd, VA, VB, VD, rfl, hc, ho⟩, hb⟩
 have hA : Below v6.heap.size v6 (v6.alloc (.cells #[.slice (some ⟨ga, 0, none⟩) s.n s.n, .int .i64 s.t, .slice (some ⟨gb, 0, none⟩) s.m s.m, .slice (some ⟨gd, 0, none⟩) s.l s.l] 28)) := (Below.refl _ _).alloc (Nat.le_refl _) _
 have OD : Hid (OrdS s ga gb gd VA VB) := ho
 have LX : Hid (v5.heap.size ≤ v6.heap.size ∧ (gd < v6.heap.size ∧ ∀ j, j < s.l → VD j < v6.heap.size)) := ⟨hb.size, hc.d.1.2, fun j hj => World.rowIs.lt (hc.d.2.2 j hj).2⟩
 have CP : Hid (CpS (v6.alloc (.cells #[.slice (some ⟨ga, 0, none⟩) s.n s.n, .int .i64 s.t, .slice (some ⟨gb, 0, none⟩) s.m s.m, .slice (some ⟨gd, 0, none⟩) s.l s.l] 28)) v5.heap.size s ga gb gd VA VB VD) := hc.below hA
 have Z8 : Hid (Box4 (v6.alloc (.cells #[.slice (some ⟨ga, 0, none⟩) s.n s.n, .int .i64 s.t, .slice (some ⟨gb, 0, none⟩) s.m s.m, .slice (some ⟨gd, 0, none⟩) s.l s.l] 28)) v6.heap.size 28 (.slice (some ⟨ga, 0, none⟩) s.n s.n) (.int .i64 s.t) (.slice (some ⟨gb, 0, none⟩) s.m s.m) (.slice (some ⟨gd, 0, none⟩) s.l s.l)) := Box4.madeAt rfl _ _ _ _ _
 replace BZ : Hid (Below v5.heap.size v5 (v6.alloc (.cells #[.slice (some ⟨ga, 0, none⟩) s.n s.n, .int .i64 s.t, .slice (some ⟨gb, 0, none⟩) s.m s.m, .slice (some ⟨gd, 0, none⟩) s.l s.l] 28))) := hb.trans (hA.mono hb.size)
 clear hc ho hb hA
 go_wp2_with fail
 obtain ⟨xb, hxb⟩ : ∃ x, x = v6.heap.size := ⟨_, rfl⟩
 have SXB : Hid (xb < (v6.alloc (.cells #[.slice (some ⟨ga, 0, none⟩) s.n s.n, .int .i64 s.t, .slice (some ⟨gb, 0, none⟩) s.m s.m, .slice (some ⟨gd, 0, none⟩) s.l s.l] 28)).heap.size) := by rw [hxb]; show v6.heap.size < _; simp
 generalize (v6.alloc (.cells #[.slice (some ⟨ga, 0, none⟩) s.n s.n, .int .i64 s.t, .slice (some ⟨gb, 0, none⟩) s.m s.m, .slice (some ⟨gd, 0, none⟩) s.l s.l] 28)) = v7 at *
 rw [← hxb] at LX Z8 ⊢
 clear hxb
 go_cut [9, 10] (fun pv cv wx => ∃ (b9 : Nat) (q9 : Sa) (VR VW VQ : Nat → Value), pv = .pointer (some ⟨b9, 0, none⟩) ∧ cv = .int .i64 c ∧ Box4 wx b9 28 (.slice q9.a s1.n q9.ca) (.int .i64 s1.t) (.slice q9.b s1.m q9.cb) (.slice q9.d s1.l q9.cd) ∧ v7.heap.size ≤ b9 ∧ OwP wx v7.heap.size s1 q9 VR VW VQ ∧ Below v7.heap.size v7 wx)
 case first =>
  have H : Below v7.heap.size v7 v7.drew := (Below.refl _ _).drew
  refine wp_region_noPanic ?_
  refine wp_region_held_drew (S := fun w' => Below v7.heap.size v7 w') (by kernel_rfl) H (fun _ => ?_)
  generalize v7.drew = y0 at *
  refine tkH (i := 0) (v := .agg #[.slice (some ⟨ga, 0, none⟩) s.n s.n, .int .i64 s.t, .slice (some ⟨gb, 0, none⟩) s.m s.m, .slice (some ⟨gd, 0, none⟩) s.l s.l]) rfl (by kernel_rfl) (by rfl) ?_ H ?_
  ·intro w' hSw; have h9 := Z8.out.below (hSw); have c0 := h9.c0; have c1 := h9.c1; have c2 := h9.c2; have c3 := h9.c3; clear h9 hSw; go_simp
  refine tkH (i := 1) (v := .agg #[.int .i64 ak, .int .i64 ar, .int .i64 an]) rfl (by kernel_rfl) (by rfl) ?_ H ?_
  ·intro w' hSw; have h9 := Y.out.below (BZ.out.trans (hSw.mono BZ.out.size)); have c0 := h9.c0; have c1 := h9.c1; have c2 := h9.c2; clear h9 hSw; go_simp
  change wpAnyH _ _ _ _ _ _ _ { tmps := #[_,_,_,_,_,_,_,_,_,_,_,_,_,_,_,_,_,_,_,_,_,_,_,_,_,_,_,_,_,_,_,_,_,_,_,_,_,_,_,_,_,_,_,_,_,_,_,_,_,_,_,_,_,_,_,_,_,_,_,_,_,_,_,_,_,_,_,_,_,_,_,_,_,_,_,_,_,_,_,_,_,_,_,_,_,_,_,_,_,_,_,_,_,_,_,_,_,_,_,_,_,_,_,_], defers := _ } _
  refine wpAnyH_ready (rs := [2, 7]) (by kernel_rfl) (by simp) ?_
  refine (AllReadyH.cons rfl (fun KK hK => ?b15) (AllReadyH.cons rfl (fun KK hK => ?b16) AllReadyH.nil))
  case' b15 =>
   go_simp
   refine (toQuAct_any ak ar an y0).mono ?_
   rintro e y1 ⟨rfl, hb⟩
   replace H : Below v7.heap.size v7 y1 := H.trans (hb.mono H.size)
   clear hb
   refine hK.out _ _ H (fun _ => ?_)
   clear hK KK
   change wpAnyH _ _ _ _ _ _ _ { tmps := #[_,_,_,_,_,_,_,_,_,_,_,_,_,_,_,_,_,_,_,_,_,_,_,_,_,_,_,_,_,_,_,_,_,_,_,_,_,_,_,_,_,_,_,_,_,_,_,_,_,_,_,_,_,_,_,_,_,_,_,_,_,_,_,_,_,_,_,_,_,_,_,_,_,_,_,_,_,_,_,_,_,_,_,_,_,_,_,_,_,_,_,_,_,_,_,_,_,_,_,_,_,_,_,_], defers := _ } _
   refine wpAnyH_ready (rs := [3, 7]) (by kernel_rfl) (by simp) ?_
   refine (AllReadyH.cons rfl (fun KK hK => ?b17) (AllReadyH.cons rfl (fun KK hK => ?b18) AllReadyH.nil))
   case' b17 =>
    go_simp
    refine (implStep_v s (saOf s ga gb gd VA VB VD) ak ar an MX.out y1 (CP.out.below (H)).v (saOf_z s ga gb gd VA VB VD).1 (saOf_z s ga gb gd VA VB VD).2).mono ?_
    rintro e y2 ⟨h9, hb⟩
    replace h9 := RetSs.mono h9 H.size
    obtain ⟨q9, VR, VW, VQ, rfl, how⟩ := h9.owAt ST.out
    replace H : Below v7.heap.size v7 y2 := H.trans (hb.mono H.size)
    have OW : Hid (OwP y2 v7.heap.size s1 q9 VR VW VQ) := how
    clear hb how
    refine hK.out _ _ H (fun _ => ?_)
    clear hK KK
    change wpAnyH _ _ _ _ _ _ _ { tmps := #[_,_,_,_,_,_,_,_,_,_,_,_,_,_,_,_,_,_,_,_,_,_,_,_,_,_,_,_,_,_,_,_,_,_,_,_,_,_,_,_,_,_,_,_,_,_,_,_,_,_,_,_,_,_,_,_,_,_,_,_,_,_,_,_,_,_,_,_,_,_,_,_,_,_,_,_,_,_,_,_,_,_,_,_,_,_,_,_,_,_,_,_,_,_,_,_,_,_,_,_,_,_,_,_], defers := _ } _
    refine tkH (i := 4) (v := .tuple #[.agg #[.slice q9.a s1.n q9.ca, .int .i64 s1.t, .slice q9.b s1.m q9.cb, .slice q9.d s1.l q9.cd], .int .i64 c]) rfl (by kernel_rfl) (by rfl) ?_ H ?_
    ·intro w' hSw; clear hSw; go_simp
    refine tkH (i := 5) (v := .agg #[.slice q9.a s1.n q9.ca, .int .i64 s1.t, .slice q9.b s1.m q9.cb, .slice q9.d s1.l q9.cd]) rfl (by kernel_rfl) (by rfl) ?_ H ?_
    ·intro w' hSw; clear hSw; go_simp
    refine tkH (i := 6) (v := .int .i64 c) rfl (by kernel_rfl) (by rfl) ?_ H ?_
    ·intro w' hSw; clear hSw; go_simp
    change wpAnyH _ _ _ _ _ _ _ { tmps := #[_,_,_,_,_,_,_,_,_,_,_,_,_,_,_,_,_,_,_,_,_,_,_,_,_,_,_,_,_,_,_,_,_,_,_,_,_,_,_,_,_,_,_,_,_,_,_,_,_,_,_,_,_,_,_,_,_,_,_,_,_,_,_,_,_,_,_,_,_,_,_,_,_,_,_,_,_,_,_,_,_,_,_,_,_,_,_,_,_,_,_,_,_,_,_,_,_,_,_,_,_,_,_,_], defers := _ } _
    refine rdH (i := 7) (by kernel_rfl) rfl (fun KK hK => ?_)
    go_simp
    have hb : Below y2.heap.size y2 (y2.alloc (.cells #[.slice none 0 0, .int .i64 0, .slice none 0 0, .slice none 0 0] 28)) := (Below.refl _ _).alloc (Nat.le_refl _) _
    have PX9 : Hid (Box4 (y2.alloc (.cells #[.slice none 0 0, .int .i64 0, .slice none 0 0, .slice none 0 0] 28)) y2.heap.size 28 (.slice none 0 0) (.int .i64 0) (.slice none 0 0) (.slice none 0 0)) := Box4.madeAt rfl _ _ _ _ _
    have Lgb9 : Hid (v7.heap.size ≤ y2.heap.size) := H.size
    replace OW : Hid (OwP (y2.alloc (.cells #[.slice none 0 0, .int .i64 0, .slice none 0 0, .slice none 0 0] 28)) v7.heap.size s1 q9 VR VW VQ) := OW.out.below hb
    replace H : Below v7.heap.size v7 (y2.alloc (.cells #[.slice none 0 0, .int .i64 0, .slice none 0 0, .slice none 0 0] 28)) := H.trans (hb.mono H.size)
    clear hb
    refine hK.out _ _ H (fun _ => ?_)
    clear hK KK
    generalize (y2.alloc (.cells #[.slice none 0 0, .int .i64 0, .slice none 0 0, .slice none 0 0] 28)) = y3 at *
    generalize y2.heap.size = gb9 at *
    change wpAnyH _ _ _ _ _ _ _ { tmps := #[_,_,_,_,_,_,_,_,_,_,_,_,_,_,_,_,_,_,_,_,_,_,_,_,_,_,_,_,_,_,_,_,_,_,_,_,_,_,_,_,_,_,_,_,_,_,_,_,_,_,_,_,_,_,_,_,_,_,_,_,_,_,_,_,_,_,_,_,_,_,_,_,_,_,_,_,_,_,_,_,_,_,_,_,_,_,_,_,_,_,_,_,_,_,_,_,_,_,_,_,_,_,_,_], defers := _ } _
   case' b18 =>
    go_simp
    have hb : Below y1.heap.size y1 (y1.alloc (.cells #[.slice none 0 0, .int .i64 0, .slice none 0 0, .slice none 0 0] 28)) := (Below.refl _ _).alloc (Nat.le_refl _) _
    have PX9 : Hid (Box4 (y1.alloc (.cells #[.slice none 0 0, .int .i64 0, .slice none 0 0, .slice none 0 0] 28)) y1.heap.size 28 (.slice none 0 0) (.int .i64 0) (.slice none 0 0) (.slice none 0 0)) := Box4.madeAt rfl _ _ _ _ _
    have Lgb9 : Hid (v7.heap.size ≤ y1.heap.size) := H.size
    replace H : Below v7.heap.size v7 (y1.alloc (.cells #[.slice none 0 0, .int .i64 0, .slice none 0 0, .slice none 0 0] 28)) := H.trans (hb.mono H.size)
    clear hb
    refine hK.out _ _ H (fun _ => ?_)
    clear hK KK
    generalize (y1.alloc (.cells #[.slice none 0 0, .int .i64 0, .slice none 0 0, .slice none 0 0] 28)) = y2 at *
    generalize y1.heap.size = gb9 at *
    change wpAnyH _ _ _ _ _ _ _ { tmps := #[_,_,_,_,_,_,_,_,_,_,_,_,_,_,_,_,_,_,_,_,_,_,_,_,_,_,_,_,_,_,_,_,_,_,_,_,_,_,_,_,_,_,_,_,_,_,_,_,_,_,_,_,_,_,_,_,_,_,_,_,_,_,_,_,_,_,_,_,_,_,_,_,_,_,_,_,_,_,_,_,_,_,_,_,_,_,_,_,_,_,_,_,_,_,_,_,_,_,_,_,_,_,_,_], defers := _ } _
    refine rdH (i := 3) (by kernel_rfl) rfl (fun KK hK => ?_)
    go_simp
    refine (implStep_v s (saOf s ga gb gd VA VB VD) ak ar an MX.out y2 (CP.out.below (H)).v (saOf_z s ga gb gd VA VB VD).1 (saOf_z s ga gb gd VA VB VD).2).mono ?_
    rintro e y3 ⟨h9, hb⟩
    replace PX9 : Hid (Box4 y3 gb9 28 (.slice none 0 0) (.int .i64 0) (.slice none 0 0) (.slice none 0 0)) := PX9.out.below hb
    replace h9 := RetSs.mono h9 H.size
    obtain ⟨q9, VR, VW, VQ, rfl, how⟩ := h9.owAt ST.out
    replace H : Below v7.heap.size v7 y3 := H.trans (hb.mono H.size)
    have OW : Hid (OwP y3 v7.heap.size s1 q9 VR VW VQ) := how
    clear hb how
    refine hK.out _ _ H (fun _ => ?_)
    clear hK KK
    refine tkH (i := 4) (v := .tuple #[.agg #[.slice q9.a s1.n q9.ca, .int .i64 s1.t, .slice q9.b s1.m q9.cb, .slice q9.d s1.l q9.cd], .int .i64 c]) rfl (by kernel_rfl) (by rfl) ?_ H ?_
    ·intro w' hSw; clear hSw; go_simp
    change wpAnyH _ _ _ _ _ _ _ { tmps := #[_,_,_,_,_,_,_,_,_,_,_,_,_,_,_,_,_,_,_,_,_,_,_,_,_,_,_,_,_,_,_,_,_,_,_,_,_,_,_,_,_,_,_,_,_,_,_,_,_,_,_,_,_,_,_,_,_,_,_,_,_,_,_,_,_,_,_,_,_,_,_,_,_,_,_,_,_,_,_,_,_,_,_,_,_,_,_,_,_,_,_,_,_,_,_,_,_,_,_,_,_,_,_,_], defers := _ } _
    refine tkH (i := 5) (v := .agg #[.slice q9.a s1.n q9.ca, .int .i64 s1.t, .slice q9.b s1.m q9.cb, .slice q9.d s1.l q9.cd]) rfl (by kernel_rfl) (by rfl) ?_ H ?_
    ·intro w' hSw; clear hSw; go_simp
    refine tkH (i := 6) (v := .int .i64 c) rfl (by kernel_rfl) (by rfl) ?_ H ?_
    ·intro w' hSw; clear hSw; go_simp
    change wpAnyH _ _ _ _ _ _ _ { tmps := #[_,_,_,_,_,_,_,_,_,_,_,_,_,_,_,_,_,_,_,_,_,_,_,_,_,_,_,_,_,_,_,_,_,_,_,_,_,_,_,_,_,_,_,_,_,_,_,_,_,_,_,_,_,_,_,_,_,_,_,_,_,_,_,_,_,_,_,_,_,_,_,_,_,_,_,_,_,_,_,_,_,_,_,_,_,_,_,_,_,_,_,_,_,_,_,_,_,_,_,_,_,_,_,_], defers := _ } _
  case' b16 =>
   go_simp
   have hb : Below y0.heap.size y0 (y0.alloc (.cells #[.slice none 0 0, .int .i64 0, .slice none 0 0, .slice none 0 0] 28)) := (Below.refl _ _).alloc (Nat.le_refl _) _
   have PX9 : Hid (Box4 (y0.alloc (.cells #[.slice none 0 0, .int .i64 0, .slice none 0 0, .slice none 0 0] 28)) y0.heap.size 28 (.slice none 0 0) (.int .i64 0) (.slice none 0 0) (.slice none 0 0)) := Box4.madeAt rfl _ _ _ _ _
   have Lgb9 : Hid (v7.heap.size ≤ y0.heap.size) := H.size
   replace H : Below v7.heap.size v7 (y0.alloc (.cells #[.slice none 0 0, .int .i64 0, .slice none 0 0, .slice none 0 0] 28)) := H.trans (hb.mono H.size)
   clear hb
   refine hK.out _ _ H (fun _ => ?_)
   clear hK KK
   generalize (y0.alloc (.cells #[.slice none 0 0, .int .i64 0, .slice none 0 0, .slice none 0 0] 28)) = y1 at *
   generalize y0.heap.size = gb9 at *
   change wpAnyH _ _ _ _ _ _ _ { tmps := #[_,_,_,_,_,_,_,_,_,_,_,_,_,_,_,_,_,_,_,_,_,_,_,_,_,_,_,_,_,_,_,_,_,_,_,_,_,_,_,_,_,_,_,_,_,_,_,_,_,_,_,_,_,_,_,_,_,_,_,_,_,_,_,_,_,_,_,_,_,_,_,_,_,_,_,_,_,_,_,_,_,_,_,_,_,_,_,_,_,_,_,_,_,_,_,_,_,_,_,_,_,_,_,_], defers := _ } _
   refine rdH (i := 2) (by kernel_rfl) rfl (fun KK hK => ?_)
   go_simp
   refine (toQuAct_any ak ar an y1).mono ?_
   rintro e y2 ⟨rfl, hb⟩
   replace PX9 : Hid (Box4 y2 gb9 28 (.slice none 0 0) (.int .i64 0) (.slice none 0 0) (.slice none 0 0)) := PX9.out.below hb
   replace H : Below v7.heap.size v7 y2 := H.trans (hb.mono H.size)
   clear hb
   refine hK.out _ _ H (fun _ => ?_)
   clear hK KK
   change wpAnyH _ _ _ _ _ _ _ { tmps := #[_,_,_,_,_,_,_,_,_,_,_,_,_,_,_,_,_,_,_,_,_,_,_,_,_,_,_,_,_,_,_,_,_,_,_,_,_,_,_,_,_,_,_,_,_,_,_,_,_,_,_,_,_,_,_,_,_,_,_,_,_,_,_,_,_,_,_,_,_,_,_,_,_,_,_,_,_,_,_,_,_,_,_,_,_,_,_,_,_,_,_,_,_,_,_,_,_,_,_,_,_,_,_,_], defers := _ } _
   refine rdH (i := 3) (by kernel_rfl) rfl (fun KK hK => ?_)
   go_simp
   refine (implStep_v s (saOf s ga gb gd VA VB VD) ak ar an MX.out y2 (CP.out.below (H)).v (saOf_z s ga gb gd VA VB VD).1 (saOf_z s ga gb gd VA VB VD).2).mono ?_
   rintro e y3 ⟨h9, hb⟩
   replace PX9 : Hid (Box4 y3 gb9 28 (.slice none 0 0) (.int .i64 0) (.slice none 0 0) (.slice none 0 0)) := PX9.out.below hb
   replace h9 := RetSs.mono h9 H.size
   obtain ⟨q9, VR, VW, VQ, rfl, how⟩ := h9.owAt ST.out
   replace H : Below v7.heap.size v7 y3 := H.trans (hb.mono H.size)
   have OW : Hid (OwP y3 v7.heap.size s1 q9 VR VW VQ) := how
   clear hb how
   refine hK.out _ _ H (fun _ => ?_)
   clear hK KK
   refine tkH (i := 4) (v := .tuple #[.agg #[.slice q9.a s1.n q9.ca, .int .i64 s1.t, .slice q9.b s1.m q9.cb, .slice q9.d s1.l q9.cd], .int .i64 c]) rfl (by kernel_rfl) (by rfl) ?_ H ?_
   ·intro w' hSw; clear hSw; go_simp
   refine tkH (i := 5) (v := .agg #[.slice q9.a s1.n q9.ca, .int .i64 s1.t, .slice q9.b s1.m q9.cb, .slice q9.d s1.l q9.cd]) rfl (by kernel_rfl) (by rfl) ?_ H ?_
   ·intro w' hSw; clear hSw; go_simp
   change wpAnyH _ _ _ _ _ _ _ { tmps := #[_,_,_,_,_,_,_,_,_,_,_,_,_,_,_,_,_,_,_,_,_,_,_,_,_,_,_,_,_,_,_,_,_,_,_,_,_,_,_,_,_,_,_,_,_,_,_,_,_,_,_,_,_,_,_,_,_,_,_,_,_,_,_,_,_,_,_,_,_,_,_,_,_,_,_,_,_,_,_,_,_,_,_,_,_,_,_,_,_,_,_,_,_,_,_,_,_,_,_,_,_,_,_,_], defers := _ } _
   refine tkH (i := 6) (v := .int .i64 c) rfl (by kernel_rfl) (by rfl) ?_ H ?_
   ·intro w' hSw; clear hSw; go_simp
   change wpAnyH _ _ _ _ _ _ _ { tmps := #[_,_,_,_,_,_,_,_,_,_,_,_,_,_,_,_,_,_,_,_,_,_,_,_,_,_,_,_,_,_,_,_,_,_,_,_,_,_,_,_,_,_,_,_,_,_,_,_,_,_,_,_,_,_,_,_,_,_,_,_,_,_,_,_,_,_,_,_,_,_,_,_,_,_,_,_,_,_,_,_,_,_,_,_,_,_,_,_,_,_,_,_,_,_,_,_,_,_,_,_,_,_,_,_], defers := _ } _
  all_goals
   refine rdH (i := 8) (by kernel_rfl) rfl (fun KK hK => ?_)
   have k0 := PX9.out.c0
   have k1 := PX9.out.c1
   have k2 := PX9.out.c2
   have k3 := PX9.out.c3
   have f0 := PX9.out.fr 0
   have f1 := PX9.out.fr 1
   have f2 := PX9.out.fr 2
   have f3 := PX9.out.fr 3
   go_simp
   have Z9 : Hid (Box4 ((((y3.setCell ⟨gb9, 0, none⟩ (.slice q9.a s1.n q9.ca)).setCell ⟨gb9, 1, none⟩ (.int .i64 s1.t)).setCell ⟨gb9, 2, none⟩ (.slice q9.b s1.m q9.cb)).setCell ⟨gb9, 3, none⟩ (.slice q9.d s1.l q9.cd)) gb9 28 (.slice q9.a s1.n q9.ca) (.int .i64 s1.t) (.slice q9.b s1.m q9.cb) (.slice q9.d s1.l q9.cd)) := (((PX9.out.set0 _).set1 _).set2 _).set3 _
   have O9 : Hid (OwP ((((y3.setCell ⟨gb9, 0, none⟩ (.slice q9.a s1.n q9.ca)).setCell ⟨gb9, 1, none⟩ (.int .i64 s1.t)).setCell ⟨gb9, 2, none⟩ (.slice q9.b s1.m q9.cb)).setCell ⟨gb9, 3, none⟩ (.slice q9.d s1.l q9.cd)) v7.heap.size s1 q9 VR VW VQ) := OW.out.res PX9.out _ _ _ _
   replace H : Below v7.heap.size v7 ((((y3.setCell ⟨gb9, 0, none⟩ (.slice q9.a s1.n q9.ca)).setCell ⟨gb9, 1, none⟩ (.int .i64 s1.t)).setCell ⟨gb9, 2, none⟩ (.slice q9.b s1.m q9.cb)).setCell ⟨gb9, 3, none⟩ (.slice q9.d s1.l q9.cd)) := below_res H Lgb9.out _ _ _ _
   clear k0 k1 k2 k3 f0 f1 f2 f3 PX9 OW
   generalize ((((y3.setCell ⟨gb9, 0, none⟩ (.slice q9.a s1.n q9.ca)).setCell ⟨gb9, 1, none⟩ (.int .i64 s1.t)).setCell ⟨gb9, 2, none⟩ (.slice q9.b s1.m q9.cb)).setCell ⟨gb9, 3, none⟩ (.slice q9.d s1.l q9.cd)) = y4 at *
   refine hK.out _ _ H (fun _ => ?_)
   clear hK KK
   refine tkH (i := 9) (v := .int .i64 c) rfl (by kernel_rfl) (by rfl) ?_ H ?_
   ·intro w' hSw; clear hSw; go_simp
   change wpAnyH _ _ _ _ _ _ _ { tmps := #[_,_,_,_,_,_,_,_,_,_,_,_,_,_,_,_,_,_,_,_,_,_,_,_,_,_,_,_,_,_,_,_,_,_,_,_,_,_,_,_,_,_,_,_,_,_,_,_,_,_,_,_,_,_,_,_,_,_,_,_,_,_,_,_,_,_,_,_,_,_,_,_,_,_,_,_,_,_,_,_,_,_,_,_,_,_,_,_,_,_,_,_,_,_,_,_,_,_,_,_,_,_,_,_], defers := _ } _
   refine wpAnyH_done (by kernel_rfl) ?_ _
   refine NoPanic.normal ?_
   change Exit.then _ _ Exit.normal { tmps := #[_, _, _, _, _, _, _, _, _, _, _, _, _, _, _, _, _, _, _, _, _, _, _, _, _, _, _, _, _, _, _, _, _, _, _, _, _, _, _, _, _, _, _, _, _, _, _, _, _, _, _, _, _, _, _, _, _, _, _, _, _, _, _, _, _, _, _, _, _, _, _, _, _, _, _, _, _, _, _, _, _, _, _, _, _, _, _, _, _, _, _, _, _, _, _, _, _, _, _, _, _, _, _, _], defers := _ } _
   go_wp2_with fail
   go_meet
   exact ⟨gb9, q9, VR, VW, VQ, rfl, rfl, Z9.out, Lgb9.out, O9.out, H⟩
 case rest =>
 obtain ⟨b9, q9, VR, VW, VQ, rfl, rfl, hz9, hl9, ho9, hb⟩ := hcut
 have BZ7 := BZ.out.size
 replace BZ : Hid (Below v5.heap.size v5 wc) := BZ.out.trans (hb.mono BZ.out.size)
 replace CP : Hid (CpS wc v5.heap.size s ga gb gd VA VB VD) := CP.out.below hb
 replace Z8 : Hid (Box4 wc xb 28 (.slice (some ⟨ga, 0, none⟩) s.n s.n) (.int .i64 s.t) (.slice (some ⟨gb, 0, none⟩) s.m s.m) (.slice (some ⟨gd, 0, none⟩) s.l s.l)) := Z8.out.below hb
 obtain ⟨B1, hB1⟩ : ∃ x, x = v7.heap.size := ⟨_, rfl⟩
 rw [← hB1] at ho9 hl9 SXB
 have G9 : Hid (Box4 wc b9 28 (.slice q9.a s1.n q9.ca) (.int .i64 s1.t) (.slice q9.b s1.m q9.cb) (.slice q9.d s1.l q9.cd)) := hz9
 have O9 : Hid (OwP wc B1 s1 q9 VR VW VQ) := ho9
 have L9 : Hid (B1 ≤ b9 ∧ B1 ≤ wc.heap.size) := ⟨hl9, by rw [hB1]; exact hb.size⟩
 have LB1 : Hid (v5.heap.size ≤ B1) := by rw [hB1]; exact BZ7
 clear hz9 hl9 ho9 hb hB1 BZ7
 generalize wc = v8 at *
 have cc : (c != c) = false := by simp
 have k0 := G9.out.c0
 have k1 := G9.out.c1
 have k2 := G9.out.c2
 have k3 := G9.out.c3
 have w6 := W6.out.below BZ.out
 have j0 := w6.c0
 have j1 := w6.c1
 have j2 := w6.c2
 have j3 := w6.c3
 clear w6
 go_wp2_with fail
 clear k0 k1 k2 k3 j0 j1 j2 j3
 refine (EQ.out s1 q9 q6 _ (mxUp M1.out (by omega)) O9.out.sv (O6.out.below BZ.out)).mono ?_
 rintro e v9 ⟨rfl, hb⟩
 replace BZ : Hid (Below v5.heap.size v5 v9) := BZ.out.trans (hb.mono BZ.out.size)
 replace CP : Hid (CpS v9 v5.heap.size s ga gb gd VA VB VD) := CP.out.below hb
 replace Z8 : Hid (Box4 v9 xb 28 (.slice (some ⟨ga, 0, none⟩) s.n s.n) (.int .i64 s.t) (.slice (some ⟨gb, 0, none⟩) s.m s.m) (.slice (some ⟨gd, 0, none⟩) s.l s.l)) := Z8.out.below hb
 replace G9 : Hid (Box4 v9 b9 28 (.slice q9.a s1.n q9.ca) (.int .i64 s1.t) (.slice q9.b s1.m q9.cb) (.slice q9.d s1.l q9.cd)) := G9.out.below hb
 replace O9 : Hid (OwP v9 B1 s1 q9 VR VW VQ) := O9.out.below hb
 replace L9 : Hid (B1 ≤ b9 ∧ B1 ≤ v9.heap.size) := ⟨L9.out.1, Nat.le_trans L9.out.2 hb.size⟩
 clear hb
 go_wp2_with fail
 have H : Below v9.heap.size v9 v9.drew := (Below.refl _ _).drew
 refine wp_region_noPanic ?_
 refine wp_region_held_drew (S := fun w' => Below v9.heap.size v9 w') (by kernel_rfl) H (fun _ => ?_)
 generalize v9.drew = z0 at *
 refine tkH (i := 0) (v := .agg #[.slice (some ⟨ga, 0, none⟩) s.n s.n, .int .i64 s.t, .slice (some ⟨gb, 0, none⟩) s.m s.m, .slice (some ⟨gd, 0, none⟩) s.l s.l]) rfl (by kernel_rfl) (by rfl) ?_ H ?_
 ·intro w' hSw; have h9 := Z8.out.below (hSw); have c0 := h9.c0; have c1 := h9.c1; have c2 := h9.c2; have c3 := h9.c3; clear h9 hSw; go_simp
 refine tkH (i := 1) (v := .agg #[.slice p.a s.n p.ca, .int .i64 s.t, .slice p.b s.m p.cb, .slice p.d s.l p.cd]) rfl (by kernel_rfl) (by rfl) ?_ H ?_
 ·intro w' hSw; have h9 := X.out.below (BZ.out.trans (hSw.mono BZ.out.size)); have c0 := h9.c0; have c1 := h9.c1; have c2 := h9.c2; have c3 := h9.c3; clear h9 hSw; go_simp
 change wpAnyH _ _ _ _ _ _ _ { tmps := #[_,_,_,_,_,_,_,_,_,_,_,_,_,_,_,_,_,_,_,_,_,_,_,_,_,_,_,_,_,_,_,_,_,_,_,_,_,_,_,_,_,_,_,_,_,_,_,_,_,_,_,_,_,_,_,_,_,_,_,_,_,_,_,_,_,_,_,_,_,_,_,_,_,_,_,_,_,_,_,_,_,_,_,_,_,_,_,_,_,_,_,_,_,_,_,_,_,_,_,_,_,_,_,_], defers := _ } _
 refine rdH (i := 2) (by kernel_rfl) rfl (fun KK hK => ?_)
 go_simp
 refine (TX.out z0 (A0.out.trans ((BZ.out.trans ((H).mono BZ.out.size)).mono A0.out.size))).mono ?_
 rintro e z1 ⟨⟨ha, hb1, hd, KA, KB, KD, rfl, hc, ho⟩, hb⟩
 replace H : Below v9.heap.size v9 z1 := H.trans (hb.mono H.size)
 have CQ : Hid (SvV z1 s (saOf s ha hb1 hd KA KB KD)) := hc.v
 clear hb hc ho
 refine hK.out _ _ H (fun _ => ?_)
 clear hK KK
 change wpAnyH _ _ _ _ _ _ _ { tmps := #[_,_,_,_,_,_,_,_,_,_,_,_,_,_,_,_,_,_,_,_,_,_,_,_,_,_,_,_,_,_,_,_,_,_,_,_,_,_,_,_,_,_,_,_,_,_,_,_,_,_,_,_,_,_,_,_,_,_,_,_,_,_,_,_,_,_,_,_,_,_,_,_,_,_,_,_,_,_,_,_,_,_,_,_,_,_,_,_,_,_,_,_,_,_,_,_,_,_,_,_,_,_,_,_], defers := _ } _
 refine rdH (i := 3) (by kernel_rfl) rfl (fun KK hK => ?_)
 go_simp
 refine (EQ.out s (saOf s ga gb gd VA VB VD) (saOf s ha hb1 hd KA KB KD) z1 MX.out (CP.out.v.below H) CQ.out).mono ?_
 rintro e z2 ⟨rfl, hb⟩
 replace CQ : Hid (SvV z2 s (saOf s ha hb1 hd KA KB KD)) := CQ.out.below hb
 replace H : Below v9.heap.size v9 z2 := H.trans (hb.mono H.size)
 clear hb
 refine hK.out _ _ H (fun _ => ?_)
 clear hK KK
 refine tkH (i := 4) (v := .bool false) rfl (by kernel_rfl) (by rfl) ?_ H ?_
 ·intro w' hSw; clear hSw; go_simp
 change wpAnyH _ _ _ _ _ _ _ { tmps := #[_,_,_,_,_,_,_,_,_,_,_,_,_,_,_,_,_,_,_,_,_,_,_,_,_,_,_,_,_,_,_,_,_,_,_,_,_,_,_,_,_,_,_,_,_,_,_,_,_,_,_,_,_,_,_,_,_,_,_,_,_,_,_,_,_,_,_,_,_,_,_,_,_,_,_,_,_,_,_,_,_,_,_,_,_,_,_,_,_,_,_,_,_,_,_,_,_,_,_,_,_,_,_,_], defers := _ } _
 refine wpAnyH_done (by kernel_rfl) ?_ _
 refine NoPanic.normal ?_
 have hb : Below v9.heap.size v9 z2 := H
 clear H CQ
 generalize z2 = va at *
 replace BZ : Hid (Below v5.heap.size v5 va) := BZ.out.trans (hb.mono BZ.out.size)
 replace CP : Hid (CpS va v5.heap.size s ga gb gd VA VB VD) := CP.out.below hb
 replace Z8 : Hid (Box4 va xb 28 (.slice (some ⟨ga, 0, none⟩) s.n s.n) (.int .i64 s.t) (.slice (some ⟨gb, 0, none⟩) s.m s.m) (.slice (some ⟨gd, 0, none⟩) s.l s.l)) := Z8.out.below hb
 replace G9 : Hid (Box4 va b9 28 (.slice q9.a s1.n q9.ca) (.int .i64 s1.t) (.slice q9.b s1.m q9.cb) (.slice q9.d s1.l q9.cd)) := G9.out.below hb
 replace O9 : Hid (OwP va B1 s1 q9 VR VW VQ) := O9.out.below hb
 replace L9 : Hid (B1 ≤ b9 ∧ B1 ≤ va.heap.size) := ⟨L9.out.1, Nat.le_trans L9.out.2 hb.size⟩
 clear hb
 have vx := LX.out
 have k0 := Z8.out.c0
 have k1 := Z8.out.c1
 have k2 := Z8.out.c2
 have k3 := Z8.out.c3
 go_wp2_with fail
 clear k0 k1 k2 k3
 refine (MK.out ga gb gd v5.heap.size xb VA VB VD _ CP.out OD.out LX.out.2 (Nat.le_of_lt Z8.out.lt)).mono ?_
 rintro e vb ⟨⟨km, rfl⟩, hM⟩
 have g9 := L9.out
 have sx := SXB.out
 replace G9 : Hid (Box4 vb b9 28 (.slice q9.a s1.n q9.ca) (.int .i64 s1.t) (.slice q9.b s1.m q9.cb) (.slice q9.d s1.l q9.cd)) := G9.out.ofBlock (hM.block _ G9.out.lt (.inr (by omega)))
 replace O9 : Hid (OwP vb B1 s1 q9 VR VW VQ) := O9.out.keepGe (fun g h1 h2 => hM.block g h2 (.inr (by omega)))
 replace BZ : Hid (Below v5.heap.size v5 vb) := BZ.out.trans (hM.toBelow (Nat.le_trans (by have := BZ.out.size; omega) (Nat.le_refl _)))
 replace L9 : Hid (B1 ≤ b9 ∧ B1 ≤ vb.heap.size) := ⟨g9.1, Nat.le_trans g9.2 hM.size⟩
 have km0 : ¬ (km : Int) < 0 := by omega
 clear hM g9 sx vx CP Z8 OD LX MK SXB
 have k0 := G9.out.c0
 have k1 := G9.out.c1
 have k2 := G9.out.c2
 have k3 := G9.out.c3
 have w6 := W6.out.below BZ.out
 have j0 := w6.c0
 have j1 := w6.c1
 have j2 := w6.c2
 have j3 := w6.c3
 clear w6
 go_wp2_with fail
 clear k0 k1 k2 k3 j0 j1 j2 j3 km0
 refine (EQ.out s1 q9 q6 _ (mxUp M1.out (by omega)) O9.out.sv (O6.out.below BZ.out)).mono ?_
 rintro e vc ⟨rfl, hb⟩
 replace BZ : Hid (Below v5.heap.size v5 vc) := BZ.out.trans (hb.mono BZ.out.size)
 replace G9 : Hid (Box4 vc b9 28 (.slice q9.a s1.n q9.ca) (.int .i64 s1.t) (.slice q9.b s1.m q9.cb) (.slice q9.d s1.l q9.cd)) := G9.out.below hb
 replace O9 : Hid (OwP vc B1 s1 q9 VR VW VQ) := O9.out.below hb
 replace L9 : Hid (B1 ≤ b9 ∧ B1 ≤ vc.heap.size) := ⟨L9.out.1, Nat.le_trans L9.out.2 hb.size⟩
 clear hb
 have k0 := G9.out.c0
 have k1 := G9.out.c1
 have k2 := G9.out.c2
 have k3 := G9.out.c3
 go_wp2_with fail
 clear k0 k1 k2 k3
 refine (markSv_o B1 s1 q9 M1.out _ VR VW VQ O9.out.o O9.out.d L9.out.2).mono ?_
 rintro e vd ⟨rfl, hO, hb0, hkb⟩
 have OM : Hid (SvO vd B1 (mkS s1) (.slice q9.a s1.n q9.ca) (.slice q9.b s1.m q9.cb) (.slice q9.d s1.l q9.cd) VR VW VQ) := hO
 replace G9 : Hid (Box4 vd b9 28 (.slice q9.a s1.n q9.ca) (.int .i64 s1.t) (.slice q9.b s1.m q9.cb) (.slice q9.d s1.l q9.cd)) := hkb _ _ _ _ _ G9.out
 replace BZ : Hid (Below v5.heap.size v5 vd) := BZ.out.trans (hb0.mono LB1.out)
 clear hO hb0 hkb O9 L9 LB1
 have n0 : ¬ ((endS s1 : Nat) : Int) < 0 := by omega
 have ne : (((endS s1 : Nat) : Int) != ((endS s1 : Nat) : Int)) = false := by simp
 have k0 := G9.out.c0
 have k1 := G9.out.c1
 have k2 := G9.out.c2
 have k3 := G9.out.c3
 go_wp2_with fail
 clear k0 k1 k2 k3
 refine (OwP.held M1.out OM.out).mono ?_
 rintro e ve ⟨rfl, hb⟩
 replace BZ : Hid (Below v5.heap.size v5 ve) := BZ.out.trans (hb.mono BZ.out.size)
 replace G9 : Hid (Box4 ve b9 28 (.slice q9.a s1.n q9.ca) (.int .i64 s1.t) (.slice q9.b s1.m q9.cb) (.slice q9.d s1.l q9.cd)) := G9.out.below hb
 replace OM : Hid (SvO ve B1 (mkS s1) (.slice q9.a s1.n q9.ca) (.slice q9.b s1.m q9.cb) (.slice q9.d s1.l q9.cd) VR VW VQ) := OM.out.below hb
 clear hb
 go_wp2_with fail
 go_cut [14, 15] (fun pv cv wx => ∃ (b14 : Nat) (q14 : Sa), pv = .pointer (some ⟨b14, 0, none⟩) ∧ cv = .int .i64 c ∧ Box4 wx b14 28 (.slice q14.a s1.n q14.ca) (.int .i64 s1.t) (.slice q14.b s1.m q14.cb) (.slice q14.d s1.l q14.cd) ∧ SvV wx s1 q14 ∧ Below ve.heap.size ve wx)
 case first =>
  have H : Below ve.heap.size ve ve.drew := (Below.refl _ _).drew
  refine wp_region_noPanic ?_
  refine wp_region_held_drew (S := fun w' => Below ve.heap.size ve w') (by kernel_rfl) H (fun _ => ?_)
  generalize ve.drew = y0 at *
  refine tkH (i := 0) (v := .agg #[.slice p.a s.n p.ca, .int .i64 s.t, .slice p.b s.m p.cb, .slice p.d s.l p.cd]) rfl (by kernel_rfl) (by rfl) ?_ H ?_
  ·intro w' hSw; have h9 := X.out.below (BZ.out.trans (hSw.mono BZ.out.size)); have c0 := h9.c0; have c1 := h9.c1; have c2 := h9.c2; have c3 := h9.c3; clear h9 hSw; go_simp
  change wpAnyH _ _ _ _ _ _ _ { tmps := #[_,_,_,_,_,_,_,_,_,_,_,_,_,_,_,_,_,_,_,_,_,_,_,_,_,_,_,_,_,_,_,_,_,_,_,_,_,_,_,_,_,_,_,_,_,_,_,_,_,_,_,_,_,_,_,_,_,_,_,_,_,_,_,_,_,_,_,_,_,_,_,_,_,_,_,_,_,_,_,_,_,_,_,_,_,_,_,_,_,_,_,_,_,_,_,_,_,_,_,_,_,_,_,_], defers := _ } _
  refine tkH (i := 2) (v := .agg #[.int .i64 ak, .int .i64 ar, .int .i64 an]) rfl (by kernel_rfl) (by rfl) ?_ H ?_
  ·intro w' hSw; have h9 := Y.out.below (BZ.out.trans (hSw.mono BZ.out.size)); have c0 := h9.c0; have c1 := h9.c1; have c2 := h9.c2; clear h9 hSw; go_simp
  change wpAnyH _ _ _ _ _ _ _ { tmps := #[_,_,_,_,_,_,_,_,_,_,_,_,_,_,_,_,_,_,_,_,_,_,_,_,_,_,_,_,_,_,_,_,_,_,_,_,_,_,_,_,_,_,_,_,_,_,_,_,_,_,_,_,_,_,_,_,_,_,_,_,_,_,_,_,_,_,_,_,_,_,_,_,_,_,_,_,_,_,_,_,_,_,_,_,_,_,_,_,_,_,_,_,_,_,_,_,_,_,_,_,_,_,_,_], defers := _ } _
  refine wpAnyH_ready (rs := [1, 8]) (by kernel_rfl) (by simp) ?_
  refine (AllReadyH.cons rfl (fun KK hK => ?b26) (AllReadyH.cons rfl (fun KK hK => ?b27) AllReadyH.nil))
  case' b26 =>
   go_simp
   refine (TX.out y0 (A0.out.trans ((BZ.out.trans ((H).mono BZ.out.size)).mono A0.out.size))).mono ?_
   rintro e y1 ⟨⟨ha, hb1, hd, KA, KB, KD, rfl, hc, ho⟩, hb⟩
   replace H : Below ve.heap.size ve y1 := H.trans (hb.mono H.size)
   have CQ : Hid (SvV y1 s (saOf s ha hb1 hd KA KB KD)) := hc.v
   clear hb hc ho
   refine hK.out _ _ H (fun _ => ?_)
   clear hK KK
   change wpAnyH _ _ _ _ _ _ _ { tmps := #[_,_,_,_,_,_,_,_,_,_,_,_,_,_,_,_,_,_,_,_,_,_,_,_,_,_,_,_,_,_,_,_,_,_,_,_,_,_,_,_,_,_,_,_,_,_,_,_,_,_,_,_,_,_,_,_,_,_,_,_,_,_,_,_,_,_,_,_,_,_,_,_,_,_,_,_,_,_,_,_,_,_,_,_,_,_,_,_,_,_,_,_,_,_,_,_,_,_,_,_,_,_,_,_], defers := _ } _
   refine wpAnyH_ready (rs := [3, 8]) (by kernel_rfl) (by simp) ?_
   refine (AllReadyH.cons rfl (fun KK hK => ?b28) (AllReadyH.cons rfl (fun KK hK => ?b29) AllReadyH.nil))
   case' b28 =>
    go_simp
    refine (toQuAct_any ak ar an y1).mono ?_
    rintro e y2 ⟨rfl, hb⟩
    replace CQ : Hid (SvV y2 s (saOf s ha hb1 hd KA KB KD)) := CQ.out.below hb
    replace H : Below ve.heap.size ve y2 := H.trans (hb.mono H.size)
    clear hb
    refine hK.out _ _ H (fun _ => ?_)
    clear hK KK
    change wpAnyH _ _ _ _ _ _ _ { tmps := #[_,_,_,_,_,_,_,_,_,_,_,_,_,_,_,_,_,_,_,_,_,_,_,_,_,_,_,_,_,_,_,_,_,_,_,_,_,_,_,_,_,_,_,_,_,_,_,_,_,_,_,_,_,_,_,_,_,_,_,_,_,_,_,_,_,_,_,_,_,_,_,_,_,_,_,_,_,_,_,_,_,_,_,_,_,_,_,_,_,_,_,_,_,_,_,_,_,_,_,_,_,_,_,_], defers := _ } _
    refine wpAnyH_ready (rs := [4, 8]) (by kernel_rfl) (by simp) ?_
    refine (AllReadyH.cons rfl (fun KK hK => ?b30) (AllReadyH.cons rfl (fun KK hK => ?b31) AllReadyH.nil))
    case' b30 =>
     go_simp
     refine (implStep_v s (saOf s ha hb1 hd KA KB KD) ak ar an MX.out y2 CQ.out (saOf_z s ha hb1 hd KA KB KD).1 (saOf_z s ha hb1 hd KA KB KD).2).mono ?_
     rintro e y3 ⟨h9, hb⟩
     replace CQ : Hid (SvV y3 s (saOf s ha hb1 hd KA KB KD)) := CQ.out.below hb
     replace h9 := RetSs.mono h9 (Nat.zero_le _)
     obtain ⟨q14, WR, WW, WQ, rfl, how⟩ := h9.owAt ST.out
     replace H : Below ve.heap.size ve y3 := H.trans (hb.mono H.size)
     have OW : Hid (OwP y3 0 s1 q14 WR WW WQ) := how
     clear hb how
     refine hK.out _ _ H (fun _ => ?_)
     clear hK KK
     refine tkH (i := 5) (v := .tuple #[.agg #[.slice q14.a s1.n q14.ca, .int .i64 s1.t, .slice q14.b s1.m q14.cb, .slice q14.d s1.l q14.cd], .int .i64 c]) rfl (by kernel_rfl) (by rfl) ?_ H ?_
     ·intro w' hSw; clear hSw; go_simp
     refine tkH (i := 6) (v := .agg #[.slice q14.a s1.n q14.ca, .int .i64 s1.t, .slice q14.b s1.m q14.cb, .slice q14.d s1.l q14.cd]) rfl (by kernel_rfl) (by rfl) ?_ H ?_
     ·intro w' hSw; clear hSw; go_simp
     refine tkH (i := 7) (v := .int .i64 c) rfl (by kernel_rfl) (by rfl) ?_ H ?_
     ·intro w' hSw; clear hSw; go_simp
     change wpAnyH _ _ _ _ _ _ _ { tmps := #[_,_,_,_,_,_,_,_,_,_,_,_,_,_,_,_,_,_,_,_,_,_,_,_,_,_,_,_,_,_,_,_,_,_,_,_,_,_,_,_,_,_,_,_,_,_,_,_,_,_,_,_,_,_,_,_,_,_,_,_,_,_,_,_,_,_,_,_,_,_,_,_,_,_,_,_,_,_,_,_,_,_,_,_,_,_,_,_,_,_,_,_,_,_,_,_,_,_,_,_,_,_,_,_], defers := _ } _
     refine rdH (i := 8) (by kernel_rfl) rfl (fun KK hK => ?_)
     go_simp
     have hb : Below y3.heap.size y3 (y3.alloc (.cells #[.slice none 0 0, .int .i64 0, .slice none 0 0, .slice none 0 0] 28)) := (Below.refl _ _).alloc (Nat.le_refl _) _
     have PX9 : Hid (Box4 (y3.alloc (.cells #[.slice none 0 0, .int .i64 0, .slice none 0 0, .slice none 0 0] 28)) y3.heap.size 28 (.slice none 0 0) (.int .i64 0) (.slice none 0 0) (.slice none 0 0)) := Box4.madeAt rfl _ _ _ _ _
     have Lhb9 : Hid (ve.heap.size ≤ y3.heap.size) := H.size
     replace CQ : Hid (SvV (y3.alloc (.cells #[.slice none 0 0, .int .i64 0, .slice none 0 0, .slice none 0 0] 28)) s (saOf s ha hb1 hd KA KB KD)) := CQ.out.below hb
     replace OW : Hid (OwP (y3.alloc (.cells #[.slice none 0 0, .int .i64 0, .slice none 0 0, .slice none 0 0] 28)) 0 s1 q14 WR WW WQ) := OW.out.below hb
     replace H : Below ve.heap.size ve (y3.alloc (.cells #[.slice none 0 0, .int .i64 0, .slice none 0 0, .slice none 0 0] 28)) := H.trans (hb.mono H.size)
     clear hb
     refine hK.out _ _ H (fun _ => ?_)
     clear hK KK
     generalize (y3.alloc (.cells #[.slice none 0 0, .int .i64 0, .slice none 0 0, .slice none 0 0] 28)) = y4 at *
     generalize y3.heap.size = hb9 at *
     change wpAnyH _ _ _ _ _ _ _ { tmps := #[_,_,_,_,_,_,_,_,_,_,_,_,_,_,_,_,_,_,_,_,_,_,_,_,_,_,_,_,_,_,_,_,_,_,_,_,_,_,_,_,_,_,_,_,_,_,_,_,_,_,_,_,_,_,_,_,_,_,_,_,_,_,_,_,_,_,_,_,_,_,_,_,_,_,_,_,_,_,_,_,_,_,_,_,_,_,_,_,_,_,_,_,_,_,_,_,_,_,_,_,_,_,_,_], defers := _ } _
    case' b31 =>
     go_simp
     have hb : Below y2.heap.size y2 (y2.alloc (.cells #[.slice none 0 0, .int .i64 0, .slice none 0 0, .slice none 0 0] 28)) := (Below.refl _ _).alloc (Nat.le_refl _) _
     have PX9 : Hid (Box4 (y2.alloc (.cells #[.slice none 0 0, .int .i64 0, .slice none 0 0, .slice none 0 0] 28)) y2.heap.size 28 (.slice none 0 0) (.int .i64 0) (.slice none 0 0) (.slice none 0 0)) := Box4.madeAt rfl _ _ _ _ _
     have Lhb9 : Hid (ve.heap.size ≤ y2.heap.size) := H.size
     replace CQ : Hid (SvV (y2.alloc (.cells #[.slice none 0 0, .int .i64 0, .slice none 0 0, .slice none 0 0] 28)) s (saOf s ha hb1 hd KA KB KD)) := CQ.out.below hb
     replace H : Below ve.heap.size ve (y2.alloc (.cells #[.slice none 0 0, .int .i64 0, .slice none 0 0, .slice none 0 0] 28)) := H.trans (hb.mono H.size)
     clear hb
     refine hK.out _ _ H (fun _ => ?_)
     clear hK KK
     generalize (y2.alloc (.cells #[.slice none 0 0, .int .i64 0, .slice none 0 0, .slice none 0 0] 28)) = y3 at *
     generalize y2.heap.size = hb9 at *
     change wpAnyH _ _ _ _ _ _ _ { tmps := #[_,_,_,_,_,_,_,_,_,_,_,_,_,_,_,_,_,_,_,_,_,_,_,_,_,_,_,_,_,_,_,_,_,_,_,_,_,_,_,_,_,_,_,_,_,_,_,_,_,_,_,_,_,_,_,_,_,_,_,_,_,_,_,_,_,_,_,_,_,_,_,_,_,_,_,_,_,_,_,_,_,_,_,_,_,_,_,_,_,_,_,_,_,_,_,_,_,_,_,_,_,_,_,_], defers := _ } _
     refine rdH (i := 4) (by kernel_rfl) rfl (fun KK hK => ?_)
     go_simp
     refine (implStep_v s (saOf s ha hb1 hd KA KB KD) ak ar an MX.out y3 CQ.out (saOf_z s ha hb1 hd KA KB KD).1 (saOf_z s ha hb1 hd KA KB KD).2).mono ?_
     rintro e y4 ⟨h9, hb⟩
     replace CQ : Hid (SvV y4 s (saOf s ha hb1 hd KA KB KD)) := CQ.out.below hb
     replace PX9 : Hid (Box4 y4 hb9 28 (.slice none 0 0) (.int .i64 0) (.slice none 0 0) (.slice none 0 0)) := PX9.out.below hb
     replace h9 := RetSs.mono h9 (Nat.zero_le _)
     obtain ⟨q14, WR, WW, WQ, rfl, how⟩ := h9.owAt ST.out
     replace H : Below ve.heap.size ve y4 := H.trans (hb.mono H.size)
     have OW : Hid (OwP y4 0 s1 q14 WR WW WQ) := how
     clear hb how
     refine hK.out _ _ H (fun _ => ?_)
     clear hK KK
     change wpAnyH _ _ _ _ _ _ _ { tmps := #[_,_,_,_,_,_,_,_,_,_,_,_,_,_,_,_,_,_,_,_,_,_,_,_,_,_,_,_,_,_,_,_,_,_,_,_,_,_,_,_,_,_,_,_,_,_,_,_,_,_,_,_,_,_,_,_,_,_,_,_,_,_,_,_,_,_,_,_,_,_,_,_,_,_,_,_,_,_,_,_,_,_,_,_,_,_,_,_,_,_,_,_,_,_,_,_,_,_,_,_,_,_,_,_], defers := _ } _
     refine tkH (i := 5) (v := .tuple #[.agg #[.slice q14.a s1.n q14.ca, .int .i64 s1.t, .slice q14.b s1.m q14.cb, .slice q14.d s1.l q14.cd], .int .i64 c]) rfl (by kernel_rfl) (by rfl) ?_ H ?_
     ·intro w' hSw; clear hSw; go_simp
     refine tkH (i := 6) (v := .agg #[.slice q14.a s1.n q14.ca, .int .i64 s1.t, .slice q14.b s1.m q14.cb, .slice q14.d s1.l q14.cd]) rfl (by kernel_rfl) (by rfl) ?_ H ?_
     ·intro w' hSw; clear hSw; go_simp
     refine tkH (i := 7) (v := .int .i64 c) rfl (by kernel_rfl) (by rfl) ?_ H ?_
     ·intro w' hSw; clear hSw; go_simp
     change wpAnyH _ _ _ _ _ _ _ { tmps := #[_,_,_,_,_,_,_,_,_,_,_,_,_,_,_,_,_,_,_,_,_,_,_,_,_,_,_,_,_,_,_,_,_,_,_,_,_,_,_,_,_,_,_,_,_,_,_,_,_,_,_,_,_,_,_,_,_,_,_,_,_,_,_,_,_,_,_,_,_,_,_,_,_,_,_,_,_,_,_,_,_,_,_,_,_,_,_,_,_,_,_,_,_,_,_,_,_,_,_,_,_,_,_,_], defers := _ } _
   case' b29 =>
    go_simp
    have hb : Below y1.heap.size y1 (y1.alloc (.cells #[.slice none 0 0, .int .i64 0, .slice none 0 0, .slice none 0 0] 28)) := (Below.refl _ _).alloc (Nat.le_refl _) _
    have PX9 : Hid (Box4 (y1.alloc (.cells #[.slice none 0 0, .int .i64 0, .slice none 0 0, .slice none 0 0] 28)) y1.heap.size 28 (.slice none 0 0) (.int .i64 0) (.slice none 0 0) (.slice none 0 0)) := Box4.madeAt rfl _ _ _ _ _
    have Lhb9 : Hid (ve.heap.size ≤ y1.heap.size) := H.size
    replace CQ : Hid (SvV (y1.alloc (.cells #[.slice none 0 0, .int .i64 0, .slice none 0 0, .slice none 0 0] 28)) s (saOf s ha hb1 hd KA KB KD)) := CQ.out.below hb
    replace H : Below ve.heap.size ve (y1.alloc (.cells #[.slice none 0 0, .int .i64 0, .slice none 0 0, .slice none 0 0] 28)) := H.trans (hb.mono H.size)
    clear hb
    refine hK.out _ _ H (fun _ => ?_)
    clear hK KK
    generalize (y1.alloc (.cells #[.slice none 0 0, .int .i64 0, .slice none 0 0, .slice none 0 0] 28)) = y2 at *
    generalize y1.heap.size = hb9 at *
    change wpAnyH _ _ _ _ _ _ _ { tmps := #[_,_,_,_,_,_,_,_,_,_,_,_,_,_,_,_,_,_,_,_,_,_,_,_,_,_,_,_,_,_,_,_,_,_,_,_,_,_,_,_,_,_,_,_,_,_,_,_,_,_,_,_,_,_,_,_,_,_,_,_,_,_,_,_,_,_,_,_,_,_,_,_,_,_,_,_,_,_,_,_,_,_,_,_,_,_,_,_,_,_,_,_,_,_,_,_,_,_,_,_,_,_,_,_], defers := _ } _
    refine rdH (i := 3) (by kernel_rfl) rfl (fun KK hK => ?_)
    go_simp
    refine (toQuAct_any ak ar an y2).mono ?_
    rintro e y3 ⟨rfl, hb⟩
    replace CQ : Hid (SvV y3 s (saOf s ha hb1 hd KA KB KD)) := CQ.out.below hb
    replace PX9 : Hid (Box4 y3 hb9 28 (.slice none 0 0) (.int .i64 0) (.slice none 0 0) (.slice none 0 0)) := PX9.out.below hb
    replace H : Below ve.heap.size ve y3 := H.trans (hb.mono H.size)
    clear hb
    refine hK.out _ _ H (fun _ => ?_)
    clear hK KK
    change wpAnyH _ _ _ _ _ _ _ { tmps := #[_,_,_,_,_,_,_,_,_,_,_,_,_,_,_,_,_,_,_,_,_,_,_,_,_,_,_,_,_,_,_,_,_,_,_,_,_,_,_,_,_,_,_,_,_,_,_,_,_,_,_,_,_,_,_,_,_,_,_,_,_,_,_,_,_,_,_,_,_,_,_,_,_,_,_,_,_,_,_,_,_,_,_,_,_,_,_,_,_,_,_,_,_,_,_,_,_,_,_,_,_,_,_,_], defers := _ } _
    refine rdH (i := 4) (by kernel_rfl) rfl (fun KK hK => ?_)
    go_simp
    refine (implStep_v s (saOf s ha hb1 hd KA KB KD) ak ar an MX.out y3 CQ.out (saOf_z s ha hb1 hd KA KB KD).1 (saOf_z s ha hb1 hd KA KB KD).2).mono ?_
    rintro e y4 ⟨h9, hb⟩
    replace CQ : Hid (SvV y4 s (saOf s ha hb1 hd KA KB KD)) := CQ.out.below hb
    replace PX9 : Hid (Box4 y4 hb9 28 (.slice none 0 0) (.int .i64 0) (.slice none 0 0) (.slice none 0 0)) := PX9.out.below hb
    replace h9 := RetSs.mono h9 (Nat.zero_le _)
    obtain ⟨q14, WR, WW, WQ, rfl, how⟩ := h9.owAt ST.out
    replace H : Below ve.heap.size ve y4 := H.trans (hb.mono H.size)
    have OW : Hid (OwP y4 0 s1 q14 WR WW WQ) := how
    clear hb how
    refine hK.out _ _ H (fun _ => ?_)
    clear hK KK
    refine tkH (i := 5) (v := .tuple #[.agg #[.slice q14.a s1.n q14.ca, .int .i64 s1.t, .slice q14.b s1.m q14.cb, .slice q14.d s1.l q14.cd], .int .i64 c]) rfl (by kernel_rfl) (by rfl) ?_ H ?_
    ·intro w' hSw; clear hSw; go_simp
    change wpAnyH _ _ _ _ _ _ _ { tmps := #[_,_,_,_,_,_,_,_,_,_,_,_,_,_,_,_,_,_,_,_,_,_,_,_,_,_,_,_,_,_,_,_,_,_,_,_,_,_,_,_,_,_,_,_,_,_,_,_,_,_,_,_,_,_,_,_,_,_,_,_,_,_,_,_,_,_,_,_,_,_,_,_,_,_,_,_,_,_,_,_,_,_,_,_,_,_,_,_,_,_,_,_,_,_,_,_,_,_,_,_,_,_,_,_], defers := _ } _
    refine tkH (i := 6) (v := .agg #[.slice q14.a s1.n q14.ca, .int .i64 s1.t, .slice q14.b s1.m q14.cb, .slice q14.d s1.l q14.cd]) rfl (by kernel_rfl) (by rfl) ?_ H ?_
    ·intro w' hSw; clear hSw; go_simp
    refine tkH (i := 7) (v := .int .i64 c) rfl (by kernel_rfl) (by rfl) ?_ H ?_
    ·intro w' hSw; clear hSw; go_simp
    change wpAnyH _ _ _ _ _ _ _ { tmps := #[_,_,_,_,_,_,_,_,_,_,_,_,_,_,_,_,_,_,_,_,_,_,_,_,_,_,_,_,_,_,_,_,_,_,_,_,_,_,_,_,_,_,_,_,_,_,_,_,_,_,_,_,_,_,_,_,_,_,_,_,_,_,_,_,_,_,_,_,_,_,_,_,_,_,_,_,_,_,_,_,_,_,_,_,_,_,_,_,_,_,_,_,_,_,_,_,_,_,_,_,_,_,_,_], defers := _ } _
  case' b27 =>
   go_simp
   have hb : Below y0.heap.size y0 (y0.alloc (.cells #[.slice none 0 0, .int .i64 0, .slice none 0 0, .slice none 0 0] 28)) := (Below.refl _ _).alloc (Nat.le_refl _) _
   have PX9 : Hid (Box4 (y0.alloc (.cells #[.slice none 0 0, .int .i64 0, .slice none 0 0, .slice none 0 0] 28)) y0.heap.size 28 (.slice none 0 0) (.int .i64 0) (.slice none 0 0) (.slice none 0 0)) := Box4.madeAt rfl _ _ _ _ _
   have Lhb9 : Hid (ve.heap.size ≤ y0.heap.size) := H.size
   replace H : Below ve.heap.size ve (y0.alloc (.cells #[.slice none 0 0, .int .i64 0, .slice none 0 0, .slice none 0 0] 28)) := H.trans (hb.mono H.size)
   clear hb
   refine hK.out _ _ H (fun _ => ?_)
   clear hK KK
   generalize (y0.alloc (.cells #[.slice none 0 0, .int .i64 0, .slice none 0 0, .slice none 0 0] 28)) = y1 at *
   generalize y0.heap.size = hb9 at *
   change wpAnyH _ _ _ _ _ _ _ { tmps := #[_,_,_,_,_,_,_,_,_,_,_,_,_,_,_,_,_,_,_,_,_,_,_,_,_,_,_,_,_,_,_,_,_,_,_,_,_,_,_,_,_,_,_,_,_,_,_,_,_,_,_,_,_,_,_,_,_,_,_,_,_,_,_,_,_,_,_,_,_,_,_,_,_,_,_,_,_,_,_,_,_,_,_,_,_,_,_,_,_,_,_,_,_,_,_,_,_,_,_,_,_,_,_,_], defers := _ } _
   refine rdH (i := 1) (by kernel_rfl) rfl (fun KK hK => ?_)
   go_simp
   refine (TX.out y1 (A0.out.trans ((BZ.out.trans ((H).mono BZ.out.size)).mono A0.out.size))).mono ?_
   rintro e y2 ⟨⟨ha, hb1, hd, KA, KB, KD, rfl, hc, ho⟩, hb⟩
   replace PX9 : Hid (Box4 y2 hb9 28 (.slice none 0 0) (.int .i64 0) (.slice none 0 0) (.slice none 0 0)) := PX9.out.below hb
   replace H : Below ve.heap.size ve y2 := H.trans (hb.mono H.size)
   have CQ : Hid (SvV y2 s (saOf s ha hb1 hd KA KB KD)) := hc.v
   clear hb hc ho
   refine hK.out _ _ H (fun _ => ?_)
   clear hK KK
   change wpAnyH _ _ _ _ _ _ _ { tmps := #[_,_,_,_,_,_,_,_,_,_,_,_,_,_,_,_,_,_,_,_,_,_,_,_,_,_,_,_,_,_,_,_,_,_,_,_,_,_,_,_,_,_,_,_,_,_,_,_,_,_,_,_,_,_,_,_,_,_,_,_,_,_,_,_,_,_,_,_,_,_,_,_,_,_,_,_,_,_,_,_,_,_,_,_,_,_,_,_,_,_,_,_,_,_,_,_,_,_,_,_,_,_,_,_], defers := _ } _
   refine rdH (i := 3) (by kernel_rfl) rfl (fun KK hK => ?_)
   go_simp
   refine (toQuAct_any ak ar an y2).mono ?_
   rintro e y3 ⟨rfl, hb⟩
   replace PX9 : Hid (Box4 y3 hb9 28 (.slice none 0 0) (.int .i64 0) (.slice none 0 0) (.slice none 0 0)) := PX9.out.below hb
   replace CQ : Hid (SvV y3 s (saOf s ha hb1 hd KA KB KD)) := CQ.out.below hb
   replace H : Below ve.heap.size ve y3 := H.trans (hb.mono H.size)
   clear hb
   refine hK.out _ _ H (fun _ => ?_)
   clear hK KK
   change wpAnyH _ _ _ _ _ _ _ { tmps := #[_,_,_,_,_,_,_,_,_,_,_,_,_,_,_,_,_,_,_,_,_,_,_,_,_,_,_,_,_,_,_,_,_,_,_,_,_,_,_,_,_,_,_,_,_,_,_,_,_,_,_,_,_,_,_,_,_,_,_,_,_,_,_,_,_,_,_,_,_,_,_,_,_,_,_,_,_,_,_,_,_,_,_,_,_,_,_,_,_,_,_,_,_,_,_,_,_,_,_,_,_,_,_,_], defers := _ } _
   refine rdH (i := 4) (by kernel_rfl) rfl (fun KK hK => ?_)
   go_simp
   refine (implStep_v s (saOf s ha hb1 hd KA KB KD) ak ar an MX.out y3 CQ.out (saOf_z s ha hb1 hd KA KB KD).1 (saOf_z s ha hb1 hd KA KB KD).2).mono ?_
   rintro e y4 ⟨h9, hb⟩
   replace PX9 : Hid (Box4 y4 hb9 28 (.slice none 0 0) (.int .i64 0) (.slice none 0 0) (.slice none 0 0)) := PX9.out.below hb
   replace CQ : Hid (SvV y4 s (saOf s ha hb1 hd KA KB KD)) := CQ.out.below hb
   replace h9 := RetSs.mono h9 (Nat.zero_le _)
   obtain ⟨q14, WR, WW, WQ, rfl, how⟩ := h9.owAt ST.out
   replace H : Below ve.heap.size ve y4 := H.trans (hb.mono H.size)
   have OW : Hid (OwP y4 0 s1 q14 WR WW WQ) := how
   clear hb how
   refine hK.out _ _ H (fun _ => ?_)
   clear hK KK
   refine tkH (i := 5) (v := .tuple #[.agg #[.slice q14.a s1.n q14.ca, .int .i64 s1.t, .slice q14.b s1.m q14.cb, .slice q14.d s1.l q14.cd], .int .i64 c]) rfl (by kernel_rfl) (by rfl) ?_ H ?_
   ·intro w' hSw; clear hSw; go_simp
   refine tkH (i := 6) (v := .agg #[.slice q14.a s1.n q14.ca, .int .i64 s1.t, .slice q14.b s1.m q14.cb, .slice q14.d s1.l q14.cd]) rfl (by kernel_rfl) (by rfl) ?_ H ?_
   ·intro w' hSw; clear hSw; go_simp
   change wpAnyH _ _ _ _ _ _ _ { tmps := #[_,_,_,_,_,_,_,_,_,_,_,_,_,_,_,_,_,_,_,_,_,_,_,_,_,_,_,_,_,_,_,_,_,_,_,_,_,_,_,_,_,_,_,_,_,_,_,_,_,_,_,_,_,_,_,_,_,_,_,_,_,_,_,_,_,_,_,_,_,_,_,_,_,_,_,_,_,_,_,_,_,_,_,_,_,_,_,_,_,_,_,_,_,_,_,_,_,_,_,_,_,_,_,_], defers := _ } _
   refine tkH (i := 7) (v := .int .i64 c) rfl (by kernel_rfl) (by rfl) ?_ H ?_
   ·intro w' hSw; clear hSw; go_simp
   change wpAnyH _ _ _ _ _ _ _ { tmps := #[_,_,_,_,_,_,_,_,_,_,_,_,_,_,_,_,_,_,_,_,_,_,_,_,_,_,_,_,_,_,_,_,_,_,_,_,_,_,_,_,_,_,_,_,_,_,_,_,_,_,_,_,_,_,_,_,_,_,_,_,_,_,_,_,_,_,_,_,_,_,_,_,_,_,_,_,_,_,_,_,_,_,_,_,_,_,_,_,_,_,_,_,_,_,_,_,_,_,_,_,_,_,_,_], defers := _ } _
  all_goals
   refine rdH (i := 9) (by kernel_rfl) rfl (fun KK hK => ?_)
   have k0 := PX9.out.c0
   have k1 := PX9.out.c1
   have k2 := PX9.out.c2
   have k3 := PX9.out.c3
   have f0 := PX9.out.fr 0
   have f1 := PX9.out.fr 1
   have f2 := PX9.out.fr 2
   have f3 := PX9.out.fr 3
   go_simp
   have Z9 : Hid (Box4 ((((y4.setCell ⟨hb9, 0, none⟩ (.slice q14.a s1.n q14.ca)).setCell ⟨hb9, 1, none⟩ (.int .i64 s1.t)).setCell ⟨hb9, 2, none⟩ (.slice q14.b s1.m q14.cb)).setCell ⟨hb9, 3, none⟩ (.slice q14.d s1.l q14.cd)) hb9 28 (.slice q14.a s1.n q14.ca) (.int .i64 s1.t) (.slice q14.b s1.m q14.cb) (.slice q14.d s1.l q14.cd)) := (((PX9.out.set0 _).set1 _).set2 _).set3 _
   have O9 : Hid (OwP ((((y4.setCell ⟨hb9, 0, none⟩ (.slice q14.a s1.n q14.ca)).setCell ⟨hb9, 1, none⟩ (.int .i64 s1.t)).setCell ⟨hb9, 2, none⟩ (.slice q14.b s1.m q14.cb)).setCell ⟨hb9, 3, none⟩ (.slice q14.d s1.l q14.cd)) 0 s1 q14 WR WW WQ) := OW.out.res PX9.out _ _ _ _
   replace H : Below ve.heap.size ve ((((y4.setCell ⟨hb9, 0, none⟩ (.slice q14.a s1.n q14.ca)).setCell ⟨hb9, 1, none⟩ (.int .i64 s1.t)).setCell ⟨hb9, 2, none⟩ (.slice q14.b s1.m q14.cb)).setCell ⟨hb9, 3, none⟩ (.slice q14.d s1.l q14.cd)) := below_res H Lhb9.out _ _ _ _
   clear k0 k1 k2 k3 f0 f1 f2 f3 PX9 OW
   generalize ((((y4.setCell ⟨hb9, 0, none⟩ (.slice q14.a s1.n q14.ca)).setCell ⟨hb9, 1, none⟩ (.int .i64 s1.t)).setCell ⟨hb9, 2, none⟩ (.slice q14.b s1.m q14.cb)).setCell ⟨hb9, 3, none⟩ (.slice q14.d s1.l q14.cd)) = y5 at *
   refine hK.out _ _ H (fun _ => ?_)
   clear hK KK
   refine tkH (i := 10) (v := .int .i64 c) rfl (by kernel_rfl) (by rfl) ?_ H ?_
   ·intro w' hSw; clear hSw; go_simp
   change wpAnyH _ _ _ _ _ _ _ { tmps := #[_,_,_,_,_,_,_,_,_,_,_,_,_,_,_,_,_,_,_,_,_,_,_,_,_,_,_,_,_,_,_,_,_,_,_,_,_,_,_,_,_,_,_,_,_,_,_,_,_,_,_,_,_,_,_,_,_,_,_,_,_,_,_,_,_,_,_,_,_,_,_,_,_,_,_,_,_,_,_,_,_,_,_,_,_,_,_,_,_,_,_,_,_,_,_,_,_,_,_,_,_,_,_,_], defers := _ } _
   refine wpAnyH_done (by kernel_rfl) ?_ _
   refine NoPanic.normal ?_
   change Exit.then _ _ Exit.normal { tmps := #[_, _, _, _, _, _, _, _, _, _, _, _, _, _, _, _, _, _, _, _, _, _, _, _, _, _, _, _, _, _, _, _, _, _, _, _, _, _, _, _, _, _, _, _, _, _, _, _, _, _, _, _, _, _, _, _, _, _, _, _, _, _, _, _, _, _, _, _, _, _, _, _, _, _, _, _, _, _, _, _, _, _, _, _, _, _, _, _, _, _, _, _, _, _, _, _, _, _, _, _, _, _, _, _], defers := _ } _
   go_wp2_with fail
   go_meet
   exact ⟨hb9, q14, rfl, rfl, Z9.out, O9.out.sv, H⟩
 case rest =>
 obtain ⟨b14, q14, rfl, rfl, hz14, hv14, hb⟩ := hcut
 have G14 : Hid (Box4 wc b14 28 (.slice q14.a s1.n q14.ca) (.int .i64 s1.t) (.slice q14.b s1.m q14.cb) (.slice q14.d s1.l q14.cd)) := hz14
 have V14 : Hid (SvV wc s1 q14) := hv14
 clear hz14 hv14
 replace BZ : Hid (Below v5.heap.size v5 wc) := BZ.out.trans (hb.mono BZ.out.size)
 replace G9 : Hid (Box4 wc b9 28 (.slice q9.a s1.n q9.ca) (.int .i64 s1.t) (.slice q9.b s1.m q9.cb) (.slice q9.d s1.l q9.cd)) := G9.out.below hb
 replace OM : Hid (SvO wc B1 (mkS s1) (.slice q9.a s1.n q9.ca) (.slice q9.b s1.m q9.cb) (.slice q9.d s1.l q9.cd) VR VW VQ) := OM.out.below hb
 clear hb
 generalize wc = vf at *
 have k0 := G14.out.c0
 have k1 := G14.out.c1
 have k2 := G14.out.c2
 have k3 := G14.out.c3
 have w6 := W6.out.below BZ.out
 have j0 := w6.c0
 have j1 := w6.c1
 have j2 := w6.c2
 have j3 := w6.c3
 clear w6
 go_wp2_with fail
 clear k0 k1 k2 k3 j0 j1 j2 j3
 refine (EQ.out s1 q14 q6 _ (mxUp M1.out (by omega)) V14.out (O6.out.below BZ.out)).mono ?_
 rintro e vg ⟨rfl, hb⟩
 replace BZ : Hid (Below v5.heap.size v5 vg) := BZ.out.trans (hb.mono BZ.out.size)
 replace G9 : Hid (Box4 vg b9 28 (.slice q9.a s1.n q9.ca) (.int .i64 s1.t) (.slice q9.b s1.m q9.cb) (.slice q9.d s1.l q9.cd)) := G9.out.below hb
 replace OM : Hid (SvO vg B1 (mkS s1) (.slice q9.a s1.n q9.ca) (.slice q9.b s1.m q9.cb) (.slice q9.d s1.l q9.cd) VR VW VQ) := OM.out.below hb
 clear hb
 clear G14 V14 W6 O6 EQ
 have k0 := G9.out.c0
 have k1 := G9.out.c1
 have k2 := G9.out.c2
 have k3 := G9.out.c3
 go_wp2_with fail
 clear k0 k1 k2 k3
 refine (OwP.held M1.out OM.out).mono ?_
 rintro e vh ⟨rfl, hb⟩
 replace BZ : Hid (Below v5.heap.size v5 vh) := BZ.out.trans (hb.mono BZ.out.size)
 replace G9 : Hid (Box4 vh b9 28 (.slice q9.a s1.n q9.ca) (.int .i64 s1.t) (.slice q9.b s1.m q9.cb) (.slice q9.d s1.l q9.cd)) := G9.out.below hb
 replace OM : Hid (SvO vh B1 (mkS s1) (.slice q9.a s1.n q9.ca) (.slice q9.b s1.m q9.cb) (.slice q9.d s1.l q9.cd) VR VW VQ) := OM.out.below hb
 clear hb
 have AF : Hid (Below w.heap.size w vh) := A0.out.trans (BZ.out.mono A0.out.size)
 clear G9 OM BZ X Y TX A0 HE MX ST M1
 go_wp2
 go_ret
 exact ⟨rfl, AF.out⟩
end Go.Proofs.Ytedncfcmhaaobaa
