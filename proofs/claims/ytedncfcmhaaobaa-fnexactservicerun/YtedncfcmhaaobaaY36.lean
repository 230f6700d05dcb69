/-
  Texts of the proof, joined: QuEc, Box3, QuP0.
-/
import Derived.Test.YtedncfcmhaaobaaY32
import Derived.Deep.Cut
import Derived.Test.YtedncfcmhaaobaaY01
import Derived.Test.YtedncfcmhaaobaaY35
import Derived.Test.YtedncfcmhaaobaaY26
import Derived.Test.YtedncfcmhaaobaaY25
import Derived.Test.YtedncfcmhaaobaaY05
import Derived.Test.YtedncfcmhaaobaaTkH
namespace Go.Proofs.Ytedncfcmhaaobaa
open Go.ChangeShapes Go.WideShapes Go.ChangeAt Go.RowKit
set_option linter.unusedVariables false
def SEc (v : World) (g f : Nat) (c t : Int) (w' : World) : Prop := ChB (PG g) v w' ∧ w'.cell? ⟨g, f * 8 + 1, none⟩ = some (.int .i64 c) ∧ w'.cell? ⟨g, f * 8 + 2, none⟩ = some (.int .i64 t)
theorem SEc.below {v w w' : World} {g f : Nat} {c t : Int} (h : SEc v g f c t w) (hb : Below w.heap.size w w') : SEc v g f c t w' := ⟨h.1.step hb, (hb.cell (strBlock h.2.1)).trans h.2.1, (hb.cell (strBlock h.2.2)).trans h.2.2⟩
theorem SEc.at {v w : World} {g f : Nat} {c t : Int} (h : SEc v g f c t w) {i : Nat} (h1 : i ≠ f * 8 + 1) (h2 : i ≠ f * 8 + 2) (u : Value) : SEc v g f c t (w.setCell ⟨g, i, none⟩ u) :=
 ⟨h.1.at g (.inl rfl) i u, (World.cell?_setCell_other _ ⟨g, i, none⟩ ⟨g, f * 8 + 1, none⟩ _ (fun q => h1 (congrArg Addr.off q))).trans h.2.1, (World.cell?_setCell_other _ ⟨g, i, none⟩ ⟨g, f * 8 + 2, none⟩ _ (fun q => h2 (congrArg Addr.off q))).trans h.2.2⟩
theorem retA_echo {N : Nat → Prop} {w : World} {B b : Nat} {s : Sv} {a : Qa} {k f : Nat} {x : Rp} (hk : k < s.n) (hf : f < s.n) (hA : a.k = 7 ∧ a.r = k ∧ a.n = f) (hu : (s.R k).mute = true) (hne : f ≠ k) (hv : (s.R f).mute = false) (hn : ¬ hasE (s.R k).ne (s.R k).E f) (hx : x = (s.R k).echo s.n f (s.R f).nc (s.R f).nt) (h : SvX N w B b { s with R := updE s.R k x }) : RetA N B b s a (.returned (.int .i64 0)) w := by
 subst hx
 exact ⟨_, 0, .echo k f hk hA.2.1 hA.1 hu hf hA.2.2 hne hv hn, rfl, h⟩
theorem RkR.wakes {w : World} {B g c n : Nat} {R : Nat → Rp} {V : Nat → Value} {k : Nat} {r : Rp} {v : Value} (h : RkR w B g c n R V k r v) (hk : k < n) : RkR ((((w.setCell ⟨g, k * 8 + 1, none⟩ (.int .i64 r.bc)).setCell ⟨g, k * 8 + 2, none⟩ (.int .i64 r.bt)).setCell ⟨g, k * 8, none⟩ (.bool false)).setCell ⟨g, k * 8 + 5, none⟩ (.slice none 0 0)) B g c n R V k r.wake (.slice none 0 0) :=
 ((h.now hk r.bc r.bt).setM hk false).setE hk (.slice none 0 0) 0 r.E
set_option maxRecDepth 100000 in
set_option maxHeartbeats 8000000 in
theorem echo_v {N : Nat → Prop} (B b : Nat) (s : Sv) (a : Qa) (k : Nat) (hk : k < s.n) (ha : a.k = 7) (hr : a.r = k) (ok : s.Ok) (w : World) (hB : B ≤ w.heap.size) (h : SvX N w B b s) :
  Calls Try.prog 88 #[.pointer (some ⟨b, 0, none⟩), .int .i64 (k : Int), .int .i64 a.n] w fun e w' => RetA N B b s a e w' ∧ Blw N B w w' := by
 obtain ⟨vr, vw, vq, VR, VW, VQ, P⟩ := h.p
 clear h
 obtain ⟨qa, qc, rfl⟩ := P.o.q.form
 obtain ⟨ra, rc, rfl⟩ := P.o.r.form
 obtain ⟨wa, wc, rfl⟩ := P.o.x.form
 have klt : (k : Int) < (s.n : Int) := by omega
 obtain ⟨gr, rfl, gB, gl, KR⟩ := RkR.start P.o.r hk
 have c0 := P.x.c0
 have m0 : w.cell? ⟨gr, k * 8, none⟩ = some (.bool (s.R k).mute) := KR.c hk 0 (by omega)
 cases hu : (s.R k).mute with
 | false =>
  have Q : Hid (RetA N B b s a (.returned (.int .i64 9)) w) := ⟨s, 9, .echo0 k hk hr ha hu, rfl, P.sv⟩
  rw [hu] at m0
  clear P ok hr ha KR hu
  go_enter Try.func88, Try.ntmps88
  go_wp2
  go_ret
  exact ⟨Q.out, Blw.refl _ _ _⟩
 | true =>
 rw [hu] at m0
 have HU : Hid ((s.R k).mute = true) := hu
 have OK : Hid s.Ok := ok
 have B0 : Hid (B ≤ w.heap.size) := hB
 have PP : Hid (SvP N w B b s (.slice (some ⟨gr, 0, none⟩) s.n rc) (.slice wa s.m wc) (.slice qa s.l qc) VR VW VQ) := P
 have HAS : Hid (∀ z : Bool, z = sB (0 ≤ a.n ∧ a.n < (s.n : Int)) → Calls Try.prog 53 #[.agg #[.slice (some ⟨gr, 0, none⟩) s.n rc, .int .i64 s.t, .slice wa s.m wc, .slice qa s.l qc], .int .i64 a.n] w fun e w' => e = .returned (.bool z) ∧ Below w.heap.size w w') := fun z hz => has_v s ⟨some ⟨gr, 0, none⟩, wa, qa, fun _ => none, fun _ => none, fun _ => none, fun _ => 0, fun _ => 0, fun _ => 0, rc, wc, qc⟩ a.n z hz w
 have c1 := P.x.c1
 have c2 := P.x.c2
 have c3 := P.x.c3
 by_cases hin : ¬ (0 ≤ a.n ∧ a.n < (s.n : Int))
 ·have Q : Hid (RetA N B b s a (.returned (.int .i64 4)) w) := ⟨s, 4, .echo1 k hk hr ha hu (.inl hin), rfl, P.sv⟩
  have HS1 : Hid (Calls Try.prog 53 #[.agg #[.slice (some ⟨gr, 0, none⟩) s.n rc, .int .i64 s.t, .slice wa s.m wc, .slice qa s.l qc], .int .i64 a.n] w fun e w' => e = .returned (.bool false) ∧ Below w.heap.size w w') := HAS.out false (sB_no hin).symm
  clear P PP ok hr ha KR hu hin HAS HU OK
  go_enter Try.func88, Try.ntmps88
  go_wp2_with fail
  refine HS1.out.mono ?_
  rintro e w1 ⟨rfl, hb⟩
  have Q2 : Hid (RetA N B b s a (.returned (.int .i64 4)) w1 ∧ Blw N B w w1) := ⟨Q.out.below hb, blw_of hb B0.out⟩
  clear hb Q HS1
  go_wp2
  go_ret
  exact Q2.out
 ·replace hin := Classical.not_not.1 hin
  obtain ⟨f, hq⟩ := Int.eq_ofNat_of_zero_le hin.1
  have HS1 : Hid (Calls Try.prog 53 #[.agg #[.slice (some ⟨gr, 0, none⟩) s.n rc, .int .i64 s.t, .slice wa s.m wc, .slice qa s.l qc], .int .i64 (f : Int)] w fun e w' => e = .returned (.bool true) ∧ Below w.heap.size w w') := by have := HAS.out true (sB_yes hin).symm; rw [hq] at this; exact this
  have fm : f < s.n := by omega
  have flt : (f : Int) < (s.n : Int) := by omega
  have HA : Hid (a.k = 7 ∧ a.r = k ∧ a.n = f) := ⟨ha, hr, hq⟩
  rw [hq]
  by_cases hfk : f = k
  ·have Q : Hid (RetA N B b s a (.returned (.int .i64 4)) w) := ⟨s, 4, .echo1 k hk hr ha hu (.inr (by rw [hq, hfk])), rfl, P.sv⟩
   clear P PP ok hr ha KR hu hin HAS HU OK hq HA
   subst hfk
   have ff : ((f : Int) == (f : Int)) = true := by simp
   go_enter Try.func88, Try.ntmps88
   go_wp2_with fail
   refine HS1.out.mono ?_
   rintro e w1 ⟨rfl, hb⟩
   have Q2 : Hid (RetA N B b s a (.returned (.int .i64 4)) w1 ∧ Blw N B w w1) := ⟨Q.out.below hb, blw_of hb B0.out⟩
   clear hb Q HS1
   go_wp2
   go_ret
   exact Q2.out
  ·have FK : Hid (f ≠ k) := hfk
   have fkb : ((f : Int) == (k : Int)) = false := by simp; exact fun e => hfk (by omega)
   have KRH : Hid (RkR w B gr rc s.n s.R VR k (s.R k) (VR k)) := KR
   clear P ok hr ha KR hu hin HAS hq hfk hB
   go_enter Try.func88, Try.ntmps88
   go_wp2_with fail
   refine HS1.out.mono ?_
   rintro e v ⟨rfl, hb⟩
   have PV : Hid (SvP N v B b s (.slice (some ⟨gr, 0, none⟩) s.n rc) (.slice wa s.m wc) (.slice qa s.l qc) VR VW VQ) := PP.out.below hb
   have KY : Hid (RkR v B gr rc s.n s.R VR k (s.R k) (VR k)) := KRH.out.below hb
   have BV : Hid (B ≤ v.heap.size ∧ Blw N B w v) := ⟨Nat.le_trans B0.out hb.size, blw_of hb B0.out⟩
   clear hb PP KRH B0 HS1 c0 c1 c2 c3 m0
   have c0 := PV.out.x.c0
   obtain ⟨gr', e2, -, -, KF⟩ := RkR.start PV.out.o.r fm
   obtain rfl : gr = gr' := by cases e2; rfl
   have KFH : Hid (RkR v B gr rc s.n s.R VR f (s.R f) (VR f)) := KF
   have n0 : v.cell? ⟨gr, f * 8, none⟩ = some (.bool (s.R f).mute) := KF.c fm 0 (by omega)
   clear KF e2
   cases hv : (s.R f).mute with
   | true =>
    have Q : Hid (RetA N B b s a (.returned (.int .i64 13)) v ∧ Blw N B w v) := ⟨⟨s, 13, .echo2 k f hk HA.out.2.1 HA.out.1 HU.out fm HA.out.2.2 FK.out hv, rfl, PV.out.sv⟩, BV.out.2⟩
    rw [hv] at n0
    clear PV KY KFH BV hv HU FK OK
    go_wp2
    go_ret
    exact Q.out
   | false =>
   rw [hv] at n0
   have HV : Hid ((s.R f).mute = false) := hv
   clear hv
   have IW := PV.out.o.e k hk
   obtain ⟨la, lcap, eV⟩ := EO.form IW
   have CO : Hid (∀ z : Bool, z = sB (hasE (s.R k).ne (s.R k).E f) → Calls Try.prog 107 #[.slice la (s.R k).ne lcap, .int .i64 (f : Int)] v fun e w' => e = .returned (.bool z) ∧ v = w') := fun z hz => conInt_any la (s.R k).ne lcap (s.R k).E f (by have := ids_le (OK.out.2.2.1 k hk).2.1; have := OK.out.1.1.2; omega) z hz v (IE.num (by rw [← eV]; exact IW))
   have q0 : v.cell? ⟨gr, k * 8 + 5, none⟩ = some (.slice la (s.R k).ne lcap) := by have := KY.out.c hk 5 (by omega); rw [← eV]; exact this
   clear IW eV
   by_cases hx : hasE (s.R k).ne (s.R k).E f
   ·have CH : Hid (Calls Try.prog 107 #[.slice la (s.R k).ne lcap, .int .i64 (f : Int)] v fun e w' => e = .returned (.bool true) ∧ v = w') := CO.out true (sB_yes hx).symm
    have Q : Hid (RetA N B b s a (.returned (.int .i64 9)) v ∧ Blw N B w v) := ⟨⟨s, 9, .echo3 k f hk HA.out.2.1 HA.out.1 HU.out fm HA.out.2.2 FK.out HV.out hx, rfl, PV.out.sv⟩, BV.out.2⟩
    clear CO PV KY KFH BV hx HV HU FK OK
    go_wp2_with fail
    refine CH.out.mono ?_
    rintro e _ ⟨rfl, rfl⟩
    clear CH
    go_wp2
    go_ret
    exact Q.out
   ·have CH : Hid (Calls Try.prog 107 #[.slice la (s.R k).ne lcap, .int .i64 (f : Int)] v fun e w' => e = .returned (.bool false) ∧ v = w') := CO.out false (sB_no hx).symm
    have HX : Hid (¬ hasE (s.R k).ne (s.R k).E f) := hx
    clear CO hx
    go_wp2_with fail
    refine CH.out.mono ?_
    rintro e _ ⟨rfl, rfl⟩
    clear CH
    go_upto_region 10 with fail
    clear c0 n0 q0
    have SE : Hid (SEc v gr f (s.R f).nc (s.R f).nt v.drew) := ⟨(ChB.refl _ _).drew, KFH.out.c fm 1 (by omega), KFH.out.c fm 2 (by omega)⟩
    replace KY : Hid (RkR v.drew B gr rc s.n s.R VR k (s.R k) (VR k)) := KY.out.below (Below.refl _ _).drew
    clear KFH
    have NBR : Hid (¬ PG gr b) := fun z => PV.out.o.r.notB4 PV.out.x (by decide) (by unfold PG at z; rw [z]; rfl)
    have H : SEc v gr f (s.R f).nc (s.R f).nt v.drew := SE.out
    refine wp_region_noPanic ?_
    refine wp_region_held_drew (S := fun w' => SEc v gr f (s.R f).nc (s.R f).nt w') (by kernel_rfl) H (fun _ => ?_)
    generalize v.drew = y0 at *
    refine tkH (i := 0) (v := .pointer (some ⟨gr, k * 8, none⟩)) rfl (by kernel_rfl) (by rfl) ?_ H ?_
    ·intro w' hSw; clear hSw; go_simp
    change wpAnyH _ _ _ _ _ _ _ { tmps := #[_,_,_,_,_,_,_,_,_,_,_,_,_,_,_,_,_,_,_,_,_,_,_,_,_,_,_,_,_,_,_,_,_,_,_,_,_,_,_,_,_,_,_,_,_,_,_,_,_,_,_,_,_,_,_,_,_,_,_,_,_,_,_,_,_,_,_,_,_,_,_,_,_,_,_,_,_,_,_,_,_,_,_,_,_,_,_,_,_,_,_,_,_,_], defers := _ } _
    refine tkH (i := 1) (v := .pointer (some ⟨gr, k * 8, none⟩)) rfl (by kernel_rfl) (by rfl) ?_ H ?_
    ·intro w' hSw; clear hSw; go_simp
    change wpAnyH _ _ _ _ _ _ _ { tmps := #[_,_,_,_,_,_,_,_,_,_,_,_,_,_,_,_,_,_,_,_,_,_,_,_,_,_,_,_,_,_,_,_,_,_,_,_,_,_,_,_,_,_,_,_,_,_,_,_,_,_,_,_,_,_,_,_,_,_,_,_,_,_,_,_,_,_,_,_,_,_,_,_,_,_,_,_,_,_,_,_,_,_,_,_,_,_,_,_,_,_,_,_,_,_], defers := _ } _
    refine tkH (i := 2) (v := .pointer (some ⟨gr, k * 8, none⟩)) rfl (by kernel_rfl) (by rfl) ?_ H ?_
    ·intro w' hSw; clear hSw; go_simp
    change wpAnyH _ _ _ _ _ _ _ { tmps := #[_,_,_,_,_,_,_,_,_,_,_,_,_,_,_,_,_,_,_,_,_,_,_,_,_,_,_,_,_,_,_,_,_,_,_,_,_,_,_,_,_,_,_,_,_,_,_,_,_,_,_,_,_,_,_,_,_,_,_,_,_,_,_,_,_,_,_,_,_,_,_,_,_,_,_,_,_,_,_,_,_,_,_,_,_,_,_,_,_,_,_,_,_,_], defers := _ } _
    refine tkH (i := 3) (v := .pointer (some ⟨gr, k * 8 + 6, none⟩)) rfl (by kernel_rfl) (by rfl) ?_ H ?_
    ·intro w' hSw; clear hSw; go_simp
    change wpAnyH _ _ _ _ _ _ _ { tmps := #[_,_,_,_,_,_,_,_,_,_,_,_,_,_,_,_,_,_,_,_,_,_,_,_,_,_,_,_,_,_,_,_,_,_,_,_,_,_,_,_,_,_,_,_,_,_,_,_,_,_,_,_,_,_,_,_,_,_,_,_,_,_,_,_,_,_,_,_,_,_,_,_,_,_,_,_,_,_,_,_,_,_,_,_,_,_,_,_,_,_,_,_,_,_], defers := _ } _
    refine tkH (i := 5) (v := .pointer (some ⟨b, 0, none⟩)) rfl (by kernel_rfl) (by rfl) ?_ H ?_
    ·intro w' hSw; clear hSw; go_simp
    change wpAnyH _ _ _ _ _ _ _ { tmps := #[_,_,_,_,_,_,_,_,_,_,_,_,_,_,_,_,_,_,_,_,_,_,_,_,_,_,_,_,_,_,_,_,_,_,_,_,_,_,_,_,_,_,_,_,_,_,_,_,_,_,_,_,_,_,_,_,_,_,_,_,_,_,_,_,_,_,_,_,_,_,_,_,_,_,_,_,_,_,_,_,_,_,_,_,_,_,_,_,_,_,_,_,_,_], defers := _ } _
    refine tkH (i := 6) (v := .pointer (some ⟨b, 0, none⟩)) rfl (by kernel_rfl) (by rfl) ?_ H ?_
    ·intro w' hSw; clear hSw; go_simp
    change wpAnyH _ _ _ _ _ _ _ { tmps := #[_,_,_,_,_,_,_,_,_,_,_,_,_,_,_,_,_,_,_,_,_,_,_,_,_,_,_,_,_,_,_,_,_,_,_,_,_,_,_,_,_,_,_,_,_,_,_,_,_,_,_,_,_,_,_,_,_,_,_,_,_,_,_,_,_,_,_,_,_,_,_,_,_,_,_,_,_,_,_,_,_,_,_,_,_,_,_,_,_,_,_,_,_,_], defers := _ } _
    refine tkH (i := 7) (v := .pointer (some ⟨b, 0, none⟩)) rfl (by kernel_rfl) (by rfl) ?_ H ?_
    ·intro w' hSw; clear hSw; go_simp
    change wpAnyH _ _ _ _ _ _ _ { tmps := #[_,_,_,_,_,_,_,_,_,_,_,_,_,_,_,_,_,_,_,_,_,_,_,_,_,_,_,_,_,_,_,_,_,_,_,_,_,_,_,_,_,_,_,_,_,_,_,_,_,_,_,_,_,_,_,_,_,_,_,_,_,_,_,_,_,_,_,_,_,_,_,_,_,_,_,_,_,_,_,_,_,_,_,_,_,_,_,_,_,_,_,_,_,_], defers := _ } _
    refine tkH (i := 8) (v := .slice (some ⟨gr, 0, none⟩) s.n rc) rfl (by kernel_rfl) (by rfl) ?_ H ?_
    ·intro w' hSw; have c0 := (PV.out.x.ofBlock (w' := w') (hSw.1.block b PV.out.x.lt NBR.out)).c0; clear hSw; go_simp
    change wpAnyH _ _ _ _ _ _ _ { tmps := #[_,_,_,_,_,_,_,_,_,_,_,_,_,_,_,_,_,_,_,_,_,_,_,_,_,_,_,_,_,_,_,_,_,_,_,_,_,_,_,_,_,_,_,_,_,_,_,_,_,_,_,_,_,_,_,_,_,_,_,_,_,_,_,_,_,_,_,_,_,_,_,_,_,_,_,_,_,_,_,_,_,_,_,_,_,_,_,_,_,_,_,_,_,_], defers := _ } _
    refine tkH (i := 9) (v := .int .i64 (f : Int)) rfl (by kernel_rfl) (by rfl) ?_ H ?_
    ·intro w' hSw; clear hSw; go_simp
    change wpAnyH _ _ _ _ _ _ _ { tmps := #[_,_,_,_,_,_,_,_,_,_,_,_,_,_,_,_,_,_,_,_,_,_,_,_,_,_,_,_,_,_,_,_,_,_,_,_,_,_,_,_,_,_,_,_,_,_,_,_,_,_,_,_,_,_,_,_,_,_,_,_,_,_,_,_,_,_,_,_,_,_,_,_,_,_,_,_,_,_,_,_,_,_,_,_,_,_,_,_,_,_,_,_,_,_], defers := _ } _
    refine tkH (i := 10) (v := .pointer (some ⟨gr, f * 8, none⟩)) rfl (by kernel_rfl) (by rfl) ?_ H ?_
    ·intro w' hSw; clear hSw; go_simp
    change wpAnyH _ _ _ _ _ _ _ { tmps := #[_,_,_,_,_,_,_,_,_,_,_,_,_,_,_,_,_,_,_,_,_,_,_,_,_,_,_,_,_,_,_,_,_,_,_,_,_,_,_,_,_,_,_,_,_,_,_,_,_,_,_,_,_,_,_,_,_,_,_,_,_,_,_,_,_,_,_,_,_,_,_,_,_,_,_,_,_,_,_,_,_,_,_,_,_,_,_,_,_,_,_,_,_,_], defers := _ } _
    refine tkH (i := 11) (v := .pointer (some ⟨gr, f * 8 + 1, none⟩)) rfl (by kernel_rfl) (by rfl) ?_ H ?_
    ·intro w' hSw; clear hSw; go_simp
    change wpAnyH _ _ _ _ _ _ _ { tmps := #[_,_,_,_,_,_,_,_,_,_,_,_,_,_,_,_,_,_,_,_,_,_,_,_,_,_,_,_,_,_,_,_,_,_,_,_,_,_,_,_,_,_,_,_,_,_,_,_,_,_,_,_,_,_,_,_,_,_,_,_,_,_,_,_,_,_,_,_,_,_,_,_,_,_,_,_,_,_,_,_,_,_,_,_,_,_,_,_,_,_,_,_,_,_], defers := _ } _
    refine tkH (i := 12) (v := .agg #[.int .i64 (s.R f).nc, .int .i64 (s.R f).nt]) rfl (by kernel_rfl) (by rfl) ?_ H ?_
    ·intro w' hSw; have r1 := hSw.2.1; have r2 := hSw.2.2; clear hSw; go_simp
    change wpAnyH _ _ _ _ _ _ _ { tmps := #[_,_,_,_,_,_,_,_,_,_,_,_,_,_,_,_,_,_,_,_,_,_,_,_,_,_,_,_,_,_,_,_,_,_,_,_,_,_,_,_,_,_,_,_,_,_,_,_,_,_,_,_,_,_,_,_,_,_,_,_,_,_,_,_,_,_,_,_,_,_,_,_,_,_,_,_,_,_,_,_,_,_,_,_,_,_,_,_,_,_,_,_,_,_], defers := _ } _
    refine rdH (i := 4) (by kernel_rfl) rfl (fun KK hK => ?_)
    have r6 : y0.cell? ⟨gr, k * 8 + 6, none⟩ = some (.int .i64 (s.R k).bc) := KY.out.c hk 6 (by omega)
    have r7 : y0.cell? ⟨gr, k * 8 + 7, none⟩ = some (.int .i64 (s.R k).bt) := KY.out.c hk 7 (by omega)
    go_simp
    refine hK.out _ _ H (fun _ => ?_)
    clear hK KK
    change wpAnyH _ _ _ _ _ _ _ { tmps := #[_,_,_,_,_,_,_,_,_,_,_,_,_,_,_,_,_,_,_,_,_,_,_,_,_,_,_,_,_,_,_,_,_,_,_,_,_,_,_,_,_,_,_,_,_,_,_,_,_,_,_,_,_,_,_,_,_,_,_,_,_,_,_,_,_,_,_,_,_,_,_,_,_,_,_,_,_,_,_,_,_,_,_,_,_,_,_,_,_,_,_,_,_,_], defers := _ } _
    refine rdH (i := 13) (by kernel_rfl) rfl (fun KK hK => ?_)
    go_simp
    refine (later_any (s.R k).bc (s.R k).bt (s.R f).nc (s.R f).nt y0).mono ?_
    rintro e y1 ⟨rfl, hb⟩
    replace KY : Hid (RkR y1 B gr rc s.n s.R VR k (s.R k) (VR k)) := KY.out.below hb
    replace H : SEc v gr f (s.R f).nc (s.R f).nt y1 := H.below hb
    obtain ⟨lc, hlc⟩ : ∃ x, x = (ltr (s.R k).bc (s.R k).bt (s.R f).nc (s.R f).nt).1 := ⟨_, rfl⟩
    obtain ⟨lt, hlt⟩ : ∃ x, x = (ltr (s.R k).bc (s.R k).bt (s.R f).nc (s.R f).nt).2 := ⟨_, rfl⟩
    rw [← hlc, ← hlt]
    have LT : Hid (lc = (ltr (s.R k).bc (s.R k).bt (s.R f).nc (s.R f).nt).1 ∧ lt = (ltr (s.R k).bc (s.R k).bt (s.R f).nc (s.R f).nt).2) := ⟨hlc, hlt⟩
    clear hlc hlt r6 r7
    clear hb
    refine hK.out _ _ H (fun _ => ?_)
    clear hK KK
    change wpAnyH _ _ _ _ _ _ _ { tmps := #[_,_,_,_,_,_,_,_,_,_,_,_,_,_,_,_,_,_,_,_,_,_,_,_,_,_,_,_,_,_,_,_,_,_,_,_,_,_,_,_,_,_,_,_,_,_,_,_,_,_,_,_,_,_,_,_,_,_,_,_,_,_,_,_,_,_,_,_,_,_,_,_,_,_,_,_,_,_,_,_,_,_,_,_,_,_,_,_,_,_,_,_,_,_], defers := _ } _
    refine tkH (i := 14) (v := .pointer (some ⟨gr, k * 8, none⟩)) rfl (by kernel_rfl) (by rfl) ?_ H ?_
    ·intro w' hSw; clear hSw; go_simp
    change wpAnyH _ _ _ _ _ _ _ { tmps := #[_,_,_,_,_,_,_,_,_,_,_,_,_,_,_,_,_,_,_,_,_,_,_,_,_,_,_,_,_,_,_,_,_,_,_,_,_,_,_,_,_,_,_,_,_,_,_,_,_,_,_,_,_,_,_,_,_,_,_,_,_,_,_,_,_,_,_,_,_,_,_,_,_,_,_,_,_,_,_,_,_,_,_,_,_,_,_,_,_,_,_,_,_,_], defers := _ } _
    refine tkH (i := 15) (v := .pointer (some ⟨gr, k * 8 + 6, none⟩)) rfl (by kernel_rfl) (by rfl) ?_ H ?_
    ·intro w' hSw; clear hSw; go_simp
    change wpAnyH _ _ _ _ _ _ _ { tmps := #[_,_,_,_,_,_,_,_,_,_,_,_,_,_,_,_,_,_,_,_,_,_,_,_,_,_,_,_,_,_,_,_,_,_,_,_,_,_,_,_,_,_,_,_,_,_,_,_,_,_,_,_,_,_,_,_,_,_,_,_,_,_,_,_,_,_,_,_,_,_,_,_,_,_,_,_,_,_,_,_,_,_,_,_,_,_,_,_,_,_,_,_,_,_], defers := _ } _
    refine rdH (i := 16) (by kernel_rfl) rfl (fun KK hK => ?_)
    have f6 := KY.out.fr hk 6 (by omega)
    have f7 := KY.out.fr hk 7 (by omega)
    have r6 : y1.cell? ⟨gr, k * 8 + 6, none⟩ = some (.int .i64 (s.R k).bc) := KY.out.c hk 6 (by omega)
    have r7 : y1.cell? ⟨gr, k * 8 + 7, none⟩ = some (.int .i64 (s.R k).bt) := KY.out.c hk 7 (by omega)
    go_simp
    have K2 : Hid (RkR ((y1.setCell ⟨gr, k * 8 + 6, none⟩ (.int .i64 lc)).setCell ⟨gr, k * 8 + 7, none⟩ (.int .i64 lt)) B gr rc s.n s.R VR k { s.R k with bc := (ltr (s.R k).bc (s.R k).bt (s.R f).nc (s.R f).nt).1, bt := (ltr (s.R k).bc (s.R k).bt (s.R f).nc (s.R f).nt).2 } (VR k)) := by have := KY.out.best hk lc lt; rw [← LT.out.1, ← LT.out.2]; exact this
    replace H : SEc v gr f (s.R f).nc (s.R f).nt ((y1.setCell ⟨gr, k * 8 + 6, none⟩ (.int .i64 lc)).setCell ⟨gr, k * 8 + 7, none⟩ (.int .i64 lt)) := (H.at (by omega) (by omega) _).at (by omega) (by omega) _
    clear r6 r7 f6 f7 KY
    generalize ((y1.setCell ⟨gr, k * 8 + 6, none⟩ (.int .i64 lc)).setCell ⟨gr, k * 8 + 7, none⟩ (.int .i64 lt)) = y2 at *
    refine hK.out _ _ H (fun _ => ?_)
    clear hK KK
    change wpAnyH _ _ _ _ _ _ _ { tmps := #[_,_,_,_,_,_,_,_,_,_,_,_,_,_,_,_,_,_,_,_,_,_,_,_,_,_,_,_,_,_,_,_,_,_,_,_,_,_,_,_,_,_,_,_,_,_,_,_,_,_,_,_,_,_,_,_,_,_,_,_,_,_,_,_,_,_,_,_,_,_,_,_,_,_,_,_,_,_,_,_,_,_,_,_,_,_,_,_,_,_,_,_,_,_], defers := _ } _
    refine wpAnyH_done (by kernel_rfl) ?_ _
    refine NoPanic.normal ?_
    replace H : ChB (PG gr) v y2 := H.1
    have KY : Hid (RkR y2 B gr rc s.n s.R VR k { s.R k with bc := (ltr (s.R k).bc (s.R k).bt (s.R f).nc (s.R f).nt).1, bt := (ltr (s.R k).bc (s.R k).bt (s.R f).nc (s.R f).nt).2 } (VR k)) := K2.out
    clear K2 LT SE
    have IW : IE y2 B (VR k) (s.R k).ne (s.R k).E := EO.ch (PV.out.o.e k hk) H (fun g e z => EO.apart (PV.out.o.e k hk) PV.out.o.r (by decide) g e (by unfold PG at z; rw [z]; rfl))
    obtain ⟨la, lcap, eV⟩ := EO.form IW
    have EV : Hid (VR k = .slice la (s.R k).ne lcap) := eV
    have JH : Hid (Calls Try.prog 105 #[.slice la (s.R k).ne lcap, .int .i64 (f : Int)] y2 fun e w' => RetJn y2 B (.slice la (s.R k).ne lcap) (s.R k).ne (s.R k).E (f : Int) e w') := joined_any s.n B la (s.R k).ne lcap (s.R k).E (f : Int) (OK.out.2.2.1 k hk).2.1 (by have := ids_le (OK.out.2.2.1 k hk).2.1; have := OK.out.1.1.2; omega) y2 (Nat.le_trans BV.out.1 H.size) (by rw [← EV.out]; exact IW)
    have q2 : y2.cell? ⟨gr, k * 8 + 5, none⟩ = some (.slice la (s.R k).ne lcap) := by have := KY.out.c hk 5 (by omega); rw [← EV.out]; exact this
    have HH : Hid (ChB (PG gr) v y2) := H
    clear IW eV H
    go_wp2_with fail
    refine JH.out.mono ?_
    rintro e y3 ⟨⟨v', rfl, hI, hown⟩, hg⟩
    obtain ⟨va, vc, rfl⟩ := EO.form hI
    rw [← EV.out] at hg hown
    have gne : ∀ u, (VR k).ownBlock = some u → u ≠ gr := fun u e z => EO.apart (PV.out.o.e k hk) PV.out.o.r (by decide) u e (by rw [z]; rfl)
    have H7 : ChB (PR (.slice (some ⟨gr, 0, none⟩) s.n rc) VR k) v y3 := (HH.out.wide (fun g z => .inl (by unfold PG at z; rw [z]; rfl))).grown hg (fun g e => .inl (.inr e))
    have K7 : Hid (RkR y3 B gr rc s.n s.R VR k { s.R k with bc := (ltr (s.R k).bc (s.R k).bt (s.R f).nc (s.R f).nt).1, bt := (ltr (s.R k).bc (s.R k).bt (s.R f).nc (s.R f).nt).2 } (VR k)) := KY.out.keep (hg.block gr KY.out.lt.2 (fun e => gne gr e.symm rfl))
    obtain ⟨W5, hW5⟩ : ∃ x : Rp, x = { { s.R k with bc := (ltr (s.R k).bc (s.R k).bt (s.R f).nc (s.R f).nt).1, bt := (ltr (s.R k).bc (s.R k).bt (s.R f).nc (s.R f).nt).2 } with ne := (addE (s.R k).ne (s.R k).E (f : Int)).1, E := (addE (s.R k).ne (s.R k).E (f : Int)).2 } := ⟨_, rfl⟩
    have HW5 : Hid (W5 = { { s.R k with bc := (ltr (s.R k).bc (s.R k).bt (s.R f).nc (s.R f).nt).1, bt := (ltr (s.R k).bc (s.R k).bt (s.R f).nc (s.R f).nt).2 } with ne := (addE (s.R k).ne (s.R k).E (f : Int)).1, E := (addE (s.R k).ne (s.R k).E (f : Int)).2 }) := hW5
    have NE : Hid ((addE (s.R k).ne (s.R k).E (f : Int)).1 ≤ 8) := by show _ ≤ _; have := addE_le (x := (f : Int)) (OK.out.2.2.1 k hk).2.1; have := OK.out.1.1.2; omega
    obtain ⟨ne', hne⟩ : ∃ x, x = (addE (s.R k).ne (s.R k).E (f : Int)).1 := ⟨_, rfl⟩
    have K8 : Hid (RkR (y3.setCell ⟨gr, k * 8 + 5, none⟩ (.slice va ne' vc)) B gr rc s.n s.R VR k W5 (.slice va ne' vc)) := by rw [hW5, hne]; exact K7.out.setE hk _ _ _
    have I8 : Hid (IE (y3.setCell ⟨gr, k * 8 + 5, none⟩ (.slice va ne' vc)) B (.slice va ne' vc) W5.ne W5.E) := by rw [hW5, hne]; exact IE.setOther hI K7.out (by decide) _ _
    have H8 : Hid (ChB (PR (.slice (some ⟨gr, 0, none⟩) s.n rc) VR k) v (y3.setCell ⟨gr, k * 8 + 5, none⟩ (.slice va ne' vc))) := H7.at gr (.inl (.inl rfl)) _ _
    have O8 : Hid (∀ g, (Value.slice va ne' vc).ownBlock = some g → (VR k).ownBlock = some g ∨ v.heap.size ≤ g) := by rw [hne]; exact fun g e => hown.elim (fun z => .inl (z ▸ e)) (fun ⟨q, z, hq⟩ => .inr (by rw [z] at e; cases e; exact Nat.le_trans HH.out.size hq))
    have f2 : y3.frozen? ⟨gr, k * 8 + 5, none⟩ = false := K7.out.fr hk 5 (by omega)
    have g2 : y3.cell? ⟨gr, k * 8 + 5, none⟩ = some (VR k) := K7.out.c hk 5 (by omega)
    rw [← hne]
    have HNE : Hid (ne' = (addE (s.R k).ne (s.R k).E (f : Int)).1) := hne
    clear hI hown hg gne H7 hW5 hne JH q2 KY EV HH K7
    go_upto_region 12 with fail
    generalize (y3.setCell ⟨gr, k * 8 + 5, none⟩ (.slice va ne' vc)) = y4 at *
    clear f2 g2
    have XS : Hid (Box4 y4 b 28 (.slice (some ⟨gr, 0, none⟩) s.n rc) (.int .i64 s.t) (.slice wa s.m wc) (.slice qa s.l qc)) := PV.out.x.ch H8.out (chR_box PV.out.x PV.out.o hk)
    have KX : Hid (RkR y4 B gr rc s.n s.R VR k W5 (.slice va ne' vc)) := K8.out
    obtain ⟨z, hz⟩ : ∃ z, z = sB (majN s.n ≤ ne') := ⟨_, rfl⟩
    have HZ : Hid (z = sB (majN s.n ≤ ne')) := hz
    clear hz
    have H : Below y4.heap.size y4 y4.drew := (Below.refl _ _).drew
    refine wp_region_noPanic ?_
    refine wp_region_held_drew (S := fun w' => Below y4.heap.size y4 w') (by kernel_rfl) H (fun _ => ?_)
    generalize y4.drew = z0 at *
    refine tkH (i := 0) (v := .pointer (some ⟨b, 0, none⟩)) rfl (by kernel_rfl) (by rfl) ?_ H ?_
    ·intro w' hSw; clear hSw; go_simp
    change wpAnyH _ _ _ _ _ _ _ { tmps := #[_,_,_,_,_,_,_,_,_,_,_,_,_,_,_,_,_,_,_,_,_,_,_,_,_,_,_,_,_,_,_,_,_,_,_,_,_,_,_,_,_,_,_,_,_,_,_,_,_,_,_,_,_,_,_,_,_,_,_,_,_,_,_,_,_,_,_,_,_,_,_,_,_,_,_,_,_,_,_,_,_,_,_,_,_,_,_,_,_,_,_,_,_,_], defers := _ } _
    refine tkH (i := 1) (v := .pointer (some ⟨b, 0, none⟩)) rfl (by kernel_rfl) (by rfl) ?_ H ?_
    ·intro w' hSw; clear hSw; go_simp
    change wpAnyH _ _ _ _ _ _ _ { tmps := #[_,_,_,_,_,_,_,_,_,_,_,_,_,_,_,_,_,_,_,_,_,_,_,_,_,_,_,_,_,_,_,_,_,_,_,_,_,_,_,_,_,_,_,_,_,_,_,_,_,_,_,_,_,_,_,_,_,_,_,_,_,_,_,_,_,_,_,_,_,_,_,_,_,_,_,_,_,_,_,_,_,_,_,_,_,_,_,_,_,_,_,_,_,_], defers := _ } _
    refine tkH (i := 2) (v := .agg #[.slice (some ⟨gr, 0, none⟩) s.n rc, .int .i64 s.t, .slice wa s.m wc, .slice qa s.l qc]) rfl (by kernel_rfl) (by rfl) ?_ H ?_
    ·intro w' hSw; have XT := (XS.out.ofBlock (w' := w') (hSw.block b XS.out.lt)); have c0 := XT.c0; have c1 := XT.c1; have c2 := XT.c2; have c3 := XT.c3; clear XT hSw; go_simp
    change wpAnyH _ _ _ _ _ _ _ { tmps := #[_,_,_,_,_,_,_,_,_,_,_,_,_,_,_,_,_,_,_,_,_,_,_,_,_,_,_,_,_,_,_,_,_,_,_,_,_,_,_,_,_,_,_,_,_,_,_,_,_,_,_,_,_,_,_,_,_,_,_,_,_,_,_,_,_,_,_,_,_,_,_,_,_,_,_,_,_,_,_,_,_,_,_,_,_,_,_,_,_,_,_,_,_,_], defers := _ } _
    refine tkH (i := 3) (v := .pointer (some ⟨gr, k * 8, none⟩)) rfl (by kernel_rfl) (by rfl) ?_ H ?_
    ·intro w' hSw; clear hSw; go_simp
    change wpAnyH _ _ _ _ _ _ _ { tmps := #[_,_,_,_,_,_,_,_,_,_,_,_,_,_,_,_,_,_,_,_,_,_,_,_,_,_,_,_,_,_,_,_,_,_,_,_,_,_,_,_,_,_,_,_,_,_,_,_,_,_,_,_,_,_,_,_,_,_,_,_,_,_,_,_,_,_,_,_,_,_,_,_,_,_,_,_,_,_,_,_,_,_,_,_,_,_,_,_,_,_,_,_,_,_], defers := _ } _
    refine tkH (i := 4) (v := .pointer (some ⟨gr, k * 8, none⟩)) rfl (by kernel_rfl) (by rfl) ?_ H ?_
    ·intro w' hSw; clear hSw; go_simp
    change wpAnyH _ _ _ _ _ _ _ { tmps := #[_,_,_,_,_,_,_,_,_,_,_,_,_,_,_,_,_,_,_,_,_,_,_,_,_,_,_,_,_,_,_,_,_,_,_,_,_,_,_,_,_,_,_,_,_,_,_,_,_,_,_,_,_,_,_,_,_,_,_,_,_,_,_,_,_,_,_,_,_,_,_,_,_,_,_,_,_,_,_,_,_,_,_,_,_,_,_,_,_,_,_,_,_,_], defers := _ } _
    refine tkH (i := 5) (v := .pointer (some ⟨gr, k * 8 + 5, none⟩)) rfl (by kernel_rfl) (by rfl) ?_ H ?_
    ·intro w' hSw; clear hSw; go_simp
    change wpAnyH _ _ _ _ _ _ _ { tmps := #[_,_,_,_,_,_,_,_,_,_,_,_,_,_,_,_,_,_,_,_,_,_,_,_,_,_,_,_,_,_,_,_,_,_,_,_,_,_,_,_,_,_,_,_,_,_,_,_,_,_,_,_,_,_,_,_,_,_,_,_,_,_,_,_,_,_,_,_,_,_,_,_,_,_,_,_,_,_,_,_,_,_,_,_,_,_,_,_,_,_,_,_,_,_], defers := _ } _
    refine tkH (i := 6) (v := .slice va ne' vc) rfl (by kernel_rfl) (by rfl) ?_ H ?_
    ·intro w' hSw; have KT := KX.out.keep (w' := w') (hSw.block gr KX.out.lt.2); have q2 : w'.cell? ⟨gr, k * 8 + 5, none⟩ = some (.slice va ne' vc) := KT.c hk 5 (by omega); clear KT hSw; go_simp
    change wpAnyH _ _ _ _ _ _ _ { tmps := #[_,_,_,_,_,_,_,_,_,_,_,_,_,_,_,_,_,_,_,_,_,_,_,_,_,_,_,_,_,_,_,_,_,_,_,_,_,_,_,_,_,_,_,_,_,_,_,_,_,_,_,_,_,_,_,_,_,_,_,_,_,_,_,_,_,_,_,_,_,_,_,_,_,_,_,_,_,_,_,_,_,_,_,_,_,_,_,_,_,_,_,_,_,_], defers := _ } _
    refine rdH (i := 7) (by kernel_rfl) rfl (fun KK hK => ?_)
    go_simp
    refine (majority_v (some ⟨gr, 0, none⟩) s.n rc (.int .i64 s.t) (.slice wa s.m wc) (.slice qa s.l qc) va ne' vc OK.out.1.1 (by have := NE.out; have := HNE.out; omega) z HZ.out z0).mono ?_
    rintro e z1 ⟨rfl, hb⟩
    replace H : Below y4.heap.size y4 z1 := H.trans (hb.mono H.size)
    clear hb
    refine hK.out _ _ H (fun _ => ?_)
    clear hK KK
    change wpAnyH _ _ _ _ _ _ _ { tmps := #[_,_,_,_,_,_,_,_,_,_,_,_,_,_,_,_,_,_,_,_,_,_,_,_,_,_,_,_,_,_,_,_,_,_,_,_,_,_,_,_,_,_,_,_,_,_,_,_,_,_,_,_,_,_,_,_,_,_,_,_,_,_,_,_,_,_,_,_,_,_,_,_,_,_,_,_,_,_,_,_,_,_,_,_,_,_,_,_,_,_,_,_,_,_], defers := _ } _
    refine wpAnyH_done (by kernel_rfl) ?_ _
    refine NoPanic.normal ?_
    have HM : Hid (Below y4.heap.size y4 z1) := H
    clear H
    have H9 : Hid (ChB (PR (.slice (some ⟨gr, 0, none⟩) s.n rc) VR k) v z1) := H8.out.step HM.out
    have K9 : Hid (RkR z1 B gr rc s.n s.R VR k W5 (.slice va ne' vc)) := K8.out.below HM.out
    have I9 : Hid (IE z1 B (.slice va ne' vc) W5.ne W5.E) := EO.below I8.out HM.out
    clear H8 K8 I8 HM XS KX
    by_cases hj : majN s.n ≤ ne'
    ·obtain rfl : z = true := HZ.out.trans (sB_yes hj)
     have f1 := K9.out.fr hk 1 (by omega)
     have f2 := K9.out.fr hk 2 (by omega)
     have f5 := K9.out.fr hk 5 (by omega)
     have f0 : z1.frozen? ⟨gr, k * 8, none⟩ = false := K9.out.fr hk 0 (by omega)
     have t0 : z1.cell? ⟨gr, k * 8, none⟩ = some (.bool W5.mute) := K9.out.c hk 0 (by omega)
     have t1 : z1.cell? ⟨gr, k * 8 + 1, none⟩ = some (.int .i64 W5.nc) := K9.out.c hk 1 (by omega)
     have t2 : z1.cell? ⟨gr, k * 8 + 2, none⟩ = some (.int .i64 W5.nt) := K9.out.c hk 2 (by omega)
     have t5 : z1.cell? ⟨gr, k * 8 + 5, none⟩ = some (.slice va ne' vc) := K9.out.c hk 5 (by omega)
     have t6 : z1.cell? ⟨gr, k * 8 + 6, none⟩ = some (.int .i64 W5.bc) := K9.out.c hk 6 (by omega)
     have t7 : z1.cell? ⟨gr, k * 8 + 7, none⟩ = some (.int .i64 W5.bt) := K9.out.c hk 7 (by omega)
     have K10 := K9.out.wakes hk
     have H10 : ChB (PR (.slice (some ⟨gr, 0, none⟩) s.n rc) VR k) v ((((z1.setCell ⟨gr, k * 8 + 1, none⟩ (.int .i64 W5.bc)).setCell ⟨gr, k * 8 + 2, none⟩ (.int .i64 W5.bt)).setCell ⟨gr, k * 8, none⟩ (.bool false)).setCell ⟨gr, k * 8 + 5, none⟩ (.slice none 0 0)) := (((H9.out.at gr (.inl (.inl rfl)) _ _).at gr (.inl (.inl rfl)) _ _).at gr (.inl (.inl rfl)) _ _).at gr (.inl (.inl rfl)) _ _
     have Q : Hid (RetA N B b s a (.returned (.int .i64 0)) ((((z1.setCell ⟨gr, k * 8 + 1, none⟩ (.int .i64 W5.bc)).setCell ⟨gr, k * 8 + 2, none⟩ (.int .i64 W5.bt)).setCell ⟨gr, k * 8, none⟩ (.bool false)).setCell ⟨gr, k * 8 + 5, none⟩ (.slice none 0 0)) ∧ Blw N B w ((((z1.setCell ⟨gr, k * 8 + 1, none⟩ (.int .i64 W5.bc)).setCell ⟨gr, k * 8 + 2, none⟩ (.int .i64 W5.bt)).setCell ⟨gr, k * 8, none⟩ (.bool false)).setCell ⟨gr, k * 8 + 5, none⟩ (.slice none 0 0))) := ⟨retA_echo hk fm HA.out HU.out FK.out HV.out HX.out (by rw [HW5.out]; unfold Rp.echo; exact (if_pos (by have h9 := hj; rw [HNE.out] at h9; exact h9)).symm) (PV.out.chR hk H10 K10 (EO.nil _ _ _ _ _) (fun g e => by cases e)).sv, BV.out.2.trans (H10.toBlw (PR.geR PV.out hk) BV.out.1)⟩
     clear K10 H10 H9 K9 I9 PV hj
     go_wp2
     go_ret
     exact Q.out
    ·obtain rfl : z = false := HZ.out.trans (sB_no hj)
     have Q : Hid (RetA N B b s a (.returned (.int .i64 0)) z1 ∧ Blw N B w z1) := ⟨retA_echo hk fm HA.out HU.out FK.out HV.out HX.out (by rw [HW5.out]; unfold Rp.echo; exact (if_neg (fun z => hj (by rw [HNE.out]; exact z))).symm) (PV.out.chR hk H9.out K9.out I9.out O8.out).sv, BV.out.2.trans (H9.out.toBlw (PR.geR PV.out hk) BV.out.1)⟩
     clear H9 K9 I9 PV hj
     go_wp2
     go_ret
     exact Q.out
end Go.Proofs.Ytedncfcmhaaobaa
namespace Go.Proofs.Ytedncfcmhaaobaa
open Go.ChangeShapes Go.WideShapes Go.ChangeAt Go.RowKit
def Box3 (w : World) (b : Nat) (t : TypeId) (x y z : Value) : Prop := w.rowIs b t 3 (fun i => if i = 0 then x else if i = 1 then y else z)
theorem Box3.c0 {w : World} {b : Nat} {t : TypeId} {x y z : Value} (h : Box3 w b t x y z) : w.cell? ⟨b, 0, none⟩ = some x := World.rowIs.cell h (i := 0) (by omega)
theorem Box3.c1 {w : World} {b : Nat} {t : TypeId} {x y z : Value} (h : Box3 w b t x y z) : w.cell? ⟨b, 1, none⟩ = some y := World.rowIs.cell h (i := 1) (by omega)
theorem Box3.c2 {w : World} {b : Nat} {t : TypeId} {x y z : Value} (h : Box3 w b t x y z) : w.cell? ⟨b, 2, none⟩ = some z := World.rowIs.cell h (i := 2) (by omega)
theorem Box3.lt {w : World} {b : Nat} {t : TypeId} {x y z : Value} (h : Box3 w b t x y z) : b < w.heap.size := World.rowIs.lt h
theorem Box3.ofBlock {w w' : World} {b : Nat} {t : TypeId} {x y z : Value} (h : Box3 w b t x y z) (e : w'.heap[b]? = w.heap[b]?) : Box3 w' b t x y z := World.rowIs.of_block h e
theorem Box3.below {w w' : World} {b : Nat} {t : TypeId} {x y z : Value} (h : Box3 w b t x y z) (hb : Below w.heap.size w w') : Box3 w' b t x y z := h.ofBlock (hb.block b h.lt)
theorem Box3.made (w : World) (t : TypeId) (x y z : Value) : Box3 (w.alloc (.cells #[x, y, z] t)) w.heap.size t x y z := World.rowIs_alloc w #[x, y, z] t _ (fun i hi => by
 rcases (show i = 0 ∨ i = 1 ∨ i = 2 by simp at hi; omega) with rfl | rfl | rfl <;> rfl)
theorem Box3.madeAt {w : World} {b : Nat} (hb : w.heap.size = b) (t : TypeId) (x y z : Value) : Box3 (w.alloc (.cells #[x, y, z] t)) b t x y z := by subst hb; exact Box3.made w t x y z
theorem Box3.alloc {w : World} {b : Nat} {t : TypeId} {x y z : Value} (h : Box3 w b t x y z) (o : Obj) : Box3 (w.alloc o) b t x y z := World.rowIs.alloc h o
theorem Box3.other {w : World} {b : Nat} {t : TypeId} {x y z : Value} (h : Box3 w b t x y z) {a : Addr} (ha : b ≠ a.block) (v : Value) : Box3 (w.setCell a v) b t x y z := World.rowIs.setOther h ha v
end Go.Proofs.Ytedncfcmhaaobaa
namespace Go.Proofs.Ytedncfcmhaaobaa
open Go.ChangeShapes Go.WideShapes Go.ChangeAt Go.RowKit
set_option linter.unusedVariables false
def RetR (B : Nat) (s : Sv) (a : Qa) (e : Ending) (w : World) : Prop := ∃ s' c vr vw vq VR VW VQ, ActS s a s' c ∧ e = .returned (.tuple #[.agg #[vr, .int .i64 s'.t, vw, vq], .int .i64 c]) ∧ SvO w B s' vr vw vq VR VW VQ ∧ SvD s' VR VW VQ
def NA (g : Nat) : Prop := True
theorem SvP.made {w : World} {B b : Nat} {s : Sv} {vr vw vq : Value} {VR VW VQ : Nat → Value} (h0 : B ≤ b) (x : Box4 w b 28 vr (.int .i64 s.t) vw vq) (o : SvO w B s vr vw vq VR VW VQ) (d : SvD s VR VW VQ) : SvP NA w B b s vr vw vq VR VW VQ :=
 ⟨h0, x, o, d, ⟨fun _ _ => trivial, trivial, fun _ _ => trivial, fun _ _ => trivial, fun _ _ => trivial, fun _ _ _ _ => trivial, fun _ _ _ _ => trivial, fun _ _ _ _ => trivial⟩⟩
theorem SvP.nbW {N : Nat → Prop} {w : World} {B b : Nat} {s : Sv} {vr vw vq : Value} {VR VW VQ : Nat → Value} (P : SvP N w B b s vr vw vq VR VW VQ) {k : Nat} (hk : k < s.m) {q : Nat} {t : TypeId} {m : Nat} {f : Nat → Value} (hx : w.rowIs q t m f) (h1 : t ≠ 37) (h2 : t ≠ 3) : ¬ PR vw VW k q := fun z => z.elim (fun z => P.o.x.notIs hx h1 z) (fun z => EO.notIs (P.o.a k hk) hx h2 z)
theorem SvP.nbQ {N : Nat → Prop} {w : World} {B b : Nat} {s : Sv} {vr vw vq : Value} {VR VW VQ : Nat → Value} (P : SvP N w B b s vr vw vq VR VW VQ) {k : Nat} (hk : k < s.l) {q : Nat} {t : TypeId} {m : Nat} {f : Nat → Value} (hx : w.rowIs q t m f) (h1 : t ≠ 90) (h2 : t ≠ 3) : ¬ PR vq VQ k q := fun z => z.elim (fun z => P.o.q.notIs hx h1 z) (fun z => EO.notIs (P.o.f k hk) hx h2 z)
theorem SvP.nbG {N : Nat → Prop} {w : World} {B b : Nat} {s : Sv} {vr vw vq : Value} {VR VW VQ : Nat → Value} (P : SvP N w B b s vr vw vq VR VW VQ) {g : Nat} (hg : vr.ownBlock = some g ∨ vw.ownBlock = some g ∨ vq.ownBlock = some g) {q : Nat} {t : TypeId} {m : Nat} {f : Nat → Value} (hx : w.rowIs q t m f) (h1 : t ≠ 43) (h2 : t ≠ 37) (h3 : t ≠ 90) : ¬ PG g q := fun z => by
 unfold PG at z
 subst z
 rcases hg with h | h | h
 ·exact P.o.r.notIs hx h1 h
 ·exact P.o.x.notIs hx h2 h
 ·exact P.o.q.notIs hx h3 h
theorem SvP.blk {N : Nat → Prop} {w : World} {B b : Nat} {s : Sv} {vr vw vq : Value} {VR VW VQ : Nat → Value} (P : SvP N w B b s vr vw vq VR VW VQ) {g : Nat} (hg : vr.ownBlock = some g ∨ vw.ownBlock = some g ∨ vq.ownBlock = some g) : B ≤ g := by
 rcases hg with h | h | h
 ·exact (P.o.r.ge g h).1
 ·exact (P.o.x.ge g h).1
 ·exact (P.o.q.ge g h).1
theorem SvO.res {w : World} {B rb : Nat} {s : Sv} {vr vw vq : Value} {VR VW VQ : Nat → Value} (h : SvO w B s vr vw vq VR VW VQ) {x y z u : Value} (hx : Box4 w rb 28 x y z u) (a b c d : Value) : SvO ((((w.setCell ⟨rb, 0, none⟩ a).setCell ⟨rb, 1, none⟩ b).setCell ⟨rb, 2, none⟩ c).setCell ⟨rb, 3, none⟩ d) B s vr vw vq VR VW VQ := by
 have kp : ∀ g, g ≠ rb → ((((w.setCell ⟨rb, 0, none⟩ a).setCell ⟨rb, 1, none⟩ b).setCell ⟨rb, 2, none⟩ c).setCell ⟨rb, 3, none⟩ d).heap[g]? = w.heap[g]? := fun g hg => (Below.heap_setCell _ ⟨rb, 3, none⟩ _ g hg).trans ((Below.heap_setCell _ ⟨rb, 2, none⟩ _ g hg).trans ((Below.heap_setCell _ ⟨rb, 1, none⟩ _ g hg).trans (Below.heap_setCell _ ⟨rb, 0, none⟩ _ g hg)))
 exact ⟨h.r.keep (fun g e => kp g (fun z => h.r.notB4 hx (by decide) (z ▸ e))), h.x.keep (fun g e => kp g (fun z => h.x.notB4 hx (by decide) (z ▸ e))), h.q.keep (fun g e => kp g (fun z => h.q.notB4 hx (by decide) (z ▸ e))), fun i hi => EO.keep (h.e i hi) (fun g e => kp g (fun z => EO.notB4 (h.e i hi) hx (by decide) (z ▸ e))), fun i hi => EO.keep (h.a i hi) (fun g e => kp g (fun z => EO.notB4 (h.a i hi) hx (by decide) (z ▸ e))), fun i hi => EO.keep (h.f i hi) (fun g e => kp g (fun z => EO.notB4 (h.f i hi) hx (by decide) (z ▸ e)))⟩
theorem below_res {w0 w : World} {B rb : Nat} (h : Below B w0 w) (hb : B ≤ rb) (a b c d : Value) : Below B w0 ((((w.setCell ⟨rb, 0, none⟩ a).setCell ⟨rb, 1, none⟩ b).setCell ⟨rb, 2, none⟩ c).setCell ⟨rb, 3, none⟩ d) := (((h.setCell (p := ⟨rb, 0, none⟩) hb _).setCell (p := ⟨rb, 1, none⟩) hb _).setCell (p := ⟨rb, 2, none⟩) hb _).setCell (p := ⟨rb, 3, none⟩) hb _
theorem retR_end {w : World} {B rb b : Nat} {s s' : Sv} {a : Qa} {c : Int} {N : Nat → Prop} {vr vw vq : Value} {VR VW VQ : Nat → Value} (h : ActS s a s' c) (P : SvP N w B b s' vr vw vq VR VW VQ) {x y z u : Value} (hx : Box4 w rb 28 x y z u) : RetR B s a (.returned (.tuple #[.agg #[vr, .int .i64 s'.t, vw, vq], .int .i64 c])) ((((w.setCell ⟨rb, 0, none⟩ vr).setCell ⟨rb, 1, none⟩ (.int .i64 s'.t)).setCell ⟨rb, 2, none⟩ vw).setCell ⟨rb, 3, none⟩ vq) := ⟨s', c, vr, vw, vq, VR, VW, VQ, h, rfl, P.o.res hx _ _ _ _, P.d⟩
theorem addE_new {m : Nat} {E : Nat → Int} {x : Int} (h : ¬ hasE m E x) : addE m E x = (m + 1, insE E (plcE x E m) x) := by
 unfold addE
 rw [if_neg h]
 rfl
end Go.Proofs.Ytedncfcmhaaobaa
