/-
  Texts of the proof, joined: QuPe.
-/
import Derived.Test.YtedncfcmhaaobaaY36
import Derived.Deep.Cut
import Derived.Test.YtedncfcmhaaobaaTkH
namespace Go.Proofs.Ytedncfcmhaaobaa
open Go.ChangeShapes Go.WideShapes Go.ChangeAt Go.RowKit
set_option linter.unusedVariables false
set_option maxRecDepth 100000 in
set_option maxHeartbeats 8000000 in
theorem rep_echo (B : Nat) (s : Sv) (an : Int) (k : Nat) (hk : k < s.n) (ok : s.Ok) (w : World) (hB : B ≤ w.heap.size) (vr vw vq : Value) (VR VW VQ : Nat → Value) (ho : SvO w B s vr vw vq VR VW VQ) (hd : SvD s VR VW VQ) :
  Calls Try.prog 74 #[.agg #[vr, .int .i64 s.t, vw, vq], .agg #[.int .i64 7, .int .i64 (k : Int), .int .i64 an]] w fun e w' => RetR B s ⟨7, k, an⟩ e w' ∧ Below B w w' := by
 obtain ⟨ra, rc, rfl⟩ := ho.r.form
 obtain ⟨wa, wc, rfl⟩ := ho.x.form
 obtain ⟨qa, qc, rfl⟩ := ho.q.form
 have b3 : Below w.heap.size w (((w.alloc (.cells #[.slice ra s.n rc, .int .i64 s.t, .slice wa s.m wc, .slice qa s.l qc] 28)).alloc (.cells #[.int .i64 7, .int .i64 (k : Int), .int .i64 an] 41)).alloc (.cells #[.slice none 0 0, .int .i64 0, .slice none 0 0, .slice none 0 0] 28)) := (((Below.refl w.heap.size w).alloc (Nat.le_refl _) _).alloc (by simp) _).alloc (by simp; omega) _
 have PV : Hid (SvP NA (((w.alloc (.cells #[.slice ra s.n rc, .int .i64 s.t, .slice wa s.m wc, .slice qa s.l qc] 28)).alloc (.cells #[.int .i64 7, .int .i64 (k : Int), .int .i64 an] 41)).alloc (.cells #[.slice none 0 0, .int .i64 0, .slice none 0 0, .slice none 0 0] 28)) B w.heap.size s (.slice ra s.n rc) (.slice wa s.m wc) (.slice qa s.l qc) VR VW VQ) := SvP.made hB (((Box4.madeAt rfl _ _ _ _ _).alloc _).alloc _) (ho.below b3) hd
 have AB : Hid (Box3 (((w.alloc (.cells #[.slice ra s.n rc, .int .i64 s.t, .slice wa s.m wc, .slice qa s.l qc] 28)).alloc (.cells #[.int .i64 7, .int .i64 (k : Int), .int .i64 an] 41)).alloc (.cells #[.slice none 0 0, .int .i64 0, .slice none 0 0, .slice none 0 0] 28)) (w.heap.size + 1) 41 (.int .i64 7) (.int .i64 (k : Int)) (.int .i64 an)) := (Box3.madeAt (by simp) _ _ _ _).alloc _
 have RB : Hid (Box4 (((w.alloc (.cells #[.slice ra s.n rc, .int .i64 s.t, .slice wa s.m wc, .slice qa s.l qc] 28)).alloc (.cells #[.int .i64 7, .int .i64 (k : Int), .int .i64 an] 41)).alloc (.cells #[.slice none 0 0, .int .i64 0, .slice none 0 0, .slice none 0 0] 28)) (w.heap.size + 1 + 1) 28 (.slice none 0 0) (.int .i64 0) (.slice none 0 0) (.slice none 0 0)) := Box4.madeAt (by simp) _ _ _ _ _
 have BV : Hid (B ≤ (((w.alloc (.cells #[.slice ra s.n rc, .int .i64 s.t, .slice wa s.m wc, .slice qa s.l qc] 28)).alloc (.cells #[.int .i64 7, .int .i64 (k : Int), .int .i64 an] 41)).alloc (.cells #[.slice none 0 0, .int .i64 0, .slice none 0 0, .slice none 0 0] 28)).heap.size ∧ Below B w (((w.alloc (.cells #[.slice ra s.n rc, .int .i64 s.t, .slice wa s.m wc, .slice qa s.l qc] 28)).alloc (.cells #[.int .i64 7, .int .i64 (k : Int), .int .i64 an] 41)).alloc (.cells #[.slice none 0 0, .int .i64 0, .slice none 0 0, .slice none 0 0] 28))) := ⟨Nat.le_trans hB b3.size, b3.mono hB⟩
 have SZ : Hid (∀ w : World, Calls Try.prog 95 #[.int .i64 (s.n : Int)] w fun e w' => e = .returned (.int .i64 ((majN s.n : Nat) : Int)) ∧ w = w') := fun w => by
  have h := l09Size_any (s.n : Int) (by have := ok.1.1; omega) w
  rwa [show (s.n : Int) / 2 + 1 = ((majN s.n : Nat) : Int) by unfold majN; omega] at h
 have OK : Hid s.Ok := ok
 have klt : (k : Int) < (s.n : Int) := by omega
 clear b3 ho hd ok
 go_enter Try.func74, Try.ntmps74
 go_upto_region 1 with fail
 generalize (((w.alloc (.cells #[.slice ra s.n rc, .int .i64 s.t, .slice wa s.m wc, .slice qa s.l qc] 28)).alloc (.cells #[.int .i64 7, .int .i64 (k : Int), .int .i64 an] 41)).alloc (.cells #[.slice none 0 0, .int .i64 0, .slice none 0 0, .slice none 0 0] 28)) = v at *
 obtain ⟨ab, hab⟩ : ∃ x, x = w.heap.size + 1 := ⟨_, rfl⟩
 obtain ⟨rb, hrb⟩ : ∃ x, x = w.heap.size + 1 + 1 := ⟨_, rfl⟩
 have DI : Hid (B ≤ w.heap.size ∧ w.heap.size < ab ∧ ab < rb) := ⟨hB, by omega, by omega⟩
 rw [← hrb, ← hab]
 rw [← hab] at AB
 rw [← hrb] at RB
 clear hab hrb hB
 obtain ⟨sb, hsb⟩ : ∃ x, x = w.heap.size := ⟨_, rfl⟩
 have HSB : Hid (sb = w.heap.size) := hsb
 rw [← hsb] at PV DI ⊢
 clear hsb
 obtain ⟨gr, ea, -, -, KR⟩ := RkR.start PV.out.o.r hk
 subst ea
 have KY : Hid (RkR v B gr rc s.n s.R VR k (s.R k) (VR k)) := KR
 clear KR
 have c0 := PV.out.x.c0
 have x0 := AB.out.c0
 have x1 := AB.out.c1
 go_wp2_with fail
 refine (SZ.out _).mono ?_
 rintro e _ ⟨rfl, rfl⟩
 clear SZ
 have m0 : v.cell? ⟨gr, k * 8, none⟩ = some (.bool (s.R k).mute) := KY.out.c hk 0 (by omega)
 clear x1
 cases hu : (s.R k).mute with
 | false =>
  rw [hu] at m0
  have HU : Hid ((s.R k).mute = false) := hu
  clear hu
  have PE := PV.out
  have RE : Box4 v rb 28 (.slice none 0 0) (.int .i64 0) (.slice none 0 0) (.slice none 0 0) := RB.out
  have k0 := PE.x.c0
  have y0 := RE.c0
  have u0 := RE.fr 0
  have k1 := PE.x.c1
  have y1 := RE.c1
  have u1 := RE.fr 1
  have k2 := PE.x.c2
  have y2 := RE.c2
  have u2 := RE.fr 2
  have k3 := PE.x.c3
  have y3 := RE.c3
  have u3 := RE.fr 3
  have X9 : Hid (Box4 ((((v.setCell ⟨rb, 0, none⟩ (.slice (some ⟨gr, 0, none⟩) s.n rc)).setCell ⟨rb, 1, none⟩ (.int .i64 s.t)).setCell ⟨rb, 2, none⟩ (.slice wa s.m wc)).setCell ⟨rb, 3, none⟩ (.slice qa s.l qc)) rb 28 (.slice (some ⟨gr, 0, none⟩) s.n rc) (.int .i64 s.t) (.slice wa s.m wc) (.slice qa s.l qc)) := (((RE.set0 _).set1 _).set2 _).set3 _
  have Q9 : Hid (RetR B s _ (.returned (.tuple #[.agg #[.slice (some ⟨gr, 0, none⟩) s.n rc, .int .i64 s.t, .slice wa s.m wc, .slice qa s.l qc], .int .i64 9])) ((((v.setCell ⟨rb, 0, none⟩ (.slice (some ⟨gr, 0, none⟩) s.n rc)).setCell ⟨rb, 1, none⟩ (.int .i64 s.t)).setCell ⟨rb, 2, none⟩ (.slice wa s.m wc)).setCell ⟨rb, 3, none⟩ (.slice qa s.l qc))) := retR_end (s' := s) (ActS.echo0 (a := ⟨7, k, an⟩) k hk rfl rfl HU.out) PE RE
  have B9 : Hid (Below B w ((((v.setCell ⟨rb, 0, none⟩ (.slice (some ⟨gr, 0, none⟩) s.n rc)).setCell ⟨rb, 1, none⟩ (.int .i64 s.t)).setCell ⟨rb, 2, none⟩ (.slice wa s.m wc)).setCell ⟨rb, 3, none⟩ (.slice qa s.l qc))) := below_res (BV.out.2) (by have := DI.out; omega) _ _ _ _
  clear PE RE PV AB RB KY BV OK DI HSB HU
  go_wp2
  exact ret_cell2 (b := rb) Try.results74 rfl rfl (Box4.loadsv X9.out) ⟨Q9.out, B9.out⟩
 | true =>
 rw [hu] at m0
 have HU : Hid ((s.R k).mute = true) := hu
 clear hu
 have x2 := AB.out.c2
 obtain ⟨N1, hN1⟩ : ∃ N1 : Int, N1 = (s.n : Int) - 1 := ⟨_, rfl⟩
 have e1 : (s.n : Int) - 1 = N1 := hN1.symm
 have w1 : IntKind.i64.wrap N1 = N1 := IntWalk.i64_in _ (by have := OK.out.1.1; omega)
 have HN1 : Hid (N1 = (s.n : Int) - 1) := hN1
 clear hN1
 by_cases hin : ¬ (0 ≤ an ∧ an ≤ N1)
 ·have IN : Hid (∀ w : World, Calls Try.prog 71 #[.int .i64 an, .int .i64 0, .int .i64 N1] w fun e w' => e = .returned (.bool false) ∧ w = w') := fun w => in_any an 0 N1 false (by simp only [decide_eq_false hin]) w
  have NI : Hid (¬ (0 ≤ an ∧ an < (s.n : Int))) := fun z => hin ⟨z.1, by have := HN1.out; omega⟩
  clear hin
  go_wp2_with fail
  refine (IN.out _).mono ?_
  rintro e _ ⟨rfl, rfl⟩
  clear IN
  have PE := PV.out
  have RE : Box4 v rb 28 (.slice none 0 0) (.int .i64 0) (.slice none 0 0) (.slice none 0 0) := RB.out
  have k0 := PE.x.c0
  have y0 := RE.c0
  have u0 := RE.fr 0
  have k1 := PE.x.c1
  have y1 := RE.c1
  have u1 := RE.fr 1
  have k2 := PE.x.c2
  have y2 := RE.c2
  have u2 := RE.fr 2
  have k3 := PE.x.c3
  have y3 := RE.c3
  have u3 := RE.fr 3
  have X9 : Hid (Box4 ((((v.setCell ⟨rb, 0, none⟩ (.slice (some ⟨gr, 0, none⟩) s.n rc)).setCell ⟨rb, 1, none⟩ (.int .i64 s.t)).setCell ⟨rb, 2, none⟩ (.slice wa s.m wc)).setCell ⟨rb, 3, none⟩ (.slice qa s.l qc)) rb 28 (.slice (some ⟨gr, 0, none⟩) s.n rc) (.int .i64 s.t) (.slice wa s.m wc) (.slice qa s.l qc)) := (((RE.set0 _).set1 _).set2 _).set3 _
  have Q9 : Hid (RetR B s _ (.returned (.tuple #[.agg #[.slice (some ⟨gr, 0, none⟩) s.n rc, .int .i64 s.t, .slice wa s.m wc, .slice qa s.l qc], .int .i64 4])) ((((v.setCell ⟨rb, 0, none⟩ (.slice (some ⟨gr, 0, none⟩) s.n rc)).setCell ⟨rb, 1, none⟩ (.int .i64 s.t)).setCell ⟨rb, 2, none⟩ (.slice wa s.m wc)).setCell ⟨rb, 3, none⟩ (.slice qa s.l qc))) := retR_end (s' := s) (ActS.echo1 (a := ⟨7, k, an⟩) k hk rfl rfl HU.out (.inl NI.out)) PE RE
  have B9 : Hid (Below B w ((((v.setCell ⟨rb, 0, none⟩ (.slice (some ⟨gr, 0, none⟩) s.n rc)).setCell ⟨rb, 1, none⟩ (.int .i64 s.t)).setCell ⟨rb, 2, none⟩ (.slice wa s.m wc)).setCell ⟨rb, 3, none⟩ (.slice qa s.l qc))) := below_res (BV.out.2) (by have := DI.out; omega) _ _ _ _
  clear PE RE PV AB RB KY BV OK DI HSB HU NI HN1
  go_wp2
  exact ret_cell2 (b := rb) Try.results74 rfl rfl (Box4.loadsv X9.out) ⟨Q9.out, B9.out⟩
 ·replace hin := Classical.not_not.1 hin
  have IN : Hid (∀ w : World, Calls Try.prog 71 #[.int .i64 an, .int .i64 0, .int .i64 N1] w fun e w' => e = .returned (.bool true) ∧ w = w') := fun w => in_any an 0 N1 true (by simp only [decide_eq_true hin]) w
  obtain ⟨f, hf⟩ := Int.eq_ofNat_of_zero_le hin.1
  have fm : f < s.n := by have := HN1.out; have := hin.2; omega
  have flt : (f : Int) < (s.n : Int) := by omega
  clear hin
  subst hf
  by_cases hfk : f = k
  ·have FK : Hid (f = k) := hfk
   have fkb : ((f : Int) == (k : Int)) = true := by simp [hfk]
   clear hfk
   go_wp2_with fail
   refine (IN.out _).mono ?_
   rintro e _ ⟨rfl, rfl⟩
   clear IN
   have PE := PV.out
   have RE : Box4 v rb 28 (.slice none 0 0) (.int .i64 0) (.slice none 0 0) (.slice none 0 0) := RB.out
   have k0 := PE.x.c0
   have y0 := RE.c0
   have u0 := RE.fr 0
   have k1 := PE.x.c1
   have y1 := RE.c1
   have u1 := RE.fr 1
   have k2 := PE.x.c2
   have y2 := RE.c2
   have u2 := RE.fr 2
   have k3 := PE.x.c3
   have y3 := RE.c3
   have u3 := RE.fr 3
   have X9 : Hid (Box4 ((((v.setCell ⟨rb, 0, none⟩ (.slice (some ⟨gr, 0, none⟩) s.n rc)).setCell ⟨rb, 1, none⟩ (.int .i64 s.t)).setCell ⟨rb, 2, none⟩ (.slice wa s.m wc)).setCell ⟨rb, 3, none⟩ (.slice qa s.l qc)) rb 28 (.slice (some ⟨gr, 0, none⟩) s.n rc) (.int .i64 s.t) (.slice wa s.m wc) (.slice qa s.l qc)) := (((RE.set0 _).set1 _).set2 _).set3 _
   have Q9 : Hid (RetR B s _ (.returned (.tuple #[.agg #[.slice (some ⟨gr, 0, none⟩) s.n rc, .int .i64 s.t, .slice wa s.m wc, .slice qa s.l qc], .int .i64 4])) ((((v.setCell ⟨rb, 0, none⟩ (.slice (some ⟨gr, 0, none⟩) s.n rc)).setCell ⟨rb, 1, none⟩ (.int .i64 s.t)).setCell ⟨rb, 2, none⟩ (.slice wa s.m wc)).setCell ⟨rb, 3, none⟩ (.slice qa s.l qc))) := retR_end (s' := s) (ActS.echo1 (a := ⟨7, k, (f : Int)⟩) k hk rfl rfl HU.out (.inr (by show (f : Int) = k; rw [FK.out]))) PE RE
   have B9 : Hid (Below B w ((((v.setCell ⟨rb, 0, none⟩ (.slice (some ⟨gr, 0, none⟩) s.n rc)).setCell ⟨rb, 1, none⟩ (.int .i64 s.t)).setCell ⟨rb, 2, none⟩ (.slice wa s.m wc)).setCell ⟨rb, 3, none⟩ (.slice qa s.l qc))) := below_res (BV.out.2) (by have := DI.out; omega) _ _ _ _
   clear PE RE PV AB RB KY BV OK DI HSB HU FK HN1
   go_wp2
   exact ret_cell2 (b := rb) Try.results74 rfl rfl (Box4.loadsv X9.out) ⟨Q9.out, B9.out⟩
  ·have FK : Hid (f ≠ k) := hfk
   have fkb : ((f : Int) == (k : Int)) = false := by simp; exact fun e => hfk (by omega)
   clear hfk
   go_wp2_with fail
   refine (IN.out _).mono ?_
   rintro e _ ⟨rfl, rfl⟩
   clear IN
   obtain ⟨gr', e2, -, -, KF⟩ := RkR.start PV.out.o.r fm
   obtain rfl : gr = gr' := by cases e2; rfl
   have KFH : Hid (RkR v B gr rc s.n s.R VR f (s.R f) (VR f)) := KF
   have n0 : v.cell? ⟨gr, f * 8, none⟩ = some (.bool (s.R f).mute) := KF.c fm 0 (by omega)
   clear KF e2
   cases hv : (s.R f).mute with
   | true =>
    rw [hv] at n0
    have HV : Hid ((s.R f).mute = true) := hv
    clear hv
    have PE := PV.out
    have RE : Box4 v rb 28 (.slice none 0 0) (.int .i64 0) (.slice none 0 0) (.slice none 0 0) := RB.out
    have k0 := PE.x.c0
    have y0 := RE.c0
    have u0 := RE.fr 0
    have k1 := PE.x.c1
    have y1 := RE.c1
    have u1 := RE.fr 1
    have k2 := PE.x.c2
    have y2 := RE.c2
    have u2 := RE.fr 2
    have k3 := PE.x.c3
    have y3 := RE.c3
    have u3 := RE.fr 3
    have X9 : Hid (Box4 ((((v.setCell ⟨rb, 0, none⟩ (.slice (some ⟨gr, 0, none⟩) s.n rc)).setCell ⟨rb, 1, none⟩ (.int .i64 s.t)).setCell ⟨rb, 2, none⟩ (.slice wa s.m wc)).setCell ⟨rb, 3, none⟩ (.slice qa s.l qc)) rb 28 (.slice (some ⟨gr, 0, none⟩) s.n rc) (.int .i64 s.t) (.slice wa s.m wc) (.slice qa s.l qc)) := (((RE.set0 _).set1 _).set2 _).set3 _
    have Q9 : Hid (RetR B s _ (.returned (.tuple #[.agg #[.slice (some ⟨gr, 0, none⟩) s.n rc, .int .i64 s.t, .slice wa s.m wc, .slice qa s.l qc], .int .i64 13])) ((((v.setCell ⟨rb, 0, none⟩ (.slice (some ⟨gr, 0, none⟩) s.n rc)).setCell ⟨rb, 1, none⟩ (.int .i64 s.t)).setCell ⟨rb, 2, none⟩ (.slice wa s.m wc)).setCell ⟨rb, 3, none⟩ (.slice qa s.l qc))) := retR_end (s' := s) (ActS.echo2 (a := ⟨7, k, (f : Int)⟩) k f hk rfl rfl HU.out fm rfl FK.out HV.out) PE RE
    have B9 : Hid (Below B w ((((v.setCell ⟨rb, 0, none⟩ (.slice (some ⟨gr, 0, none⟩) s.n rc)).setCell ⟨rb, 1, none⟩ (.int .i64 s.t)).setCell ⟨rb, 2, none⟩ (.slice wa s.m wc)).setCell ⟨rb, 3, none⟩ (.slice qa s.l qc))) := below_res (BV.out.2) (by have := DI.out; omega) _ _ _ _
    clear PE RE PV AB RB KY BV OK DI HSB HU FK HV KFH HN1
    go_wp2
    exact ret_cell2 (b := rb) Try.results74 rfl rfl (Box4.loadsv X9.out) ⟨Q9.out, B9.out⟩
   | false =>
   rw [hv] at n0
   have HV : Hid ((s.R f).mute = false) := hv
   clear hv
   go_upto_region 23 with fail
   clear m0 n0 c0 x0 x2
   have IW := PV.out.o.e k hk
   obtain ⟨la, lcap, eV⟩ := EO.form IW
   have EV : Hid (VR k = .slice la (s.R k).ne lcap) := eV
   have LN : Hid (Num v la (s.R k).ne (s.R k).E) := IE.num (by rw [← eV]; exact IW)
   have SL : Hid (SlP la (s.R k).ne lcap) := EO.slp (by rw [← eV]; exact IW)
   have IK : Hid (idsOk s.n (s.R k).ne (s.R k).E ∧ (s.R k).ne ≤ 7) := ⟨(OK.out.2.2.1 k hk).2.1, by have := ids_le (OK.out.2.2.1 k hk).2.1; have := OK.out.1.1.2; omega⟩
   obtain ⟨z, hz⟩ : ∃ z, z = sB (hasE (s.R k).ne (s.R k).E f) := ⟨_, rfl⟩
   have HZ : Hid (z = sB (hasE (s.R k).ne (s.R k).E f)) := hz
   clear IW eV hz
   have H : Below v.heap.size v v.drew := (Below.refl _ _).drew
   refine wp_region_noPanic ?_
   refine wp_region_held_drew (S := fun w' => Below v.heap.size v w') (by kernel_rfl) H (fun _ => ?_)
   generalize v.drew = y0 at *
   refine tkH (i := 0) (v := .pointer (some ⟨gr, k * 8, none⟩)) rfl (by kernel_rfl) (by rfl) ?_ H ?_
   ·intro w' hSw; clear hSw; go_simp
   change wpAnyH _ _ _ _ _ _ _ { tmps := #[_,_,_,_,_,_,_,_,_,_,_,_,_,_,_,_,_,_,_,_,_,_,_,_,_,_,_,_,_,_,_,_,_,_,_,_,_,_,_,_,_,_,_,_,_,_,_,_,_,_,_,_,_,_,_,_,_,_,_,_,_,_,_,_,_,_,_,_,_,_,_,_,_,_,_,_,_,_,_,_,_,_,_,_,_,_,_,_,_,_,_,_,_,_,_,_,_,_,_,_,_,_,_,_,_,_,_,_,_,_,_,_,_,_,_,_,_,_,_,_,_,_,_,_,_,_,_,_,_,_,_,_,_,_,_,_,_,_,_,_,_,_,_,_,_,_,_,_,_,_,_,_,_,_,_,_,_,_,_,_,_,_,_,_,_,_,_,_,_,_,_,_,_,_,_,_,_,_,_,_,_,_,_,_,_,_,_,_,_,_,_,_,_,_,_,_,_,_,_,_,_,_,_,_,_,_,_,_,_,_,_,_,_,_,_,_,_,_,_,_,_,_,_,_,_,_,_,_,_,_,_,_,_,_,_,_,_,_,_,_,_,_,_,_,_,_,_,_,_,_,_,_,_,_,_,_,_,_,_,_,_,_,_,_,_,_,_,_,_,_,_,_,_,_,_,_,_,_,_,_,_,_,_,_,_,_,_,_,_,_,_,_,_,_,_,_,_,_,_,_,_,_,_,_,_,_,_,_,_,_,_,_,_,_,_,_,_,_,_,_,_,_], defers := _ } _
   refine tkH (i := 1) (v := .pointer (some ⟨gr, k * 8, none⟩)) rfl (by kernel_rfl) (by rfl) ?_ H ?_
   ·intro w' hSw; clear hSw; go_simp
   change wpAnyH _ _ _ _ _ _ _ { tmps := #[_,_,_,_,_,_,_,_,_,_,_,_,_,_,_,_,_,_,_,_,_,_,_,_,_,_,_,_,_,_,_,_,_,_,_,_,_,_,_,_,_,_,_,_,_,_,_,_,_,_,_,_,_,_,_,_,_,_,_,_,_,_,_,_,_,_,_,_,_,_,_,_,_,_,_,_,_,_,_,_,_,_,_,_,_,_,_,_,_,_,_,_,_,_,_,_,_,_,_,_,_,_,_,_,_,_,_,_,_,_,_,_,_,_,_,_,_,_,_,_,_,_,_,_,_,_,_,_,_,_,_,_,_,_,_,_,_,_,_,_,_,_,_,_,_,_,_,_,_,_,_,_,_,_,_,_,_,_,_,_,_,_,_,_,_,_,_,_,_,_,_,_,_,_,_,_,_,_,_,_,_,_,_,_,_,_,_,_,_,_,_,_,_,_,_,_,_,_,_,_,_,_,_,_,_,_,_,_,_,_,_,_,_,_,_,_,_,_,_,_,_,_,_,_,_,_,_,_,_,_,_,_,_,_,_,_,_,_,_,_,_,_,_,_,_,_,_,_,_,_,_,_,_,_,_,_,_,_,_,_,_,_,_,_,_,_,_,_,_,_,_,_,_,_,_,_,_,_,_,_,_,_,_,_,_,_,_,_,_,_,_,_,_,_,_,_,_,_,_,_,_,_,_,_,_,_,_,_,_,_,_,_,_,_,_,_,_,_,_,_,_,_], defers := _ } _
   refine tkH (i := 2) (v := .pointer (some ⟨gr, k * 8 + 5, none⟩)) rfl (by kernel_rfl) (by rfl) ?_ H ?_
   ·intro w' hSw; clear hSw; go_simp
   change wpAnyH _ _ _ _ _ _ _ { tmps := #[_,_,_,_,_,_,_,_,_,_,_,_,_,_,_,_,_,_,_,_,_,_,_,_,_,_,_,_,_,_,_,_,_,_,_,_,_,_,_,_,_,_,_,_,_,_,_,_,_,_,_,_,_,_,_,_,_,_,_,_,_,_,_,_,_,_,_,_,_,_,_,_,_,_,_,_,_,_,_,_,_,_,_,_,_,_,_,_,_,_,_,_,_,_,_,_,_,_,_,_,_,_,_,_,_,_,_,_,_,_,_,_,_,_,_,_,_,_,_,_,_,_,_,_,_,_,_,_,_,_,_,_,_,_,_,_,_,_,_,_,_,_,_,_,_,_,_,_,_,_,_,_,_,_,_,_,_,_,_,_,_,_,_,_,_,_,_,_,_,_,_,_,_,_,_,_,_,_,_,_,_,_,_,_,_,_,_,_,_,_,_,_,_,_,_,_,_,_,_,_,_,_,_,_,_,_,_,_,_,_,_,_,_,_,_,_,_,_,_,_,_,_,_,_,_,_,_,_,_,_,_,_,_,_,_,_,_,_,_,_,_,_,_,_,_,_,_,_,_,_,_,_,_,_,_,_,_,_,_,_,_,_,_,_,_,_,_,_,_,_,_,_,_,_,_,_,_,_,_,_,_,_,_,_,_,_,_,_,_,_,_,_,_,_,_,_,_,_,_,_,_,_,_,_,_,_,_,_,_,_,_,_,_,_,_,_,_,_,_,_,_,_], defers := _ } _
   refine tkH (i := 3) (v := .slice la (s.R k).ne lcap) rfl (by kernel_rfl) (by rfl) ?_ H ?_
   ·intro w' hSw; have KT := KY.out.keep (w' := w') (hSw.block gr KY.out.lt.2); have q5 : w'.cell? ⟨gr, k * 8 + 5, none⟩ = some (.slice la (s.R k).ne lcap) := (by have h5 := KT.c hk 5 (by omega); rw [← EV.out]; exact h5); clear KT hSw; go_simp
   change wpAnyH _ _ _ _ _ _ _ { tmps := #[_,_,_,_,_,_,_,_,_,_,_,_,_,_,_,_,_,_,_,_,_,_,_,_,_,_,_,_,_,_,_,_,_,_,_,_,_,_,_,_,_,_,_,_,_,_,_,_,_,_,_,_,_,_,_,_,_,_,_,_,_,_,_,_,_,_,_,_,_,_,_,_,_,_,_,_,_,_,_,_,_,_,_,_,_,_,_,_,_,_,_,_,_,_,_,_,_,_,_,_,_,_,_,_,_,_,_,_,_,_,_,_,_,_,_,_,_,_,_,_,_,_,_,_,_,_,_,_,_,_,_,_,_,_,_,_,_,_,_,_,_,_,_,_,_,_,_,_,_,_,_,_,_,_,_,_,_,_,_,_,_,_,_,_,_,_,_,_,_,_,_,_,_,_,_,_,_,_,_,_,_,_,_,_,_,_,_,_,_,_,_,_,_,_,_,_,_,_,_,_,_,_,_,_,_,_,_,_,_,_,_,_,_,_,_,_,_,_,_,_,_,_,_,_,_,_,_,_,_,_,_,_,_,_,_,_,_,_,_,_,_,_,_,_,_,_,_,_,_,_,_,_,_,_,_,_,_,_,_,_,_,_,_,_,_,_,_,_,_,_,_,_,_,_,_,_,_,_,_,_,_,_,_,_,_,_,_,_,_,_,_,_,_,_,_,_,_,_,_,_,_,_,_,_,_,_,_,_,_,_,_,_,_,_,_,_,_,_,_,_,_,_], defers := _ } _
   refine tkH (i := 4) (v := .pointer (some ⟨ab, 2, none⟩)) rfl (by kernel_rfl) (by rfl) ?_ H ?_
   ·intro w' hSw; clear hSw; go_simp
   change wpAnyH _ _ _ _ _ _ _ { tmps := #[_,_,_,_,_,_,_,_,_,_,_,_,_,_,_,_,_,_,_,_,_,_,_,_,_,_,_,_,_,_,_,_,_,_,_,_,_,_,_,_,_,_,_,_,_,_,_,_,_,_,_,_,_,_,_,_,_,_,_,_,_,_,_,_,_,_,_,_,_,_,_,_,_,_,_,_,_,_,_,_,_,_,_,_,_,_,_,_,_,_,_,_,_,_,_,_,_,_,_,_,_,_,_,_,_,_,_,_,_,_,_,_,_,_,_,_,_,_,_,_,_,_,_,_,_,_,_,_,_,_,_,_,_,_,_,_,_,_,_,_,_,_,_,_,_,_,_,_,_,_,_,_,_,_,_,_,_,_,_,_,_,_,_,_,_,_,_,_,_,_,_,_,_,_,_,_,_,_,_,_,_,_,_,_,_,_,_,_,_,_,_,_,_,_,_,_,_,_,_,_,_,_,_,_,_,_,_,_,_,_,_,_,_,_,_,_,_,_,_,_,_,_,_,_,_,_,_,_,_,_,_,_,_,_,_,_,_,_,_,_,_,_,_,_,_,_,_,_,_,_,_,_,_,_,_,_,_,_,_,_,_,_,_,_,_,_,_,_,_,_,_,_,_,_,_,_,_,_,_,_,_,_,_,_,_,_,_,_,_,_,_,_,_,_,_,_,_,_,_,_,_,_,_,_,_,_,_,_,_,_,_,_,_,_,_,_,_,_,_,_,_,_], defers := _ } _
   refine tkH (i := 5) (v := .int .i64 (f : Int)) rfl (by kernel_rfl) (by rfl) ?_ H ?_
   ·intro w' hSw; have x2 := (AB.out.ofBlock (w' := w') (hSw.block ab AB.out.lt)).c2; clear hSw; go_simp
   change wpAnyH _ _ _ _ _ _ _ { tmps := #[_,_,_,_,_,_,_,_,_,_,_,_,_,_,_,_,_,_,_,_,_,_,_,_,_,_,_,_,_,_,_,_,_,_,_,_,_,_,_,_,_,_,_,_,_,_,_,_,_,_,_,_,_,_,_,_,_,_,_,_,_,_,_,_,_,_,_,_,_,_,_,_,_,_,_,_,_,_,_,_,_,_,_,_,_,_,_,_,_,_,_,_,_,_,_,_,_,_,_,_,_,_,_,_,_,_,_,_,_,_,_,_,_,_,_,_,_,_,_,_,_,_,_,_,_,_,_,_,_,_,_,_,_,_,_,_,_,_,_,_,_,_,_,_,_,_,_,_,_,_,_,_,_,_,_,_,_,_,_,_,_,_,_,_,_,_,_,_,_,_,_,_,_,_,_,_,_,_,_,_,_,_,_,_,_,_,_,_,_,_,_,_,_,_,_,_,_,_,_,_,_,_,_,_,_,_,_,_,_,_,_,_,_,_,_,_,_,_,_,_,_,_,_,_,_,_,_,_,_,_,_,_,_,_,_,_,_,_,_,_,_,_,_,_,_,_,_,_,_,_,_,_,_,_,_,_,_,_,_,_,_,_,_,_,_,_,_,_,_,_,_,_,_,_,_,_,_,_,_,_,_,_,_,_,_,_,_,_,_,_,_,_,_,_,_,_,_,_,_,_,_,_,_,_,_,_,_,_,_,_,_,_,_,_,_,_,_,_,_,_,_,_], defers := _ } _
   refine rdH (i := 6) (by kernel_rfl) rfl (fun KK hK => ?_)
   go_simp
   refine (((l09Has_any la (s.R k).ne lcap (s.R k).E f (by have := IK.out.2; omega) z HZ.out y0 (LN.out.below H)).mono fun e w' h => (⟨h.1, h.2 ▸ Below.refl _ _⟩ : e = .returned (.bool z) ∧ Below y0.heap.size y0 w'))).mono ?_
   rintro e y1 ⟨rfl, hb⟩
   replace H : Below v.heap.size v y1 := H.trans (hb.mono H.size)
   clear hb
   refine hK.out _ _ H (fun _ => ?_)
   clear hK KK
   change wpAnyH _ _ _ _ _ _ _ { tmps := #[_,_,_,_,_,_,_,_,_,_,_,_,_,_,_,_,_,_,_,_,_,_,_,_,_,_,_,_,_,_,_,_,_,_,_,_,_,_,_,_,_,_,_,_,_,_,_,_,_,_,_,_,_,_,_,_,_,_,_,_,_,_,_,_,_,_,_,_,_,_,_,_,_,_,_,_,_,_,_,_,_,_,_,_,_,_,_,_,_,_,_,_,_,_,_,_,_,_,_,_,_,_,_,_,_,_,_,_,_,_,_,_,_,_,_,_,_,_,_,_,_,_,_,_,_,_,_,_,_,_,_,_,_,_,_,_,_,_,_,_,_,_,_,_,_,_,_,_,_,_,_,_,_,_,_,_,_,_,_,_,_,_,_,_,_,_,_,_,_,_,_,_,_,_,_,_,_,_,_,_,_,_,_,_,_,_,_,_,_,_,_,_,_,_,_,_,_,_,_,_,_,_,_,_,_,_,_,_,_,_,_,_,_,_,_,_,_,_,_,_,_,_,_,_,_,_,_,_,_,_,_,_,_,_,_,_,_,_,_,_,_,_,_,_,_,_,_,_,_,_,_,_,_,_,_,_,_,_,_,_,_,_,_,_,_,_,_,_,_,_,_,_,_,_,_,_,_,_,_,_,_,_,_,_,_,_,_,_,_,_,_,_,_,_,_,_,_,_,_,_,_,_,_,_,_,_,_,_,_,_,_,_,_,_,_,_,_,_,_,_,_,_], defers := _ } _
   refine tkH (i := 7) (v := .bool z) rfl (by kernel_rfl) (by rfl) ?_ H ?_
   ·intro w' hSw; clear hSw; go_simp
   change wpAnyH _ _ _ _ _ _ _ { tmps := #[_,_,_,_,_,_,_,_,_,_,_,_,_,_,_,_,_,_,_,_,_,_,_,_,_,_,_,_,_,_,_,_,_,_,_,_,_,_,_,_,_,_,_,_,_,_,_,_,_,_,_,_,_,_,_,_,_,_,_,_,_,_,_,_,_,_,_,_,_,_,_,_,_,_,_,_,_,_,_,_,_,_,_,_,_,_,_,_,_,_,_,_,_,_,_,_,_,_,_,_,_,_,_,_,_,_,_,_,_,_,_,_,_,_,_,_,_,_,_,_,_,_,_,_,_,_,_,_,_,_,_,_,_,_,_,_,_,_,_,_,_,_,_,_,_,_,_,_,_,_,_,_,_,_,_,_,_,_,_,_,_,_,_,_,_,_,_,_,_,_,_,_,_,_,_,_,_,_,_,_,_,_,_,_,_,_,_,_,_,_,_,_,_,_,_,_,_,_,_,_,_,_,_,_,_,_,_,_,_,_,_,_,_,_,_,_,_,_,_,_,_,_,_,_,_,_,_,_,_,_,_,_,_,_,_,_,_,_,_,_,_,_,_,_,_,_,_,_,_,_,_,_,_,_,_,_,_,_,_,_,_,_,_,_,_,_,_,_,_,_,_,_,_,_,_,_,_,_,_,_,_,_,_,_,_,_,_,_,_,_,_,_,_,_,_,_,_,_,_,_,_,_,_,_,_,_,_,_,_,_,_,_,_,_,_,_,_,_,_,_,_,_], defers := _ } _
   refine wpAnyH_done (by kernel_rfl) ?_ _
   refine NoPanic.normal ?_
   have KF1 : Hid (RkR y1 B gr rc s.n s.R VR f (s.R f) (VR f)) := KFH.out.below H
   have P1 : Hid (SvP NA y1 B sb s (.slice (some ⟨gr, 0, none⟩) s.n rc) (.slice wa s.m wc) (.slice qa s.l qc) VR VW VQ) := PV.out.below H
   have A1 : Hid (Box3 y1 ab 41 (.int .i64 7) (.int .i64 (k : Int)) (.int .i64 (f : Int))) := AB.out.below H
   have RB1 : Hid (Box4 y1 rb 28 (.slice none 0 0) (.int .i64 0) (.slice none 0 0) (.slice none 0 0)) := RB.out.below H
   have KY1 : Hid (RkR y1 B gr rc s.n s.R VR k (s.R k) (VR k)) := KY.out.below H
   have LN1 : Hid (Num y1 la (s.R k).ne (s.R k).E) := LN.out.below H
   have B1 : Hid (B ≤ y1.heap.size ∧ Below B w y1) := ⟨Nat.le_trans BV.out.1 H.size, BV.out.2.trans (H.mono BV.out.1)⟩
   clear H PV AB RB KY KFH LN BV
   generalize y1 = v1 at *
   by_cases hx : hasE (s.R k).ne (s.R k).E f
   ·obtain rfl : z = true := HZ.out.trans (sB_yes hx)
    have HX : Hid (hasE (s.R k).ne (s.R k).E f) := hx
    clear hx
    have PE := P1.out
    have RE : Box4 v1 rb 28 (.slice none 0 0) (.int .i64 0) (.slice none 0 0) (.slice none 0 0) := RB1.out
    have k0 := PE.x.c0
    have y0 := RE.c0
    have u0 := RE.fr 0
    have k1 := PE.x.c1
    have y1 := RE.c1
    have u1 := RE.fr 1
    have k2 := PE.x.c2
    have y2 := RE.c2
    have u2 := RE.fr 2
    have k3 := PE.x.c3
    have y3 := RE.c3
    have u3 := RE.fr 3
    have X9 : Hid (Box4 ((((v1.setCell ⟨rb, 0, none⟩ (.slice (some ⟨gr, 0, none⟩) s.n rc)).setCell ⟨rb, 1, none⟩ (.int .i64 s.t)).setCell ⟨rb, 2, none⟩ (.slice wa s.m wc)).setCell ⟨rb, 3, none⟩ (.slice qa s.l qc)) rb 28 (.slice (some ⟨gr, 0, none⟩) s.n rc) (.int .i64 s.t) (.slice wa s.m wc) (.slice qa s.l qc)) := (((RE.set0 _).set1 _).set2 _).set3 _
    have Q9 : Hid (RetR B s _ (.returned (.tuple #[.agg #[.slice (some ⟨gr, 0, none⟩) s.n rc, .int .i64 s.t, .slice wa s.m wc, .slice qa s.l qc], .int .i64 9])) ((((v1.setCell ⟨rb, 0, none⟩ (.slice (some ⟨gr, 0, none⟩) s.n rc)).setCell ⟨rb, 1, none⟩ (.int .i64 s.t)).setCell ⟨rb, 2, none⟩ (.slice wa s.m wc)).setCell ⟨rb, 3, none⟩ (.slice qa s.l qc))) := retR_end (s' := s) (ActS.echo3 (a := ⟨7, k, (f : Int)⟩) k f hk rfl rfl HU.out fm rfl FK.out HV.out HX.out) PE RE
    have B9 : Hid (Below B w ((((v1.setCell ⟨rb, 0, none⟩ (.slice (some ⟨gr, 0, none⟩) s.n rc)).setCell ⟨rb, 1, none⟩ (.int .i64 s.t)).setCell ⟨rb, 2, none⟩ (.slice wa s.m wc)).setCell ⟨rb, 3, none⟩ (.slice qa s.l qc))) := below_res (B1.out.2) (by have := DI.out; omega) _ _ _ _
    clear PE RE P1 A1 RB1 KY1 KF1 B1 OK DI HSB HU FK HV HX LN1 SL IK
    go_wp2
    exact ret_cell2 (b := rb) Try.results74 rfl rfl (Box4.loadsv X9.out) ⟨Q9.out, B9.out⟩
   ·obtain rfl : z = false := HZ.out.trans (sB_no hx)
    have HX : Hid (¬ hasE (s.R k).ne (s.R k).E f) := hx
    clear hx HZ
    go_upto_region 25 with fail
    have KX : Hid (RkR v1.drew B gr rc s.n s.R VR k (s.R k) (VR k)) := KY1.out.below (Below.refl _ _).drew
    have LX : Hid (Num v1.drew la (s.R k).ne (s.R k).E) := LN1.out.below (Below.refl _ _).drew
    have NGA : Hid (¬ PG gr ab) := P1.out.nbG (.inl rfl) A1.out (by decide) (by decide) (by decide)
    have H : ChB (PG gr) v1 v1.drew := (ChB.refl _ _).drew
    refine wp_region_noPanic ?_
    refine wp_region_held_drew (S := fun w' => ChB (PG gr) v1 w') (by kernel_rfl) H (fun _ => ?_)
    generalize v1.drew = a0 at *
    refine tkH (i := 0) (v := .pointer (some ⟨gr, k * 8, none⟩)) rfl (by kernel_rfl) (by rfl) ?_ H ?_
    ·intro w' hSw; clear hSw; go_simp
    change wpAnyH _ _ _ _ _ _ _ { tmps := #[_,_,_,_,_,_,_,_,_,_,_,_,_,_,_,_,_,_,_,_,_,_,_,_,_,_,_,_,_,_,_,_,_,_,_,_,_,_,_,_,_,_,_,_,_,_,_,_,_,_,_,_,_,_,_,_,_,_,_,_,_,_,_,_,_,_,_,_,_,_,_,_,_,_,_,_,_,_,_,_,_,_,_,_,_,_,_,_,_,_,_,_,_,_,_,_,_,_,_,_,_,_,_,_,_,_,_,_,_,_,_,_,_,_,_,_,_,_,_,_,_,_,_,_,_,_,_,_,_,_,_,_,_,_,_,_,_,_,_,_,_,_,_,_,_,_,_,_,_,_,_,_,_,_,_,_,_,_,_,_,_,_,_,_,_,_,_,_,_,_,_,_,_,_,_,_,_,_,_,_,_,_,_,_,_,_,_,_,_,_,_,_,_,_,_,_,_,_,_,_,_,_,_,_,_,_,_,_,_,_,_,_,_,_,_,_,_,_,_,_,_,_,_,_,_,_,_,_,_,_,_,_,_,_,_,_,_,_,_,_,_,_,_,_,_,_,_,_,_,_,_,_,_,_,_,_,_,_,_,_,_,_,_,_,_,_,_,_,_,_,_,_,_,_,_,_,_,_,_,_,_,_,_,_,_,_,_,_,_,_,_,_,_,_,_,_,_,_,_,_,_,_,_,_,_,_,_,_,_,_,_,_,_,_,_,_,_,_,_,_,_,_], defers := _ } _
    refine tkH (i := 1) (v := .pointer (some ⟨gr, k * 8, none⟩)) rfl (by kernel_rfl) (by rfl) ?_ H ?_
    ·intro w' hSw; clear hSw; go_simp
    change wpAnyH _ _ _ _ _ _ _ { tmps := #[_,_,_,_,_,_,_,_,_,_,_,_,_,_,_,_,_,_,_,_,_,_,_,_,_,_,_,_,_,_,_,_,_,_,_,_,_,_,_,_,_,_,_,_,_,_,_,_,_,_,_,_,_,_,_,_,_,_,_,_,_,_,_,_,_,_,_,_,_,_,_,_,_,_,_,_,_,_,_,_,_,_,_,_,_,_,_,_,_,_,_,_,_,_,_,_,_,_,_,_,_,_,_,_,_,_,_,_,_,_,_,_,_,_,_,_,_,_,_,_,_,_,_,_,_,_,_,_,_,_,_,_,_,_,_,_,_,_,_,_,_,_,_,_,_,_,_,_,_,_,_,_,_,_,_,_,_,_,_,_,_,_,_,_,_,_,_,_,_,_,_,_,_,_,_,_,_,_,_,_,_,_,_,_,_,_,_,_,_,_,_,_,_,_,_,_,_,_,_,_,_,_,_,_,_,_,_,_,_,_,_,_,_,_,_,_,_,_,_,_,_,_,_,_,_,_,_,_,_,_,_,_,_,_,_,_,_,_,_,_,_,_,_,_,_,_,_,_,_,_,_,_,_,_,_,_,_,_,_,_,_,_,_,_,_,_,_,_,_,_,_,_,_,_,_,_,_,_,_,_,_,_,_,_,_,_,_,_,_,_,_,_,_,_,_,_,_,_,_,_,_,_,_,_,_,_,_,_,_,_,_,_,_,_,_,_,_,_,_,_,_,_], defers := _ } _
    refine tkH (i := 2) (v := .pointer (some ⟨gr, k * 8, none⟩)) rfl (by kernel_rfl) (by rfl) ?_ H ?_
    ·intro w' hSw; clear hSw; go_simp
    change wpAnyH _ _ _ _ _ _ _ { tmps := #[_,_,_,_,_,_,_,_,_,_,_,_,_,_,_,_,_,_,_,_,_,_,_,_,_,_,_,_,_,_,_,_,_,_,_,_,_,_,_,_,_,_,_,_,_,_,_,_,_,_,_,_,_,_,_,_,_,_,_,_,_,_,_,_,_,_,_,_,_,_,_,_,_,_,_,_,_,_,_,_,_,_,_,_,_,_,_,_,_,_,_,_,_,_,_,_,_,_,_,_,_,_,_,_,_,_,_,_,_,_,_,_,_,_,_,_,_,_,_,_,_,_,_,_,_,_,_,_,_,_,_,_,_,_,_,_,_,_,_,_,_,_,_,_,_,_,_,_,_,_,_,_,_,_,_,_,_,_,_,_,_,_,_,_,_,_,_,_,_,_,_,_,_,_,_,_,_,_,_,_,_,_,_,_,_,_,_,_,_,_,_,_,_,_,_,_,_,_,_,_,_,_,_,_,_,_,_,_,_,_,_,_,_,_,_,_,_,_,_,_,_,_,_,_,_,_,_,_,_,_,_,_,_,_,_,_,_,_,_,_,_,_,_,_,_,_,_,_,_,_,_,_,_,_,_,_,_,_,_,_,_,_,_,_,_,_,_,_,_,_,_,_,_,_,_,_,_,_,_,_,_,_,_,_,_,_,_,_,_,_,_,_,_,_,_,_,_,_,_,_,_,_,_,_,_,_,_,_,_,_,_,_,_,_,_,_,_,_,_,_,_,_], defers := _ } _
    refine tkH (i := 3) (v := .pointer (some ⟨gr, k * 8 + 5, none⟩)) rfl (by kernel_rfl) (by rfl) ?_ H ?_
    ·intro w' hSw; clear hSw; go_simp
    change wpAnyH _ _ _ _ _ _ _ { tmps := #[_,_,_,_,_,_,_,_,_,_,_,_,_,_,_,_,_,_,_,_,_,_,_,_,_,_,_,_,_,_,_,_,_,_,_,_,_,_,_,_,_,_,_,_,_,_,_,_,_,_,_,_,_,_,_,_,_,_,_,_,_,_,_,_,_,_,_,_,_,_,_,_,_,_,_,_,_,_,_,_,_,_,_,_,_,_,_,_,_,_,_,_,_,_,_,_,_,_,_,_,_,_,_,_,_,_,_,_,_,_,_,_,_,_,_,_,_,_,_,_,_,_,_,_,_,_,_,_,_,_,_,_,_,_,_,_,_,_,_,_,_,_,_,_,_,_,_,_,_,_,_,_,_,_,_,_,_,_,_,_,_,_,_,_,_,_,_,_,_,_,_,_,_,_,_,_,_,_,_,_,_,_,_,_,_,_,_,_,_,_,_,_,_,_,_,_,_,_,_,_,_,_,_,_,_,_,_,_,_,_,_,_,_,_,_,_,_,_,_,_,_,_,_,_,_,_,_,_,_,_,_,_,_,_,_,_,_,_,_,_,_,_,_,_,_,_,_,_,_,_,_,_,_,_,_,_,_,_,_,_,_,_,_,_,_,_,_,_,_,_,_,_,_,_,_,_,_,_,_,_,_,_,_,_,_,_,_,_,_,_,_,_,_,_,_,_,_,_,_,_,_,_,_,_,_,_,_,_,_,_,_,_,_,_,_,_,_,_,_,_,_,_], defers := _ } _
    refine tkH (i := 5) (v := .pointer (some ⟨ab, 2, none⟩)) rfl (by kernel_rfl) (by rfl) ?_ H ?_
    ·intro w' hSw; clear hSw; go_simp
    change wpAnyH _ _ _ _ _ _ _ { tmps := #[_,_,_,_,_,_,_,_,_,_,_,_,_,_,_,_,_,_,_,_,_,_,_,_,_,_,_,_,_,_,_,_,_,_,_,_,_,_,_,_,_,_,_,_,_,_,_,_,_,_,_,_,_,_,_,_,_,_,_,_,_,_,_,_,_,_,_,_,_,_,_,_,_,_,_,_,_,_,_,_,_,_,_,_,_,_,_,_,_,_,_,_,_,_,_,_,_,_,_,_,_,_,_,_,_,_,_,_,_,_,_,_,_,_,_,_,_,_,_,_,_,_,_,_,_,_,_,_,_,_,_,_,_,_,_,_,_,_,_,_,_,_,_,_,_,_,_,_,_,_,_,_,_,_,_,_,_,_,_,_,_,_,_,_,_,_,_,_,_,_,_,_,_,_,_,_,_,_,_,_,_,_,_,_,_,_,_,_,_,_,_,_,_,_,_,_,_,_,_,_,_,_,_,_,_,_,_,_,_,_,_,_,_,_,_,_,_,_,_,_,_,_,_,_,_,_,_,_,_,_,_,_,_,_,_,_,_,_,_,_,_,_,_,_,_,_,_,_,_,_,_,_,_,_,_,_,_,_,_,_,_,_,_,_,_,_,_,_,_,_,_,_,_,_,_,_,_,_,_,_,_,_,_,_,_,_,_,_,_,_,_,_,_,_,_,_,_,_,_,_,_,_,_,_,_,_,_,_,_,_,_,_,_,_,_,_,_,_,_,_,_,_], defers := _ } _
    refine tkH (i := 6) (v := .int .i64 (f : Int)) rfl (by kernel_rfl) (by rfl) ?_ H ?_
    ·intro w' hSw; have x2 := (A1.out.ofBlock (w' := w') (hSw.block ab A1.out.lt NGA.out)).c2; clear hSw; go_simp
    change wpAnyH _ _ _ _ _ _ _ { tmps := #[_,_,_,_,_,_,_,_,_,_,_,_,_,_,_,_,_,_,_,_,_,_,_,_,_,_,_,_,_,_,_,_,_,_,_,_,_,_,_,_,_,_,_,_,_,_,_,_,_,_,_,_,_,_,_,_,_,_,_,_,_,_,_,_,_,_,_,_,_,_,_,_,_,_,_,_,_,_,_,_,_,_,_,_,_,_,_,_,_,_,_,_,_,_,_,_,_,_,_,_,_,_,_,_,_,_,_,_,_,_,_,_,_,_,_,_,_,_,_,_,_,_,_,_,_,_,_,_,_,_,_,_,_,_,_,_,_,_,_,_,_,_,_,_,_,_,_,_,_,_,_,_,_,_,_,_,_,_,_,_,_,_,_,_,_,_,_,_,_,_,_,_,_,_,_,_,_,_,_,_,_,_,_,_,_,_,_,_,_,_,_,_,_,_,_,_,_,_,_,_,_,_,_,_,_,_,_,_,_,_,_,_,_,_,_,_,_,_,_,_,_,_,_,_,_,_,_,_,_,_,_,_,_,_,_,_,_,_,_,_,_,_,_,_,_,_,_,_,_,_,_,_,_,_,_,_,_,_,_,_,_,_,_,_,_,_,_,_,_,_,_,_,_,_,_,_,_,_,_,_,_,_,_,_,_,_,_,_,_,_,_,_,_,_,_,_,_,_,_,_,_,_,_,_,_,_,_,_,_,_,_,_,_,_,_,_,_,_,_,_,_,_], defers := _ } _
    refine rdH (i := 4) (by kernel_rfl) rfl (fun KK hK => ?_)
    have q5 : a0.cell? ⟨gr, k * 8 + 5, none⟩ = some (.slice la (s.R k).ne lcap) := (by have h5 := KX.out.c hk 5 (by omega); rw [← EV.out]; exact h5)
    go_simp
    refine hK.out _ _ H (fun _ => ?_)
    clear hK KK
    change wpAnyH _ _ _ _ _ _ _ { tmps := #[_,_,_,_,_,_,_,_,_,_,_,_,_,_,_,_,_,_,_,_,_,_,_,_,_,_,_,_,_,_,_,_,_,_,_,_,_,_,_,_,_,_,_,_,_,_,_,_,_,_,_,_,_,_,_,_,_,_,_,_,_,_,_,_,_,_,_,_,_,_,_,_,_,_,_,_,_,_,_,_,_,_,_,_,_,_,_,_,_,_,_,_,_,_,_,_,_,_,_,_,_,_,_,_,_,_,_,_,_,_,_,_,_,_,_,_,_,_,_,_,_,_,_,_,_,_,_,_,_,_,_,_,_,_,_,_,_,_,_,_,_,_,_,_,_,_,_,_,_,_,_,_,_,_,_,_,_,_,_,_,_,_,_,_,_,_,_,_,_,_,_,_,_,_,_,_,_,_,_,_,_,_,_,_,_,_,_,_,_,_,_,_,_,_,_,_,_,_,_,_,_,_,_,_,_,_,_,_,_,_,_,_,_,_,_,_,_,_,_,_,_,_,_,_,_,_,_,_,_,_,_,_,_,_,_,_,_,_,_,_,_,_,_,_,_,_,_,_,_,_,_,_,_,_,_,_,_,_,_,_,_,_,_,_,_,_,_,_,_,_,_,_,_,_,_,_,_,_,_,_,_,_,_,_,_,_,_,_,_,_,_,_,_,_,_,_,_,_,_,_,_,_,_,_,_,_,_,_,_,_,_,_,_,_,_,_,_,_,_,_,_,_], defers := _ } _
    refine rdH (i := 7) (by kernel_rfl) rfl (fun KK hK => ?_)
    go_simp
    refine (l09Add_any la (s.R k).ne lcap (s.R k).E f (by have := IK.out.2; omega) SL.out a0 LX.out).mono ?_
    rintro e a1 ⟨⟨xb, xd, rfl, hI⟩, hb⟩
    have KX2 : Hid (RkR a1 B gr rc s.n s.R VR k (s.R k) (VR k)) := KX.out.below hb
    have FZ : Hid (∀ g, (Value.slice xb ((s.R k).ne + 1) xd).ownBlock = some g → v1.heap.size ≤ g) := fun g e => Nat.le_trans H.size (EO.ge hI g e).1
    have II : Hid (IE a1 B (Value.slice xb ((s.R k).ne + 1) xd) ((s.R k).ne + 1) (insE (s.R k).E (plcE (f : Int) (s.R k).E (s.R k).ne) (f : Int))) := EO.mono hI (Nat.le_trans B1.out.1 H.size)
    replace H : ChB (PG gr) v1 a1 := H.step hb
    clear hI hb KX LX q5
    refine hK.out _ _ H (fun _ => ?_)
    clear hK KK
    change wpAnyH _ _ _ _ _ _ _ { tmps := #[_,_,_,_,_,_,_,_,_,_,_,_,_,_,_,_,_,_,_,_,_,_,_,_,_,_,_,_,_,_,_,_,_,_,_,_,_,_,_,_,_,_,_,_,_,_,_,_,_,_,_,_,_,_,_,_,_,_,_,_,_,_,_,_,_,_,_,_,_,_,_,_,_,_,_,_,_,_,_,_,_,_,_,_,_,_,_,_,_,_,_,_,_,_,_,_,_,_,_,_,_,_,_,_,_,_,_,_,_,_,_,_,_,_,_,_,_,_,_,_,_,_,_,_,_,_,_,_,_,_,_,_,_,_,_,_,_,_,_,_,_,_,_,_,_,_,_,_,_,_,_,_,_,_,_,_,_,_,_,_,_,_,_,_,_,_,_,_,_,_,_,_,_,_,_,_,_,_,_,_,_,_,_,_,_,_,_,_,_,_,_,_,_,_,_,_,_,_,_,_,_,_,_,_,_,_,_,_,_,_,_,_,_,_,_,_,_,_,_,_,_,_,_,_,_,_,_,_,_,_,_,_,_,_,_,_,_,_,_,_,_,_,_,_,_,_,_,_,_,_,_,_,_,_,_,_,_,_,_,_,_,_,_,_,_,_,_,_,_,_,_,_,_,_,_,_,_,_,_,_,_,_,_,_,_,_,_,_,_,_,_,_,_,_,_,_,_,_,_,_,_,_,_,_,_,_,_,_,_,_,_,_,_,_,_,_,_,_,_,_,_,_], defers := _ } _
    refine tkH (i := 8) (v := .pointer (some ⟨gr, k * 8, none⟩)) rfl (by kernel_rfl) (by rfl) ?_ H ?_
    ·intro w' hSw; clear hSw; go_simp
    change wpAnyH _ _ _ _ _ _ _ { tmps := #[_,_,_,_,_,_,_,_,_,_,_,_,_,_,_,_,_,_,_,_,_,_,_,_,_,_,_,_,_,_,_,_,_,_,_,_,_,_,_,_,_,_,_,_,_,_,_,_,_,_,_,_,_,_,_,_,_,_,_,_,_,_,_,_,_,_,_,_,_,_,_,_,_,_,_,_,_,_,_,_,_,_,_,_,_,_,_,_,_,_,_,_,_,_,_,_,_,_,_,_,_,_,_,_,_,_,_,_,_,_,_,_,_,_,_,_,_,_,_,_,_,_,_,_,_,_,_,_,_,_,_,_,_,_,_,_,_,_,_,_,_,_,_,_,_,_,_,_,_,_,_,_,_,_,_,_,_,_,_,_,_,_,_,_,_,_,_,_,_,_,_,_,_,_,_,_,_,_,_,_,_,_,_,_,_,_,_,_,_,_,_,_,_,_,_,_,_,_,_,_,_,_,_,_,_,_,_,_,_,_,_,_,_,_,_,_,_,_,_,_,_,_,_,_,_,_,_,_,_,_,_,_,_,_,_,_,_,_,_,_,_,_,_,_,_,_,_,_,_,_,_,_,_,_,_,_,_,_,_,_,_,_,_,_,_,_,_,_,_,_,_,_,_,_,_,_,_,_,_,_,_,_,_,_,_,_,_,_,_,_,_,_,_,_,_,_,_,_,_,_,_,_,_,_,_,_,_,_,_,_,_,_,_,_,_,_,_,_,_,_,_,_], defers := _ } _
    refine tkH (i := 9) (v := .pointer (some ⟨gr, k * 8 + 5, none⟩)) rfl (by kernel_rfl) (by rfl) ?_ H ?_
    ·intro w' hSw; clear hSw; go_simp
    change wpAnyH _ _ _ _ _ _ _ { tmps := #[_,_,_,_,_,_,_,_,_,_,_,_,_,_,_,_,_,_,_,_,_,_,_,_,_,_,_,_,_,_,_,_,_,_,_,_,_,_,_,_,_,_,_,_,_,_,_,_,_,_,_,_,_,_,_,_,_,_,_,_,_,_,_,_,_,_,_,_,_,_,_,_,_,_,_,_,_,_,_,_,_,_,_,_,_,_,_,_,_,_,_,_,_,_,_,_,_,_,_,_,_,_,_,_,_,_,_,_,_,_,_,_,_,_,_,_,_,_,_,_,_,_,_,_,_,_,_,_,_,_,_,_,_,_,_,_,_,_,_,_,_,_,_,_,_,_,_,_,_,_,_,_,_,_,_,_,_,_,_,_,_,_,_,_,_,_,_,_,_,_,_,_,_,_,_,_,_,_,_,_,_,_,_,_,_,_,_,_,_,_,_,_,_,_,_,_,_,_,_,_,_,_,_,_,_,_,_,_,_,_,_,_,_,_,_,_,_,_,_,_,_,_,_,_,_,_,_,_,_,_,_,_,_,_,_,_,_,_,_,_,_,_,_,_,_,_,_,_,_,_,_,_,_,_,_,_,_,_,_,_,_,_,_,_,_,_,_,_,_,_,_,_,_,_,_,_,_,_,_,_,_,_,_,_,_,_,_,_,_,_,_,_,_,_,_,_,_,_,_,_,_,_,_,_,_,_,_,_,_,_,_,_,_,_,_,_,_,_,_,_,_,_], defers := _ } _
    refine rdH (i := 10) (by kernel_rfl) rfl (fun KK hK => ?_)
    have f5 := KX2.out.fr hk 5 (by omega)
    have q5 : a1.cell? ⟨gr, k * 8 + 5, none⟩ = some (VR k) := KX2.out.c hk 5 (by omega)
    go_simp
    have K6 : Hid (RkR (a1.setCell ⟨gr, k * 8 + 5, none⟩ (Value.slice xb ((s.R k).ne + 1) xd)) B gr rc s.n s.R VR k { s.R k with ne := (s.R k).ne + 1, E := insE (s.R k).E (plcE (f : Int) (s.R k).E (s.R k).ne) (f : Int) } (Value.slice xb ((s.R k).ne + 1) xd)) := KX2.out.setE hk (Value.slice xb ((s.R k).ne + 1) xd) _ _
    have I6 : Hid (IE (a1.setCell ⟨gr, k * 8 + 5, none⟩ (Value.slice xb ((s.R k).ne + 1) xd)) B (Value.slice xb ((s.R k).ne + 1) xd) ((s.R k).ne + 1) (insE (s.R k).E (plcE (f : Int) (s.R k).E (s.R k).ne) (f : Int))) := IE.setOther II.out KX2.out (by decide) _ _
    replace H : ChB (PG gr) v1 (a1.setCell ⟨gr, k * 8 + 5, none⟩ (Value.slice xb ((s.R k).ne + 1) xd)) := H.at gr (.inl rfl) _ _
    clear f5 q5 II KX2
    generalize (a1.setCell ⟨gr, k * 8 + 5, none⟩ (Value.slice xb ((s.R k).ne + 1) xd)) = a2 at *
    refine hK.out _ _ H (fun _ => ?_)
    clear hK KK
    change wpAnyH _ _ _ _ _ _ _ { tmps := #[_,_,_,_,_,_,_,_,_,_,_,_,_,_,_,_,_,_,_,_,_,_,_,_,_,_,_,_,_,_,_,_,_,_,_,_,_,_,_,_,_,_,_,_,_,_,_,_,_,_,_,_,_,_,_,_,_,_,_,_,_,_,_,_,_,_,_,_,_,_,_,_,_,_,_,_,_,_,_,_,_,_,_,_,_,_,_,_,_,_,_,_,_,_,_,_,_,_,_,_,_,_,_,_,_,_,_,_,_,_,_,_,_,_,_,_,_,_,_,_,_,_,_,_,_,_,_,_,_,_,_,_,_,_,_,_,_,_,_,_,_,_,_,_,_,_,_,_,_,_,_,_,_,_,_,_,_,_,_,_,_,_,_,_,_,_,_,_,_,_,_,_,_,_,_,_,_,_,_,_,_,_,_,_,_,_,_,_,_,_,_,_,_,_,_,_,_,_,_,_,_,_,_,_,_,_,_,_,_,_,_,_,_,_,_,_,_,_,_,_,_,_,_,_,_,_,_,_,_,_,_,_,_,_,_,_,_,_,_,_,_,_,_,_,_,_,_,_,_,_,_,_,_,_,_,_,_,_,_,_,_,_,_,_,_,_,_,_,_,_,_,_,_,_,_,_,_,_,_,_,_,_,_,_,_,_,_,_,_,_,_,_,_,_,_,_,_,_,_,_,_,_,_,_,_,_,_,_,_,_,_,_,_,_,_,_,_,_,_,_,_,_], defers := _ } _
    refine wpAnyH_done (by kernel_rfl) ?_ _
    refine NoPanic.normal ?_
    have H6 : Hid (ChB (PG gr) v1 a2) := H
    clear H
    go_upto_region 26 with fail
    generalize a2 = v2 at *
    have P2B : Hid (Box4 v2 sb 28 (.slice (some ⟨gr, 0, none⟩) s.n rc) (.int .i64 s.t) (.slice wa s.m wc) (.slice qa s.l qc)) := P1.out.x.ch H6.out (P1.out.nbG (.inl rfl) P1.out.x (by decide) (by decide) (by decide))
    have A2 : Hid (Box3 v2 ab 41 (.int .i64 7) (.int .i64 (k : Int)) (.int .i64 (f : Int))) := A1.out.ofBlock (H6.out.block ab A1.out.lt NGA.out)
    obtain ⟨X6, hX6⟩ : ∃ x : Rp, x = { s.R k with ne := (s.R k).ne + 1, E := insE (s.R k).E (plcE (f : Int) (s.R k).E (s.R k).ne) (f : Int) } := ⟨_, rfl⟩
    have HX6 : Hid (X6 = { s.R k with ne := (s.R k).ne + 1, E := insE (s.R k).E (plcE (f : Int) (s.R k).E (s.R k).ne) (f : Int) }) := hX6
    rw [← hX6] at K6
    clear hX6
    have FC : Hid (v2.cell? ⟨gr, f * 8 + 1, none⟩ = some (.int .i64 (s.R f).nc) ∧ v2.cell? ⟨gr, f * 8 + 2, none⟩ = some (.int .i64 (s.R f).nt)) := by
     obtain ⟨g', hr, _⟩ := EO.rowE K6.out
     have ga := hr.a (by omega)
     cases ga
     have h1 := hr.c f fm 1 (by omega)
     have h2 := hr.c f fm 2 (by omega)
     unfold rpF at h1 h2
     rw [updE_at, if_neg FK.out] at h1 h2
     exact ⟨h1, h2⟩
    have SE : Hid (SEc v2 gr f (s.R f).nc (s.R f).nt v2.drew) := ⟨(ChB.refl _ _).drew, FC.out.1, FC.out.2⟩
    have KY6 : Hid (RkR v2.drew B gr rc s.n s.R VR k X6 (Value.slice xb ((s.R k).ne + 1) xd)) := K6.out.below (Below.refl _ _).drew
    have BC : Hid (X6.bc = (s.R k).bc ∧ X6.bt = (s.R k).bt) := by rw [HX6.out]; exact ⟨rfl, rfl⟩
    have NB2 : Hid (¬ PG gr sb) := P1.out.nbG (.inl rfl) P1.out.x (by decide) (by decide) (by decide)
    have H : SEc v2 gr f (s.R f).nc (s.R f).nt v2.drew := SE.out
    refine wp_region_noPanic ?_
    refine wp_region_held_drew (S := fun w' => SEc v2 gr f (s.R f).nc (s.R f).nt w') (by kernel_rfl) H (fun _ => ?_)
    generalize v2.drew = b0 at *
    refine tkH (i := 0) (v := .pointer (some ⟨gr, k * 8, none⟩)) rfl (by kernel_rfl) (by rfl) ?_ H ?_
    ·intro w' hSw; clear hSw; go_simp
    change wpAnyH _ _ _ _ _ _ _ { tmps := #[_,_,_,_,_,_,_,_,_,_,_,_,_,_,_,_,_,_,_,_,_,_,_,_,_,_,_,_,_,_,_,_,_,_,_,_,_,_,_,_,_,_,_,_,_,_,_,_,_,_,_,_,_,_,_,_,_,_,_,_,_,_,_,_,_,_,_,_,_,_,_,_,_,_,_,_,_,_,_,_,_,_,_,_,_,_,_,_,_,_,_,_,_,_,_,_,_,_,_,_,_,_,_,_,_,_,_,_,_,_,_,_,_,_,_,_,_,_,_,_,_,_,_,_,_,_,_,_,_,_,_,_,_,_,_,_,_,_,_,_,_,_,_,_,_,_,_,_,_,_,_,_,_,_,_,_,_,_,_,_,_,_,_,_,_,_,_,_,_,_,_,_,_,_,_,_,_,_,_,_,_,_,_,_,_,_,_,_,_,_,_,_,_,_,_,_,_,_,_,_,_,_,_,_,_,_,_,_,_,_,_,_,_,_,_,_,_,_,_,_,_,_,_,_,_,_,_,_,_,_,_,_,_,_,_,_,_,_,_,_,_,_,_,_,_,_,_,_,_,_,_,_,_,_,_,_,_,_,_,_,_,_,_,_,_,_,_,_,_,_,_,_,_,_,_,_,_,_,_,_,_,_,_,_,_,_,_,_,_,_,_,_,_,_,_,_,_,_,_,_,_,_,_,_,_,_,_,_,_,_,_,_,_,_,_,_,_,_,_,_,_,_], defers := _ } _
    refine tkH (i := 1) (v := .pointer (some ⟨gr, k * 8, none⟩)) rfl (by kernel_rfl) (by rfl) ?_ H ?_
    ·intro w' hSw; clear hSw; go_simp
    change wpAnyH _ _ _ _ _ _ _ { tmps := #[_,_,_,_,_,_,_,_,_,_,_,_,_,_,_,_,_,_,_,_,_,_,_,_,_,_,_,_,_,_,_,_,_,_,_,_,_,_,_,_,_,_,_,_,_,_,_,_,_,_,_,_,_,_,_,_,_,_,_,_,_,_,_,_,_,_,_,_,_,_,_,_,_,_,_,_,_,_,_,_,_,_,_,_,_,_,_,_,_,_,_,_,_,_,_,_,_,_,_,_,_,_,_,_,_,_,_,_,_,_,_,_,_,_,_,_,_,_,_,_,_,_,_,_,_,_,_,_,_,_,_,_,_,_,_,_,_,_,_,_,_,_,_,_,_,_,_,_,_,_,_,_,_,_,_,_,_,_,_,_,_,_,_,_,_,_,_,_,_,_,_,_,_,_,_,_,_,_,_,_,_,_,_,_,_,_,_,_,_,_,_,_,_,_,_,_,_,_,_,_,_,_,_,_,_,_,_,_,_,_,_,_,_,_,_,_,_,_,_,_,_,_,_,_,_,_,_,_,_,_,_,_,_,_,_,_,_,_,_,_,_,_,_,_,_,_,_,_,_,_,_,_,_,_,_,_,_,_,_,_,_,_,_,_,_,_,_,_,_,_,_,_,_,_,_,_,_,_,_,_,_,_,_,_,_,_,_,_,_,_,_,_,_,_,_,_,_,_,_,_,_,_,_,_,_,_,_,_,_,_,_,_,_,_,_,_,_,_,_,_,_,_], defers := _ } _
    refine tkH (i := 2) (v := .pointer (some ⟨gr, k * 8, none⟩)) rfl (by kernel_rfl) (by rfl) ?_ H ?_
    ·intro w' hSw; clear hSw; go_simp
    change wpAnyH _ _ _ _ _ _ _ { tmps := #[_,_,_,_,_,_,_,_,_,_,_,_,_,_,_,_,_,_,_,_,_,_,_,_,_,_,_,_,_,_,_,_,_,_,_,_,_,_,_,_,_,_,_,_,_,_,_,_,_,_,_,_,_,_,_,_,_,_,_,_,_,_,_,_,_,_,_,_,_,_,_,_,_,_,_,_,_,_,_,_,_,_,_,_,_,_,_,_,_,_,_,_,_,_,_,_,_,_,_,_,_,_,_,_,_,_,_,_,_,_,_,_,_,_,_,_,_,_,_,_,_,_,_,_,_,_,_,_,_,_,_,_,_,_,_,_,_,_,_,_,_,_,_,_,_,_,_,_,_,_,_,_,_,_,_,_,_,_,_,_,_,_,_,_,_,_,_,_,_,_,_,_,_,_,_,_,_,_,_,_,_,_,_,_,_,_,_,_,_,_,_,_,_,_,_,_,_,_,_,_,_,_,_,_,_,_,_,_,_,_,_,_,_,_,_,_,_,_,_,_,_,_,_,_,_,_,_,_,_,_,_,_,_,_,_,_,_,_,_,_,_,_,_,_,_,_,_,_,_,_,_,_,_,_,_,_,_,_,_,_,_,_,_,_,_,_,_,_,_,_,_,_,_,_,_,_,_,_,_,_,_,_,_,_,_,_,_,_,_,_,_,_,_,_,_,_,_,_,_,_,_,_,_,_,_,_,_,_,_,_,_,_,_,_,_,_,_,_,_,_,_,_], defers := _ } _
    refine tkH (i := 3) (v := .pointer (some ⟨gr, k * 8 + 6, none⟩)) rfl (by kernel_rfl) (by rfl) ?_ H ?_
    ·intro w' hSw; clear hSw; go_simp
    change wpAnyH _ _ _ _ _ _ _ { tmps := #[_,_,_,_,_,_,_,_,_,_,_,_,_,_,_,_,_,_,_,_,_,_,_,_,_,_,_,_,_,_,_,_,_,_,_,_,_,_,_,_,_,_,_,_,_,_,_,_,_,_,_,_,_,_,_,_,_,_,_,_,_,_,_,_,_,_,_,_,_,_,_,_,_,_,_,_,_,_,_,_,_,_,_,_,_,_,_,_,_,_,_,_,_,_,_,_,_,_,_,_,_,_,_,_,_,_,_,_,_,_,_,_,_,_,_,_,_,_,_,_,_,_,_,_,_,_,_,_,_,_,_,_,_,_,_,_,_,_,_,_,_,_,_,_,_,_,_,_,_,_,_,_,_,_,_,_,_,_,_,_,_,_,_,_,_,_,_,_,_,_,_,_,_,_,_,_,_,_,_,_,_,_,_,_,_,_,_,_,_,_,_,_,_,_,_,_,_,_,_,_,_,_,_,_,_,_,_,_,_,_,_,_,_,_,_,_,_,_,_,_,_,_,_,_,_,_,_,_,_,_,_,_,_,_,_,_,_,_,_,_,_,_,_,_,_,_,_,_,_,_,_,_,_,_,_,_,_,_,_,_,_,_,_,_,_,_,_,_,_,_,_,_,_,_,_,_,_,_,_,_,_,_,_,_,_,_,_,_,_,_,_,_,_,_,_,_,_,_,_,_,_,_,_,_,_,_,_,_,_,_,_,_,_,_,_,_,_,_,_,_,_,_], defers := _ } _
    refine tkH (i := 5) (v := .pointer (some ⟨sb, 0, none⟩)) rfl (by kernel_rfl) (by rfl) ?_ H ?_
    ·intro w' hSw; clear hSw; go_simp
    change wpAnyH _ _ _ _ _ _ _ { tmps := #[_,_,_,_,_,_,_,_,_,_,_,_,_,_,_,_,_,_,_,_,_,_,_,_,_,_,_,_,_,_,_,_,_,_,_,_,_,_,_,_,_,_,_,_,_,_,_,_,_,_,_,_,_,_,_,_,_,_,_,_,_,_,_,_,_,_,_,_,_,_,_,_,_,_,_,_,_,_,_,_,_,_,_,_,_,_,_,_,_,_,_,_,_,_,_,_,_,_,_,_,_,_,_,_,_,_,_,_,_,_,_,_,_,_,_,_,_,_,_,_,_,_,_,_,_,_,_,_,_,_,_,_,_,_,_,_,_,_,_,_,_,_,_,_,_,_,_,_,_,_,_,_,_,_,_,_,_,_,_,_,_,_,_,_,_,_,_,_,_,_,_,_,_,_,_,_,_,_,_,_,_,_,_,_,_,_,_,_,_,_,_,_,_,_,_,_,_,_,_,_,_,_,_,_,_,_,_,_,_,_,_,_,_,_,_,_,_,_,_,_,_,_,_,_,_,_,_,_,_,_,_,_,_,_,_,_,_,_,_,_,_,_,_,_,_,_,_,_,_,_,_,_,_,_,_,_,_,_,_,_,_,_,_,_,_,_,_,_,_,_,_,_,_,_,_,_,_,_,_,_,_,_,_,_,_,_,_,_,_,_,_,_,_,_,_,_,_,_,_,_,_,_,_,_,_,_,_,_,_,_,_,_,_,_,_,_,_,_,_,_,_,_], defers := _ } _
    refine tkH (i := 6) (v := .slice (some ⟨gr, 0, none⟩) s.n rc) rfl (by kernel_rfl) (by rfl) ?_ H ?_
    ·intro w' hSw; have c0 := (P2B.out.ofBlock (w' := w') (hSw.1.block sb P2B.out.lt NB2.out)).c0; clear hSw; go_simp
    change wpAnyH _ _ _ _ _ _ _ { tmps := #[_,_,_,_,_,_,_,_,_,_,_,_,_,_,_,_,_,_,_,_,_,_,_,_,_,_,_,_,_,_,_,_,_,_,_,_,_,_,_,_,_,_,_,_,_,_,_,_,_,_,_,_,_,_,_,_,_,_,_,_,_,_,_,_,_,_,_,_,_,_,_,_,_,_,_,_,_,_,_,_,_,_,_,_,_,_,_,_,_,_,_,_,_,_,_,_,_,_,_,_,_,_,_,_,_,_,_,_,_,_,_,_,_,_,_,_,_,_,_,_,_,_,_,_,_,_,_,_,_,_,_,_,_,_,_,_,_,_,_,_,_,_,_,_,_,_,_,_,_,_,_,_,_,_,_,_,_,_,_,_,_,_,_,_,_,_,_,_,_,_,_,_,_,_,_,_,_,_,_,_,_,_,_,_,_,_,_,_,_,_,_,_,_,_,_,_,_,_,_,_,_,_,_,_,_,_,_,_,_,_,_,_,_,_,_,_,_,_,_,_,_,_,_,_,_,_,_,_,_,_,_,_,_,_,_,_,_,_,_,_,_,_,_,_,_,_,_,_,_,_,_,_,_,_,_,_,_,_,_,_,_,_,_,_,_,_,_,_,_,_,_,_,_,_,_,_,_,_,_,_,_,_,_,_,_,_,_,_,_,_,_,_,_,_,_,_,_,_,_,_,_,_,_,_,_,_,_,_,_,_,_,_,_,_,_,_,_,_,_,_,_,_], defers := _ } _
    refine tkH (i := 7) (v := .pointer (some ⟨ab, 2, none⟩)) rfl (by kernel_rfl) (by rfl) ?_ H ?_
    ·intro w' hSw; clear hSw; go_simp
    change wpAnyH _ _ _ _ _ _ _ { tmps := #[_,_,_,_,_,_,_,_,_,_,_,_,_,_,_,_,_,_,_,_,_,_,_,_,_,_,_,_,_,_,_,_,_,_,_,_,_,_,_,_,_,_,_,_,_,_,_,_,_,_,_,_,_,_,_,_,_,_,_,_,_,_,_,_,_,_,_,_,_,_,_,_,_,_,_,_,_,_,_,_,_,_,_,_,_,_,_,_,_,_,_,_,_,_,_,_,_,_,_,_,_,_,_,_,_,_,_,_,_,_,_,_,_,_,_,_,_,_,_,_,_,_,_,_,_,_,_,_,_,_,_,_,_,_,_,_,_,_,_,_,_,_,_,_,_,_,_,_,_,_,_,_,_,_,_,_,_,_,_,_,_,_,_,_,_,_,_,_,_,_,_,_,_,_,_,_,_,_,_,_,_,_,_,_,_,_,_,_,_,_,_,_,_,_,_,_,_,_,_,_,_,_,_,_,_,_,_,_,_,_,_,_,_,_,_,_,_,_,_,_,_,_,_,_,_,_,_,_,_,_,_,_,_,_,_,_,_,_,_,_,_,_,_,_,_,_,_,_,_,_,_,_,_,_,_,_,_,_,_,_,_,_,_,_,_,_,_,_,_,_,_,_,_,_,_,_,_,_,_,_,_,_,_,_,_,_,_,_,_,_,_,_,_,_,_,_,_,_,_,_,_,_,_,_,_,_,_,_,_,_,_,_,_,_,_,_,_,_,_,_,_,_], defers := _ } _
    refine tkH (i := 8) (v := .int .i64 (f : Int)) rfl (by kernel_rfl) (by rfl) ?_ H ?_
    ·intro w' hSw; have x2 := (A2.out.ofBlock (w' := w') (hSw.1.block ab A2.out.lt NGA.out)).c2; clear hSw; go_simp
    change wpAnyH _ _ _ _ _ _ _ { tmps := #[_,_,_,_,_,_,_,_,_,_,_,_,_,_,_,_,_,_,_,_,_,_,_,_,_,_,_,_,_,_,_,_,_,_,_,_,_,_,_,_,_,_,_,_,_,_,_,_,_,_,_,_,_,_,_,_,_,_,_,_,_,_,_,_,_,_,_,_,_,_,_,_,_,_,_,_,_,_,_,_,_,_,_,_,_,_,_,_,_,_,_,_,_,_,_,_,_,_,_,_,_,_,_,_,_,_,_,_,_,_,_,_,_,_,_,_,_,_,_,_,_,_,_,_,_,_,_,_,_,_,_,_,_,_,_,_,_,_,_,_,_,_,_,_,_,_,_,_,_,_,_,_,_,_,_,_,_,_,_,_,_,_,_,_,_,_,_,_,_,_,_,_,_,_,_,_,_,_,_,_,_,_,_,_,_,_,_,_,_,_,_,_,_,_,_,_,_,_,_,_,_,_,_,_,_,_,_,_,_,_,_,_,_,_,_,_,_,_,_,_,_,_,_,_,_,_,_,_,_,_,_,_,_,_,_,_,_,_,_,_,_,_,_,_,_,_,_,_,_,_,_,_,_,_,_,_,_,_,_,_,_,_,_,_,_,_,_,_,_,_,_,_,_,_,_,_,_,_,_,_,_,_,_,_,_,_,_,_,_,_,_,_,_,_,_,_,_,_,_,_,_,_,_,_,_,_,_,_,_,_,_,_,_,_,_,_,_,_,_,_,_,_], defers := _ } _
    refine tkH (i := 9) (v := .pointer (some ⟨gr, f * 8, none⟩)) rfl (by kernel_rfl) (by rfl) ?_ H ?_
    ·intro w' hSw; clear hSw; go_simp
    change wpAnyH _ _ _ _ _ _ _ { tmps := #[_,_,_,_,_,_,_,_,_,_,_,_,_,_,_,_,_,_,_,_,_,_,_,_,_,_,_,_,_,_,_,_,_,_,_,_,_,_,_,_,_,_,_,_,_,_,_,_,_,_,_,_,_,_,_,_,_,_,_,_,_,_,_,_,_,_,_,_,_,_,_,_,_,_,_,_,_,_,_,_,_,_,_,_,_,_,_,_,_,_,_,_,_,_,_,_,_,_,_,_,_,_,_,_,_,_,_,_,_,_,_,_,_,_,_,_,_,_,_,_,_,_,_,_,_,_,_,_,_,_,_,_,_,_,_,_,_,_,_,_,_,_,_,_,_,_,_,_,_,_,_,_,_,_,_,_,_,_,_,_,_,_,_,_,_,_,_,_,_,_,_,_,_,_,_,_,_,_,_,_,_,_,_,_,_,_,_,_,_,_,_,_,_,_,_,_,_,_,_,_,_,_,_,_,_,_,_,_,_,_,_,_,_,_,_,_,_,_,_,_,_,_,_,_,_,_,_,_,_,_,_,_,_,_,_,_,_,_,_,_,_,_,_,_,_,_,_,_,_,_,_,_,_,_,_,_,_,_,_,_,_,_,_,_,_,_,_,_,_,_,_,_,_,_,_,_,_,_,_,_,_,_,_,_,_,_,_,_,_,_,_,_,_,_,_,_,_,_,_,_,_,_,_,_,_,_,_,_,_,_,_,_,_,_,_,_,_,_,_,_,_,_], defers := _ } _
    refine tkH (i := 10) (v := .pointer (some ⟨gr, f * 8 + 1, none⟩)) rfl (by kernel_rfl) (by rfl) ?_ H ?_
    ·intro w' hSw; clear hSw; go_simp
    change wpAnyH _ _ _ _ _ _ _ { tmps := #[_,_,_,_,_,_,_,_,_,_,_,_,_,_,_,_,_,_,_,_,_,_,_,_,_,_,_,_,_,_,_,_,_,_,_,_,_,_,_,_,_,_,_,_,_,_,_,_,_,_,_,_,_,_,_,_,_,_,_,_,_,_,_,_,_,_,_,_,_,_,_,_,_,_,_,_,_,_,_,_,_,_,_,_,_,_,_,_,_,_,_,_,_,_,_,_,_,_,_,_,_,_,_,_,_,_,_,_,_,_,_,_,_,_,_,_,_,_,_,_,_,_,_,_,_,_,_,_,_,_,_,_,_,_,_,_,_,_,_,_,_,_,_,_,_,_,_,_,_,_,_,_,_,_,_,_,_,_,_,_,_,_,_,_,_,_,_,_,_,_,_,_,_,_,_,_,_,_,_,_,_,_,_,_,_,_,_,_,_,_,_,_,_,_,_,_,_,_,_,_,_,_,_,_,_,_,_,_,_,_,_,_,_,_,_,_,_,_,_,_,_,_,_,_,_,_,_,_,_,_,_,_,_,_,_,_,_,_,_,_,_,_,_,_,_,_,_,_,_,_,_,_,_,_,_,_,_,_,_,_,_,_,_,_,_,_,_,_,_,_,_,_,_,_,_,_,_,_,_,_,_,_,_,_,_,_,_,_,_,_,_,_,_,_,_,_,_,_,_,_,_,_,_,_,_,_,_,_,_,_,_,_,_,_,_,_,_,_,_,_,_,_], defers := _ } _
    refine tkH (i := 11) (v := .agg #[.int .i64 (s.R f).nc, .int .i64 (s.R f).nt]) rfl (by kernel_rfl) (by rfl) ?_ H ?_
    ·intro w' hSw; have r1 := hSw.2.1; have r2 := hSw.2.2; clear hSw; go_simp
    change wpAnyH _ _ _ _ _ _ _ { tmps := #[_,_,_,_,_,_,_,_,_,_,_,_,_,_,_,_,_,_,_,_,_,_,_,_,_,_,_,_,_,_,_,_,_,_,_,_,_,_,_,_,_,_,_,_,_,_,_,_,_,_,_,_,_,_,_,_,_,_,_,_,_,_,_,_,_,_,_,_,_,_,_,_,_,_,_,_,_,_,_,_,_,_,_,_,_,_,_,_,_,_,_,_,_,_,_,_,_,_,_,_,_,_,_,_,_,_,_,_,_,_,_,_,_,_,_,_,_,_,_,_,_,_,_,_,_,_,_,_,_,_,_,_,_,_,_,_,_,_,_,_,_,_,_,_,_,_,_,_,_,_,_,_,_,_,_,_,_,_,_,_,_,_,_,_,_,_,_,_,_,_,_,_,_,_,_,_,_,_,_,_,_,_,_,_,_,_,_,_,_,_,_,_,_,_,_,_,_,_,_,_,_,_,_,_,_,_,_,_,_,_,_,_,_,_,_,_,_,_,_,_,_,_,_,_,_,_,_,_,_,_,_,_,_,_,_,_,_,_,_,_,_,_,_,_,_,_,_,_,_,_,_,_,_,_,_,_,_,_,_,_,_,_,_,_,_,_,_,_,_,_,_,_,_,_,_,_,_,_,_,_,_,_,_,_,_,_,_,_,_,_,_,_,_,_,_,_,_,_,_,_,_,_,_,_,_,_,_,_,_,_,_,_,_,_,_,_,_,_,_,_,_,_], defers := _ } _
    refine rdH (i := 4) (by kernel_rfl) rfl (fun KK hK => ?_)
    have r6 : b0.cell? ⟨gr, k * 8 + 6, none⟩ = some (.int .i64 (s.R k).bc) := by rw [← BC.out.1]; exact KY6.out.c hk 6 (by omega)
    have r7 : b0.cell? ⟨gr, k * 8 + 7, none⟩ = some (.int .i64 (s.R k).bt) := by rw [← BC.out.2]; exact KY6.out.c hk 7 (by omega)
    go_simp
    refine hK.out _ _ H (fun _ => ?_)
    clear hK KK
    change wpAnyH _ _ _ _ _ _ _ { tmps := #[_,_,_,_,_,_,_,_,_,_,_,_,_,_,_,_,_,_,_,_,_,_,_,_,_,_,_,_,_,_,_,_,_,_,_,_,_,_,_,_,_,_,_,_,_,_,_,_,_,_,_,_,_,_,_,_,_,_,_,_,_,_,_,_,_,_,_,_,_,_,_,_,_,_,_,_,_,_,_,_,_,_,_,_,_,_,_,_,_,_,_,_,_,_,_,_,_,_,_,_,_,_,_,_,_,_,_,_,_,_,_,_,_,_,_,_,_,_,_,_,_,_,_,_,_,_,_,_,_,_,_,_,_,_,_,_,_,_,_,_,_,_,_,_,_,_,_,_,_,_,_,_,_,_,_,_,_,_,_,_,_,_,_,_,_,_,_,_,_,_,_,_,_,_,_,_,_,_,_,_,_,_,_,_,_,_,_,_,_,_,_,_,_,_,_,_,_,_,_,_,_,_,_,_,_,_,_,_,_,_,_,_,_,_,_,_,_,_,_,_,_,_,_,_,_,_,_,_,_,_,_,_,_,_,_,_,_,_,_,_,_,_,_,_,_,_,_,_,_,_,_,_,_,_,_,_,_,_,_,_,_,_,_,_,_,_,_,_,_,_,_,_,_,_,_,_,_,_,_,_,_,_,_,_,_,_,_,_,_,_,_,_,_,_,_,_,_,_,_,_,_,_,_,_,_,_,_,_,_,_,_,_,_,_,_,_,_,_,_,_,_,_], defers := _ } _
    refine rdH (i := 12) (by kernel_rfl) rfl (fun KK hK => ?_)
    go_simp
    refine (l09Later_any (s.R k).bc (s.R k).bt (s.R f).nc (s.R f).nt b0).mono ?_
    rintro e b1 ⟨rfl, hb⟩
    replace KY6 : Hid (RkR b1 B gr rc s.n s.R VR k X6 (Value.slice xb ((s.R k).ne + 1) xd)) := KY6.out.below hb
    replace H : SEc v2 gr f (s.R f).nc (s.R f).nt b1 := H.below hb
    obtain ⟨lc, hlc⟩ : ∃ x, x = (ltr (s.R k).bc (s.R k).bt (s.R f).nc (s.R f).nt).1 := ⟨_, rfl⟩
    obtain ⟨lt, hlt⟩ : ∃ x, x = (ltr (s.R k).bc (s.R k).bt (s.R f).nc (s.R f).nt).2 := ⟨_, rfl⟩
    rw [← hlc, ← hlt]
    have LT : Hid (lc = (ltr (s.R k).bc (s.R k).bt (s.R f).nc (s.R f).nt).1 ∧ lt = (ltr (s.R k).bc (s.R k).bt (s.R f).nc (s.R f).nt).2) := ⟨hlc, hlt⟩
    clear hlc hlt r6 r7
    clear hb
    refine hK.out _ _ H (fun _ => ?_)
    clear hK KK
    change wpAnyH _ _ _ _ _ _ _ { tmps := #[_,_,_,_,_,_,_,_,_,_,_,_,_,_,_,_,_,_,_,_,_,_,_,_,_,_,_,_,_,_,_,_,_,_,_,_,_,_,_,_,_,_,_,_,_,_,_,_,_,_,_,_,_,_,_,_,_,_,_,_,_,_,_,_,_,_,_,_,_,_,_,_,_,_,_,_,_,_,_,_,_,_,_,_,_,_,_,_,_,_,_,_,_,_,_,_,_,_,_,_,_,_,_,_,_,_,_,_,_,_,_,_,_,_,_,_,_,_,_,_,_,_,_,_,_,_,_,_,_,_,_,_,_,_,_,_,_,_,_,_,_,_,_,_,_,_,_,_,_,_,_,_,_,_,_,_,_,_,_,_,_,_,_,_,_,_,_,_,_,_,_,_,_,_,_,_,_,_,_,_,_,_,_,_,_,_,_,_,_,_,_,_,_,_,_,_,_,_,_,_,_,_,_,_,_,_,_,_,_,_,_,_,_,_,_,_,_,_,_,_,_,_,_,_,_,_,_,_,_,_,_,_,_,_,_,_,_,_,_,_,_,_,_,_,_,_,_,_,_,_,_,_,_,_,_,_,_,_,_,_,_,_,_,_,_,_,_,_,_,_,_,_,_,_,_,_,_,_,_,_,_,_,_,_,_,_,_,_,_,_,_,_,_,_,_,_,_,_,_,_,_,_,_,_,_,_,_,_,_,_,_,_,_,_,_,_,_,_,_,_,_,_], defers := _ } _
    refine tkH (i := 13) (v := .pointer (some ⟨gr, k * 8, none⟩)) rfl (by kernel_rfl) (by rfl) ?_ H ?_
    ·intro w' hSw; clear hSw; go_simp
    change wpAnyH _ _ _ _ _ _ _ { tmps := #[_,_,_,_,_,_,_,_,_,_,_,_,_,_,_,_,_,_,_,_,_,_,_,_,_,_,_,_,_,_,_,_,_,_,_,_,_,_,_,_,_,_,_,_,_,_,_,_,_,_,_,_,_,_,_,_,_,_,_,_,_,_,_,_,_,_,_,_,_,_,_,_,_,_,_,_,_,_,_,_,_,_,_,_,_,_,_,_,_,_,_,_,_,_,_,_,_,_,_,_,_,_,_,_,_,_,_,_,_,_,_,_,_,_,_,_,_,_,_,_,_,_,_,_,_,_,_,_,_,_,_,_,_,_,_,_,_,_,_,_,_,_,_,_,_,_,_,_,_,_,_,_,_,_,_,_,_,_,_,_,_,_,_,_,_,_,_,_,_,_,_,_,_,_,_,_,_,_,_,_,_,_,_,_,_,_,_,_,_,_,_,_,_,_,_,_,_,_,_,_,_,_,_,_,_,_,_,_,_,_,_,_,_,_,_,_,_,_,_,_,_,_,_,_,_,_,_,_,_,_,_,_,_,_,_,_,_,_,_,_,_,_,_,_,_,_,_,_,_,_,_,_,_,_,_,_,_,_,_,_,_,_,_,_,_,_,_,_,_,_,_,_,_,_,_,_,_,_,_,_,_,_,_,_,_,_,_,_,_,_,_,_,_,_,_,_,_,_,_,_,_,_,_,_,_,_,_,_,_,_,_,_,_,_,_,_,_,_,_,_,_,_], defers := _ } _
    refine tkH (i := 14) (v := .pointer (some ⟨gr, k * 8 + 6, none⟩)) rfl (by kernel_rfl) (by rfl) ?_ H ?_
    ·intro w' hSw; clear hSw; go_simp
    change wpAnyH _ _ _ _ _ _ _ { tmps := #[_,_,_,_,_,_,_,_,_,_,_,_,_,_,_,_,_,_,_,_,_,_,_,_,_,_,_,_,_,_,_,_,_,_,_,_,_,_,_,_,_,_,_,_,_,_,_,_,_,_,_,_,_,_,_,_,_,_,_,_,_,_,_,_,_,_,_,_,_,_,_,_,_,_,_,_,_,_,_,_,_,_,_,_,_,_,_,_,_,_,_,_,_,_,_,_,_,_,_,_,_,_,_,_,_,_,_,_,_,_,_,_,_,_,_,_,_,_,_,_,_,_,_,_,_,_,_,_,_,_,_,_,_,_,_,_,_,_,_,_,_,_,_,_,_,_,_,_,_,_,_,_,_,_,_,_,_,_,_,_,_,_,_,_,_,_,_,_,_,_,_,_,_,_,_,_,_,_,_,_,_,_,_,_,_,_,_,_,_,_,_,_,_,_,_,_,_,_,_,_,_,_,_,_,_,_,_,_,_,_,_,_,_,_,_,_,_,_,_,_,_,_,_,_,_,_,_,_,_,_,_,_,_,_,_,_,_,_,_,_,_,_,_,_,_,_,_,_,_,_,_,_,_,_,_,_,_,_,_,_,_,_,_,_,_,_,_,_,_,_,_,_,_,_,_,_,_,_,_,_,_,_,_,_,_,_,_,_,_,_,_,_,_,_,_,_,_,_,_,_,_,_,_,_,_,_,_,_,_,_,_,_,_,_,_,_,_,_,_,_,_,_], defers := _ } _
    refine rdH (i := 15) (by kernel_rfl) rfl (fun KK hK => ?_)
    have f6 := KY6.out.fr hk 6 (by omega)
    have f7 := KY6.out.fr hk 7 (by omega)
    have r6 : b1.cell? ⟨gr, k * 8 + 6, none⟩ = some (.int .i64 (s.R k).bc) := by rw [← BC.out.1]; exact KY6.out.c hk 6 (by omega)
    have r7 : b1.cell? ⟨gr, k * 8 + 7, none⟩ = some (.int .i64 (s.R k).bt) := by rw [← BC.out.2]; exact KY6.out.c hk 7 (by omega)
    go_simp
    have K7 : Hid (RkR ((b1.setCell ⟨gr, k * 8 + 6, none⟩ (.int .i64 lc)).setCell ⟨gr, k * 8 + 7, none⟩ (.int .i64 lt)) B gr rc s.n s.R VR k ((s.R k).told f (s.R f).nc (s.R f).nt) (Value.slice xb ((s.R k).ne + 1) xd)) := by have h9 := KY6.out.best hk lc lt; rw [HX6.out] at h9; unfold Rp.told; rw [addE_new HX.out, ← LT.out.1, ← LT.out.2]; exact h9
    have II7 : Hid (∀ g, (Value.slice xb ((s.R k).ne + 1) xd).ownBlock = some g → g ≠ gr) := fun g e z => EO.apart I6.out K6.out (by decide) g e (by rw [z]; rfl)
    replace H : SEc v2 gr f (s.R f).nc (s.R f).nt ((b1.setCell ⟨gr, k * 8 + 6, none⟩ (.int .i64 lc)).setCell ⟨gr, k * 8 + 7, none⟩ (.int .i64 lt)) := (H.at (by omega) (by omega) _).at (by omega) (by omega) _
    clear r6 r7 f6 f7 KY6
    generalize ((b1.setCell ⟨gr, k * 8 + 6, none⟩ (.int .i64 lc)).setCell ⟨gr, k * 8 + 7, none⟩ (.int .i64 lt)) = b2 at *
    refine hK.out _ _ H (fun _ => ?_)
    clear hK KK
    change wpAnyH _ _ _ _ _ _ _ { tmps := #[_,_,_,_,_,_,_,_,_,_,_,_,_,_,_,_,_,_,_,_,_,_,_,_,_,_,_,_,_,_,_,_,_,_,_,_,_,_,_,_,_,_,_,_,_,_,_,_,_,_,_,_,_,_,_,_,_,_,_,_,_,_,_,_,_,_,_,_,_,_,_,_,_,_,_,_,_,_,_,_,_,_,_,_,_,_,_,_,_,_,_,_,_,_,_,_,_,_,_,_,_,_,_,_,_,_,_,_,_,_,_,_,_,_,_,_,_,_,_,_,_,_,_,_,_,_,_,_,_,_,_,_,_,_,_,_,_,_,_,_,_,_,_,_,_,_,_,_,_,_,_,_,_,_,_,_,_,_,_,_,_,_,_,_,_,_,_,_,_,_,_,_,_,_,_,_,_,_,_,_,_,_,_,_,_,_,_,_,_,_,_,_,_,_,_,_,_,_,_,_,_,_,_,_,_,_,_,_,_,_,_,_,_,_,_,_,_,_,_,_,_,_,_,_,_,_,_,_,_,_,_,_,_,_,_,_,_,_,_,_,_,_,_,_,_,_,_,_,_,_,_,_,_,_,_,_,_,_,_,_,_,_,_,_,_,_,_,_,_,_,_,_,_,_,_,_,_,_,_,_,_,_,_,_,_,_,_,_,_,_,_,_,_,_,_,_,_,_,_,_,_,_,_,_,_,_,_,_,_,_,_,_,_,_,_,_,_,_,_,_,_,_], defers := _ } _
    refine wpAnyH_done (by kernel_rfl) ?_ _
    refine NoPanic.normal ?_
    have H7 : Hid (ChB (PG gr) v1 b2) := H6.out.trans H.1
    have I7 : Hid (IE b2 B (Value.slice xb ((s.R k).ne + 1) xd) ((s.R k).told f (s.R f).nc (s.R f).nt).ne ((s.R k).told f (s.R f).nc (s.R f).nt).E) := by unfold Rp.told; rw [addE_new HX.out]; exact EO.ch I6.out H.1 (fun g e z => II7.out g e z)
    have NEI : Hid (((s.R k).told f (s.R f).nc (s.R f).nt).ne = (s.R k).ne + 1) := by show _ = _; unfold Rp.told; rw [addE_new HX.out]
    clear H K6 I6 H6 P2B A2 FC SE BC LT HX6 II7
    generalize b2 = v3 at *
    have q5 : v3.cell? ⟨gr, k * 8 + 5, none⟩ = some (Value.slice xb ((s.R k).ne + 1) xd) := K7.out.c hk 5 (by omega)
    have n7 : (s.R k).ne ≤ 7 := IK.out.2
    by_cases hj : majN s.n ≤ (s.R k).ne + 1
    ·have hj' : ((majN s.n : Nat) : Int) ≤ (((s.R k).ne + 1 : Nat) : Int) := by omega
     have HJ : Hid (majN s.n ≤ (s.R k).ne + 1) := hj
     clear hj
     have t1 : v3.cell? ⟨gr, k * 8 + 1, none⟩ = some (.int .i64 ((s.R k).told f (s.R f).nc (s.R f).nt).nc) := K7.out.c hk 1 (by omega)
     have t2 : v3.cell? ⟨gr, k * 8 + 2, none⟩ = some (.int .i64 ((s.R k).told f (s.R f).nc (s.R f).nt).nt) := K7.out.c hk 2 (by omega)
     have t6 : v3.cell? ⟨gr, k * 8 + 6, none⟩ = some (.int .i64 ((s.R k).told f (s.R f).nc (s.R f).nt).bc) := K7.out.c hk 6 (by omega)
     have t7 : v3.cell? ⟨gr, k * 8 + 7, none⟩ = some (.int .i64 ((s.R k).told f (s.R f).nc (s.R f).nt).bt) := K7.out.c hk 7 (by omega)
     have t0 : v3.cell? ⟨gr, k * 8, none⟩ = some (.bool ((s.R k).told f (s.R f).nc (s.R f).nt).mute) := K7.out.c hk 0 (by omega)
     have f0 : v3.frozen? ⟨gr, k * 8, none⟩ = false := K7.out.fr hk 0 (by omega)
     have f1 := K7.out.fr hk 1 (by omega)
     have f2 := K7.out.fr hk 2 (by omega)
     have K8 : Hid (RkR (((v3.setCell ⟨gr, k * 8 + 1, none⟩ (.int .i64 ((s.R k).told f (s.R f).nc (s.R f).nt).bc)).setCell ⟨gr, k * 8 + 2, none⟩ (.int .i64 ((s.R k).told f (s.R f).nc (s.R f).nt).bt)).setCell ⟨gr, k * 8, none⟩ (.bool false)) B gr rc s.n s.R VR k { (((s.R k).told f (s.R f).nc (s.R f).nt) : Rp) with mute := false, nc := ((s.R k).told f (s.R f).nc (s.R f).nt).bc, nt := ((s.R k).told f (s.R f).nc (s.R f).nt).bt } (Value.slice xb ((s.R k).ne + 1) xd)) := (K7.out.now hk _ _).setM hk false
     have H8 : Hid (ChB (PG gr) v1 (((v3.setCell ⟨gr, k * 8 + 1, none⟩ (.int .i64 ((s.R k).told f (s.R f).nc (s.R f).nt).bc)).setCell ⟨gr, k * 8 + 2, none⟩ (.int .i64 ((s.R k).told f (s.R f).nc (s.R f).nt).bt)).setCell ⟨gr, k * 8, none⟩ (.bool false))) := ((H7.out.at gr (.inl rfl) _ _).at gr (.inl rfl) _ _).at gr (.inl rfl) _ _
     go_upto_region 30 with fail
     generalize (((v3.setCell ⟨gr, k * 8 + 1, none⟩ (.int .i64 ((s.R k).told f (s.R f).nc (s.R f).nt).bc)).setCell ⟨gr, k * 8 + 2, none⟩ (.int .i64 ((s.R k).told f (s.R f).nc (s.R f).nt).bt)).setCell ⟨gr, k * 8, none⟩ (.bool false)) = v4 at *
     clear t0 t1 t2 t6 t7 f0 f1 f2 q5 K7 H7 I7
     have t5 : v4.cell? ⟨gr, k * 8 + 5, none⟩ = some (Value.slice xb ((s.R k).ne + 1) xd) := K8.out.c hk 5 (by omega)
     have f5 := K8.out.fr hk 5 (by omega)
     have hA0 : Below v4.heap.size v4 (v4.alloc (.cells #[] 3)) := (Below.refl _ _).alloc (Nat.le_refl _) _
     have K80 := K8.out.below hA0
     have t50 : (v4.alloc (.cells #[] 3)).cell? ⟨gr, k * 8 + 5, none⟩ = some (Value.slice xb ((s.R k).ne + 1) xd) := K80.c hk 5 (by omega)
     have f50 := K80.fr hk 5 (by omega)
     clear hA0 K80
     obtain ⟨lb, hlb⟩ : ∃ x, x = v4.heap.size := ⟨_, rfl⟩
     have K9 : Hid (RkR ((v4.alloc (.cells #[] 3)).setCell ⟨gr, k * 8 + 5, none⟩ (.slice (some ⟨lb, 0, none⟩) 0 0)) B gr rc s.n s.R VR k ((s.R k).told f (s.R f).nc (s.R f).nt).wake (.slice (some ⟨lb, 0, none⟩) 0 0)) := (K8.out.below ((Below.refl _ _).alloc (Nat.le_refl _) _)).setE hk (.slice (some ⟨lb, 0, none⟩) 0 0) 0 ((s.R k).told f (s.R f).nc (s.R f).nt).E
     have H9 : Hid (ChB (PG gr) v1 ((v4.alloc (.cells #[] 3)).setCell ⟨gr, k * 8 + 5, none⟩ (.slice (some ⟨lb, 0, none⟩) 0 0))) := (H8.out.alloc _).at gr (.inl rfl) _ _
     have I9 : Hid (IE ((v4.alloc (.cells #[] 3)).setCell ⟨gr, k * 8 + 5, none⟩ (.slice (some ⟨lb, 0, none⟩) 0 0)) B (.slice (some ⟨lb, 0, none⟩) 0 0) 0 ((s.R k).told f (s.R f).nc (s.R f).nt).E) := by
      have h9 := IE.lit v4 B (Nat.le_trans B1.out.1 H8.out.size) ((s.R k).told f (s.R f).nc (s.R f).nt).E
      rw [← hlb] at h9
      exact EO.keep h9 (fun g e => by cases e; exact Below.heap_setCell _ ⟨gr, k * 8 + 5, none⟩ _ lb (by have := K8.out.lt.2; show lb ≠ gr; omega))
     have L9 : Hid (v1.heap.size ≤ lb) := by show _ ≤ _; rw [hlb]; exact H8.out.size
     go_upto_region 55 with fail
     rw [← hlb]
     generalize ((v4.alloc (.cells #[] 3)).setCell ⟨gr, k * 8 + 5, none⟩ (.slice (some ⟨lb, 0, none⟩) 0 0)) = v5 at *
     clear t5 f5 t50 f50 hlb K8 H8
     have PE := P1.out.chR hk (H9.out.wide (fun g z => .inl (by unfold PG at z; rw [z]; rfl))) K9.out I9.out (fun g e => .inr (by cases e; exact L9.out))
     have RE : Box4 v5 rb 28 (.slice none 0 0) (.int .i64 0) (.slice none 0 0) (.slice none 0 0) := RB1.out.ch H9.out (P1.out.nbG (.inl rfl) RB1.out (by decide) (by decide) (by decide))
     have k0 := PE.x.c0
     have y0 := RE.c0
     have u0 := RE.fr 0
     have k1 := PE.x.c1
     have y1 := RE.c1
     have u1 := RE.fr 1
     have k2 := PE.x.c2
     have y2 := RE.c2
     have u2 := RE.fr 2
     have k3 := PE.x.c3
     have y3 := RE.c3
     have u3 := RE.fr 3
     have X9 : Hid (Box4 ((((v5.setCell ⟨rb, 0, none⟩ (.slice (some ⟨gr, 0, none⟩) s.n rc)).setCell ⟨rb, 1, none⟩ (.int .i64 s.t)).setCell ⟨rb, 2, none⟩ (.slice wa s.m wc)).setCell ⟨rb, 3, none⟩ (.slice qa s.l qc)) rb 28 (.slice (some ⟨gr, 0, none⟩) s.n rc) (.int .i64 s.t) (.slice wa s.m wc) (.slice qa s.l qc)) := (((RE.set0 _).set1 _).set2 _).set3 _
     have Q9 : Hid (RetR B s _ (.returned (.tuple #[.agg #[.slice (some ⟨gr, 0, none⟩) s.n rc, .int .i64 s.t, .slice wa s.m wc, .slice qa s.l qc], .int .i64 0])) ((((v5.setCell ⟨rb, 0, none⟩ (.slice (some ⟨gr, 0, none⟩) s.n rc)).setCell ⟨rb, 1, none⟩ (.int .i64 s.t)).setCell ⟨rb, 2, none⟩ (.slice wa s.m wc)).setCell ⟨rb, 3, none⟩ (.slice qa s.l qc))) := retR_end (s' := { s with R := updE s.R k ((s.R k).told f (s.R f).nc (s.R f).nt).wake }) (by have h := ActS.echo (s := s) (a := ⟨7, k, (f : Int)⟩) k f hk rfl rfl HU.out fm rfl FK.out HV.out HX.out; unfold Rp.echo at h; rw [if_pos (by rw [NEI.out]; exact HJ.out)] at h; exact h) PE RE
     have B9 : Hid (Below B w ((((v5.setCell ⟨rb, 0, none⟩ (.slice (some ⟨gr, 0, none⟩) s.n rc)).setCell ⟨rb, 1, none⟩ (.int .i64 s.t)).setCell ⟨rb, 2, none⟩ (.slice wa s.m wc)).setCell ⟨rb, 3, none⟩ (.slice qa s.l qc))) := below_res (B1.out.2.trans (H9.out.toBelow (fun g z => by unfold PG at z; rw [z]; exact P1.out.blk (.inl rfl)) B1.out.1)) (by have := DI.out; omega) _ _ _ _
     clear PE RE P1 A1 RB1 KY1 KF1 B1 OK DI HSB HU FK HV HX LN1 SL IK K9 H9 I9 L9 HJ NEI FZ NB2 NGA
     go_wp2
     exact ret_cell2 (b := rb) Try.results74 rfl rfl (Box4.loadsv X9.out) ⟨Q9.out, B9.out⟩
    ·have hj' : ¬ ((majN s.n : Nat) : Int) ≤ (((s.R k).ne + 1 : Nat) : Int) := by omega
     have HJ : Hid (¬ majN s.n ≤ (s.R k).ne + 1) := hj
     clear hj
     go_upto_region 55 with fail
     clear q5
     have PE := P1.out.chR hk (H7.out.wide (fun g z => .inl (by unfold PG at z; rw [z]; rfl))) K7.out I7.out (fun g e => .inr (FZ.out g e))
     have RE : Box4 v3 rb 28 (.slice none 0 0) (.int .i64 0) (.slice none 0 0) (.slice none 0 0) := RB1.out.ch H7.out (P1.out.nbG (.inl rfl) RB1.out (by decide) (by decide) (by decide))
     have k0 := PE.x.c0
     have y0 := RE.c0
     have u0 := RE.fr 0
     have k1 := PE.x.c1
     have y1 := RE.c1
     have u1 := RE.fr 1
     have k2 := PE.x.c2
     have y2 := RE.c2
     have u2 := RE.fr 2
     have k3 := PE.x.c3
     have y3 := RE.c3
     have u3 := RE.fr 3
     have X9 : Hid (Box4 ((((v3.setCell ⟨rb, 0, none⟩ (.slice (some ⟨gr, 0, none⟩) s.n rc)).setCell ⟨rb, 1, none⟩ (.int .i64 s.t)).setCell ⟨rb, 2, none⟩ (.slice wa s.m wc)).setCell ⟨rb, 3, none⟩ (.slice qa s.l qc)) rb 28 (.slice (some ⟨gr, 0, none⟩) s.n rc) (.int .i64 s.t) (.slice wa s.m wc) (.slice qa s.l qc)) := (((RE.set0 _).set1 _).set2 _).set3 _
     have Q9 : Hid (RetR B s _ (.returned (.tuple #[.agg #[.slice (some ⟨gr, 0, none⟩) s.n rc, .int .i64 s.t, .slice wa s.m wc, .slice qa s.l qc], .int .i64 0])) ((((v3.setCell ⟨rb, 0, none⟩ (.slice (some ⟨gr, 0, none⟩) s.n rc)).setCell ⟨rb, 1, none⟩ (.int .i64 s.t)).setCell ⟨rb, 2, none⟩ (.slice wa s.m wc)).setCell ⟨rb, 3, none⟩ (.slice qa s.l qc))) := retR_end (s' := { s with R := updE s.R k ((s.R k).told f (s.R f).nc (s.R f).nt) }) (by have h := ActS.echo (s := s) (a := ⟨7, k, (f : Int)⟩) k f hk rfl rfl HU.out fm rfl FK.out HV.out HX.out; unfold Rp.echo at h; rw [if_neg (by rw [NEI.out]; exact HJ.out)] at h; exact h) PE RE
     have B9 : Hid (Below B w ((((v3.setCell ⟨rb, 0, none⟩ (.slice (some ⟨gr, 0, none⟩) s.n rc)).setCell ⟨rb, 1, none⟩ (.int .i64 s.t)).setCell ⟨rb, 2, none⟩ (.slice wa s.m wc)).setCell ⟨rb, 3, none⟩ (.slice qa s.l qc))) := below_res (B1.out.2.trans (H7.out.toBelow (fun g z => by unfold PG at z; rw [z]; exact P1.out.blk (.inl rfl)) B1.out.1)) (by have := DI.out; omega) _ _ _ _
     clear PE RE P1 A1 RB1 KY1 KF1 B1 OK DI HSB HU FK HV HX LN1 SL IK K7 H7 I7 HJ NEI FZ NB2 NGA
     go_wp2
     exact ret_cell2 (b := rb) Try.results74 rfl rfl (Box4.loadsv X9.out) ⟨Q9.out, B9.out⟩
end Go.Proofs.Ytedncfcmhaaobaa
