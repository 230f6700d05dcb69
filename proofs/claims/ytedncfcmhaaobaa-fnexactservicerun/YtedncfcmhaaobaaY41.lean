/-
  Texts of the proof, joined: QuPa, QuPs.
-/
import Derived.Test.YtedncfcmhaaobaaY36
import Derived.Deep.Cut
import Derived.Test.YtedncfcmhaaobaaTkH
namespace Go.Proofs.Ytedncfcmhaaobaa
open Go.ChangeShapes Go.WideShapes Go.ChangeAt Go.RowKit
set_option linter.unusedVariables false
set_option maxRecDepth 100000 in
set_option maxHeartbeats 8000000 in
theorem rep_save (B : Nat) (s : Sv) (an : Int) (k : Nat) (hk : k < s.n) (ok : s.Ok) (w : World) (hB : B ≤ w.heap.size) (vr vw vq : Value) (VR VW VQ : Nat → Value) (ho : SvO w B s vr vw vq VR VW VQ) (hd : SvD s VR VW VQ) :
  Calls Try.prog 74 #[.agg #[vr, .int .i64 s.t, vw, vq], .agg #[.int .i64 5, .int .i64 (k : Int), .int .i64 an]] w fun e w' => RetR B s ⟨5, k, an⟩ e w' ∧ Below B w w' := by
 obtain ⟨ra, rc, rfl⟩ := ho.r.form
 obtain ⟨wa, wc, rfl⟩ := ho.x.form
 obtain ⟨qa, qc, rfl⟩ := ho.q.form
 have b3 : Below w.heap.size w (((w.alloc (.cells #[.slice ra s.n rc, .int .i64 s.t, .slice wa s.m wc, .slice qa s.l qc] 28)).alloc (.cells #[.int .i64 5, .int .i64 (k : Int), .int .i64 an] 41)).alloc (.cells #[.slice none 0 0, .int .i64 0, .slice none 0 0, .slice none 0 0] 28)) := (((Below.refl w.heap.size w).alloc (Nat.le_refl _) _).alloc (by simp) _).alloc (by simp; omega) _
 have PV : Hid (SvP NA (((w.alloc (.cells #[.slice ra s.n rc, .int .i64 s.t, .slice wa s.m wc, .slice qa s.l qc] 28)).alloc (.cells #[.int .i64 5, .int .i64 (k : Int), .int .i64 an] 41)).alloc (.cells #[.slice none 0 0, .int .i64 0, .slice none 0 0, .slice none 0 0] 28)) B w.heap.size s (.slice ra s.n rc) (.slice wa s.m wc) (.slice qa s.l qc) VR VW VQ) := SvP.made hB (((Box4.madeAt rfl _ _ _ _ _).alloc _).alloc _) (ho.below b3) hd
 have AB : Hid (Box3 (((w.alloc (.cells #[.slice ra s.n rc, .int .i64 s.t, .slice wa s.m wc, .slice qa s.l qc] 28)).alloc (.cells #[.int .i64 5, .int .i64 (k : Int), .int .i64 an] 41)).alloc (.cells #[.slice none 0 0, .int .i64 0, .slice none 0 0, .slice none 0 0] 28)) (w.heap.size + 1) 41 (.int .i64 5) (.int .i64 (k : Int)) (.int .i64 an)) := (Box3.madeAt (by simp) _ _ _ _).alloc _
 have RB : Hid (Box4 (((w.alloc (.cells #[.slice ra s.n rc, .int .i64 s.t, .slice wa s.m wc, .slice qa s.l qc] 28)).alloc (.cells #[.int .i64 5, .int .i64 (k : Int), .int .i64 an] 41)).alloc (.cells #[.slice none 0 0, .int .i64 0, .slice none 0 0, .slice none 0 0] 28)) (w.heap.size + 1 + 1) 28 (.slice none 0 0) (.int .i64 0) (.slice none 0 0) (.slice none 0 0)) := Box4.madeAt (by simp) _ _ _ _ _
 have BV : Hid (B ≤ (((w.alloc (.cells #[.slice ra s.n rc, .int .i64 s.t, .slice wa s.m wc, .slice qa s.l qc] 28)).alloc (.cells #[.int .i64 5, .int .i64 (k : Int), .int .i64 an] 41)).alloc (.cells #[.slice none 0 0, .int .i64 0, .slice none 0 0, .slice none 0 0] 28)).heap.size ∧ Below B w (((w.alloc (.cells #[.slice ra s.n rc, .int .i64 s.t, .slice wa s.m wc, .slice qa s.l qc] 28)).alloc (.cells #[.int .i64 5, .int .i64 (k : Int), .int .i64 an] 41)).alloc (.cells #[.slice none 0 0, .int .i64 0, .slice none 0 0, .slice none 0 0] 28))) := ⟨Nat.le_trans hB b3.size, b3.mono hB⟩
 have SZ : Hid (∀ w : World, Calls Try.prog 95 #[.int .i64 (s.n : Int)] w fun e w' => e = .returned (.int .i64 ((majN s.n : Nat) : Int)) ∧ w = w') := fun w => by
  have h := l09Size_any (s.n : Int) (by have := ok.1.1; omega) w
  rwa [show (s.n : Int) / 2 + 1 = ((majN s.n : Nat) : Int) by unfold majN; omega] at h
 have OK : Hid s.Ok := ok
 have klt : (k : Int) < (s.n : Int) := by omega
 clear b3 ho hd ok
 go_enter Try.func74, Try.ntmps74
 go_upto_region 1 with fail
 generalize (((w.alloc (.cells #[.slice ra s.n rc, .int .i64 s.t, .slice wa s.m wc, .slice qa s.l qc] 28)).alloc (.cells #[.int .i64 5, .int .i64 (k : Int), .int .i64 an] 41)).alloc (.cells #[.slice none 0 0, .int .i64 0, .slice none 0 0, .slice none 0 0] 28)) = v at *
 obtain ⟨ab, hab⟩ : ∃ x, x = w.heap.size + 1 := ⟨_, rfl⟩
 obtain ⟨rb, hrb⟩ : ∃ x, x = w.heap.size + 1 + 1 := ⟨_, rfl⟩
 have DI : Hid (B ≤ w.heap.size ∧ w.heap.size < ab ∧ ab < rb) := ⟨hB, by omega, by omega⟩
 rw [← hrb, ← hab]
 rw [← hab] at AB
 rw [← hrb] at RB
 clear hab hrb hB
 obtain ⟨sb, hsb⟩ : ∃ x, x = w.heap.size := ⟨_, rfl⟩
 have HSB : Hid (sb = w.heap.size) := hsb
 rw [← hsb] at PV DI ⊢
 clear hsb
 obtain ⟨gr, ea, -, -, KR⟩ := RkR.start PV.out.o.r hk
 subst ea
 have KY : Hid (RkR v B gr rc s.n s.R VR k (s.R k) (VR k)) := KR
 clear KR
 have c0 := PV.out.x.c0
 have x0 := AB.out.c0
 have x1 := AB.out.c1
 go_wp2_with fail
 refine (SZ.out _).mono ?_
 rintro e _ ⟨rfl, rfl⟩
 clear SZ
 clear c0 x1
 have t1 : v.cell? ⟨gr, k * 8 + 1, none⟩ = some (.int .i64 (s.R k).nc) := KY.out.c hk 1 (by omega)
 have t2 : v.cell? ⟨gr, k * 8 + 2, none⟩ = some (.int .i64 (s.R k).nt) := KY.out.c hk 2 (by omega)
 have t3 : v.cell? ⟨gr, k * 8 + 3, none⟩ = some (.int .i64 (s.R k).sc) := KY.out.c hk 3 (by omega)
 have t4 : v.cell? ⟨gr, k * 8 + 4, none⟩ = some (.int .i64 (s.R k).st) := KY.out.c hk 4 (by omega)
 have f3 := KY.out.fr hk 3 (by omega)
 have f4 := KY.out.fr hk 4 (by omega)
 have K2 : Hid (RkR ((v.setCell ⟨gr, k * 8 + 3, none⟩ (.int .i64 (s.R k).nc)).setCell ⟨gr, k * 8 + 4, none⟩ (.int .i64 (s.R k).nt)) B gr rc s.n s.R VR k (s.R k).save (VR k)) := KY.out.saved hk (s.R k).nc (s.R k).nt
 have H2 : Hid (ChB (PG gr) v ((v.setCell ⟨gr, k * 8 + 3, none⟩ (.int .i64 (s.R k).nc)).setCell ⟨gr, k * 8 + 4, none⟩ (.int .i64 (s.R k).nt))) := ((ChB.refl (PG gr) v).at gr (.inl rfl) _ _).at gr (.inl rfl) _ _
 go_upto_region 55 with fail
 generalize ((v.setCell ⟨gr, k * 8 + 3, none⟩ (.int .i64 (s.R k).nc)).setCell ⟨gr, k * 8 + 4, none⟩ (.int .i64 (s.R k).nt)) = v2 at *
 clear t1 t2 t3 t4 f3 f4 x0
 have PE := PV.out.chR1 hk H2.out K2.out rfl rfl
 have RE : Box4 v2 rb 28 (.slice none 0 0) (.int .i64 0) (.slice none 0 0) (.slice none 0 0) := RB.out.ch H2.out (PV.out.nbG (.inl rfl) RB.out (by decide) (by decide) (by decide))
 have k0 := PE.x.c0
 have y0 := RE.c0
 have u0 := RE.fr 0
 have k1 := PE.x.c1
 have y1 := RE.c1
 have u1 := RE.fr 1
 have k2 := PE.x.c2
 have y2 := RE.c2
 have u2 := RE.fr 2
 have k3 := PE.x.c3
 have y3 := RE.c3
 have u3 := RE.fr 3
 have X9 : Hid (Box4 ((((v2.setCell ⟨rb, 0, none⟩ (.slice (some ⟨gr, 0, none⟩) s.n rc)).setCell ⟨rb, 1, none⟩ (.int .i64 s.t)).setCell ⟨rb, 2, none⟩ (.slice wa s.m wc)).setCell ⟨rb, 3, none⟩ (.slice qa s.l qc)) rb 28 (.slice (some ⟨gr, 0, none⟩) s.n rc) (.int .i64 s.t) (.slice wa s.m wc) (.slice qa s.l qc)) := (((RE.set0 _).set1 _).set2 _).set3 _
 have Q9 : Hid (RetR B s _ (.returned (.tuple #[.agg #[.slice (some ⟨gr, 0, none⟩) s.n rc, .int .i64 s.t, .slice wa s.m wc, .slice qa s.l qc], .int .i64 0])) ((((v2.setCell ⟨rb, 0, none⟩ (.slice (some ⟨gr, 0, none⟩) s.n rc)).setCell ⟨rb, 1, none⟩ (.int .i64 s.t)).setCell ⟨rb, 2, none⟩ (.slice wa s.m wc)).setCell ⟨rb, 3, none⟩ (.slice qa s.l qc))) := retR_end (s' := { s with R := updE s.R k (s.R k).save }) (ActS.save (a := ⟨5, k, an⟩) k hk rfl rfl) PE RE
 have B9 : Hid (Below B w ((((v2.setCell ⟨rb, 0, none⟩ (.slice (some ⟨gr, 0, none⟩) s.n rc)).setCell ⟨rb, 1, none⟩ (.int .i64 s.t)).setCell ⟨rb, 2, none⟩ (.slice wa s.m wc)).setCell ⟨rb, 3, none⟩ (.slice qa s.l qc))) := below_res (BV.out.2.trans (H2.out.toBelow (fun g z => by unfold PG at z; rw [z]; exact PV.out.blk (.inl rfl)) BV.out.1)) (by have := DI.out; omega) _ _ _ _
 clear PE RE PV AB RB KY BV OK DI HSB K2 H2
 go_wp2
 exact ret_cell2 (b := rb) Try.results74 rfl rfl (Box4.loadsv X9.out) ⟨Q9.out, B9.out⟩
end Go.Proofs.Ytedncfcmhaaobaa
namespace Go.Proofs.Ytedncfcmhaaobaa
open Go.ChangeShapes Go.WideShapes Go.ChangeAt Go.RowKit
set_option linter.unusedVariables false
set_option maxRecDepth 100000 in
set_option maxHeartbeats 8000000 in
theorem rep_store (B : Nat) (s : Sv) (an : Int) (k : Nat) (hk : k < s.n) (ok : s.Ok) (w : World) (hB : B ≤ w.heap.size) (vr vw vq : Value) (VR VW VQ : Nat → Value) (ho : SvO w B s vr vw vq VR VW VQ) (hd : SvD s VR VW VQ) :
  Calls Try.prog 74 #[.agg #[vr, .int .i64 s.t, vw, vq], .agg #[.int .i64 2, .int .i64 (k : Int), .int .i64 an]] w fun e w' => RetR B s ⟨2, k, an⟩ e w' ∧ Below B w w' := by
 obtain ⟨ra, rc, rfl⟩ := ho.r.form
 obtain ⟨wa, wc, rfl⟩ := ho.x.form
 obtain ⟨qa, qc, rfl⟩ := ho.q.form
 have b3 : Below w.heap.size w (((w.alloc (.cells #[.slice ra s.n rc, .int .i64 s.t, .slice wa s.m wc, .slice qa s.l qc] 28)).alloc (.cells #[.int .i64 2, .int .i64 (k : Int), .int .i64 an] 41)).alloc (.cells #[.slice none 0 0, .int .i64 0, .slice none 0 0, .slice none 0 0] 28)) := (((Below.refl w.heap.size w).alloc (Nat.le_refl _) _).alloc (by simp) _).alloc (by simp; omega) _
 have PV : Hid (SvP NA (((w.alloc (.cells #[.slice ra s.n rc, .int .i64 s.t, .slice wa s.m wc, .slice qa s.l qc] 28)).alloc (.cells #[.int .i64 2, .int .i64 (k : Int), .int .i64 an] 41)).alloc (.cells #[.slice none 0 0, .int .i64 0, .slice none 0 0, .slice none 0 0] 28)) B w.heap.size s (.slice ra s.n rc) (.slice wa s.m wc) (.slice qa s.l qc) VR VW VQ) := SvP.made hB (((Box4.madeAt rfl _ _ _ _ _).alloc _).alloc _) (ho.below b3) hd
 have AB : Hid (Box3 (((w.alloc (.cells #[.slice ra s.n rc, .int .i64 s.t, .slice wa s.m wc, .slice qa s.l qc] 28)).alloc (.cells #[.int .i64 2, .int .i64 (k : Int), .int .i64 an] 41)).alloc (.cells #[.slice none 0 0, .int .i64 0, .slice none 0 0, .slice none 0 0] 28)) (w.heap.size + 1) 41 (.int .i64 2) (.int .i64 (k : Int)) (.int .i64 an)) := (Box3.madeAt (by simp) _ _ _ _).alloc _
 have RB : Hid (Box4 (((w.alloc (.cells #[.slice ra s.n rc, .int .i64 s.t, .slice wa s.m wc, .slice qa s.l qc] 28)).alloc (.cells #[.int .i64 2, .int .i64 (k : Int), .int .i64 an] 41)).alloc (.cells #[.slice none 0 0, .int .i64 0, .slice none 0 0, .slice none 0 0] 28)) (w.heap.size + 1 + 1) 28 (.slice none 0 0) (.int .i64 0) (.slice none 0 0) (.slice none 0 0)) := Box4.madeAt (by simp) _ _ _ _ _
 have BV : Hid (B ≤ (((w.alloc (.cells #[.slice ra s.n rc, .int .i64 s.t, .slice wa s.m wc, .slice qa s.l qc] 28)).alloc (.cells #[.int .i64 2, .int .i64 (k : Int), .int .i64 an] 41)).alloc (.cells #[.slice none 0 0, .int .i64 0, .slice none 0 0, .slice none 0 0] 28)).heap.size ∧ Below B w (((w.alloc (.cells #[.slice ra s.n rc, .int .i64 s.t, .slice wa s.m wc, .slice qa s.l qc] 28)).alloc (.cells #[.int .i64 2, .int .i64 (k : Int), .int .i64 an] 41)).alloc (.cells #[.slice none 0 0, .int .i64 0, .slice none 0 0, .slice none 0 0] 28))) := ⟨Nat.le_trans hB b3.size, b3.mono hB⟩
 have SZ : Hid (∀ w : World, Calls Try.prog 95 #[.int .i64 (s.n : Int)] w fun e w' => e = .returned (.int .i64 ((majN s.n : Nat) : Int)) ∧ w = w') := fun w => by
  have h := l09Size_any (s.n : Int) (by have := ok.1.1; omega) w
  rwa [show (s.n : Int) / 2 + 1 = ((majN s.n : Nat) : Int) by unfold majN; omega] at h
 have OK : Hid s.Ok := ok
 have klt : (k : Int) < (s.n : Int) := by omega
 clear b3 ho hd ok
 go_enter Try.func74, Try.ntmps74
 go_upto_region 1 with fail
 generalize (((w.alloc (.cells #[.slice ra s.n rc, .int .i64 s.t, .slice wa s.m wc, .slice qa s.l qc] 28)).alloc (.cells #[.int .i64 2, .int .i64 (k : Int), .int .i64 an] 41)).alloc (.cells #[.slice none 0 0, .int .i64 0, .slice none 0 0, .slice none 0 0] 28)) = v at *
 obtain ⟨ab, hab⟩ : ∃ x, x = w.heap.size + 1 := ⟨_, rfl⟩
 obtain ⟨rb, hrb⟩ : ∃ x, x = w.heap.size + 1 + 1 := ⟨_, rfl⟩
 have DI : Hid (B ≤ w.heap.size ∧ w.heap.size < ab ∧ ab < rb) := ⟨hB, by omega, by omega⟩
 rw [← hrb, ← hab]
 rw [← hab] at AB
 rw [← hrb] at RB
 clear hab hrb hB
 obtain ⟨sb, hsb⟩ : ∃ x, x = w.heap.size := ⟨_, rfl⟩
 have HSB : Hid (sb = w.heap.size) := hsb
 rw [← hsb] at PV DI ⊢
 clear hsb
 obtain ⟨gr, ea, -, -, KR⟩ := RkR.start PV.out.o.r hk
 subst ea
 have KY : Hid (RkR v B gr rc s.n s.R VR k (s.R k) (VR k)) := KR
 clear KR
 have c0 := PV.out.x.c0
 have x0 := AB.out.c0
 have x1 := AB.out.c1
 go_wp2_with fail
 refine (SZ.out _).mono ?_
 rintro e _ ⟨rfl, rfl⟩
 clear SZ
 have m0 : v.cell? ⟨gr, k * 8, none⟩ = some (.bool (s.R k).mute) := KY.out.c hk 0 (by omega)
 have c2 := PV.out.x.c2
 by_cases hm : s.m = 0
 ·have HM0 : Hid (s.m = 0) := hm
  rw [hm] at c2
  clear hm
  go_upto_region 34 with fail
  clear c0 c2 m0 x0 x1
  have PE := PV.out
  have RE : Box4 v rb 28 (.slice none 0 0) (.int .i64 0) (.slice none 0 0) (.slice none 0 0) := RB.out
  have k0 := PE.x.c0
  have y0 := RE.c0
  have u0 := RE.fr 0
  have k1 := PE.x.c1
  have y1 := RE.c1
  have u1 := RE.fr 1
  have k2 := PE.x.c2
  have y2 := RE.c2
  have u2 := RE.fr 2
  have k3 := PE.x.c3
  have y3 := RE.c3
  have u3 := RE.fr 3
  have X9 : Hid (Box4 ((((v.setCell ⟨rb, 0, none⟩ (.slice (some ⟨gr, 0, none⟩) s.n rc)).setCell ⟨rb, 1, none⟩ (.int .i64 s.t)).setCell ⟨rb, 2, none⟩ (.slice wa s.m wc)).setCell ⟨rb, 3, none⟩ (.slice qa s.l qc)) rb 28 (.slice (some ⟨gr, 0, none⟩) s.n rc) (.int .i64 s.t) (.slice wa s.m wc) (.slice qa s.l qc)) := (((RE.set0 _).set1 _).set2 _).set3 _
  have Q9 : Hid (RetR B s _ (.returned (.tuple #[.agg #[.slice (some ⟨gr, 0, none⟩) s.n rc, .int .i64 s.t, .slice wa s.m wc, .slice qa s.l qc], .int .i64 5])) ((((v.setCell ⟨rb, 0, none⟩ (.slice (some ⟨gr, 0, none⟩) s.n rc)).setCell ⟨rb, 1, none⟩ (.int .i64 s.t)).setCell ⟨rb, 2, none⟩ (.slice wa s.m wc)).setCell ⟨rb, 3, none⟩ (.slice qa s.l qc))) := retR_end (s' := s) (ActS.store0 (a := ⟨2, k, an⟩) k hk rfl rfl HM0.out) PE RE
  have B9 : Hid (Below B w ((((v.setCell ⟨rb, 0, none⟩ (.slice (some ⟨gr, 0, none⟩) s.n rc)).setCell ⟨rb, 1, none⟩ (.int .i64 s.t)).setCell ⟨rb, 2, none⟩ (.slice wa s.m wc)).setCell ⟨rb, 3, none⟩ (.slice qa s.l qc))) := below_res (BV.out.2) (by have := DI.out; omega) _ _ _ _
  clear PE RE PV AB RB KY BV OK DI HSB HM0
  go_wp2
  exact ret_cell2 (b := rb) Try.results74 rfl rfl (Box4.loadsv X9.out) ⟨Q9.out, B9.out⟩
 ·obtain ⟨p, hp⟩ : ∃ p, p = s.m - 1 := ⟨_, rfl⟩
  have pm : p < s.m := by omega
  have ep : (s.m : Int) - 1 = (p : Int) := by omega
  have plt : (p : Int) < (s.m : Int) := by omega
  have m200 : s.m ≤ 200 := OK.out.1.2.2.1
  have pw : IntKind.i64.wrap (p : Int) = (p : Int) := IntWalk.i64_in _ (by omega)
  have HP : Hid (p = s.m - 1) := hp
  have p0 : ¬ (p : Int) < 0 := by omega
  obtain ⟨gw, ew, -, -, KW⟩ := RkW.start PV.out.o.x pm
  subst ew
  have KWH : Hid (RkW v B gw wc s.m s.W VW p (s.W p) (VW p)) := KW
  clear KW hp hm
  cases hu : (s.R k).mute with
  | true =>
   rw [hu] at m0
   have HU : Hid ((s.R k).mute = true) := hu
   clear hu
   go_upto_region 36 with fail
   clear c0 c2 m0 x0 x1
   have PE := PV.out
   have RE : Box4 v rb 28 (.slice none 0 0) (.int .i64 0) (.slice none 0 0) (.slice none 0 0) := RB.out
   have k0 := PE.x.c0
   have y0 := RE.c0
   have u0 := RE.fr 0
   have k1 := PE.x.c1
   have y1 := RE.c1
   have u1 := RE.fr 1
   have k2 := PE.x.c2
   have y2 := RE.c2
   have u2 := RE.fr 2
   have k3 := PE.x.c3
   have y3 := RE.c3
   have u3 := RE.fr 3
   have X9 : Hid (Box4 ((((v.setCell ⟨rb, 0, none⟩ (.slice (some ⟨gr, 0, none⟩) s.n rc)).setCell ⟨rb, 1, none⟩ (.int .i64 s.t)).setCell ⟨rb, 2, none⟩ (.slice (some ⟨gw, 0, none⟩) s.m wc)).setCell ⟨rb, 3, none⟩ (.slice qa s.l qc)) rb 28 (.slice (some ⟨gr, 0, none⟩) s.n rc) (.int .i64 s.t) (.slice (some ⟨gw, 0, none⟩) s.m wc) (.slice qa s.l qc)) := (((RE.set0 _).set1 _).set2 _).set3 _
   have Q9 : Hid (RetR B s _ (.returned (.tuple #[.agg #[.slice (some ⟨gr, 0, none⟩) s.n rc, .int .i64 s.t, .slice (some ⟨gw, 0, none⟩) s.m wc, .slice qa s.l qc], .int .i64 13])) ((((v.setCell ⟨rb, 0, none⟩ (.slice (some ⟨gr, 0, none⟩) s.n rc)).setCell ⟨rb, 1, none⟩ (.int .i64 s.t)).setCell ⟨rb, 2, none⟩ (.slice (some ⟨gw, 0, none⟩) s.m wc)).setCell ⟨rb, 3, none⟩ (.slice qa s.l qc))) := retR_end (s' := s) (ActS.store1 (a := ⟨2, k, an⟩) k hk rfl rfl (by have := HP.out; omega) HU.out) PE RE
   have B9 : Hid (Below B w ((((v.setCell ⟨rb, 0, none⟩ (.slice (some ⟨gr, 0, none⟩) s.n rc)).setCell ⟨rb, 1, none⟩ (.int .i64 s.t)).setCell ⟨rb, 2, none⟩ (.slice (some ⟨gw, 0, none⟩) s.m wc)).setCell ⟨rb, 3, none⟩ (.slice qa s.l qc))) := below_res (BV.out.2) (by have := DI.out; omega) _ _ _ _
   clear PE RE PV AB RB KY BV OK DI HSB HU HP KWH
   go_wp2
   exact ret_cell2 (b := rb) Try.results74 rfl rfl (Box4.loadsv X9.out) ⟨Q9.out, B9.out⟩
  | false =>
  rw [hu] at m0
  have HU : Hid ((s.R k).mute = false) := hu
  clear hu
  go_upto_region 38 with fail
  clear c0 c2 m0 x0 x1 p0
  have KX : Hid (RkR v.drew B gr rc s.n s.R VR k (s.R k) (VR k)) := KY.out.below (Below.refl _ _).drew
  have NW : Hid (¬ PG gr gw) := fun z => PV.out.o.r.apart PV.out.o.x (by decide) gr rfl (by unfold PG at z; rw [z]; rfl)
  have H : ChB (PG gr) v v.drew := (ChB.refl _ _).drew
  refine wp_region_noPanic ?_
  refine wp_region_held_drew (S := fun w' => ChB (PG gr) v w') (by kernel_rfl) H (fun _ => ?_)
  generalize v.drew = y0 at *
  refine tkH (i := 0) (v := .pointer (some ⟨gr, k * 8, none⟩)) rfl (by kernel_rfl) (by rfl) ?_ H ?_
  ·intro w' hSw; clear hSw; go_simp
  change wpAnyH _ _ _ _ _ _ _ { tmps := #[_,_,_,_,_,_,_,_,_,_,_,_,_,_,_,_,_,_,_,_,_,_,_,_,_,_,_,_,_,_,_,_,_,_,_,_,_,_,_,_,_,_,_,_,_,_,_,_,_,_,_,_,_,_,_,_,_,_,_,_,_,_,_,_,_,_,_,_,_,_,_,_,_,_,_,_,_,_,_,_,_,_,_,_,_,_,_,_,_,_,_,_,_,_,_,_,_,_,_,_,_,_,_,_,_,_,_,_,_,_,_,_,_,_,_,_,_,_,_,_,_,_,_,_,_,_,_,_,_,_,_,_,_,_,_,_,_,_,_,_,_,_,_,_,_,_,_,_,_,_,_,_,_,_,_,_,_,_,_,_,_,_,_,_,_,_,_,_,_,_,_,_,_,_,_,_,_,_,_,_,_,_,_,_,_,_,_,_,_,_,_,_,_,_,_,_,_,_,_,_,_,_,_,_,_,_,_,_,_,_,_,_,_,_,_,_,_,_,_,_,_,_,_,_,_,_,_,_,_,_,_,_,_,_,_,_,_,_,_,_,_,_,_,_,_,_,_,_,_,_,_,_,_,_,_,_,_,_,_,_,_,_,_,_,_,_,_,_,_,_,_,_,_,_,_,_,_,_,_,_,_,_,_,_,_,_,_,_,_,_,_,_,_,_,_,_,_,_,_,_,_,_,_,_,_,_,_,_,_,_,_,_,_,_,_,_,_,_,_,_,_,_], defers := _ } _
  refine tkH (i := 1) (v := .pointer (some ⟨gr, k * 8, none⟩)) rfl (by kernel_rfl) (by rfl) ?_ H ?_
  ·intro w' hSw; clear hSw; go_simp
  change wpAnyH _ _ _ _ _ _ _ { tmps := #[_,_,_,_,_,_,_,_,_,_,_,_,_,_,_,_,_,_,_,_,_,_,_,_,_,_,_,_,_,_,_,_,_,_,_,_,_,_,_,_,_,_,_,_,_,_,_,_,_,_,_,_,_,_,_,_,_,_,_,_,_,_,_,_,_,_,_,_,_,_,_,_,_,_,_,_,_,_,_,_,_,_,_,_,_,_,_,_,_,_,_,_,_,_,_,_,_,_,_,_,_,_,_,_,_,_,_,_,_,_,_,_,_,_,_,_,_,_,_,_,_,_,_,_,_,_,_,_,_,_,_,_,_,_,_,_,_,_,_,_,_,_,_,_,_,_,_,_,_,_,_,_,_,_,_,_,_,_,_,_,_,_,_,_,_,_,_,_,_,_,_,_,_,_,_,_,_,_,_,_,_,_,_,_,_,_,_,_,_,_,_,_,_,_,_,_,_,_,_,_,_,_,_,_,_,_,_,_,_,_,_,_,_,_,_,_,_,_,_,_,_,_,_,_,_,_,_,_,_,_,_,_,_,_,_,_,_,_,_,_,_,_,_,_,_,_,_,_,_,_,_,_,_,_,_,_,_,_,_,_,_,_,_,_,_,_,_,_,_,_,_,_,_,_,_,_,_,_,_,_,_,_,_,_,_,_,_,_,_,_,_,_,_,_,_,_,_,_,_,_,_,_,_,_,_,_,_,_,_,_,_,_,_,_,_,_,_,_,_,_,_,_], defers := _ } _
  refine tkH (i := 2) (v := .pointer (some ⟨gr, k * 8, none⟩)) rfl (by kernel_rfl) (by rfl) ?_ H ?_
  ·intro w' hSw; clear hSw; go_simp
  change wpAnyH _ _ _ _ _ _ _ { tmps := #[_,_,_,_,_,_,_,_,_,_,_,_,_,_,_,_,_,_,_,_,_,_,_,_,_,_,_,_,_,_,_,_,_,_,_,_,_,_,_,_,_,_,_,_,_,_,_,_,_,_,_,_,_,_,_,_,_,_,_,_,_,_,_,_,_,_,_,_,_,_,_,_,_,_,_,_,_,_,_,_,_,_,_,_,_,_,_,_,_,_,_,_,_,_,_,_,_,_,_,_,_,_,_,_,_,_,_,_,_,_,_,_,_,_,_,_,_,_,_,_,_,_,_,_,_,_,_,_,_,_,_,_,_,_,_,_,_,_,_,_,_,_,_,_,_,_,_,_,_,_,_,_,_,_,_,_,_,_,_,_,_,_,_,_,_,_,_,_,_,_,_,_,_,_,_,_,_,_,_,_,_,_,_,_,_,_,_,_,_,_,_,_,_,_,_,_,_,_,_,_,_,_,_,_,_,_,_,_,_,_,_,_,_,_,_,_,_,_,_,_,_,_,_,_,_,_,_,_,_,_,_,_,_,_,_,_,_,_,_,_,_,_,_,_,_,_,_,_,_,_,_,_,_,_,_,_,_,_,_,_,_,_,_,_,_,_,_,_,_,_,_,_,_,_,_,_,_,_,_,_,_,_,_,_,_,_,_,_,_,_,_,_,_,_,_,_,_,_,_,_,_,_,_,_,_,_,_,_,_,_,_,_,_,_,_,_,_,_,_,_,_,_], defers := _ } _
  refine tkH (i := 3) (v := .pointer (some ⟨gr, k * 8 + 1, none⟩)) rfl (by kernel_rfl) (by rfl) ?_ H ?_
  ·intro w' hSw; clear hSw; go_simp
  change wpAnyH _ _ _ _ _ _ _ { tmps := #[_,_,_,_,_,_,_,_,_,_,_,_,_,_,_,_,_,_,_,_,_,_,_,_,_,_,_,_,_,_,_,_,_,_,_,_,_,_,_,_,_,_,_,_,_,_,_,_,_,_,_,_,_,_,_,_,_,_,_,_,_,_,_,_,_,_,_,_,_,_,_,_,_,_,_,_,_,_,_,_,_,_,_,_,_,_,_,_,_,_,_,_,_,_,_,_,_,_,_,_,_,_,_,_,_,_,_,_,_,_,_,_,_,_,_,_,_,_,_,_,_,_,_,_,_,_,_,_,_,_,_,_,_,_,_,_,_,_,_,_,_,_,_,_,_,_,_,_,_,_,_,_,_,_,_,_,_,_,_,_,_,_,_,_,_,_,_,_,_,_,_,_,_,_,_,_,_,_,_,_,_,_,_,_,_,_,_,_,_,_,_,_,_,_,_,_,_,_,_,_,_,_,_,_,_,_,_,_,_,_,_,_,_,_,_,_,_,_,_,_,_,_,_,_,_,_,_,_,_,_,_,_,_,_,_,_,_,_,_,_,_,_,_,_,_,_,_,_,_,_,_,_,_,_,_,_,_,_,_,_,_,_,_,_,_,_,_,_,_,_,_,_,_,_,_,_,_,_,_,_,_,_,_,_,_,_,_,_,_,_,_,_,_,_,_,_,_,_,_,_,_,_,_,_,_,_,_,_,_,_,_,_,_,_,_,_,_,_,_,_,_,_], defers := _ } _
  refine tkH (i := 5) (v := .pointer (some ⟨gw, p * 5, none⟩)) rfl (by kernel_rfl) (by rfl) ?_ H ?_
  ·intro w' hSw; clear hSw; go_simp
  change wpAnyH _ _ _ _ _ _ _ { tmps := #[_,_,_,_,_,_,_,_,_,_,_,_,_,_,_,_,_,_,_,_,_,_,_,_,_,_,_,_,_,_,_,_,_,_,_,_,_,_,_,_,_,_,_,_,_,_,_,_,_,_,_,_,_,_,_,_,_,_,_,_,_,_,_,_,_,_,_,_,_,_,_,_,_,_,_,_,_,_,_,_,_,_,_,_,_,_,_,_,_,_,_,_,_,_,_,_,_,_,_,_,_,_,_,_,_,_,_,_,_,_,_,_,_,_,_,_,_,_,_,_,_,_,_,_,_,_,_,_,_,_,_,_,_,_,_,_,_,_,_,_,_,_,_,_,_,_,_,_,_,_,_,_,_,_,_,_,_,_,_,_,_,_,_,_,_,_,_,_,_,_,_,_,_,_,_,_,_,_,_,_,_,_,_,_,_,_,_,_,_,_,_,_,_,_,_,_,_,_,_,_,_,_,_,_,_,_,_,_,_,_,_,_,_,_,_,_,_,_,_,_,_,_,_,_,_,_,_,_,_,_,_,_,_,_,_,_,_,_,_,_,_,_,_,_,_,_,_,_,_,_,_,_,_,_,_,_,_,_,_,_,_,_,_,_,_,_,_,_,_,_,_,_,_,_,_,_,_,_,_,_,_,_,_,_,_,_,_,_,_,_,_,_,_,_,_,_,_,_,_,_,_,_,_,_,_,_,_,_,_,_,_,_,_,_,_,_,_,_,_,_,_,_], defers := _ } _
  refine tkH (i := 6) (v := .pointer (some ⟨gw, p * 5, none⟩)) rfl (by kernel_rfl) (by rfl) ?_ H ?_
  ·intro w' hSw; clear hSw; go_simp
  change wpAnyH _ _ _ _ _ _ _ { tmps := #[_,_,_,_,_,_,_,_,_,_,_,_,_,_,_,_,_,_,_,_,_,_,_,_,_,_,_,_,_,_,_,_,_,_,_,_,_,_,_,_,_,_,_,_,_,_,_,_,_,_,_,_,_,_,_,_,_,_,_,_,_,_,_,_,_,_,_,_,_,_,_,_,_,_,_,_,_,_,_,_,_,_,_,_,_,_,_,_,_,_,_,_,_,_,_,_,_,_,_,_,_,_,_,_,_,_,_,_,_,_,_,_,_,_,_,_,_,_,_,_,_,_,_,_,_,_,_,_,_,_,_,_,_,_,_,_,_,_,_,_,_,_,_,_,_,_,_,_,_,_,_,_,_,_,_,_,_,_,_,_,_,_,_,_,_,_,_,_,_,_,_,_,_,_,_,_,_,_,_,_,_,_,_,_,_,_,_,_,_,_,_,_,_,_,_,_,_,_,_,_,_,_,_,_,_,_,_,_,_,_,_,_,_,_,_,_,_,_,_,_,_,_,_,_,_,_,_,_,_,_,_,_,_,_,_,_,_,_,_,_,_,_,_,_,_,_,_,_,_,_,_,_,_,_,_,_,_,_,_,_,_,_,_,_,_,_,_,_,_,_,_,_,_,_,_,_,_,_,_,_,_,_,_,_,_,_,_,_,_,_,_,_,_,_,_,_,_,_,_,_,_,_,_,_,_,_,_,_,_,_,_,_,_,_,_,_,_,_,_,_,_,_], defers := _ } _
  refine tkH (i := 7) (v := .pointer (some ⟨gw, p * 5, none⟩)) rfl (by kernel_rfl) (by rfl) ?_ H ?_
  ·intro w' hSw; clear hSw; go_simp
  change wpAnyH _ _ _ _ _ _ _ { tmps := #[_,_,_,_,_,_,_,_,_,_,_,_,_,_,_,_,_,_,_,_,_,_,_,_,_,_,_,_,_,_,_,_,_,_,_,_,_,_,_,_,_,_,_,_,_,_,_,_,_,_,_,_,_,_,_,_,_,_,_,_,_,_,_,_,_,_,_,_,_,_,_,_,_,_,_,_,_,_,_,_,_,_,_,_,_,_,_,_,_,_,_,_,_,_,_,_,_,_,_,_,_,_,_,_,_,_,_,_,_,_,_,_,_,_,_,_,_,_,_,_,_,_,_,_,_,_,_,_,_,_,_,_,_,_,_,_,_,_,_,_,_,_,_,_,_,_,_,_,_,_,_,_,_,_,_,_,_,_,_,_,_,_,_,_,_,_,_,_,_,_,_,_,_,_,_,_,_,_,_,_,_,_,_,_,_,_,_,_,_,_,_,_,_,_,_,_,_,_,_,_,_,_,_,_,_,_,_,_,_,_,_,_,_,_,_,_,_,_,_,_,_,_,_,_,_,_,_,_,_,_,_,_,_,_,_,_,_,_,_,_,_,_,_,_,_,_,_,_,_,_,_,_,_,_,_,_,_,_,_,_,_,_,_,_,_,_,_,_,_,_,_,_,_,_,_,_,_,_,_,_,_,_,_,_,_,_,_,_,_,_,_,_,_,_,_,_,_,_,_,_,_,_,_,_,_,_,_,_,_,_,_,_,_,_,_,_,_,_,_,_,_,_], defers := _ } _
  refine tkH (i := 8) (v := .agg #[.int .i64 (s.W p).mc, .int .i64 (s.W p).mt]) rfl (by kernel_rfl) (by rfl) ?_ H ?_
  ·intro w' hSw; have KT := KWH.out.keep (w' := w') (hSw.block gw KWH.out.lt.2 NW.out); have q0 : w'.cell? ⟨gw, p * 5, none⟩ = some (.int .i64 (s.W p).mc) := KT.c pm 0 (by omega); have q1 : w'.cell? ⟨gw, p * 5 + 1, none⟩ = some (.int .i64 (s.W p).mt) := KT.c pm 1 (by omega); clear KT hSw; go_simp
  change wpAnyH _ _ _ _ _ _ _ { tmps := #[_,_,_,_,_,_,_,_,_,_,_,_,_,_,_,_,_,_,_,_,_,_,_,_,_,_,_,_,_,_,_,_,_,_,_,_,_,_,_,_,_,_,_,_,_,_,_,_,_,_,_,_,_,_,_,_,_,_,_,_,_,_,_,_,_,_,_,_,_,_,_,_,_,_,_,_,_,_,_,_,_,_,_,_,_,_,_,_,_,_,_,_,_,_,_,_,_,_,_,_,_,_,_,_,_,_,_,_,_,_,_,_,_,_,_,_,_,_,_,_,_,_,_,_,_,_,_,_,_,_,_,_,_,_,_,_,_,_,_,_,_,_,_,_,_,_,_,_,_,_,_,_,_,_,_,_,_,_,_,_,_,_,_,_,_,_,_,_,_,_,_,_,_,_,_,_,_,_,_,_,_,_,_,_,_,_,_,_,_,_,_,_,_,_,_,_,_,_,_,_,_,_,_,_,_,_,_,_,_,_,_,_,_,_,_,_,_,_,_,_,_,_,_,_,_,_,_,_,_,_,_,_,_,_,_,_,_,_,_,_,_,_,_,_,_,_,_,_,_,_,_,_,_,_,_,_,_,_,_,_,_,_,_,_,_,_,_,_,_,_,_,_,_,_,_,_,_,_,_,_,_,_,_,_,_,_,_,_,_,_,_,_,_,_,_,_,_,_,_,_,_,_,_,_,_,_,_,_,_,_,_,_,_,_,_,_,_,_,_,_,_,_], defers := _ } _
  refine rdH (i := 4) (by kernel_rfl) rfl (fun KK hK => ?_)
  have r1 : y0.cell? ⟨gr, k * 8 + 1, none⟩ = some (.int .i64 (s.R k).nc) := KX.out.c hk 1 (by omega)
  have r2 : y0.cell? ⟨gr, k * 8 + 2, none⟩ = some (.int .i64 (s.R k).nt) := KX.out.c hk 2 (by omega)
  go_simp
  refine hK.out _ _ H (fun _ => ?_)
  clear hK KK
  change wpAnyH _ _ _ _ _ _ _ { tmps := #[_,_,_,_,_,_,_,_,_,_,_,_,_,_,_,_,_,_,_,_,_,_,_,_,_,_,_,_,_,_,_,_,_,_,_,_,_,_,_,_,_,_,_,_,_,_,_,_,_,_,_,_,_,_,_,_,_,_,_,_,_,_,_,_,_,_,_,_,_,_,_,_,_,_,_,_,_,_,_,_,_,_,_,_,_,_,_,_,_,_,_,_,_,_,_,_,_,_,_,_,_,_,_,_,_,_,_,_,_,_,_,_,_,_,_,_,_,_,_,_,_,_,_,_,_,_,_,_,_,_,_,_,_,_,_,_,_,_,_,_,_,_,_,_,_,_,_,_,_,_,_,_,_,_,_,_,_,_,_,_,_,_,_,_,_,_,_,_,_,_,_,_,_,_,_,_,_,_,_,_,_,_,_,_,_,_,_,_,_,_,_,_,_,_,_,_,_,_,_,_,_,_,_,_,_,_,_,_,_,_,_,_,_,_,_,_,_,_,_,_,_,_,_,_,_,_,_,_,_,_,_,_,_,_,_,_,_,_,_,_,_,_,_,_,_,_,_,_,_,_,_,_,_,_,_,_,_,_,_,_,_,_,_,_,_,_,_,_,_,_,_,_,_,_,_,_,_,_,_,_,_,_,_,_,_,_,_,_,_,_,_,_,_,_,_,_,_,_,_,_,_,_,_,_,_,_,_,_,_,_,_,_,_,_,_,_,_,_,_,_,_,_], defers := _ } _
  refine rdH (i := 9) (by kernel_rfl) rfl (fun KK hK => ?_)
  go_simp
  refine (l09Later_any (s.R k).nc (s.R k).nt (s.W p).mc (s.W p).mt y0).mono ?_
  rintro e y1 ⟨rfl, hb⟩
  replace KX : Hid (RkR y1 B gr rc s.n s.R VR k (s.R k) (VR k)) := KX.out.below hb
  replace H : ChB (PG gr) v y1 := H.step hb
  obtain ⟨lc, hlc⟩ : ∃ x, x = (ltr (s.R k).nc (s.R k).nt (s.W p).mc (s.W p).mt).1 := ⟨_, rfl⟩
  obtain ⟨lt, hlt⟩ : ∃ x, x = (ltr (s.R k).nc (s.R k).nt (s.W p).mc (s.W p).mt).2 := ⟨_, rfl⟩
  rw [← hlc, ← hlt]
  have LT : Hid (lc = (ltr (s.R k).nc (s.R k).nt (s.W p).mc (s.W p).mt).1 ∧ lt = (ltr (s.R k).nc (s.R k).nt (s.W p).mc (s.W p).mt).2) := ⟨hlc, hlt⟩
  clear hlc hlt r1 r2
  clear hb
  refine hK.out _ _ H (fun _ => ?_)
  clear hK KK
  change wpAnyH _ _ _ _ _ _ _ { tmps := #[_,_,_,_,_,_,_,_,_,_,_,_,_,_,_,_,_,_,_,_,_,_,_,_,_,_,_,_,_,_,_,_,_,_,_,_,_,_,_,_,_,_,_,_,_,_,_,_,_,_,_,_,_,_,_,_,_,_,_,_,_,_,_,_,_,_,_,_,_,_,_,_,_,_,_,_,_,_,_,_,_,_,_,_,_,_,_,_,_,_,_,_,_,_,_,_,_,_,_,_,_,_,_,_,_,_,_,_,_,_,_,_,_,_,_,_,_,_,_,_,_,_,_,_,_,_,_,_,_,_,_,_,_,_,_,_,_,_,_,_,_,_,_,_,_,_,_,_,_,_,_,_,_,_,_,_,_,_,_,_,_,_,_,_,_,_,_,_,_,_,_,_,_,_,_,_,_,_,_,_,_,_,_,_,_,_,_,_,_,_,_,_,_,_,_,_,_,_,_,_,_,_,_,_,_,_,_,_,_,_,_,_,_,_,_,_,_,_,_,_,_,_,_,_,_,_,_,_,_,_,_,_,_,_,_,_,_,_,_,_,_,_,_,_,_,_,_,_,_,_,_,_,_,_,_,_,_,_,_,_,_,_,_,_,_,_,_,_,_,_,_,_,_,_,_,_,_,_,_,_,_,_,_,_,_,_,_,_,_,_,_,_,_,_,_,_,_,_,_,_,_,_,_,_,_,_,_,_,_,_,_,_,_,_,_,_,_,_,_,_,_,_], defers := _ } _
  refine tkH (i := 10) (v := .pointer (some ⟨gr, k * 8, none⟩)) rfl (by kernel_rfl) (by rfl) ?_ H ?_
  ·intro w' hSw; clear hSw; go_simp
  change wpAnyH _ _ _ _ _ _ _ { tmps := #[_,_,_,_,_,_,_,_,_,_,_,_,_,_,_,_,_,_,_,_,_,_,_,_,_,_,_,_,_,_,_,_,_,_,_,_,_,_,_,_,_,_,_,_,_,_,_,_,_,_,_,_,_,_,_,_,_,_,_,_,_,_,_,_,_,_,_,_,_,_,_,_,_,_,_,_,_,_,_,_,_,_,_,_,_,_,_,_,_,_,_,_,_,_,_,_,_,_,_,_,_,_,_,_,_,_,_,_,_,_,_,_,_,_,_,_,_,_,_,_,_,_,_,_,_,_,_,_,_,_,_,_,_,_,_,_,_,_,_,_,_,_,_,_,_,_,_,_,_,_,_,_,_,_,_,_,_,_,_,_,_,_,_,_,_,_,_,_,_,_,_,_,_,_,_,_,_,_,_,_,_,_,_,_,_,_,_,_,_,_,_,_,_,_,_,_,_,_,_,_,_,_,_,_,_,_,_,_,_,_,_,_,_,_,_,_,_,_,_,_,_,_,_,_,_,_,_,_,_,_,_,_,_,_,_,_,_,_,_,_,_,_,_,_,_,_,_,_,_,_,_,_,_,_,_,_,_,_,_,_,_,_,_,_,_,_,_,_,_,_,_,_,_,_,_,_,_,_,_,_,_,_,_,_,_,_,_,_,_,_,_,_,_,_,_,_,_,_,_,_,_,_,_,_,_,_,_,_,_,_,_,_,_,_,_,_,_,_,_,_,_,_], defers := _ } _
  refine tkH (i := 11) (v := .pointer (some ⟨gr, k * 8 + 1, none⟩)) rfl (by kernel_rfl) (by rfl) ?_ H ?_
  ·intro w' hSw; clear hSw; go_simp
  change wpAnyH _ _ _ _ _ _ _ { tmps := #[_,_,_,_,_,_,_,_,_,_,_,_,_,_,_,_,_,_,_,_,_,_,_,_,_,_,_,_,_,_,_,_,_,_,_,_,_,_,_,_,_,_,_,_,_,_,_,_,_,_,_,_,_,_,_,_,_,_,_,_,_,_,_,_,_,_,_,_,_,_,_,_,_,_,_,_,_,_,_,_,_,_,_,_,_,_,_,_,_,_,_,_,_,_,_,_,_,_,_,_,_,_,_,_,_,_,_,_,_,_,_,_,_,_,_,_,_,_,_,_,_,_,_,_,_,_,_,_,_,_,_,_,_,_,_,_,_,_,_,_,_,_,_,_,_,_,_,_,_,_,_,_,_,_,_,_,_,_,_,_,_,_,_,_,_,_,_,_,_,_,_,_,_,_,_,_,_,_,_,_,_,_,_,_,_,_,_,_,_,_,_,_,_,_,_,_,_,_,_,_,_,_,_,_,_,_,_,_,_,_,_,_,_,_,_,_,_,_,_,_,_,_,_,_,_,_,_,_,_,_,_,_,_,_,_,_,_,_,_,_,_,_,_,_,_,_,_,_,_,_,_,_,_,_,_,_,_,_,_,_,_,_,_,_,_,_,_,_,_,_,_,_,_,_,_,_,_,_,_,_,_,_,_,_,_,_,_,_,_,_,_,_,_,_,_,_,_,_,_,_,_,_,_,_,_,_,_,_,_,_,_,_,_,_,_,_,_,_,_,_,_,_], defers := _ } _
  refine rdH (i := 12) (by kernel_rfl) rfl (fun KK hK => ?_)
  have f1 := KX.out.fr hk 1 (by omega)
  have f2 := KX.out.fr hk 2 (by omega)
  have r1 : y1.cell? ⟨gr, k * 8 + 1, none⟩ = some (.int .i64 (s.R k).nc) := KX.out.c hk 1 (by omega)
  have r2 : y1.cell? ⟨gr, k * 8 + 2, none⟩ = some (.int .i64 (s.R k).nt) := KX.out.c hk 2 (by omega)
  go_simp
  have K2 : Hid (RkR ((y1.setCell ⟨gr, k * 8 + 1, none⟩ (.int .i64 lc)).setCell ⟨gr, k * 8 + 2, none⟩ (.int .i64 lt)) B gr rc s.n s.R VR k ((s.R k).take (s.W p).mc (s.W p).mt) (VR k)) := by have h9 := KX.out.now hk lc lt; unfold Rp.take; rw [← LT.out.1, ← LT.out.2]; exact h9
  replace H : ChB (PG gr) v ((y1.setCell ⟨gr, k * 8 + 1, none⟩ (.int .i64 lc)).setCell ⟨gr, k * 8 + 2, none⟩ (.int .i64 lt)) := (H.at gr (.inl rfl) _ _).at gr (.inl rfl) _ _
  clear r1 r2 f1 f2 KX
  generalize ((y1.setCell ⟨gr, k * 8 + 1, none⟩ (.int .i64 lc)).setCell ⟨gr, k * 8 + 2, none⟩ (.int .i64 lt)) = y2 at *
  refine hK.out _ _ H (fun _ => ?_)
  clear hK KK
  change wpAnyH _ _ _ _ _ _ _ { tmps := #[_,_,_,_,_,_,_,_,_,_,_,_,_,_,_,_,_,_,_,_,_,_,_,_,_,_,_,_,_,_,_,_,_,_,_,_,_,_,_,_,_,_,_,_,_,_,_,_,_,_,_,_,_,_,_,_,_,_,_,_,_,_,_,_,_,_,_,_,_,_,_,_,_,_,_,_,_,_,_,_,_,_,_,_,_,_,_,_,_,_,_,_,_,_,_,_,_,_,_,_,_,_,_,_,_,_,_,_,_,_,_,_,_,_,_,_,_,_,_,_,_,_,_,_,_,_,_,_,_,_,_,_,_,_,_,_,_,_,_,_,_,_,_,_,_,_,_,_,_,_,_,_,_,_,_,_,_,_,_,_,_,_,_,_,_,_,_,_,_,_,_,_,_,_,_,_,_,_,_,_,_,_,_,_,_,_,_,_,_,_,_,_,_,_,_,_,_,_,_,_,_,_,_,_,_,_,_,_,_,_,_,_,_,_,_,_,_,_,_,_,_,_,_,_,_,_,_,_,_,_,_,_,_,_,_,_,_,_,_,_,_,_,_,_,_,_,_,_,_,_,_,_,_,_,_,_,_,_,_,_,_,_,_,_,_,_,_,_,_,_,_,_,_,_,_,_,_,_,_,_,_,_,_,_,_,_,_,_,_,_,_,_,_,_,_,_,_,_,_,_,_,_,_,_,_,_,_,_,_,_,_,_,_,_,_,_,_,_,_,_,_,_], defers := _ } _
  refine wpAnyH_done (by kernel_rfl) ?_ _
  refine NoPanic.normal ?_
  have P2 : Hid (SvP NA y2 B sb { s with R := updE s.R k ((s.R k).take (s.W p).mc (s.W p).mt) } (.slice (some ⟨gr, 0, none⟩) s.n rc) (.slice (some ⟨gw, 0, none⟩) s.m wc) (.slice qa s.l qc) VR VW VQ) := PV.out.chR1 hk H K2.out rfl rfl
  have K3 : Hid (RkW y2 B gw wc s.m s.W VW p (s.W p) (VW p)) := KWH.out.keep (H.block gw KWH.out.lt.2 NW.out)
  have RB2 : Hid (Box4 y2 rb 28 (.slice none 0 0) (.int .i64 0) (.slice none 0 0) (.slice none 0 0)) := RB.out.ch H (PV.out.nbG (.inl rfl) RB.out (by decide) (by decide) (by decide))
  have B2 : Hid (B ≤ y2.heap.size ∧ Below B w y2) := ⟨Nat.le_trans BV.out.1 H.size, BV.out.2.trans (H.toBelow (fun g z => by unfold PG at z; rw [z]; exact PV.out.blk (.inl rfl)) BV.out.1)⟩
  clear H PV KWH RB BV KY K2 LT NW AB
  go_upto_region 39 with fail
  generalize y2 = v3 at *
  have IW := P2.out.o.a p pm
  obtain ⟨la, lcap, eV⟩ := EO.form IW
  have EV : Hid (VW p = .slice la (s.W p).ne lcap) := eV
  have IE0 : Hid (IE v3 B (.slice la (s.W p).ne lcap) (s.W p).ne (s.W p).E) := by rw [← eV]; exact IW
  have IK : Hid (idsOk s.n (s.W p).ne (s.W p).E ∧ (s.W p).ne ≤ 7) := ⟨(OK.out.2.1 p pm).2.2.2.1, by have := ids_le (OK.out.2.1 p pm).2.2.2.1; have := OK.out.1.1.2; omega⟩
  have CO : Hid (∀ z : Bool, z = sB (hasE (s.W p).ne (s.W p).E k) → Calls Try.prog 97 #[.slice la (s.W p).ne lcap, .int .i64 (k : Int)] v3 fun e w' => e = .returned (.bool z) ∧ v3 = w') := fun z hz => l09Has_any la (s.W p).ne lcap (s.W p).E k (by have := IK.out.2; omega) z hz v3 (IE.num IE0.out)
  have q2 : v3.cell? ⟨gw, p * 5 + 2, none⟩ = some (.slice la (s.W p).ne lcap) := by have := K3.out.c pm 2 (by omega); rw [← eV]; exact this
  clear IW eV
  by_cases hx : hasE (s.W p).ne (s.W p).E k
  ·have CH : Hid (Calls Try.prog 97 #[.slice la (s.W p).ne lcap, .int .i64 (k : Int)] v3 fun e w' => e = .returned (.bool true) ∧ v3 = w') := CO.out true (sB_yes hx).symm
   have AE : addE (s.W p).ne (s.W p).E k = ((s.W p).ne, (s.W p).E) := by unfold addE; rw [if_pos hx]
   clear CO hx
   go_wp2_with fail
   refine CH.out.mono ?_
   rintro e _ ⟨rfl, rfl⟩
   clear CH
   go_upto_region 41 with fail
   clear q2
   obtain ⟨ne', hne⟩ : ∃ x, x = (s.W p).ne := ⟨_, rfl⟩
   obtain ⟨W5, hW5⟩ : ∃ x : Wo, x = { s.W p with ne := ne', E := (addE (s.W p).ne (s.W p).E k).2 } := ⟨_, rfl⟩
   have HW5 : Hid (W5 = { s.W p with ne := ne', E := (addE (s.W p).ne (s.W p).E k).2 }) := hW5
   have HNE : Hid (ne' = (addE (s.W p).ne (s.W p).E k).1) := by show _ = _; rw [AE]; exact hne
   have WS : W5 = s.W p := by rw [hW5, hne, AE]
   have K5 : Hid (RkW v3 B gw wc s.m s.W VW p W5 (.slice la ne' lcap)) := by rw [WS, hne, ← EV.out]; exact K3.out
   have I5 : Hid (IE v3 B (.slice la ne' lcap) W5.ne W5.E) := by rw [WS, hne]; exact IE0.out
   have H5 : Hid (ChB (PR (.slice (some ⟨gw, 0, none⟩) s.m wc) VW p) v3 v3) := ChB.refl _ _
   have O5 : Hid (∀ g, (Value.slice la ne' lcap).ownBlock = some g → (VW p).ownBlock = some g ∨ v3.heap.size ≤ g) := fun g e => .inl (by rw [EV.out, ← hne]; exact e)
   clear AE hne hW5 WS
   have q4 : v3.cell? ⟨gw, p * 5 + 4, none⟩ = some (.int .i64 (s.W p).en) := by have h9 := K5.out.c pm 4 (by omega); rw [HW5.out] at h9; exact h9
   have tm := (OK.out.2.1 p pm).2.2.2.2
   have RB5 : Hid (Box4 v3 rb 28 (.slice none 0 0) (.int .i64 0) (.slice none 0 0) (.slice none 0 0)) := RB2.out.ch H5.out (P2.out.nbW pm RB2.out (by decide) (by decide))
   have q2 : v3.cell? ⟨gw, p * 5 + 2, none⟩ = some (.slice la ne' lcap) := K5.out.c pm 2 (by omega)
   by_cases he : (s.W p).en = -1
   ·have HE : Hid ((s.W p).en = -1) := he
    rw [he] at q4
    clear he tm
    have nl : ne' ≤ 1000 := by have h8 := addE_le (x := (k : Int)) IK.out.1; have := OK.out.1.1.2; have := HNE.out; omega
    by_cases hj : majN s.n ≤ ne'
    ·have hj' : ((majN s.n : Nat) : Int) ≤ ((ne' : Nat) : Int) := by omega
     have HJ : Hid (majN s.n ≤ ne') := hj
     clear hj
     have c1 := (P2.out.x.ch H5.out (P2.out.nbW pm P2.out.x (by decide) (by decide))).c1
     have f4 := K5.out.fr pm 4 (by omega)
     have K6 : Hid (RkW (v3.setCell ⟨gw, p * 5 + 4, none⟩ (.int .i64 s.t)) B gw wc s.m s.W VW p ((s.W p).ack s.n s.t k) (.slice la ne' lcap)) := by have h9 := K5.out.setN pm s.t; rw [HW5.out] at h9; unfold Wo.ack; rw [if_pos ⟨HE.out, HNE.out ▸ HJ.out⟩, ← HNE.out]; exact h9
     have I6 : Hid (IE (v3.setCell ⟨gw, p * 5 + 4, none⟩ (.int .i64 s.t)) B (.slice la ne' lcap) ((s.W p).ack s.n s.t k).ne ((s.W p).ack s.n s.t k).E) := by have h9 := IE.setOther I5.out K5.out (by decide) (p * 5 + 4) (.int .i64 s.t); rw [HW5.out] at h9; rw [HNE.out] at h9 ⊢; exact h9
     have H6 : Hid (ChB (PR (.slice (some ⟨gw, 0, none⟩) s.m wc) VW p) v3 (v3.setCell ⟨gw, p * 5 + 4, none⟩ (.int .i64 s.t))) := H5.out.at gw (.inl (.inl rfl)) _ _
     have RB6 : Hid (Box4 (v3.setCell ⟨gw, p * 5 + 4, none⟩ (.int .i64 s.t)) rb 28 (.slice none 0 0) (.int .i64 0) (.slice none 0 0) (.slice none 0 0)) := RB2.out.ch H6.out (P2.out.nbW pm RB2.out (by decide) (by decide))
     go_upto_region 55 with fail
     generalize (v3.setCell ⟨gw, p * 5 + 4, none⟩ (.int .i64 s.t)) = v6 at *
     clear c1 f4 q4 q2
     have PE := P2.out.chW pm H6.out K6.out I6.out O5.out
     have RE : Box4 v6 rb 28 (.slice none 0 0) (.int .i64 0) (.slice none 0 0) (.slice none 0 0) := RB6.out
     have k0 := PE.x.c0
     have y0 := RE.c0
     have u0 := RE.fr 0
     have k1 := PE.x.c1
     have y1 := RE.c1
     have u1 := RE.fr 1
     have k2 := PE.x.c2
     have y2 := RE.c2
     have u2 := RE.fr 2
     have k3 := PE.x.c3
     have y3 := RE.c3
     have u3 := RE.fr 3
     have X9 : Hid (Box4 ((((v6.setCell ⟨rb, 0, none⟩ (.slice (some ⟨gr, 0, none⟩) s.n rc)).setCell ⟨rb, 1, none⟩ (.int .i64 s.t)).setCell ⟨rb, 2, none⟩ (.slice (some ⟨gw, 0, none⟩) s.m wc)).setCell ⟨rb, 3, none⟩ (.slice qa s.l qc)) rb 28 (.slice (some ⟨gr, 0, none⟩) s.n rc) (.int .i64 s.t) (.slice (some ⟨gw, 0, none⟩) s.m wc) (.slice qa s.l qc)) := (((RE.set0 _).set1 _).set2 _).set3 _
     have Q9 : Hid (RetR B s _ (.returned (.tuple #[.agg #[.slice (some ⟨gr, 0, none⟩) s.n rc, .int .i64 s.t, .slice (some ⟨gw, 0, none⟩) s.m wc, .slice qa s.l qc], .int .i64 0])) ((((v6.setCell ⟨rb, 0, none⟩ (.slice (some ⟨gr, 0, none⟩) s.n rc)).setCell ⟨rb, 1, none⟩ (.int .i64 s.t)).setCell ⟨rb, 2, none⟩ (.slice (some ⟨gw, 0, none⟩) s.m wc)).setCell ⟨rb, 3, none⟩ (.slice qa s.l qc))) := retR_end (s' := { s with R := updE s.R k ((s.R k).take (s.W p).mc (s.W p).mt), W := updE s.W p ((s.W p).ack s.n s.t k) }) (by have h := ActS.store (s := s) (a := ⟨2, k, an⟩) k hk rfl rfl (by have := HP.out; omega) HU.out; rw [← HP.out] at h; exact h) PE RE
     have B9 : Hid (Below B w ((((v6.setCell ⟨rb, 0, none⟩ (.slice (some ⟨gr, 0, none⟩) s.n rc)).setCell ⟨rb, 1, none⟩ (.int .i64 s.t)).setCell ⟨rb, 2, none⟩ (.slice (some ⟨gw, 0, none⟩) s.m wc)).setCell ⟨rb, 3, none⟩ (.slice qa s.l qc))) := below_res (B2.out.2.trans (H6.out.toBelow (fun g z => (PR.geW P2.out pm g z).1) B2.out.1)) (by have := DI.out; omega) _ _ _ _
     clear PE RE P2 K3 RB2 B2 IE0 IK EV K5 I5 H5 O5 HW5 HNE RB5 OK DI HSB HU HP HE HJ K6 I6 H6 RB6
     go_wp2
     exact ret_cell2 (b := rb) Try.results74 rfl rfl (Box4.loadsv X9.out) ⟨Q9.out, B9.out⟩
    ·have hj' : ¬ ((majN s.n : Nat) : Int) ≤ ((ne' : Nat) : Int) := by omega
     have HJ : Hid (¬ majN s.n ≤ ne') := hj
     clear hj
     have WE : Hid (W5 = (s.W p).ack s.n s.t k) := by show _ = _; rw [HW5.out]; unfold Wo.ack; rw [if_neg (fun q => HJ.out (HNE.out ▸ q.2)), ← HNE.out]
     go_upto_region 55 with fail
     clear q4 q2
     have PE := P2.out.chW pm H5.out (WE.out ▸ K5.out) (WE.out ▸ I5.out) O5.out
     have RE : Box4 v3 rb 28 (.slice none 0 0) (.int .i64 0) (.slice none 0 0) (.slice none 0 0) := RB5.out
     have k0 := PE.x.c0
     have y0 := RE.c0
     have u0 := RE.fr 0
     have k1 := PE.x.c1
     have y1 := RE.c1
     have u1 := RE.fr 1
     have k2 := PE.x.c2
     have y2 := RE.c2
     have u2 := RE.fr 2
     have k3 := PE.x.c3
     have y3 := RE.c3
     have u3 := RE.fr 3
     have X9 : Hid (Box4 ((((v3.setCell ⟨rb, 0, none⟩ (.slice (some ⟨gr, 0, none⟩) s.n rc)).setCell ⟨rb, 1, none⟩ (.int .i64 s.t)).setCell ⟨rb, 2, none⟩ (.slice (some ⟨gw, 0, none⟩) s.m wc)).setCell ⟨rb, 3, none⟩ (.slice qa s.l qc)) rb 28 (.slice (some ⟨gr, 0, none⟩) s.n rc) (.int .i64 s.t) (.slice (some ⟨gw, 0, none⟩) s.m wc) (.slice qa s.l qc)) := (((RE.set0 _).set1 _).set2 _).set3 _
     have Q9 : Hid (RetR B s _ (.returned (.tuple #[.agg #[.slice (some ⟨gr, 0, none⟩) s.n rc, .int .i64 s.t, .slice (some ⟨gw, 0, none⟩) s.m wc, .slice qa s.l qc], .int .i64 0])) ((((v3.setCell ⟨rb, 0, none⟩ (.slice (some ⟨gr, 0, none⟩) s.n rc)).setCell ⟨rb, 1, none⟩ (.int .i64 s.t)).setCell ⟨rb, 2, none⟩ (.slice (some ⟨gw, 0, none⟩) s.m wc)).setCell ⟨rb, 3, none⟩ (.slice qa s.l qc))) := retR_end (s' := { s with R := updE s.R k ((s.R k).take (s.W p).mc (s.W p).mt), W := updE s.W p ((s.W p).ack s.n s.t k) }) (by have h := ActS.store (s := s) (a := ⟨2, k, an⟩) k hk rfl rfl (by have := HP.out; omega) HU.out; rw [← HP.out] at h; exact h) PE RE
     have B9 : Hid (Below B w ((((v3.setCell ⟨rb, 0, none⟩ (.slice (some ⟨gr, 0, none⟩) s.n rc)).setCell ⟨rb, 1, none⟩ (.int .i64 s.t)).setCell ⟨rb, 2, none⟩ (.slice (some ⟨gw, 0, none⟩) s.m wc)).setCell ⟨rb, 3, none⟩ (.slice qa s.l qc))) := below_res (B2.out.2.trans (H5.out.toBelow (fun g z => (PR.geW P2.out pm g z).1) B2.out.1)) (by have := DI.out; omega) _ _ _ _
     clear PE RE P2 K3 RB2 B2 IE0 IK EV K5 I5 H5 O5 HW5 HNE RB5 OK DI HSB HU HP HE HJ WE
     go_wp2
     exact ret_cell2 (b := rb) Try.results74 rfl rfl (Box4.loadsv X9.out) ⟨Q9.out, B9.out⟩
   ·have hge : ¬ (s.W p).en < 0 := by have h1 := tm.1.1; have h2 := tm.2; omega
    have HE : Hid (¬ (s.W p).en = -1) := he
    clear he tm
    have WE : Hid (W5 = (s.W p).ack s.n s.t k) := by show _ = _; rw [HW5.out]; unfold Wo.ack; rw [if_neg (fun q => HE.out q.1), ← HNE.out]
    go_upto_region 55 with fail
    clear q4 q2
    have PE := P2.out.chW pm H5.out (WE.out ▸ K5.out) (WE.out ▸ I5.out) O5.out
    have RE : Box4 v3 rb 28 (.slice none 0 0) (.int .i64 0) (.slice none 0 0) (.slice none 0 0) := RB5.out
    have k0 := PE.x.c0
    have y0 := RE.c0
    have u0 := RE.fr 0
    have k1 := PE.x.c1
    have y1 := RE.c1
    have u1 := RE.fr 1
    have k2 := PE.x.c2
    have y2 := RE.c2
    have u2 := RE.fr 2
    have k3 := PE.x.c3
    have y3 := RE.c3
    have u3 := RE.fr 3
    have X9 : Hid (Box4 ((((v3.setCell ⟨rb, 0, none⟩ (.slice (some ⟨gr, 0, none⟩) s.n rc)).setCell ⟨rb, 1, none⟩ (.int .i64 s.t)).setCell ⟨rb, 2, none⟩ (.slice (some ⟨gw, 0, none⟩) s.m wc)).setCell ⟨rb, 3, none⟩ (.slice qa s.l qc)) rb 28 (.slice (some ⟨gr, 0, none⟩) s.n rc) (.int .i64 s.t) (.slice (some ⟨gw, 0, none⟩) s.m wc) (.slice qa s.l qc)) := (((RE.set0 _).set1 _).set2 _).set3 _
    have Q9 : Hid (RetR B s _ (.returned (.tuple #[.agg #[.slice (some ⟨gr, 0, none⟩) s.n rc, .int .i64 s.t, .slice (some ⟨gw, 0, none⟩) s.m wc, .slice qa s.l qc], .int .i64 0])) ((((v3.setCell ⟨rb, 0, none⟩ (.slice (some ⟨gr, 0, none⟩) s.n rc)).setCell ⟨rb, 1, none⟩ (.int .i64 s.t)).setCell ⟨rb, 2, none⟩ (.slice (some ⟨gw, 0, none⟩) s.m wc)).setCell ⟨rb, 3, none⟩ (.slice qa s.l qc))) := retR_end (s' := { s with R := updE s.R k ((s.R k).take (s.W p).mc (s.W p).mt), W := updE s.W p ((s.W p).ack s.n s.t k) }) (by have h := ActS.store (s := s) (a := ⟨2, k, an⟩) k hk rfl rfl (by have := HP.out; omega) HU.out; rw [← HP.out] at h; exact h) PE RE
    have B9 : Hid (Below B w ((((v3.setCell ⟨rb, 0, none⟩ (.slice (some ⟨gr, 0, none⟩) s.n rc)).setCell ⟨rb, 1, none⟩ (.int .i64 s.t)).setCell ⟨rb, 2, none⟩ (.slice (some ⟨gw, 0, none⟩) s.m wc)).setCell ⟨rb, 3, none⟩ (.slice qa s.l qc))) := below_res (B2.out.2.trans (H5.out.toBelow (fun g z => (PR.geW P2.out pm g z).1) B2.out.1)) (by have := DI.out; omega) _ _ _ _
    clear PE RE P2 K3 RB2 B2 IE0 IK EV K5 I5 H5 O5 HW5 HNE RB5 OK DI HSB HU HP HE WE
    go_wp2
    exact ret_cell2 (b := rb) Try.results74 rfl rfl (Box4.loadsv X9.out) ⟨Q9.out, B9.out⟩
  ·have CH : Hid (Calls Try.prog 97 #[.slice la (s.W p).ne lcap, .int .i64 (k : Int)] v3 fun e w' => e = .returned (.bool false) ∧ v3 = w') := CO.out false (sB_no hx).symm
   have AE : addE (s.W p).ne (s.W p).E k = ((s.W p).ne + 1, insE (s.W p).E (plcE (k : Int) (s.W p).E (s.W p).ne) k) := addE_new hx
   have AH : Hid (Calls Try.prog 98 #[.slice la (s.W p).ne lcap, .int .i64 (k : Int)] v3 fun e w' => (∃ b d, e = .returned (.slice b ((s.W p).ne + 1) d) ∧ IE w' v3.heap.size (.slice b ((s.W p).ne + 1) d) ((s.W p).ne + 1) (insE (s.W p).E (plcE (k : Int) (s.W p).E (s.W p).ne) k)) ∧ Below v3.heap.size v3 w') := l09Add_any la (s.W p).ne lcap (s.W p).E k (by have := IK.out.2; omega) (EO.slp IE0.out) v3 (IE.num IE0.out)
   clear CO hx
   go_wp2_with fail
   refine CH.out.mono ?_
   rintro e _ ⟨rfl, rfl⟩
   clear CH
   go_wp2_with fail
   refine AH.out.mono ?_
   rintro e v4 ⟨⟨xb, xd, rfl, hI⟩, hb⟩
   clear AH q2
   obtain ⟨ne', hne⟩ : ∃ x, x = (s.W p).ne + 1 := ⟨_, rfl⟩
   rw [← hne] at hI ⊢
   obtain ⟨W5, hW5⟩ : ∃ x : Wo, x = { s.W p with ne := ne', E := (addE (s.W p).ne (s.W p).E k).2 } := ⟨_, rfl⟩
   have HW5 : Hid (W5 = { s.W p with ne := ne', E := (addE (s.W p).ne (s.W p).E k).2 }) := hW5
   have HNE : Hid (ne' = (addE (s.W p).ne (s.W p).E k).1) := by show _ = _; rw [AE]; exact hne
   have K4 := K3.out.below hb
   have f2 := K4.fr pm 2 (by omega)
   have q2 : v4.cell? ⟨gw, p * 5 + 2, none⟩ = some (VW p) := K4.c pm 2 (by omega)
   have K5 : Hid (RkW (v4.setCell ⟨gw, p * 5 + 2, none⟩ (.slice xb ne' xd)) B gw wc s.m s.W VW p W5 (.slice xb ne' xd)) := by rw [hW5]; exact K4.setE pm _ _ _
   have I5 : Hid (IE (v4.setCell ⟨gw, p * 5 + 2, none⟩ (.slice xb ne' xd)) B (.slice xb ne' xd) W5.ne W5.E) := by rw [hW5, AE]; exact IE.setOther (EO.mono hI B2.out.1) K4 (by decide) _ _
   have H5 : Hid (ChB (PR (.slice (some ⟨gw, 0, none⟩) s.m wc) VW p) v3 (v4.setCell ⟨gw, p * 5 + 2, none⟩ (.slice xb ne' xd))) := ((ChB.refl _ _).step hb).at gw (.inl (.inl rfl)) _ _
   have O5 : Hid (∀ g, (Value.slice xb ne' xd).ownBlock = some g → (VW p).ownBlock = some g ∨ v3.heap.size ≤ g) := fun g e => .inr (EO.ge hI g e).1
   clear AE hne hW5 hI hb K4
   go_upto_region 41 with fail
   generalize (v4.setCell ⟨gw, p * 5 + 2, none⟩ (.slice xb ne' xd)) = v5 at *
   clear q2 f2
   have q4 : v5.cell? ⟨gw, p * 5 + 4, none⟩ = some (.int .i64 (s.W p).en) := by have h9 := K5.out.c pm 4 (by omega); rw [HW5.out] at h9; exact h9
   have tm := (OK.out.2.1 p pm).2.2.2.2
   have RB5 : Hid (Box4 v5 rb 28 (.slice none 0 0) (.int .i64 0) (.slice none 0 0) (.slice none 0 0)) := RB2.out.ch H5.out (P2.out.nbW pm RB2.out (by decide) (by decide))
   have q2 : v5.cell? ⟨gw, p * 5 + 2, none⟩ = some (.slice xb ne' xd) := K5.out.c pm 2 (by omega)
   by_cases he : (s.W p).en = -1
   ·have HE : Hid ((s.W p).en = -1) := he
    rw [he] at q4
    clear he tm
    have nl : ne' ≤ 1000 := by have h8 := addE_le (x := (k : Int)) IK.out.1; have := OK.out.1.1.2; have := HNE.out; omega
    by_cases hj : majN s.n ≤ ne'
    ·have hj' : ((majN s.n : Nat) : Int) ≤ ((ne' : Nat) : Int) := by omega
     have HJ : Hid (majN s.n ≤ ne') := hj
     clear hj
     have c1 := (P2.out.x.ch H5.out (P2.out.nbW pm P2.out.x (by decide) (by decide))).c1
     have f4 := K5.out.fr pm 4 (by omega)
     have K6 : Hid (RkW (v5.setCell ⟨gw, p * 5 + 4, none⟩ (.int .i64 s.t)) B gw wc s.m s.W VW p ((s.W p).ack s.n s.t k) (.slice xb ne' xd)) := by have h9 := K5.out.setN pm s.t; rw [HW5.out] at h9; unfold Wo.ack; rw [if_pos ⟨HE.out, HNE.out ▸ HJ.out⟩, ← HNE.out]; exact h9
     have I6 : Hid (IE (v5.setCell ⟨gw, p * 5 + 4, none⟩ (.int .i64 s.t)) B (.slice xb ne' xd) ((s.W p).ack s.n s.t k).ne ((s.W p).ack s.n s.t k).E) := by have h9 := IE.setOther I5.out K5.out (by decide) (p * 5 + 4) (.int .i64 s.t); rw [HW5.out] at h9; rw [HNE.out] at h9 ⊢; exact h9
     have H6 : Hid (ChB (PR (.slice (some ⟨gw, 0, none⟩) s.m wc) VW p) v3 (v5.setCell ⟨gw, p * 5 + 4, none⟩ (.int .i64 s.t))) := H5.out.at gw (.inl (.inl rfl)) _ _
     have RB6 : Hid (Box4 (v5.setCell ⟨gw, p * 5 + 4, none⟩ (.int .i64 s.t)) rb 28 (.slice none 0 0) (.int .i64 0) (.slice none 0 0) (.slice none 0 0)) := RB2.out.ch H6.out (P2.out.nbW pm RB2.out (by decide) (by decide))
     go_upto_region 55 with fail
     generalize (v5.setCell ⟨gw, p * 5 + 4, none⟩ (.int .i64 s.t)) = v6 at *
     clear c1 f4 q4 q2
     have PE := P2.out.chW pm H6.out K6.out I6.out O5.out
     have RE : Box4 v6 rb 28 (.slice none 0 0) (.int .i64 0) (.slice none 0 0) (.slice none 0 0) := RB6.out
     have k0 := PE.x.c0
     have y0 := RE.c0
     have u0 := RE.fr 0
     have k1 := PE.x.c1
     have y1 := RE.c1
     have u1 := RE.fr 1
     have k2 := PE.x.c2
     have y2 := RE.c2
     have u2 := RE.fr 2
     have k3 := PE.x.c3
     have y3 := RE.c3
     have u3 := RE.fr 3
     have X9 : Hid (Box4 ((((v6.setCell ⟨rb, 0, none⟩ (.slice (some ⟨gr, 0, none⟩) s.n rc)).setCell ⟨rb, 1, none⟩ (.int .i64 s.t)).setCell ⟨rb, 2, none⟩ (.slice (some ⟨gw, 0, none⟩) s.m wc)).setCell ⟨rb, 3, none⟩ (.slice qa s.l qc)) rb 28 (.slice (some ⟨gr, 0, none⟩) s.n rc) (.int .i64 s.t) (.slice (some ⟨gw, 0, none⟩) s.m wc) (.slice qa s.l qc)) := (((RE.set0 _).set1 _).set2 _).set3 _
     have Q9 : Hid (RetR B s _ (.returned (.tuple #[.agg #[.slice (some ⟨gr, 0, none⟩) s.n rc, .int .i64 s.t, .slice (some ⟨gw, 0, none⟩) s.m wc, .slice qa s.l qc], .int .i64 0])) ((((v6.setCell ⟨rb, 0, none⟩ (.slice (some ⟨gr, 0, none⟩) s.n rc)).setCell ⟨rb, 1, none⟩ (.int .i64 s.t)).setCell ⟨rb, 2, none⟩ (.slice (some ⟨gw, 0, none⟩) s.m wc)).setCell ⟨rb, 3, none⟩ (.slice qa s.l qc))) := retR_end (s' := { s with R := updE s.R k ((s.R k).take (s.W p).mc (s.W p).mt), W := updE s.W p ((s.W p).ack s.n s.t k) }) (by have h := ActS.store (s := s) (a := ⟨2, k, an⟩) k hk rfl rfl (by have := HP.out; omega) HU.out; rw [← HP.out] at h; exact h) PE RE
     have B9 : Hid (Below B w ((((v6.setCell ⟨rb, 0, none⟩ (.slice (some ⟨gr, 0, none⟩) s.n rc)).setCell ⟨rb, 1, none⟩ (.int .i64 s.t)).setCell ⟨rb, 2, none⟩ (.slice (some ⟨gw, 0, none⟩) s.m wc)).setCell ⟨rb, 3, none⟩ (.slice qa s.l qc))) := below_res (B2.out.2.trans (H6.out.toBelow (fun g z => (PR.geW P2.out pm g z).1) B2.out.1)) (by have := DI.out; omega) _ _ _ _
     clear PE RE P2 K3 RB2 B2 IE0 IK EV K5 I5 H5 O5 HW5 HNE RB5 OK DI HSB HU HP HE HJ K6 I6 H6 RB6
     go_wp2
     exact ret_cell2 (b := rb) Try.results74 rfl rfl (Box4.loadsv X9.out) ⟨Q9.out, B9.out⟩
    ·have hj' : ¬ ((majN s.n : Nat) : Int) ≤ ((ne' : Nat) : Int) := by omega
     have HJ : Hid (¬ majN s.n ≤ ne') := hj
     clear hj
     have WE : Hid (W5 = (s.W p).ack s.n s.t k) := by show _ = _; rw [HW5.out]; unfold Wo.ack; rw [if_neg (fun q => HJ.out (HNE.out ▸ q.2)), ← HNE.out]
     go_upto_region 55 with fail
     clear q4 q2
     have PE := P2.out.chW pm H5.out (WE.out ▸ K5.out) (WE.out ▸ I5.out) O5.out
     have RE : Box4 v5 rb 28 (.slice none 0 0) (.int .i64 0) (.slice none 0 0) (.slice none 0 0) := RB5.out
     have k0 := PE.x.c0
     have y0 := RE.c0
     have u0 := RE.fr 0
     have k1 := PE.x.c1
     have y1 := RE.c1
     have u1 := RE.fr 1
     have k2 := PE.x.c2
     have y2 := RE.c2
     have u2 := RE.fr 2
     have k3 := PE.x.c3
     have y3 := RE.c3
     have u3 := RE.fr 3
     have X9 : Hid (Box4 ((((v5.setCell ⟨rb, 0, none⟩ (.slice (some ⟨gr, 0, none⟩) s.n rc)).setCell ⟨rb, 1, none⟩ (.int .i64 s.t)).setCell ⟨rb, 2, none⟩ (.slice (some ⟨gw, 0, none⟩) s.m wc)).setCell ⟨rb, 3, none⟩ (.slice qa s.l qc)) rb 28 (.slice (some ⟨gr, 0, none⟩) s.n rc) (.int .i64 s.t) (.slice (some ⟨gw, 0, none⟩) s.m wc) (.slice qa s.l qc)) := (((RE.set0 _).set1 _).set2 _).set3 _
     have Q9 : Hid (RetR B s _ (.returned (.tuple #[.agg #[.slice (some ⟨gr, 0, none⟩) s.n rc, .int .i64 s.t, .slice (some ⟨gw, 0, none⟩) s.m wc, .slice qa s.l qc], .int .i64 0])) ((((v5.setCell ⟨rb, 0, none⟩ (.slice (some ⟨gr, 0, none⟩) s.n rc)).setCell ⟨rb, 1, none⟩ (.int .i64 s.t)).setCell ⟨rb, 2, none⟩ (.slice (some ⟨gw, 0, none⟩) s.m wc)).setCell ⟨rb, 3, none⟩ (.slice qa s.l qc))) := retR_end (s' := { s with R := updE s.R k ((s.R k).take (s.W p).mc (s.W p).mt), W := updE s.W p ((s.W p).ack s.n s.t k) }) (by have h := ActS.store (s := s) (a := ⟨2, k, an⟩) k hk rfl rfl (by have := HP.out; omega) HU.out; rw [← HP.out] at h; exact h) PE RE
     have B9 : Hid (Below B w ((((v5.setCell ⟨rb, 0, none⟩ (.slice (some ⟨gr, 0, none⟩) s.n rc)).setCell ⟨rb, 1, none⟩ (.int .i64 s.t)).setCell ⟨rb, 2, none⟩ (.slice (some ⟨gw, 0, none⟩) s.m wc)).setCell ⟨rb, 3, none⟩ (.slice qa s.l qc))) := below_res (B2.out.2.trans (H5.out.toBelow (fun g z => (PR.geW P2.out pm g z).1) B2.out.1)) (by have := DI.out; omega) _ _ _ _
     clear PE RE P2 K3 RB2 B2 IE0 IK EV K5 I5 H5 O5 HW5 HNE RB5 OK DI HSB HU HP HE HJ WE
     go_wp2
     exact ret_cell2 (b := rb) Try.results74 rfl rfl (Box4.loadsv X9.out) ⟨Q9.out, B9.out⟩
   ·have hge : ¬ (s.W p).en < 0 := by have h1 := tm.1.1; have h2 := tm.2; omega
    have HE : Hid (¬ (s.W p).en = -1) := he
    clear he tm
    have WE : Hid (W5 = (s.W p).ack s.n s.t k) := by show _ = _; rw [HW5.out]; unfold Wo.ack; rw [if_neg (fun q => HE.out q.1), ← HNE.out]
    go_upto_region 55 with fail
    clear q4 q2
    have PE := P2.out.chW pm H5.out (WE.out ▸ K5.out) (WE.out ▸ I5.out) O5.out
    have RE : Box4 v5 rb 28 (.slice none 0 0) (.int .i64 0) (.slice none 0 0) (.slice none 0 0) := RB5.out
    have k0 := PE.x.c0
    have y0 := RE.c0
    have u0 := RE.fr 0
    have k1 := PE.x.c1
    have y1 := RE.c1
    have u1 := RE.fr 1
    have k2 := PE.x.c2
    have y2 := RE.c2
    have u2 := RE.fr 2
    have k3 := PE.x.c3
    have y3 := RE.c3
    have u3 := RE.fr 3
    have X9 : Hid (Box4 ((((v5.setCell ⟨rb, 0, none⟩ (.slice (some ⟨gr, 0, none⟩) s.n rc)).setCell ⟨rb, 1, none⟩ (.int .i64 s.t)).setCell ⟨rb, 2, none⟩ (.slice (some ⟨gw, 0, none⟩) s.m wc)).setCell ⟨rb, 3, none⟩ (.slice qa s.l qc)) rb 28 (.slice (some ⟨gr, 0, none⟩) s.n rc) (.int .i64 s.t) (.slice (some ⟨gw, 0, none⟩) s.m wc) (.slice qa s.l qc)) := (((RE.set0 _).set1 _).set2 _).set3 _
    have Q9 : Hid (RetR B s _ (.returned (.tuple #[.agg #[.slice (some ⟨gr, 0, none⟩) s.n rc, .int .i64 s.t, .slice (some ⟨gw, 0, none⟩) s.m wc, .slice qa s.l qc], .int .i64 0])) ((((v5.setCell ⟨rb, 0, none⟩ (.slice (some ⟨gr, 0, none⟩) s.n rc)).setCell ⟨rb, 1, none⟩ (.int .i64 s.t)).setCell ⟨rb, 2, none⟩ (.slice (some ⟨gw, 0, none⟩) s.m wc)).setCell ⟨rb, 3, none⟩ (.slice qa s.l qc))) := retR_end (s' := { s with R := updE s.R k ((s.R k).take (s.W p).mc (s.W p).mt), W := updE s.W p ((s.W p).ack s.n s.t k) }) (by have h := ActS.store (s := s) (a := ⟨2, k, an⟩) k hk rfl rfl (by have := HP.out; omega) HU.out; rw [← HP.out] at h; exact h) PE RE
    have B9 : Hid (Below B w ((((v5.setCell ⟨rb, 0, none⟩ (.slice (some ⟨gr, 0, none⟩) s.n rc)).setCell ⟨rb, 1, none⟩ (.int .i64 s.t)).setCell ⟨rb, 2, none⟩ (.slice (some ⟨gw, 0, none⟩) s.m wc)).setCell ⟨rb, 3, none⟩ (.slice qa s.l qc))) := below_res (B2.out.2.trans (H5.out.toBelow (fun g z => (PR.geW P2.out pm g z).1) B2.out.1)) (by have := DI.out; omega) _ _ _ _
    clear PE RE P2 K3 RB2 B2 IE0 IK EV K5 I5 H5 O5 HW5 HNE RB5 OK DI HSB HU HP HE WE
    go_wp2
    exact ret_cell2 (b := rb) Try.results74 rfl rfl (Box4.loadsv X9.out) ⟨Q9.out, B9.out⟩
end Go.Proofs.Ytedncfcmhaaobaa
