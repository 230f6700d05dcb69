/-
  Texts of the proof, joined: QuPa.
-/
import Derived.Test.YtedncfcmhaaobaaV34
import Derived.Deep.Cut
namespace Go.Proofs.Ytedncfcmhaaobaa
open Go.ChangeShapes Go.WideShapes Go.ChangeAt Go.RowKit
set_option linter.unusedVariables false
set_option maxRecDepth 100000 in
set_option maxHeartbeats 8000000 in
theorem rep_save (B : Nat) (s : Sv) (an : Int) (k : Nat) (hk : k < s.n) (ok : s.Ok) (w : World) (hB : B ≤ w.heap.size) (vr vw vq : Value) (VR VW VQ : Nat → Value) (ho : SvO w B s vr vw vq VR VW VQ) (hd : SvD s VR VW VQ) :
  Calls Try.prog 74 #[.agg #[vr, .int .i64 s.t, vw, vq], .agg #[.int .i64 5, .int .i64 (k : Int), .int .i64 an]] w fun e w' => RetR B s ⟨5, k, an⟩ e w' ∧ Below B w w' := by
 obtain ⟨ra, rc, rfl⟩ := ho.r.form
 obtain ⟨wa, wc, rfl⟩ := ho.x.form
 obtain ⟨qa, qc, rfl⟩ := ho.q.form
 have b3 : Below w.heap.size w (((w.alloc (.cells #[.slice ra s.n rc, .int .i64 s.t, .slice wa s.m wc, .slice qa s.l qc] 28)).alloc (.cells #[.int .i64 5, .int .i64 (k : Int), .int .i64 an] 41)).alloc (.cells #[.slice none 0 0, .int .i64 0, .slice none 0 0, .slice none 0 0] 28)) := (((Below.refl w.heap.size w).alloc (Nat.le_refl _) _).alloc (by simp) _).alloc (by simp; omega) _
 have PV : Hid (SvP NA (((w.alloc (.cells #[.slice ra s.n rc, .int .i64 s.t, .slice wa s.m wc, .slice qa s.l qc] 28)).alloc (.cells #[.int .i64 5, .int .i64 (k : Int), .int .i64 an] 41)).alloc (.cells #[.slice none 0 0, .int .i64 0, .slice none 0 0, .slice none 0 0] 28)) B w.heap.size s (.slice ra s.n rc) (.slice wa s.m wc) (.slice qa s.l qc) VR VW VQ) := SvP.made hB (((Box4.madeAt rfl _ _ _ _ _).alloc _).alloc _) (ho.below b3) hd
 have AB : Hid (Box3 (((w.alloc (.cells #[.slice ra s.n rc, .int .i64 s.t, .slice wa s.m wc, .slice qa s.l qc] 28)).alloc (.cells #[.int .i64 5, .int .i64 (k : Int), .int .i64 an] 41)).alloc (.cells #[.slice none 0 0, .int .i64 0, .slice none 0 0, .slice none 0 0] 28)) (w.heap.size + 1) 41 (.int .i64 5) (.int .i64 (k : Int)) (.int .i64 an)) := (Box3.madeAt (by simp) _ _ _ _).alloc _
 have RB : Hid (Box4 (((w.alloc (.cells #[.slice ra s.n rc, .int .i64 s.t, .slice wa s.m wc, .slice qa s.l qc] 28)).alloc (.cells #[.int .i64 5, .int .i64 (k : Int), .int .i64 an] 41)).alloc (.cells #[.slice none 0 0, .int .i64 0, .slice none 0 0, .slice none 0 0] 28)) (w.heap.size + 1 + 1) 28 (.slice none 0 0) (.int .i64 0) (.slice none 0 0) (.slice none 0 0)) := Box4.madeAt (by simp) _ _ _ _ _
 have BV : Hid (B ≤ (((w.alloc (.cells #[.slice ra s.n rc, .int .i64 s.t, .slice wa s.m wc, .slice qa s.l qc] 28)).alloc (.cells #[.int .i64 5, .int .i64 (k : Int), .int .i64 an] 41)).alloc (.cells #[.slice none 0 0, .int .i64 0, .slice none 0 0, .slice none 0 0] 28)).heap.size ∧ Below B w (((w.alloc (.cells #[.slice ra s.n rc, .int .i64 s.t, .slice wa s.m wc, .slice qa s.l qc] 28)).alloc (.cells #[.int .i64 5, .int .i64 (k : Int), .int .i64 an] 41)).alloc (.cells #[.slice none 0 0, .int .i64 0, .slice none 0 0, .slice none 0 0] 28))) := ⟨Nat.le_trans hB b3.size, b3.mono hB⟩
 have SZ : Hid (∀ w : World, Calls Try.prog 95 #[.int .i64 (s.n : Int)] w fun e w' => e = .returned (.int .i64 ((majN s.n : Nat) : Int)) ∧ w = w') := fun w => by
  have h := l09Size_any (s.n : Int) (by have := ok.1.1; omega) w
  rwa [show (s.n : Int) / 2 + 1 = ((majN s.n : Nat) : Int) by unfold majN; omega] at h
 have OK : Hid s.Ok := ok
 have klt : (k : Int) < (s.n : Int) := by omega
 clear b3 ho hd ok
 go_enter Try.func74, Try.ntmps74
 go_upto_region 1 with fail
 generalize (((w.alloc (.cells #[.slice ra s.n rc, .int .i64 s.t, .slice wa s.m wc, .slice qa s.l qc] 28)).alloc (.cells #[.int .i64 5, .int .i64 (k : Int), .int .i64 an] 41)).alloc (.cells #[.slice none 0 0, .int .i64 0, .slice none 0 0, .slice none 0 0] 28)) = v at *
 obtain ⟨ab, hab⟩ : ∃ x, x = w.heap.size + 1 := ⟨_, rfl⟩
 obtain ⟨rb, hrb⟩ : ∃ x, x = w.heap.size + 1 + 1 := ⟨_, rfl⟩
 have DI : Hid (B ≤ w.heap.size ∧ w.heap.size < ab ∧ ab < rb) := ⟨hB, by omega, by omega⟩
 rw [← hrb, ← hab]
 rw [← hab] at AB
 rw [← hrb] at RB
 clear hab hrb hB
 obtain ⟨sb, hsb⟩ : ∃ x, x = w.heap.size := ⟨_, rfl⟩
 have HSB : Hid (sb = w.heap.size) := hsb
 rw [← hsb] at PV DI ⊢
 clear hsb
 obtain ⟨gr, ea, -, -, KR⟩ := RkR.start PV.out.o.r hk
 subst ea
 have KY : Hid (RkR v B gr rc s.n s.R VR k (s.R k) (VR k)) := KR
 clear KR
 have c0 := PV.out.x.c0
 have x0 := AB.out.c0
 have x1 := AB.out.c1
 go_wp2_with fail
 refine (SZ.out _).mono ?_
 rintro e _ ⟨rfl, rfl⟩
 clear SZ
 clear c0 x1
 have t1 : v.cell? ⟨gr, k * 8 + 1, none⟩ = some (.int .i64 (s.R k).nc) := KY.out.c hk 1 (by omega)
 have t2 : v.cell? ⟨gr, k * 8 + 2, none⟩ = some (.int .i64 (s.R k).nt) := KY.out.c hk 2 (by omega)
 have t3 : v.cell? ⟨gr, k * 8 + 3, none⟩ = some (.int .i64 (s.R k).sc) := KY.out.c hk 3 (by omega)
 have t4 : v.cell? ⟨gr, k * 8 + 4, none⟩ = some (.int .i64 (s.R k).st) := KY.out.c hk 4 (by omega)
 have f3 := KY.out.fr hk 3 (by omega)
 have f4 := KY.out.fr hk 4 (by omega)
 have K2 : Hid (RkR ((v.setCell ⟨gr, k * 8 + 3, none⟩ (.int .i64 (s.R k).nc)).setCell ⟨gr, k * 8 + 4, none⟩ (.int .i64 (s.R k).nt)) B gr rc s.n s.R VR k (s.R k).save (VR k)) := KY.out.saved hk (s.R k).nc (s.R k).nt
 have H2 : Hid (ChB (PG gr) v ((v.setCell ⟨gr, k * 8 + 3, none⟩ (.int .i64 (s.R k).nc)).setCell ⟨gr, k * 8 + 4, none⟩ (.int .i64 (s.R k).nt))) := ((ChB.refl (PG gr) v).at gr (.inl rfl) _ _).at gr (.inl rfl) _ _
 go_upto_region 55 with fail
 generalize ((v.setCell ⟨gr, k * 8 + 3, none⟩ (.int .i64 (s.R k).nc)).setCell ⟨gr, k * 8 + 4, none⟩ (.int .i64 (s.R k).nt)) = v2 at *
 clear t1 t2 t3 t4 f3 f4 x0
 have PE := PV.out.chR1 hk H2.out K2.out rfl rfl
 have RE : Box4 v2 rb 28 (.slice none 0 0) (.int .i64 0) (.slice none 0 0) (.slice none 0 0) := RB.out.ch H2.out (PV.out.nbG (.inl rfl) RB.out (by decide) (by decide) (by decide))
 have k0 := PE.x.c0
 have y0 := RE.c0
 have u0 := RE.fr 0
 have k1 := PE.x.c1
 have y1 := RE.c1
 have u1 := RE.fr 1
 have k2 := PE.x.c2
 have y2 := RE.c2
 have u2 := RE.fr 2
 have k3 := PE.x.c3
 have y3 := RE.c3
 have u3 := RE.fr 3
 have X9 : Hid (Box4 ((((v2.setCell ⟨rb, 0, none⟩ (.slice (some ⟨gr, 0, none⟩) s.n rc)).setCell ⟨rb, 1, none⟩ (.int .i64 s.t)).setCell ⟨rb, 2, none⟩ (.slice wa s.m wc)).setCell ⟨rb, 3, none⟩ (.slice qa s.l qc)) rb 28 (.slice (some ⟨gr, 0, none⟩) s.n rc) (.int .i64 s.t) (.slice wa s.m wc) (.slice qa s.l qc)) := (((RE.set0 _).set1 _).set2 _).set3 _
 have Q9 : Hid (RetR B s _ (.returned (.tuple #[.agg #[.slice (some ⟨gr, 0, none⟩) s.n rc, .int .i64 s.t, .slice wa s.m wc, .slice qa s.l qc], .int .i64 0])) ((((v2.setCell ⟨rb, 0, none⟩ (.slice (some ⟨gr, 0, none⟩) s.n rc)).setCell ⟨rb, 1, none⟩ (.int .i64 s.t)).setCell ⟨rb, 2, none⟩ (.slice wa s.m wc)).setCell ⟨rb, 3, none⟩ (.slice qa s.l qc))) := retR_end (s' := { s with R := updE s.R k (s.R k).save }) (ActS.save (a := ⟨5, k, an⟩) k hk rfl rfl) PE RE
 have B9 : Hid (Below B w ((((v2.setCell ⟨rb, 0, none⟩ (.slice (some ⟨gr, 0, none⟩) s.n rc)).setCell ⟨rb, 1, none⟩ (.int .i64 s.t)).setCell ⟨rb, 2, none⟩ (.slice wa s.m wc)).setCell ⟨rb, 3, none⟩ (.slice qa s.l qc))) := below_res (BV.out.2.trans (H2.out.toBelow (fun g z => by unfold PG at z; rw [z]; exact PV.out.blk (.inl rfl)) BV.out.1)) (by have := DI.out; omega) _ _ _ _
 clear PE RE PV AB RB KY BV OK DI HSB K2 H2
 go_wp2
 exact ret_cell2 (b := rb) Try.results74 rfl rfl (Box4.loadsv X9.out) ⟨Q9.out, B9.out⟩
end Go.Proofs.Ytedncfcmhaaobaa
