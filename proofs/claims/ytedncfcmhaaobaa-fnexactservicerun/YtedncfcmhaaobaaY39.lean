/-
  Texts of the proof, joined: QuPb.
-/
import Derived.Test.YtedncfcmhaaobaaY36
import Derived.Deep.Cut
import Derived.Test.YtedncfcmhaaobaaTkH
namespace Go.Proofs.Ytedncfcmhaaobaa
open Go.ChangeShapes Go.WideShapes Go.ChangeAt Go.RowKit
set_option linter.unusedVariables false
set_option maxRecDepth 100000 in
set_option maxHeartbeats 8000000 in
theorem rep_restart (B : Nat) (s : Sv) (an : Int) (k : Nat) (hk : k < s.n) (ok : s.Ok) (w : World) (hB : B ≤ w.heap.size) (vr vw vq : Value) (VR VW VQ : Nat → Value) (ho : SvO w B s vr vw vq VR VW VQ) (hd : SvD s VR VW VQ) :
  Calls Try.prog 74 #[.agg #[vr, .int .i64 s.t, vw, vq], .agg #[.int .i64 6, .int .i64 (k : Int), .int .i64 an]] w fun e w' => RetR B s ⟨6, k, an⟩ e w' ∧ Below B w w' := by
 obtain ⟨ra, rc, rfl⟩ := ho.r.form
 obtain ⟨wa, wc, rfl⟩ := ho.x.form
 obtain ⟨qa, qc, rfl⟩ := ho.q.form
 have b3 : Below w.heap.size w (((w.alloc (.cells #[.slice ra s.n rc, .int .i64 s.t, .slice wa s.m wc, .slice qa s.l qc] 28)).alloc (.cells #[.int .i64 6, .int .i64 (k : Int), .int .i64 an] 41)).alloc (.cells #[.slice none 0 0, .int .i64 0, .slice none 0 0, .slice none 0 0] 28)) := (((Below.refl w.heap.size w).alloc (Nat.le_refl _) _).alloc (by simp) _).alloc (by simp; omega) _
 have PV : Hid (SvP NA (((w.alloc (.cells #[.slice ra s.n rc, .int .i64 s.t, .slice wa s.m wc, .slice qa s.l qc] 28)).alloc (.cells #[.int .i64 6, .int .i64 (k : Int), .int .i64 an] 41)).alloc (.cells #[.slice none 0 0, .int .i64 0, .slice none 0 0, .slice none 0 0] 28)) B w.heap.size s (.slice ra s.n rc) (.slice wa s.m wc) (.slice qa s.l qc) VR VW VQ) := SvP.made hB (((Box4.madeAt rfl _ _ _ _ _).alloc _).alloc _) (ho.below b3) hd
 have AB : Hid (Box3 (((w.alloc (.cells #[.slice ra s.n rc, .int .i64 s.t, .slice wa s.m wc, .slice qa s.l qc] 28)).alloc (.cells #[.int .i64 6, .int .i64 (k : Int), .int .i64 an] 41)).alloc (.cells #[.slice none 0 0, .int .i64 0, .slice none 0 0, .slice none 0 0] 28)) (w.heap.size + 1) 41 (.int .i64 6) (.int .i64 (k : Int)) (.int .i64 an)) := (Box3.madeAt (by simp) _ _ _ _).alloc _
 have RB : Hid (Box4 (((w.alloc (.cells #[.slice ra s.n rc, .int .i64 s.t, .slice wa s.m wc, .slice qa s.l qc] 28)).alloc (.cells #[.int .i64 6, .int .i64 (k : Int), .int .i64 an] 41)).alloc (.cells #[.slice none 0 0, .int .i64 0, .slice none 0 0, .slice none 0 0] 28)) (w.heap.size + 1 + 1) 28 (.slice none 0 0) (.int .i64 0) (.slice none 0 0) (.slice none 0 0)) := Box4.madeAt (by simp) _ _ _ _ _
 have BV : Hid (B ≤ (((w.alloc (.cells #[.slice ra s.n rc, .int .i64 s.t, .slice wa s.m wc, .slice qa s.l qc] 28)).alloc (.cells #[.int .i64 6, .int .i64 (k : Int), .int .i64 an] 41)).alloc (.cells #[.slice none 0 0, .int .i64 0, .slice none 0 0, .slice none 0 0] 28)).heap.size ∧ Below B w (((w.alloc (.cells #[.slice ra s.n rc, .int .i64 s.t, .slice wa s.m wc, .slice qa s.l qc] 28)).alloc (.cells #[.int .i64 6, .int .i64 (k : Int), .int .i64 an] 41)).alloc (.cells #[.slice none 0 0, .int .i64 0, .slice none 0 0, .slice none 0 0] 28))) := ⟨Nat.le_trans hB b3.size, b3.mono hB⟩
 have SZ : Hid (∀ w : World, Calls Try.prog 95 #[.int .i64 (s.n : Int)] w fun e w' => e = .returned (.int .i64 ((majN s.n : Nat) : Int)) ∧ w = w') := fun w => by
  have h := l09Size_any (s.n : Int) (by have := ok.1.1; omega) w
  rwa [show (s.n : Int) / 2 + 1 = ((majN s.n : Nat) : Int) by unfold majN; omega] at h
 have OK : Hid s.Ok := ok
 have klt : (k : Int) < (s.n : Int) := by omega
 clear b3 ho hd ok
 go_enter Try.func74, Try.ntmps74
 go_upto_region 1 with fail
 generalize (((w.alloc (.cells #[.slice ra s.n rc, .int .i64 s.t, .slice wa s.m wc, .slice qa s.l qc] 28)).alloc (.cells #[.int .i64 6, .int .i64 (k : Int), .int .i64 an] 41)).alloc (.cells #[.slice none 0 0, .int .i64 0, .slice none 0 0, .slice none 0 0] 28)) = v at *
 obtain ⟨ab, hab⟩ : ∃ x, x = w.heap.size + 1 := ⟨_, rfl⟩
 obtain ⟨rb, hrb⟩ : ∃ x, x = w.heap.size + 1 + 1 := ⟨_, rfl⟩
 have DI : Hid (B ≤ w.heap.size ∧ w.heap.size < ab ∧ ab < rb) := ⟨hB, by omega, by omega⟩
 rw [← hrb, ← hab]
 rw [← hab] at AB
 rw [← hrb] at RB
 clear hab hrb hB
 obtain ⟨sb, hsb⟩ : ∃ x, x = w.heap.size := ⟨_, rfl⟩
 have HSB : Hid (sb = w.heap.size) := hsb
 rw [← hsb] at PV DI ⊢
 clear hsb
 obtain ⟨gr, ea, -, -, KR⟩ := RkR.start PV.out.o.r hk
 subst ea
 have KY : Hid (RkR v B gr rc s.n s.R VR k (s.R k) (VR k)) := KR
 clear KR
 have c0 := PV.out.x.c0
 have x0 := AB.out.c0
 have x1 := AB.out.c1
 go_wp2_with fail
 refine (SZ.out _).mono ?_
 rintro e _ ⟨rfl, rfl⟩
 clear SZ
 clear c0 x1
 have x2 := AB.out.c2
 by_cases h1 : an = 1
 ·have hz : sB (an = 1) = true := sB_yes h1
  have HZ : Hid (sB (an = 1) = true) := hz
  clear hz
  have a1 : (an == 1) = true := by simp [h1]
  clear h1
  have t1 : v.cell? ⟨gr, k * 8 + 1, none⟩ = some (.int .i64 (s.R k).nc) := KY.out.c hk 1 (by omega)
  have t2 : v.cell? ⟨gr, k * 8 + 2, none⟩ = some (.int .i64 (s.R k).nt) := KY.out.c hk 2 (by omega)
  have t3 : v.cell? ⟨gr, k * 8 + 3, none⟩ = some (.int .i64 (s.R k).sc) := KY.out.c hk 3 (by omega)
  have t4 : v.cell? ⟨gr, k * 8 + 4, none⟩ = some (.int .i64 (s.R k).st) := KY.out.c hk 4 (by omega)
  have f1 := KY.out.fr hk 1 (by omega)
  have f2 := KY.out.fr hk 2 (by omega)
  have K2 : Hid (RkR ((v.setCell ⟨gr, k * 8 + 1, none⟩ (.int .i64 (s.R k).sc)).setCell ⟨gr, k * 8 + 2, none⟩ (.int .i64 (s.R k).st)) B gr rc s.n s.R VR k { s.R k with nc := (s.R k).sc, nt := (s.R k).st } (VR k)) := KY.out.now hk _ _
  have H2 : Hid (ChB (PG gr) v ((v.setCell ⟨gr, k * 8 + 1, none⟩ (.int .i64 (s.R k).sc)).setCell ⟨gr, k * 8 + 2, none⟩ (.int .i64 (s.R k).st))) := ((ChB.refl (PG gr) v).at gr (.inl rfl) _ _).at gr (.inl rfl) _ _
  go_upto_region 10 with fail
  generalize ((v.setCell ⟨gr, k * 8 + 1, none⟩ (.int .i64 (s.R k).sc)).setCell ⟨gr, k * 8 + 2, none⟩ (.int .i64 (s.R k).st)) = v2 at *
  clear t1 t2 t3 t4 f1 f2
  clear x0 x2 a1
  have t0 : v2.cell? ⟨gr, k * 8, none⟩ = some (.bool (s.R k).mute) := K2.out.c hk 0 (by omega)
  have f0 : v2.frozen? ⟨gr, k * 8, none⟩ = false := K2.out.fr hk 0 (by omega)
  have K3 : Hid (RkR (v2.setCell ⟨gr, k * 8, none⟩ (.bool true)) B gr rc s.n s.R VR k { ({ s.R k with nc := (s.R k).sc, nt := (s.R k).st } : Rp) with mute := true } (VR k)) := K2.out.setM hk true
  have H3 : Hid (ChB (PG gr) v (v2.setCell ⟨gr, k * 8, none⟩ (.bool true))) := H2.out.at gr (.inl rfl) _ _
  go_upto_region 11 with fail
  generalize (v2.setCell ⟨gr, k * 8, none⟩ (.bool true)) = v3 at *
  clear t0 f0 K2 H2
  have t5 : v3.cell? ⟨gr, k * 8 + 5, none⟩ = some (VR k) := K3.out.c hk 5 (by omega)
  have f5 := K3.out.fr hk 5 (by omega)
  have hA0 : Below v3.heap.size v3 (v3.alloc (.cells #[] 3)) := (Below.refl _ _).alloc (Nat.le_refl _) _
  have K30 := K3.out.below hA0
  have t50 : (v3.alloc (.cells #[] 3)).cell? ⟨gr, k * 8 + 5, none⟩ = some (VR k) := K30.c hk 5 (by omega)
  have f50 := K30.fr hk 5 (by omega)
  clear hA0 K30
  obtain ⟨lb, hlb⟩ : ∃ x, x = v3.heap.size := ⟨_, rfl⟩
  have K4 : Hid (RkR ((v3.alloc (.cells #[] 3)).setCell ⟨gr, k * 8 + 5, none⟩ (.slice (some ⟨lb, 0, none⟩) 0 0)) B gr rc s.n s.R VR k { ({ ({ s.R k with nc := (s.R k).sc, nt := (s.R k).st } : Rp) with mute := true } : Rp) with ne := 0, E := (s.R k).E } (.slice (some ⟨lb, 0, none⟩) 0 0)) := (K3.out.below ((Below.refl _ _).alloc (Nat.le_refl _) _)).setE hk (.slice (some ⟨lb, 0, none⟩) 0 0) 0 (s.R k).E
  have H4 : Hid (ChB (PG gr) v ((v3.alloc (.cells #[] 3)).setCell ⟨gr, k * 8 + 5, none⟩ (.slice (some ⟨lb, 0, none⟩) 0 0))) := (H3.out.alloc _).at gr (.inl rfl) _ _
  have I4 : Hid (IE ((v3.alloc (.cells #[] 3)).setCell ⟨gr, k * 8 + 5, none⟩ (.slice (some ⟨lb, 0, none⟩) 0 0)) B (.slice (some ⟨lb, 0, none⟩) 0 0) 0 (s.R k).E) := by
   have h9 := IE.lit v3 B (Nat.le_trans BV.out.1 H3.out.size) (s.R k).E
   rw [← hlb] at h9
   exact EO.keep h9 (fun g e => by cases e; exact Below.heap_setCell _ ⟨gr, k * 8 + 5, none⟩ _ lb (by have := K3.out.lt.2; show lb ≠ gr; omega))
  have L4 : Hid (v.heap.size ≤ lb ∧ lb ≠ gr) := ⟨by rw [hlb]; exact H3.out.size, by have := K3.out.lt.2; omega⟩
  go_upto_region 12 with fail
  rw [← hlb]
  generalize ((v3.alloc (.cells #[] 3)).setCell ⟨gr, k * 8 + 5, none⟩ (.slice (some ⟨lb, 0, none⟩) 0 0)) = v4 at *
  clear t5 f5 t50 f50 K3 H3 hlb v3
  have t1 : v4.cell? ⟨gr, k * 8 + 1, none⟩ = some (.int .i64 (s.R k).sc) := K4.out.c hk 1 (by omega)
  have t2 : v4.cell? ⟨gr, k * 8 + 2, none⟩ = some (.int .i64 (s.R k).st) := K4.out.c hk 2 (by omega)
  have t6 : v4.cell? ⟨gr, k * 8 + 6, none⟩ = some (.int .i64 (s.R k).bc) := K4.out.c hk 6 (by omega)
  have t7 : v4.cell? ⟨gr, k * 8 + 7, none⟩ = some (.int .i64 (s.R k).bt) := K4.out.c hk 7 (by omega)
  have f6 := K4.out.fr hk 6 (by omega)
  have f7 := K4.out.fr hk 7 (by omega)
  have K5 : RkR ((v4.setCell ⟨gr, k * 8 + 6, none⟩ (.int .i64 (s.R k).sc)).setCell ⟨gr, k * 8 + 7, none⟩ (.int .i64 (s.R k).st)) B gr rc s.n s.R VR k ((s.R k).boot true) (.slice (some ⟨lb, 0, none⟩) 0 0) := K4.out.best hk (s.R k).sc (s.R k).st
  have H5 : ChB (PG gr) v ((v4.setCell ⟨gr, k * 8 + 6, none⟩ (.int .i64 (s.R k).sc)).setCell ⟨gr, k * 8 + 7, none⟩ (.int .i64 (s.R k).st)) := (H4.out.at gr (.inl rfl) _ _).at gr (.inl rfl) _ _
  have I5 : IE ((v4.setCell ⟨gr, k * 8 + 6, none⟩ (.int .i64 (s.R k).sc)).setCell ⟨gr, k * 8 + 7, none⟩ (.int .i64 (s.R k).st)) B (.slice (some ⟨lb, 0, none⟩) 0 0) 0 (s.R k).E := EO.keep I4.out (fun g e => by cases e; exact (Below.heap_setCell _ ⟨gr, k * 8 + 7, none⟩ _ lb L4.out.2).trans (Below.heap_setCell v4 ⟨gr, k * 8 + 6, none⟩ _ lb L4.out.2))
  have P5 : Hid (SvP NA ((v4.setCell ⟨gr, k * 8 + 6, none⟩ (.int .i64 (s.R k).sc)).setCell ⟨gr, k * 8 + 7, none⟩ (.int .i64 (s.R k).st)) B sb { s with R := updE s.R k ((s.R k).boot true) } (.slice (some ⟨gr, 0, none⟩) s.n rc) (.slice wa s.m wc) (.slice qa s.l qc) (updE VR k (.slice (some ⟨lb, 0, none⟩) 0 0)) VW VQ) := PV.out.chR hk (H5.wide (fun g z => .inl (by unfold PG at z; rw [z]; rfl))) K5 I5 (fun g e => .inr (by cases e; exact L4.out.1))
  have RB5 : Hid (Box4 ((v4.setCell ⟨gr, k * 8 + 6, none⟩ (.int .i64 (s.R k).sc)).setCell ⟨gr, k * 8 + 7, none⟩ (.int .i64 (s.R k).st)) rb 28 (.slice none 0 0) (.int .i64 0) (.slice none 0 0) (.slice none 0 0)) := RB.out.ch H5 (PV.out.nbG (.inl rfl) RB.out (by decide) (by decide) (by decide))
  have B5 : Hid (B ≤ ((v4.setCell ⟨gr, k * 8 + 6, none⟩ (.int .i64 (s.R k).sc)).setCell ⟨gr, k * 8 + 7, none⟩ (.int .i64 (s.R k).st)).heap.size ∧ Below B w ((v4.setCell ⟨gr, k * 8 + 6, none⟩ (.int .i64 (s.R k).sc)).setCell ⟨gr, k * 8 + 7, none⟩ (.int .i64 (s.R k).st))) := ⟨Nat.le_trans BV.out.1 H5.size, BV.out.2.trans (H5.toBelow (fun g z => by unfold PG at z; rw [z]; exact PV.out.blk (.inl rfl)) BV.out.1)⟩
  go_upto_region 13 with fail
  generalize ((v4.setCell ⟨gr, k * 8 + 6, none⟩ (.int .i64 (s.R k).sc)).setCell ⟨gr, k * 8 + 7, none⟩ (.int .i64 (s.R k).st)) = v5 at *
  clear t1 t2 t6 t7 f6 f7 K4 H4 I4 K5 H5 I5 L4 PV RB KY AB BV
  have c2 := P5.out.x.c2
  by_cases hm : s.m = 0
  ·have HM0 : Hid (s.m = 0) := hm
   rw [hm] at c2
   clear hm
   go_upto_region 55 with fail
   clear c2
   have PE := P5.out
   have RE : Box4 v5 rb 28 (.slice none 0 0) (.int .i64 0) (.slice none 0 0) (.slice none 0 0) := RB5.out
   have k0 := PE.x.c0
   have y0 := RE.c0
   have u0 := RE.fr 0
   have k1 := PE.x.c1
   have y1 := RE.c1
   have u1 := RE.fr 1
   have k2 := PE.x.c2
   have y2 := RE.c2
   have u2 := RE.fr 2
   have k3 := PE.x.c3
   have y3 := RE.c3
   have u3 := RE.fr 3
   have X9 : Hid (Box4 ((((v5.setCell ⟨rb, 0, none⟩ (.slice (some ⟨gr, 0, none⟩) s.n rc)).setCell ⟨rb, 1, none⟩ (.int .i64 s.t)).setCell ⟨rb, 2, none⟩ (.slice wa s.m wc)).setCell ⟨rb, 3, none⟩ (.slice qa s.l qc)) rb 28 (.slice (some ⟨gr, 0, none⟩) s.n rc) (.int .i64 s.t) (.slice wa s.m wc) (.slice qa s.l qc)) := (((RE.set0 _).set1 _).set2 _).set3 _
   have Q9 : Hid (RetR B s _ (.returned (.tuple #[.agg #[.slice (some ⟨gr, 0, none⟩) s.n rc, .int .i64 s.t, .slice wa s.m wc, .slice qa s.l qc], .int .i64 0])) ((((v5.setCell ⟨rb, 0, none⟩ (.slice (some ⟨gr, 0, none⟩) s.n rc)).setCell ⟨rb, 1, none⟩ (.int .i64 s.t)).setCell ⟨rb, 2, none⟩ (.slice wa s.m wc)).setCell ⟨rb, 3, none⟩ (.slice qa s.l qc))) := retR_end (s' := { s with R := updE s.R k ((s.R k).boot true) }) (by have h := ActS.restart (s := s) (a := ⟨6, k, an⟩) k hk rfl rfl (fun z => by have := z.1; have := HM0.out; omega); rw [HZ.out] at h; exact h) PE RE
   have B9 : Hid (Below B w ((((v5.setCell ⟨rb, 0, none⟩ (.slice (some ⟨gr, 0, none⟩) s.n rc)).setCell ⟨rb, 1, none⟩ (.int .i64 s.t)).setCell ⟨rb, 2, none⟩ (.slice wa s.m wc)).setCell ⟨rb, 3, none⟩ (.slice qa s.l qc))) := below_res (B5.out.2) (by have := DI.out; omega) _ _ _ _
   clear PE RE P5 RB5 B5 OK DI HSB HZ
   go_wp2
   exact ret_cell2 (b := rb) Try.results74 rfl rfl (Box4.loadsv X9.out) ⟨Q9.out, B9.out⟩
  ·obtain ⟨p, hp⟩ : ∃ p, p = s.m - 1 := ⟨_, rfl⟩
   have pm : p < s.m := by omega
   have ep : (s.m : Int) - 1 = (p : Int) := by omega
   have plt : (p : Int) < (s.m : Int) := by omega
   have m200 : s.m ≤ 200 := OK.out.1.2.2.1
   have pw : IntKind.i64.wrap (p : Int) = (p : Int) := IntWalk.i64_in _ (by omega)
   have HP : Hid (p = s.m - 1) := hp
   obtain ⟨gw, ew, -, -, KW⟩ := RkW.start P5.out.o.x pm
   subst ew
   have KWH : Hid (RkW v5 B gw wc s.m s.W VW p (s.W p) (VW p)) := KW
   clear KW hp
   have q4 : v5.cell? ⟨gw, p * 5 + 4, none⟩ = some (.int .i64 (s.W p).en) := KWH.out.c pm 4 (by omega)
   have tm := (OK.out.2.1 p pm).2.2.2.2
   by_cases he : (s.W p).en = -1
   ·have HE : Hid ((s.W p).en = -1) := he
    rw [he] at q4
    clear he tm
    go_upto_region 15 with fail
    clear c2 q4
    have IW := P5.out.o.a p pm
    obtain ⟨la, lcap, eV⟩ := EO.form IW
    have EV : Hid (VW p = .slice la (s.W p).ne lcap) := eV
    have LN : Hid (Num v5 la (s.W p).ne (s.W p).E) := IE.num (by rw [← eV]; exact IW)
    have KX : Hid (RkW v5.drew B gw wc s.m s.W VW p (s.W p) (VW p)) := KWH.out.below (Below.refl _ _).drew
    have LX : Hid (Num v5.drew la (s.W p).ne (s.W p).E) := LN.out.below (Below.refl _ _).drew
    clear IW eV
    have NGS : Hid (¬ PG gw sb) := P5.out.nbG (.inr (.inl rfl)) P5.out.x (by decide) (by decide) (by decide)
    have H : ChB (PG gw) v5 v5.drew := (ChB.refl _ _).drew
    refine wp_region_noPanic ?_
    refine wp_region_held_drew (S := fun w' => ChB (PG gw) v5 w') (by kernel_rfl) H (fun _ => ?_)
    generalize v5.drew = z0 at *
    refine tkH (i := 0) (v := .pointer (some ⟨sb, 2, none⟩)) rfl (by kernel_rfl) (by rfl) ?_ H ?_
    ·intro w' hSw; clear hSw; go_simp
    change wpAnyH _ _ _ _ _ _ _ { tmps := #[_,_,_,_,_,_,_,_,_,_,_,_,_,_,_,_,_,_,_,_,_,_,_,_,_,_,_,_,_,_,_,_,_,_,_,_,_,_,_,_,_,_,_,_,_,_,_,_,_,_,_,_,_,_,_,_,_,_,_,_,_,_,_,_,_,_,_,_,_,_,_,_,_,_,_,_,_,_,_,_,_,_,_,_,_,_,_,_,_,_,_,_,_,_,_,_,_,_,_,_,_,_,_,_,_,_,_,_,_,_,_,_,_,_,_,_,_,_,_,_,_,_,_,_,_,_,_,_,_,_,_,_,_,_,_,_,_,_,_,_,_,_,_,_,_,_,_,_,_,_,_,_,_,_,_,_,_,_,_,_,_,_,_,_,_,_,_,_,_,_,_,_,_,_,_,_,_,_,_,_,_,_,_,_,_,_,_,_,_,_,_,_,_,_,_,_,_,_,_,_,_,_,_,_,_,_,_,_,_,_,_,_,_,_,_,_,_,_,_,_,_,_,_,_,_,_,_,_,_,_,_,_,_,_,_,_,_,_,_,_,_,_,_,_,_,_,_,_,_,_,_,_,_,_,_,_,_,_,_,_,_,_,_,_,_,_,_,_,_,_,_,_,_,_,_,_,_,_,_,_,_,_,_,_,_,_,_,_,_,_,_,_,_,_,_,_,_,_,_,_,_,_,_,_,_,_,_,_,_,_,_,_,_,_,_,_,_,_,_,_,_,_], defers := _ } _
    refine tkH (i := 1) (v := .slice (some ⟨gw, 0, none⟩) s.m wc) rfl (by kernel_rfl) (by rfl) ?_ H ?_
    ·intro w' hSw; have c2 := (P5.out.x.ofBlock (w' := w') (hSw.block sb P5.out.x.lt NGS.out)).c2; clear hSw; go_simp
    change wpAnyH _ _ _ _ _ _ _ { tmps := #[_,_,_,_,_,_,_,_,_,_,_,_,_,_,_,_,_,_,_,_,_,_,_,_,_,_,_,_,_,_,_,_,_,_,_,_,_,_,_,_,_,_,_,_,_,_,_,_,_,_,_,_,_,_,_,_,_,_,_,_,_,_,_,_,_,_,_,_,_,_,_,_,_,_,_,_,_,_,_,_,_,_,_,_,_,_,_,_,_,_,_,_,_,_,_,_,_,_,_,_,_,_,_,_,_,_,_,_,_,_,_,_,_,_,_,_,_,_,_,_,_,_,_,_,_,_,_,_,_,_,_,_,_,_,_,_,_,_,_,_,_,_,_,_,_,_,_,_,_,_,_,_,_,_,_,_,_,_,_,_,_,_,_,_,_,_,_,_,_,_,_,_,_,_,_,_,_,_,_,_,_,_,_,_,_,_,_,_,_,_,_,_,_,_,_,_,_,_,_,_,_,_,_,_,_,_,_,_,_,_,_,_,_,_,_,_,_,_,_,_,_,_,_,_,_,_,_,_,_,_,_,_,_,_,_,_,_,_,_,_,_,_,_,_,_,_,_,_,_,_,_,_,_,_,_,_,_,_,_,_,_,_,_,_,_,_,_,_,_,_,_,_,_,_,_,_,_,_,_,_,_,_,_,_,_,_,_,_,_,_,_,_,_,_,_,_,_,_,_,_,_,_,_,_,_,_,_,_,_,_,_,_,_,_,_,_,_,_,_,_,_,_], defers := _ } _
    refine tkH (i := 2) (v := .int .i64 (p : Int)) rfl (by kernel_rfl) (by rfl) ?_ H ?_
    ·intro w' hSw; clear hSw; go_simp
    change wpAnyH _ _ _ _ _ _ _ { tmps := #[_,_,_,_,_,_,_,_,_,_,_,_,_,_,_,_,_,_,_,_,_,_,_,_,_,_,_,_,_,_,_,_,_,_,_,_,_,_,_,_,_,_,_,_,_,_,_,_,_,_,_,_,_,_,_,_,_,_,_,_,_,_,_,_,_,_,_,_,_,_,_,_,_,_,_,_,_,_,_,_,_,_,_,_,_,_,_,_,_,_,_,_,_,_,_,_,_,_,_,_,_,_,_,_,_,_,_,_,_,_,_,_,_,_,_,_,_,_,_,_,_,_,_,_,_,_,_,_,_,_,_,_,_,_,_,_,_,_,_,_,_,_,_,_,_,_,_,_,_,_,_,_,_,_,_,_,_,_,_,_,_,_,_,_,_,_,_,_,_,_,_,_,_,_,_,_,_,_,_,_,_,_,_,_,_,_,_,_,_,_,_,_,_,_,_,_,_,_,_,_,_,_,_,_,_,_,_,_,_,_,_,_,_,_,_,_,_,_,_,_,_,_,_,_,_,_,_,_,_,_,_,_,_,_,_,_,_,_,_,_,_,_,_,_,_,_,_,_,_,_,_,_,_,_,_,_,_,_,_,_,_,_,_,_,_,_,_,_,_,_,_,_,_,_,_,_,_,_,_,_,_,_,_,_,_,_,_,_,_,_,_,_,_,_,_,_,_,_,_,_,_,_,_,_,_,_,_,_,_,_,_,_,_,_,_,_,_,_,_,_,_,_], defers := _ } _
    refine tkH (i := 3) (v := .pointer (some ⟨sb, 2, none⟩)) rfl (by kernel_rfl) (by rfl) ?_ H ?_
    ·intro w' hSw; clear hSw; go_simp
    change wpAnyH _ _ _ _ _ _ _ { tmps := #[_,_,_,_,_,_,_,_,_,_,_,_,_,_,_,_,_,_,_,_,_,_,_,_,_,_,_,_,_,_,_,_,_,_,_,_,_,_,_,_,_,_,_,_,_,_,_,_,_,_,_,_,_,_,_,_,_,_,_,_,_,_,_,_,_,_,_,_,_,_,_,_,_,_,_,_,_,_,_,_,_,_,_,_,_,_,_,_,_,_,_,_,_,_,_,_,_,_,_,_,_,_,_,_,_,_,_,_,_,_,_,_,_,_,_,_,_,_,_,_,_,_,_,_,_,_,_,_,_,_,_,_,_,_,_,_,_,_,_,_,_,_,_,_,_,_,_,_,_,_,_,_,_,_,_,_,_,_,_,_,_,_,_,_,_,_,_,_,_,_,_,_,_,_,_,_,_,_,_,_,_,_,_,_,_,_,_,_,_,_,_,_,_,_,_,_,_,_,_,_,_,_,_,_,_,_,_,_,_,_,_,_,_,_,_,_,_,_,_,_,_,_,_,_,_,_,_,_,_,_,_,_,_,_,_,_,_,_,_,_,_,_,_,_,_,_,_,_,_,_,_,_,_,_,_,_,_,_,_,_,_,_,_,_,_,_,_,_,_,_,_,_,_,_,_,_,_,_,_,_,_,_,_,_,_,_,_,_,_,_,_,_,_,_,_,_,_,_,_,_,_,_,_,_,_,_,_,_,_,_,_,_,_,_,_,_,_,_,_,_,_,_], defers := _ } _
    refine tkH (i := 4) (v := .slice (some ⟨gw, 0, none⟩) s.m wc) rfl (by kernel_rfl) (by rfl) ?_ H ?_
    ·intro w' hSw; have c2 := (P5.out.x.ofBlock (w' := w') (hSw.block sb P5.out.x.lt NGS.out)).c2; clear hSw; go_simp
    change wpAnyH _ _ _ _ _ _ _ { tmps := #[_,_,_,_,_,_,_,_,_,_,_,_,_,_,_,_,_,_,_,_,_,_,_,_,_,_,_,_,_,_,_,_,_,_,_,_,_,_,_,_,_,_,_,_,_,_,_,_,_,_,_,_,_,_,_,_,_,_,_,_,_,_,_,_,_,_,_,_,_,_,_,_,_,_,_,_,_,_,_,_,_,_,_,_,_,_,_,_,_,_,_,_,_,_,_,_,_,_,_,_,_,_,_,_,_,_,_,_,_,_,_,_,_,_,_,_,_,_,_,_,_,_,_,_,_,_,_,_,_,_,_,_,_,_,_,_,_,_,_,_,_,_,_,_,_,_,_,_,_,_,_,_,_,_,_,_,_,_,_,_,_,_,_,_,_,_,_,_,_,_,_,_,_,_,_,_,_,_,_,_,_,_,_,_,_,_,_,_,_,_,_,_,_,_,_,_,_,_,_,_,_,_,_,_,_,_,_,_,_,_,_,_,_,_,_,_,_,_,_,_,_,_,_,_,_,_,_,_,_,_,_,_,_,_,_,_,_,_,_,_,_,_,_,_,_,_,_,_,_,_,_,_,_,_,_,_,_,_,_,_,_,_,_,_,_,_,_,_,_,_,_,_,_,_,_,_,_,_,_,_,_,_,_,_,_,_,_,_,_,_,_,_,_,_,_,_,_,_,_,_,_,_,_,_,_,_,_,_,_,_,_,_,_,_,_,_,_,_,_,_,_,_], defers := _ } _
    refine tkH (i := 5) (v := .int .i64 (p : Int)) rfl (by kernel_rfl) (by rfl) ?_ H ?_
    ·intro w' hSw; clear hSw; go_simp
    change wpAnyH _ _ _ _ _ _ _ { tmps := #[_,_,_,_,_,_,_,_,_,_,_,_,_,_,_,_,_,_,_,_,_,_,_,_,_,_,_,_,_,_,_,_,_,_,_,_,_,_,_,_,_,_,_,_,_,_,_,_,_,_,_,_,_,_,_,_,_,_,_,_,_,_,_,_,_,_,_,_,_,_,_,_,_,_,_,_,_,_,_,_,_,_,_,_,_,_,_,_,_,_,_,_,_,_,_,_,_,_,_,_,_,_,_,_,_,_,_,_,_,_,_,_,_,_,_,_,_,_,_,_,_,_,_,_,_,_,_,_,_,_,_,_,_,_,_,_,_,_,_,_,_,_,_,_,_,_,_,_,_,_,_,_,_,_,_,_,_,_,_,_,_,_,_,_,_,_,_,_,_,_,_,_,_,_,_,_,_,_,_,_,_,_,_,_,_,_,_,_,_,_,_,_,_,_,_,_,_,_,_,_,_,_,_,_,_,_,_,_,_,_,_,_,_,_,_,_,_,_,_,_,_,_,_,_,_,_,_,_,_,_,_,_,_,_,_,_,_,_,_,_,_,_,_,_,_,_,_,_,_,_,_,_,_,_,_,_,_,_,_,_,_,_,_,_,_,_,_,_,_,_,_,_,_,_,_,_,_,_,_,_,_,_,_,_,_,_,_,_,_,_,_,_,_,_,_,_,_,_,_,_,_,_,_,_,_,_,_,_,_,_,_,_,_,_,_,_,_,_,_,_,_,_], defers := _ } _
    refine tkH (i := 6) (v := .pointer (some ⟨gw, p * 5, none⟩)) rfl (by kernel_rfl) (by rfl) ?_ H ?_
    ·intro w' hSw; clear hSw; go_simp
    change wpAnyH _ _ _ _ _ _ _ { tmps := #[_,_,_,_,_,_,_,_,_,_,_,_,_,_,_,_,_,_,_,_,_,_,_,_,_,_,_,_,_,_,_,_,_,_,_,_,_,_,_,_,_,_,_,_,_,_,_,_,_,_,_,_,_,_,_,_,_,_,_,_,_,_,_,_,_,_,_,_,_,_,_,_,_,_,_,_,_,_,_,_,_,_,_,_,_,_,_,_,_,_,_,_,_,_,_,_,_,_,_,_,_,_,_,_,_,_,_,_,_,_,_,_,_,_,_,_,_,_,_,_,_,_,_,_,_,_,_,_,_,_,_,_,_,_,_,_,_,_,_,_,_,_,_,_,_,_,_,_,_,_,_,_,_,_,_,_,_,_,_,_,_,_,_,_,_,_,_,_,_,_,_,_,_,_,_,_,_,_,_,_,_,_,_,_,_,_,_,_,_,_,_,_,_,_,_,_,_,_,_,_,_,_,_,_,_,_,_,_,_,_,_,_,_,_,_,_,_,_,_,_,_,_,_,_,_,_,_,_,_,_,_,_,_,_,_,_,_,_,_,_,_,_,_,_,_,_,_,_,_,_,_,_,_,_,_,_,_,_,_,_,_,_,_,_,_,_,_,_,_,_,_,_,_,_,_,_,_,_,_,_,_,_,_,_,_,_,_,_,_,_,_,_,_,_,_,_,_,_,_,_,_,_,_,_,_,_,_,_,_,_,_,_,_,_,_,_,_,_,_,_,_,_], defers := _ } _
    refine tkH (i := 7) (v := .pointer (some ⟨gw, p * 5 + 2, none⟩)) rfl (by kernel_rfl) (by rfl) ?_ H ?_
    ·intro w' hSw; clear hSw; go_simp
    change wpAnyH _ _ _ _ _ _ _ { tmps := #[_,_,_,_,_,_,_,_,_,_,_,_,_,_,_,_,_,_,_,_,_,_,_,_,_,_,_,_,_,_,_,_,_,_,_,_,_,_,_,_,_,_,_,_,_,_,_,_,_,_,_,_,_,_,_,_,_,_,_,_,_,_,_,_,_,_,_,_,_,_,_,_,_,_,_,_,_,_,_,_,_,_,_,_,_,_,_,_,_,_,_,_,_,_,_,_,_,_,_,_,_,_,_,_,_,_,_,_,_,_,_,_,_,_,_,_,_,_,_,_,_,_,_,_,_,_,_,_,_,_,_,_,_,_,_,_,_,_,_,_,_,_,_,_,_,_,_,_,_,_,_,_,_,_,_,_,_,_,_,_,_,_,_,_,_,_,_,_,_,_,_,_,_,_,_,_,_,_,_,_,_,_,_,_,_,_,_,_,_,_,_,_,_,_,_,_,_,_,_,_,_,_,_,_,_,_,_,_,_,_,_,_,_,_,_,_,_,_,_,_,_,_,_,_,_,_,_,_,_,_,_,_,_,_,_,_,_,_,_,_,_,_,_,_,_,_,_,_,_,_,_,_,_,_,_,_,_,_,_,_,_,_,_,_,_,_,_,_,_,_,_,_,_,_,_,_,_,_,_,_,_,_,_,_,_,_,_,_,_,_,_,_,_,_,_,_,_,_,_,_,_,_,_,_,_,_,_,_,_,_,_,_,_,_,_,_,_,_,_,_,_,_], defers := _ } _
    refine tkH (i := 9) (v := .int .i64 (k : Int)) rfl (by kernel_rfl) (by rfl) ?_ H ?_
    ·intro w' hSw; clear hSw; go_simp
    change wpAnyH _ _ _ _ _ _ _ { tmps := #[_,_,_,_,_,_,_,_,_,_,_,_,_,_,_,_,_,_,_,_,_,_,_,_,_,_,_,_,_,_,_,_,_,_,_,_,_,_,_,_,_,_,_,_,_,_,_,_,_,_,_,_,_,_,_,_,_,_,_,_,_,_,_,_,_,_,_,_,_,_,_,_,_,_,_,_,_,_,_,_,_,_,_,_,_,_,_,_,_,_,_,_,_,_,_,_,_,_,_,_,_,_,_,_,_,_,_,_,_,_,_,_,_,_,_,_,_,_,_,_,_,_,_,_,_,_,_,_,_,_,_,_,_,_,_,_,_,_,_,_,_,_,_,_,_,_,_,_,_,_,_,_,_,_,_,_,_,_,_,_,_,_,_,_,_,_,_,_,_,_,_,_,_,_,_,_,_,_,_,_,_,_,_,_,_,_,_,_,_,_,_,_,_,_,_,_,_,_,_,_,_,_,_,_,_,_,_,_,_,_,_,_,_,_,_,_,_,_,_,_,_,_,_,_,_,_,_,_,_,_,_,_,_,_,_,_,_,_,_,_,_,_,_,_,_,_,_,_,_,_,_,_,_,_,_,_,_,_,_,_,_,_,_,_,_,_,_,_,_,_,_,_,_,_,_,_,_,_,_,_,_,_,_,_,_,_,_,_,_,_,_,_,_,_,_,_,_,_,_,_,_,_,_,_,_,_,_,_,_,_,_,_,_,_,_,_,_,_,_,_,_,_], defers := _ } _
    refine rdH (i := 8) (by kernel_rfl) rfl (fun KK hK => ?_)
    have q2 : z0.cell? ⟨gw, p * 5 + 2, none⟩ = some (.slice la (s.W p).ne lcap) := by have := KX.out.c pm 2 (by omega); rw [← EV.out]; exact this
    go_simp
    refine hK.out _ _ H (fun _ => ?_)
    clear hK KK
    change wpAnyH _ _ _ _ _ _ _ { tmps := #[_,_,_,_,_,_,_,_,_,_,_,_,_,_,_,_,_,_,_,_,_,_,_,_,_,_,_,_,_,_,_,_,_,_,_,_,_,_,_,_,_,_,_,_,_,_,_,_,_,_,_,_,_,_,_,_,_,_,_,_,_,_,_,_,_,_,_,_,_,_,_,_,_,_,_,_,_,_,_,_,_,_,_,_,_,_,_,_,_,_,_,_,_,_,_,_,_,_,_,_,_,_,_,_,_,_,_,_,_,_,_,_,_,_,_,_,_,_,_,_,_,_,_,_,_,_,_,_,_,_,_,_,_,_,_,_,_,_,_,_,_,_,_,_,_,_,_,_,_,_,_,_,_,_,_,_,_,_,_,_,_,_,_,_,_,_,_,_,_,_,_,_,_,_,_,_,_,_,_,_,_,_,_,_,_,_,_,_,_,_,_,_,_,_,_,_,_,_,_,_,_,_,_,_,_,_,_,_,_,_,_,_,_,_,_,_,_,_,_,_,_,_,_,_,_,_,_,_,_,_,_,_,_,_,_,_,_,_,_,_,_,_,_,_,_,_,_,_,_,_,_,_,_,_,_,_,_,_,_,_,_,_,_,_,_,_,_,_,_,_,_,_,_,_,_,_,_,_,_,_,_,_,_,_,_,_,_,_,_,_,_,_,_,_,_,_,_,_,_,_,_,_,_,_,_,_,_,_,_,_,_,_,_,_,_,_,_,_,_,_,_,_], defers := _ } _
    refine rdH (i := 10) (by kernel_rfl) rfl (fun KK hK => ?_)
    go_simp
    refine (l09Without_any s.n la (s.W p).ne lcap (s.W p).E k (OK.out.2.1 p pm).2.2.2.1 (by have := ids_le (OK.out.2.1 p pm).2.2.2.1; have := OK.out.1.1.2; omega) z0 LX.out).mono ?_
    rintro e z1 ⟨⟨xb, xd, rfl, hI⟩, hb⟩
    have KX2 : Hid (RkW z1 B gw wc s.m s.W VW p (s.W p) (VW p)) := KX.out.below hb
    have fz : ∀ g, (Value.slice xb (subE (s.W p).ne (s.W p).E k).1 xd).ownBlock = some g → v5.heap.size ≤ g := fun g e => Nat.le_trans H.size (EO.ge hI g e).1
    have II : Hid (IE z1 B (Value.slice xb (subE (s.W p).ne (s.W p).E k).1 xd) (subE (s.W p).ne (s.W p).E k).1 (subE (s.W p).ne (s.W p).E k).2) := EO.mono hI (Nat.le_trans B5.out.1 H.size)
    replace H : ChB (PG gw) v5 z1 := H.step hb
    obtain ⟨ne', hne⟩ : ∃ x, x = (subE (s.W p).ne (s.W p).E k).1 := ⟨_, rfl⟩
    have HNE : Hid (ne' = (subE (s.W p).ne (s.W p).E k).1) := hne
    have FZ : Hid (∀ g, (Value.slice xb ne' xd).ownBlock = some g → v5.heap.size ≤ g) := by rw [hne]; exact fz
    rw [← hne] at II ⊢
    clear hI hb hne fz KX LX
    refine hK.out _ _ H (fun _ => ?_)
    clear hK KK
    change wpAnyH _ _ _ _ _ _ _ { tmps := #[_,_,_,_,_,_,_,_,_,_,_,_,_,_,_,_,_,_,_,_,_,_,_,_,_,_,_,_,_,_,_,_,_,_,_,_,_,_,_,_,_,_,_,_,_,_,_,_,_,_,_,_,_,_,_,_,_,_,_,_,_,_,_,_,_,_,_,_,_,_,_,_,_,_,_,_,_,_,_,_,_,_,_,_,_,_,_,_,_,_,_,_,_,_,_,_,_,_,_,_,_,_,_,_,_,_,_,_,_,_,_,_,_,_,_,_,_,_,_,_,_,_,_,_,_,_,_,_,_,_,_,_,_,_,_,_,_,_,_,_,_,_,_,_,_,_,_,_,_,_,_,_,_,_,_,_,_,_,_,_,_,_,_,_,_,_,_,_,_,_,_,_,_,_,_,_,_,_,_,_,_,_,_,_,_,_,_,_,_,_,_,_,_,_,_,_,_,_,_,_,_,_,_,_,_,_,_,_,_,_,_,_,_,_,_,_,_,_,_,_,_,_,_,_,_,_,_,_,_,_,_,_,_,_,_,_,_,_,_,_,_,_,_,_,_,_,_,_,_,_,_,_,_,_,_,_,_,_,_,_,_,_,_,_,_,_,_,_,_,_,_,_,_,_,_,_,_,_,_,_,_,_,_,_,_,_,_,_,_,_,_,_,_,_,_,_,_,_,_,_,_,_,_,_,_,_,_,_,_,_,_,_,_,_,_,_,_,_,_,_,_,_], defers := _ } _
    refine tkH (i := 11) (v := .pointer (some ⟨gw, p * 5, none⟩)) rfl (by kernel_rfl) (by rfl) ?_ H ?_
    ·intro w' hSw; clear hSw; go_simp
    change wpAnyH _ _ _ _ _ _ _ { tmps := #[_,_,_,_,_,_,_,_,_,_,_,_,_,_,_,_,_,_,_,_,_,_,_,_,_,_,_,_,_,_,_,_,_,_,_,_,_,_,_,_,_,_,_,_,_,_,_,_,_,_,_,_,_,_,_,_,_,_,_,_,_,_,_,_,_,_,_,_,_,_,_,_,_,_,_,_,_,_,_,_,_,_,_,_,_,_,_,_,_,_,_,_,_,_,_,_,_,_,_,_,_,_,_,_,_,_,_,_,_,_,_,_,_,_,_,_,_,_,_,_,_,_,_,_,_,_,_,_,_,_,_,_,_,_,_,_,_,_,_,_,_,_,_,_,_,_,_,_,_,_,_,_,_,_,_,_,_,_,_,_,_,_,_,_,_,_,_,_,_,_,_,_,_,_,_,_,_,_,_,_,_,_,_,_,_,_,_,_,_,_,_,_,_,_,_,_,_,_,_,_,_,_,_,_,_,_,_,_,_,_,_,_,_,_,_,_,_,_,_,_,_,_,_,_,_,_,_,_,_,_,_,_,_,_,_,_,_,_,_,_,_,_,_,_,_,_,_,_,_,_,_,_,_,_,_,_,_,_,_,_,_,_,_,_,_,_,_,_,_,_,_,_,_,_,_,_,_,_,_,_,_,_,_,_,_,_,_,_,_,_,_,_,_,_,_,_,_,_,_,_,_,_,_,_,_,_,_,_,_,_,_,_,_,_,_,_,_,_,_,_,_,_], defers := _ } _
    refine tkH (i := 12) (v := .pointer (some ⟨gw, p * 5 + 2, none⟩)) rfl (by kernel_rfl) (by rfl) ?_ H ?_
    ·intro w' hSw; clear hSw; go_simp
    change wpAnyH _ _ _ _ _ _ _ { tmps := #[_,_,_,_,_,_,_,_,_,_,_,_,_,_,_,_,_,_,_,_,_,_,_,_,_,_,_,_,_,_,_,_,_,_,_,_,_,_,_,_,_,_,_,_,_,_,_,_,_,_,_,_,_,_,_,_,_,_,_,_,_,_,_,_,_,_,_,_,_,_,_,_,_,_,_,_,_,_,_,_,_,_,_,_,_,_,_,_,_,_,_,_,_,_,_,_,_,_,_,_,_,_,_,_,_,_,_,_,_,_,_,_,_,_,_,_,_,_,_,_,_,_,_,_,_,_,_,_,_,_,_,_,_,_,_,_,_,_,_,_,_,_,_,_,_,_,_,_,_,_,_,_,_,_,_,_,_,_,_,_,_,_,_,_,_,_,_,_,_,_,_,_,_,_,_,_,_,_,_,_,_,_,_,_,_,_,_,_,_,_,_,_,_,_,_,_,_,_,_,_,_,_,_,_,_,_,_,_,_,_,_,_,_,_,_,_,_,_,_,_,_,_,_,_,_,_,_,_,_,_,_,_,_,_,_,_,_,_,_,_,_,_,_,_,_,_,_,_,_,_,_,_,_,_,_,_,_,_,_,_,_,_,_,_,_,_,_,_,_,_,_,_,_,_,_,_,_,_,_,_,_,_,_,_,_,_,_,_,_,_,_,_,_,_,_,_,_,_,_,_,_,_,_,_,_,_,_,_,_,_,_,_,_,_,_,_,_,_,_,_,_,_], defers := _ } _
    refine rdH (i := 13) (by kernel_rfl) rfl (fun KK hK => ?_)
    have f2 := KX2.out.fr pm 2 (by omega)
    have q2 : z1.cell? ⟨gw, p * 5 + 2, none⟩ = some (VW p) := KX2.out.c pm 2 (by omega)
    go_simp
    have K6 : Hid (RkW (z1.setCell ⟨gw, p * 5 + 2, none⟩ (.slice xb ne' xd)) B gw wc s.m s.W VW p ((s.W p).lose k) (.slice xb ne' xd)) := by have h9 := KX2.out.setE pm (.slice xb ne' xd) ne' (subE (s.W p).ne (s.W p).E k).2; rw [HNE.out] at h9 ⊢; exact h9
    have I6 : Hid (IE (z1.setCell ⟨gw, p * 5 + 2, none⟩ (.slice xb ne' xd)) B (.slice xb ne' xd) ((s.W p).lose k).ne ((s.W p).lose k).E) := by have h9 := IE.setOther II.out KX2.out (by decide) (p * 5 + 2) (.slice xb ne' xd); rw [HNE.out] at h9 ⊢; exact h9
    replace H : ChB (PG gw) v5 (z1.setCell ⟨gw, p * 5 + 2, none⟩ (.slice xb ne' xd)) := H.at gw (.inl rfl) _ _
    clear f2 q2 II KX2
    generalize (z1.setCell ⟨gw, p * 5 + 2, none⟩ (.slice xb ne' xd)) = z2 at *
    refine hK.out _ _ H (fun _ => ?_)
    clear hK KK
    change wpAnyH _ _ _ _ _ _ _ { tmps := #[_,_,_,_,_,_,_,_,_,_,_,_,_,_,_,_,_,_,_,_,_,_,_,_,_,_,_,_,_,_,_,_,_,_,_,_,_,_,_,_,_,_,_,_,_,_,_,_,_,_,_,_,_,_,_,_,_,_,_,_,_,_,_,_,_,_,_,_,_,_,_,_,_,_,_,_,_,_,_,_,_,_,_,_,_,_,_,_,_,_,_,_,_,_,_,_,_,_,_,_,_,_,_,_,_,_,_,_,_,_,_,_,_,_,_,_,_,_,_,_,_,_,_,_,_,_,_,_,_,_,_,_,_,_,_,_,_,_,_,_,_,_,_,_,_,_,_,_,_,_,_,_,_,_,_,_,_,_,_,_,_,_,_,_,_,_,_,_,_,_,_,_,_,_,_,_,_,_,_,_,_,_,_,_,_,_,_,_,_,_,_,_,_,_,_,_,_,_,_,_,_,_,_,_,_,_,_,_,_,_,_,_,_,_,_,_,_,_,_,_,_,_,_,_,_,_,_,_,_,_,_,_,_,_,_,_,_,_,_,_,_,_,_,_,_,_,_,_,_,_,_,_,_,_,_,_,_,_,_,_,_,_,_,_,_,_,_,_,_,_,_,_,_,_,_,_,_,_,_,_,_,_,_,_,_,_,_,_,_,_,_,_,_,_,_,_,_,_,_,_,_,_,_,_,_,_,_,_,_,_,_,_,_,_,_,_,_,_,_,_,_,_], defers := _ } _
    refine wpAnyH_done (by kernel_rfl) ?_ _
    refine NoPanic.normal ?_
    have H6 : Hid (ChB (PG gw) v5 z2) := H
    clear H
    go_upto_region 55 with fail
    have PE := P5.out.chW pm (H6.out.wide (fun g z => .inl (by unfold PG at z; rw [z]; rfl))) K6.out I6.out (fun g e => .inr (FZ.out g e))
    have RE : Box4 z2 rb 28 (.slice none 0 0) (.int .i64 0) (.slice none 0 0) (.slice none 0 0) := RB5.out.ch H6.out (P5.out.nbG (.inr (.inl rfl)) RB5.out (by decide) (by decide) (by decide))
    have k0 := PE.x.c0
    have y0 := RE.c0
    have u0 := RE.fr 0
    have k1 := PE.x.c1
    have y1 := RE.c1
    have u1 := RE.fr 1
    have k2 := PE.x.c2
    have y2 := RE.c2
    have u2 := RE.fr 2
    have k3 := PE.x.c3
    have y3 := RE.c3
    have u3 := RE.fr 3
    have X9 : Hid (Box4 ((((z2.setCell ⟨rb, 0, none⟩ (.slice (some ⟨gr, 0, none⟩) s.n rc)).setCell ⟨rb, 1, none⟩ (.int .i64 s.t)).setCell ⟨rb, 2, none⟩ (.slice (some ⟨gw, 0, none⟩) s.m wc)).setCell ⟨rb, 3, none⟩ (.slice qa s.l qc)) rb 28 (.slice (some ⟨gr, 0, none⟩) s.n rc) (.int .i64 s.t) (.slice (some ⟨gw, 0, none⟩) s.m wc) (.slice qa s.l qc)) := (((RE.set0 _).set1 _).set2 _).set3 _
    have Q9 : Hid (RetR B s _ (.returned (.tuple #[.agg #[.slice (some ⟨gr, 0, none⟩) s.n rc, .int .i64 s.t, .slice (some ⟨gw, 0, none⟩) s.m wc, .slice qa s.l qc], .int .i64 0])) ((((z2.setCell ⟨rb, 0, none⟩ (.slice (some ⟨gr, 0, none⟩) s.n rc)).setCell ⟨rb, 1, none⟩ (.int .i64 s.t)).setCell ⟨rb, 2, none⟩ (.slice (some ⟨gw, 0, none⟩) s.m wc)).setCell ⟨rb, 3, none⟩ (.slice qa s.l qc))) := retR_end (s' := { s with R := updE s.R k ((s.R k).boot true), W := updE s.W p ((s.W p).lose k) }) (by have h := ActS.restartW (s := s) (a := ⟨6, k, an⟩) k hk rfl rfl (by omega) (by rw [← HP.out]; exact HE.out); rw [HZ.out, ← HP.out] at h; exact h) PE RE
    have B9 : Hid (Below B w ((((z2.setCell ⟨rb, 0, none⟩ (.slice (some ⟨gr, 0, none⟩) s.n rc)).setCell ⟨rb, 1, none⟩ (.int .i64 s.t)).setCell ⟨rb, 2, none⟩ (.slice (some ⟨gw, 0, none⟩) s.m wc)).setCell ⟨rb, 3, none⟩ (.slice qa s.l qc))) := below_res (B5.out.2.trans (H6.out.toBelow (fun g z => by unfold PG at z; rw [z]; exact P5.out.blk (.inr (.inl rfl))) B5.out.1)) (by have := DI.out; omega) _ _ _ _
    clear PE RE P5 RB5 B5 OK DI HSB HZ HP HE KWH LN K6 I6 H6 FZ EV
    go_wp2
    exact ret_cell2 (b := rb) Try.results74 rfl rfl (Box4.loadsv X9.out) ⟨Q9.out, B9.out⟩
   ·have hge : ¬ (s.W p).en < 0 := by have h1 := tm.1.1; have h2 := tm.2; omega
    have NE : Hid (¬ (s.W p).en = -1) := he
    clear he tm
    go_upto_region 55 with fail
    clear c2 q4
    have PE := P5.out
    have RE : Box4 v5 rb 28 (.slice none 0 0) (.int .i64 0) (.slice none 0 0) (.slice none 0 0) := RB5.out
    have k0 := PE.x.c0
    have y0 := RE.c0
    have u0 := RE.fr 0
    have k1 := PE.x.c1
    have y1 := RE.c1
    have u1 := RE.fr 1
    have k2 := PE.x.c2
    have y2 := RE.c2
    have u2 := RE.fr 2
    have k3 := PE.x.c3
    have y3 := RE.c3
    have u3 := RE.fr 3
    have X9 : Hid (Box4 ((((v5.setCell ⟨rb, 0, none⟩ (.slice (some ⟨gr, 0, none⟩) s.n rc)).setCell ⟨rb, 1, none⟩ (.int .i64 s.t)).setCell ⟨rb, 2, none⟩ (.slice (some ⟨gw, 0, none⟩) s.m wc)).setCell ⟨rb, 3, none⟩ (.slice qa s.l qc)) rb 28 (.slice (some ⟨gr, 0, none⟩) s.n rc) (.int .i64 s.t) (.slice (some ⟨gw, 0, none⟩) s.m wc) (.slice qa s.l qc)) := (((RE.set0 _).set1 _).set2 _).set3 _
    have Q9 : Hid (RetR B s _ (.returned (.tuple #[.agg #[.slice (some ⟨gr, 0, none⟩) s.n rc, .int .i64 s.t, .slice (some ⟨gw, 0, none⟩) s.m wc, .slice qa s.l qc], .int .i64 0])) ((((v5.setCell ⟨rb, 0, none⟩ (.slice (some ⟨gr, 0, none⟩) s.n rc)).setCell ⟨rb, 1, none⟩ (.int .i64 s.t)).setCell ⟨rb, 2, none⟩ (.slice (some ⟨gw, 0, none⟩) s.m wc)).setCell ⟨rb, 3, none⟩ (.slice qa s.l qc))) := retR_end (s' := { s with R := updE s.R k ((s.R k).boot true) }) (by have h := ActS.restart (s := s) (a := ⟨6, k, an⟩) k hk rfl rfl (fun z => NE.out (by rw [HP.out]; exact z.2)); rw [HZ.out] at h; exact h) PE RE
    have B9 : Hid (Below B w ((((v5.setCell ⟨rb, 0, none⟩ (.slice (some ⟨gr, 0, none⟩) s.n rc)).setCell ⟨rb, 1, none⟩ (.int .i64 s.t)).setCell ⟨rb, 2, none⟩ (.slice (some ⟨gw, 0, none⟩) s.m wc)).setCell ⟨rb, 3, none⟩ (.slice qa s.l qc))) := below_res (B5.out.2) (by have := DI.out; omega) _ _ _ _
    clear PE RE P5 RB5 B5 OK DI HSB HZ HP NE KWH
    go_wp2
    exact ret_cell2 (b := rb) Try.results74 rfl rfl (Box4.loadsv X9.out) ⟨Q9.out, B9.out⟩
 ·have hz : sB (an = 1) = false := sB_no h1
  have HZ : Hid (sB (an = 1) = false) := hz
  clear hz
  have a1 : (an == 1) = false := by simp; exact h1
  clear h1
  have K2 : Hid (RkR v B gr rc s.n s.R VR k (s.R k) (VR k)) := KY.out
  have H2 : Hid (ChB (PG gr) v v) := ChB.refl _ _
  go_upto_region 10 with fail
  clear x0 x2 a1
  have t0 : v.cell? ⟨gr, k * 8, none⟩ = some (.bool (s.R k).mute) := K2.out.c hk 0 (by omega)
  have f0 : v.frozen? ⟨gr, k * 8, none⟩ = false := K2.out.fr hk 0 (by omega)
  have K3 : Hid (RkR (v.setCell ⟨gr, k * 8, none⟩ (.bool true)) B gr rc s.n s.R VR k { ((s.R k) : Rp) with mute := true } (VR k)) := K2.out.setM hk true
  have H3 : Hid (ChB (PG gr) v (v.setCell ⟨gr, k * 8, none⟩ (.bool true))) := H2.out.at gr (.inl rfl) _ _
  go_upto_region 11 with fail
  generalize (v.setCell ⟨gr, k * 8, none⟩ (.bool true)) = v3 at *
  clear t0 f0 K2 H2
  have t5 : v3.cell? ⟨gr, k * 8 + 5, none⟩ = some (VR k) := K3.out.c hk 5 (by omega)
  have f5 := K3.out.fr hk 5 (by omega)
  have hA0 : Below v3.heap.size v3 (v3.alloc (.cells #[] 3)) := (Below.refl _ _).alloc (Nat.le_refl _) _
  have K30 := K3.out.below hA0
  have t50 : (v3.alloc (.cells #[] 3)).cell? ⟨gr, k * 8 + 5, none⟩ = some (VR k) := K30.c hk 5 (by omega)
  have f50 := K30.fr hk 5 (by omega)
  clear hA0 K30
  obtain ⟨lb, hlb⟩ : ∃ x, x = v3.heap.size := ⟨_, rfl⟩
  have K4 : Hid (RkR ((v3.alloc (.cells #[] 3)).setCell ⟨gr, k * 8 + 5, none⟩ (.slice (some ⟨lb, 0, none⟩) 0 0)) B gr rc s.n s.R VR k { ({ ((s.R k) : Rp) with mute := true } : Rp) with ne := 0, E := (s.R k).E } (.slice (some ⟨lb, 0, none⟩) 0 0)) := (K3.out.below ((Below.refl _ _).alloc (Nat.le_refl _) _)).setE hk (.slice (some ⟨lb, 0, none⟩) 0 0) 0 (s.R k).E
  have H4 : Hid (ChB (PG gr) v ((v3.alloc (.cells #[] 3)).setCell ⟨gr, k * 8 + 5, none⟩ (.slice (some ⟨lb, 0, none⟩) 0 0))) := (H3.out.alloc _).at gr (.inl rfl) _ _
  have I4 : Hid (IE ((v3.alloc (.cells #[] 3)).setCell ⟨gr, k * 8 + 5, none⟩ (.slice (some ⟨lb, 0, none⟩) 0 0)) B (.slice (some ⟨lb, 0, none⟩) 0 0) 0 (s.R k).E) := by
   have h9 := IE.lit v3 B (Nat.le_trans BV.out.1 H3.out.size) (s.R k).E
   rw [← hlb] at h9
   exact EO.keep h9 (fun g e => by cases e; exact Below.heap_setCell _ ⟨gr, k * 8 + 5, none⟩ _ lb (by have := K3.out.lt.2; show lb ≠ gr; omega))
  have L4 : Hid (v.heap.size ≤ lb ∧ lb ≠ gr) := ⟨by rw [hlb]; exact H3.out.size, by have := K3.out.lt.2; omega⟩
  go_upto_region 12 with fail
  rw [← hlb]
  generalize ((v3.alloc (.cells #[] 3)).setCell ⟨gr, k * 8 + 5, none⟩ (.slice (some ⟨lb, 0, none⟩) 0 0)) = v4 at *
  clear t5 f5 t50 f50 K3 H3 hlb v3
  have t1 : v4.cell? ⟨gr, k * 8 + 1, none⟩ = some (.int .i64 (s.R k).nc) := K4.out.c hk 1 (by omega)
  have t2 : v4.cell? ⟨gr, k * 8 + 2, none⟩ = some (.int .i64 (s.R k).nt) := K4.out.c hk 2 (by omega)
  have t6 : v4.cell? ⟨gr, k * 8 + 6, none⟩ = some (.int .i64 (s.R k).bc) := K4.out.c hk 6 (by omega)
  have t7 : v4.cell? ⟨gr, k * 8 + 7, none⟩ = some (.int .i64 (s.R k).bt) := K4.out.c hk 7 (by omega)
  have f6 := K4.out.fr hk 6 (by omega)
  have f7 := K4.out.fr hk 7 (by omega)
  have K5 : RkR ((v4.setCell ⟨gr, k * 8 + 6, none⟩ (.int .i64 (s.R k).nc)).setCell ⟨gr, k * 8 + 7, none⟩ (.int .i64 (s.R k).nt)) B gr rc s.n s.R VR k ((s.R k).boot false) (.slice (some ⟨lb, 0, none⟩) 0 0) := K4.out.best hk (s.R k).nc (s.R k).nt
  have H5 : ChB (PG gr) v ((v4.setCell ⟨gr, k * 8 + 6, none⟩ (.int .i64 (s.R k).nc)).setCell ⟨gr, k * 8 + 7, none⟩ (.int .i64 (s.R k).nt)) := (H4.out.at gr (.inl rfl) _ _).at gr (.inl rfl) _ _
  have I5 : IE ((v4.setCell ⟨gr, k * 8 + 6, none⟩ (.int .i64 (s.R k).nc)).setCell ⟨gr, k * 8 + 7, none⟩ (.int .i64 (s.R k).nt)) B (.slice (some ⟨lb, 0, none⟩) 0 0) 0 (s.R k).E := EO.keep I4.out (fun g e => by cases e; exact (Below.heap_setCell _ ⟨gr, k * 8 + 7, none⟩ _ lb L4.out.2).trans (Below.heap_setCell v4 ⟨gr, k * 8 + 6, none⟩ _ lb L4.out.2))
  have P5 : Hid (SvP NA ((v4.setCell ⟨gr, k * 8 + 6, none⟩ (.int .i64 (s.R k).nc)).setCell ⟨gr, k * 8 + 7, none⟩ (.int .i64 (s.R k).nt)) B sb { s with R := updE s.R k ((s.R k).boot false) } (.slice (some ⟨gr, 0, none⟩) s.n rc) (.slice wa s.m wc) (.slice qa s.l qc) (updE VR k (.slice (some ⟨lb, 0, none⟩) 0 0)) VW VQ) := PV.out.chR hk (H5.wide (fun g z => .inl (by unfold PG at z; rw [z]; rfl))) K5 I5 (fun g e => .inr (by cases e; exact L4.out.1))
  have RB5 : Hid (Box4 ((v4.setCell ⟨gr, k * 8 + 6, none⟩ (.int .i64 (s.R k).nc)).setCell ⟨gr, k * 8 + 7, none⟩ (.int .i64 (s.R k).nt)) rb 28 (.slice none 0 0) (.int .i64 0) (.slice none 0 0) (.slice none 0 0)) := RB.out.ch H5 (PV.out.nbG (.inl rfl) RB.out (by decide) (by decide) (by decide))
  have B5 : Hid (B ≤ ((v4.setCell ⟨gr, k * 8 + 6, none⟩ (.int .i64 (s.R k).nc)).setCell ⟨gr, k * 8 + 7, none⟩ (.int .i64 (s.R k).nt)).heap.size ∧ Below B w ((v4.setCell ⟨gr, k * 8 + 6, none⟩ (.int .i64 (s.R k).nc)).setCell ⟨gr, k * 8 + 7, none⟩ (.int .i64 (s.R k).nt))) := ⟨Nat.le_trans BV.out.1 H5.size, BV.out.2.trans (H5.toBelow (fun g z => by unfold PG at z; rw [z]; exact PV.out.blk (.inl rfl)) BV.out.1)⟩
  go_upto_region 13 with fail
  generalize ((v4.setCell ⟨gr, k * 8 + 6, none⟩ (.int .i64 (s.R k).nc)).setCell ⟨gr, k * 8 + 7, none⟩ (.int .i64 (s.R k).nt)) = v5 at *
  clear t1 t2 t6 t7 f6 f7 K4 H4 I4 K5 H5 I5 L4 PV RB KY AB BV
  have c2 := P5.out.x.c2
  by_cases hm : s.m = 0
  ·have HM0 : Hid (s.m = 0) := hm
   rw [hm] at c2
   clear hm
   go_upto_region 55 with fail
   clear c2
   have PE := P5.out
   have RE : Box4 v5 rb 28 (.slice none 0 0) (.int .i64 0) (.slice none 0 0) (.slice none 0 0) := RB5.out
   have k0 := PE.x.c0
   have y0 := RE.c0
   have u0 := RE.fr 0
   have k1 := PE.x.c1
   have y1 := RE.c1
   have u1 := RE.fr 1
   have k2 := PE.x.c2
   have y2 := RE.c2
   have u2 := RE.fr 2
   have k3 := PE.x.c3
   have y3 := RE.c3
   have u3 := RE.fr 3
   have X9 : Hid (Box4 ((((v5.setCell ⟨rb, 0, none⟩ (.slice (some ⟨gr, 0, none⟩) s.n rc)).setCell ⟨rb, 1, none⟩ (.int .i64 s.t)).setCell ⟨rb, 2, none⟩ (.slice wa s.m wc)).setCell ⟨rb, 3, none⟩ (.slice qa s.l qc)) rb 28 (.slice (some ⟨gr, 0, none⟩) s.n rc) (.int .i64 s.t) (.slice wa s.m wc) (.slice qa s.l qc)) := (((RE.set0 _).set1 _).set2 _).set3 _
   have Q9 : Hid (RetR B s _ (.returned (.tuple #[.agg #[.slice (some ⟨gr, 0, none⟩) s.n rc, .int .i64 s.t, .slice wa s.m wc, .slice qa s.l qc], .int .i64 0])) ((((v5.setCell ⟨rb, 0, none⟩ (.slice (some ⟨gr, 0, none⟩) s.n rc)).setCell ⟨rb, 1, none⟩ (.int .i64 s.t)).setCell ⟨rb, 2, none⟩ (.slice wa s.m wc)).setCell ⟨rb, 3, none⟩ (.slice qa s.l qc))) := retR_end (s' := { s with R := updE s.R k ((s.R k).boot false) }) (by have h := ActS.restart (s := s) (a := ⟨6, k, an⟩) k hk rfl rfl (fun z => by have := z.1; have := HM0.out; omega); rw [HZ.out] at h; exact h) PE RE
   have B9 : Hid (Below B w ((((v5.setCell ⟨rb, 0, none⟩ (.slice (some ⟨gr, 0, none⟩) s.n rc)).setCell ⟨rb, 1, none⟩ (.int .i64 s.t)).setCell ⟨rb, 2, none⟩ (.slice wa s.m wc)).setCell ⟨rb, 3, none⟩ (.slice qa s.l qc))) := below_res (B5.out.2) (by have := DI.out; omega) _ _ _ _
   clear PE RE P5 RB5 B5 OK DI HSB HZ
   go_wp2
   exact ret_cell2 (b := rb) Try.results74 rfl rfl (Box4.loadsv X9.out) ⟨Q9.out, B9.out⟩
  ·obtain ⟨p, hp⟩ : ∃ p, p = s.m - 1 := ⟨_, rfl⟩
   have pm : p < s.m := by omega
   have ep : (s.m : Int) - 1 = (p : Int) := by omega
   have plt : (p : Int) < (s.m : Int) := by omega
   have m200 : s.m ≤ 200 := OK.out.1.2.2.1
   have pw : IntKind.i64.wrap (p : Int) = (p : Int) := IntWalk.i64_in _ (by omega)
   have HP : Hid (p = s.m - 1) := hp
   obtain ⟨gw, ew, -, -, KW⟩ := RkW.start P5.out.o.x pm
   subst ew
   have KWH : Hid (RkW v5 B gw wc s.m s.W VW p (s.W p) (VW p)) := KW
   clear KW hp
   have q4 : v5.cell? ⟨gw, p * 5 + 4, none⟩ = some (.int .i64 (s.W p).en) := KWH.out.c pm 4 (by omega)
   have tm := (OK.out.2.1 p pm).2.2.2.2
   by_cases he : (s.W p).en = -1
   ·have HE : Hid ((s.W p).en = -1) := he
    rw [he] at q4
    clear he tm
    go_upto_region 15 with fail
    clear c2 q4
    have IW := P5.out.o.a p pm
    obtain ⟨la, lcap, eV⟩ := EO.form IW
    have EV : Hid (VW p = .slice la (s.W p).ne lcap) := eV
    have LN : Hid (Num v5 la (s.W p).ne (s.W p).E) := IE.num (by rw [← eV]; exact IW)
    have KX : Hid (RkW v5.drew B gw wc s.m s.W VW p (s.W p) (VW p)) := KWH.out.below (Below.refl _ _).drew
    have LX : Hid (Num v5.drew la (s.W p).ne (s.W p).E) := LN.out.below (Below.refl _ _).drew
    clear IW eV
    have NGS : Hid (¬ PG gw sb) := P5.out.nbG (.inr (.inl rfl)) P5.out.x (by decide) (by decide) (by decide)
    have H : ChB (PG gw) v5 v5.drew := (ChB.refl _ _).drew
    refine wp_region_noPanic ?_
    refine wp_region_held_drew (S := fun w' => ChB (PG gw) v5 w') (by kernel_rfl) H (fun _ => ?_)
    generalize v5.drew = z0 at *
    refine tkH (i := 0) (v := .pointer (some ⟨sb, 2, none⟩)) rfl (by kernel_rfl) (by rfl) ?_ H ?_
    ·intro w' hSw; clear hSw; go_simp
    change wpAnyH _ _ _ _ _ _ _ { tmps := #[_,_,_,_,_,_,_,_,_,_,_,_,_,_,_,_,_,_,_,_,_,_,_,_,_,_,_,_,_,_,_,_,_,_,_,_,_,_,_,_,_,_,_,_,_,_,_,_,_,_,_,_,_,_,_,_,_,_,_,_,_,_,_,_,_,_,_,_,_,_,_,_,_,_,_,_,_,_,_,_,_,_,_,_,_,_,_,_,_,_,_,_,_,_,_,_,_,_,_,_,_,_,_,_,_,_,_,_,_,_,_,_,_,_,_,_,_,_,_,_,_,_,_,_,_,_,_,_,_,_,_,_,_,_,_,_,_,_,_,_,_,_,_,_,_,_,_,_,_,_,_,_,_,_,_,_,_,_,_,_,_,_,_,_,_,_,_,_,_,_,_,_,_,_,_,_,_,_,_,_,_,_,_,_,_,_,_,_,_,_,_,_,_,_,_,_,_,_,_,_,_,_,_,_,_,_,_,_,_,_,_,_,_,_,_,_,_,_,_,_,_,_,_,_,_,_,_,_,_,_,_,_,_,_,_,_,_,_,_,_,_,_,_,_,_,_,_,_,_,_,_,_,_,_,_,_,_,_,_,_,_,_,_,_,_,_,_,_,_,_,_,_,_,_,_,_,_,_,_,_,_,_,_,_,_,_,_,_,_,_,_,_,_,_,_,_,_,_,_,_,_,_,_,_,_,_,_,_,_,_,_,_,_,_,_,_,_,_,_,_,_,_], defers := _ } _
    refine tkH (i := 1) (v := .slice (some ⟨gw, 0, none⟩) s.m wc) rfl (by kernel_rfl) (by rfl) ?_ H ?_
    ·intro w' hSw; have c2 := (P5.out.x.ofBlock (w' := w') (hSw.block sb P5.out.x.lt NGS.out)).c2; clear hSw; go_simp
    change wpAnyH _ _ _ _ _ _ _ { tmps := #[_,_,_,_,_,_,_,_,_,_,_,_,_,_,_,_,_,_,_,_,_,_,_,_,_,_,_,_,_,_,_,_,_,_,_,_,_,_,_,_,_,_,_,_,_,_,_,_,_,_,_,_,_,_,_,_,_,_,_,_,_,_,_,_,_,_,_,_,_,_,_,_,_,_,_,_,_,_,_,_,_,_,_,_,_,_,_,_,_,_,_,_,_,_,_,_,_,_,_,_,_,_,_,_,_,_,_,_,_,_,_,_,_,_,_,_,_,_,_,_,_,_,_,_,_,_,_,_,_,_,_,_,_,_,_,_,_,_,_,_,_,_,_,_,_,_,_,_,_,_,_,_,_,_,_,_,_,_,_,_,_,_,_,_,_,_,_,_,_,_,_,_,_,_,_,_,_,_,_,_,_,_,_,_,_,_,_,_,_,_,_,_,_,_,_,_,_,_,_,_,_,_,_,_,_,_,_,_,_,_,_,_,_,_,_,_,_,_,_,_,_,_,_,_,_,_,_,_,_,_,_,_,_,_,_,_,_,_,_,_,_,_,_,_,_,_,_,_,_,_,_,_,_,_,_,_,_,_,_,_,_,_,_,_,_,_,_,_,_,_,_,_,_,_,_,_,_,_,_,_,_,_,_,_,_,_,_,_,_,_,_,_,_,_,_,_,_,_,_,_,_,_,_,_,_,_,_,_,_,_,_,_,_,_,_,_,_,_,_,_,_,_], defers := _ } _
    refine tkH (i := 2) (v := .int .i64 (p : Int)) rfl (by kernel_rfl) (by rfl) ?_ H ?_
    ·intro w' hSw; clear hSw; go_simp
    change wpAnyH _ _ _ _ _ _ _ { tmps := #[_,_,_,_,_,_,_,_,_,_,_,_,_,_,_,_,_,_,_,_,_,_,_,_,_,_,_,_,_,_,_,_,_,_,_,_,_,_,_,_,_,_,_,_,_,_,_,_,_,_,_,_,_,_,_,_,_,_,_,_,_,_,_,_,_,_,_,_,_,_,_,_,_,_,_,_,_,_,_,_,_,_,_,_,_,_,_,_,_,_,_,_,_,_,_,_,_,_,_,_,_,_,_,_,_,_,_,_,_,_,_,_,_,_,_,_,_,_,_,_,_,_,_,_,_,_,_,_,_,_,_,_,_,_,_,_,_,_,_,_,_,_,_,_,_,_,_,_,_,_,_,_,_,_,_,_,_,_,_,_,_,_,_,_,_,_,_,_,_,_,_,_,_,_,_,_,_,_,_,_,_,_,_,_,_,_,_,_,_,_,_,_,_,_,_,_,_,_,_,_,_,_,_,_,_,_,_,_,_,_,_,_,_,_,_,_,_,_,_,_,_,_,_,_,_,_,_,_,_,_,_,_,_,_,_,_,_,_,_,_,_,_,_,_,_,_,_,_,_,_,_,_,_,_,_,_,_,_,_,_,_,_,_,_,_,_,_,_,_,_,_,_,_,_,_,_,_,_,_,_,_,_,_,_,_,_,_,_,_,_,_,_,_,_,_,_,_,_,_,_,_,_,_,_,_,_,_,_,_,_,_,_,_,_,_,_,_,_,_,_,_,_], defers := _ } _
    refine tkH (i := 3) (v := .pointer (some ⟨sb, 2, none⟩)) rfl (by kernel_rfl) (by rfl) ?_ H ?_
    ·intro w' hSw; clear hSw; go_simp
    change wpAnyH _ _ _ _ _ _ _ { tmps := #[_,_,_,_,_,_,_,_,_,_,_,_,_,_,_,_,_,_,_,_,_,_,_,_,_,_,_,_,_,_,_,_,_,_,_,_,_,_,_,_,_,_,_,_,_,_,_,_,_,_,_,_,_,_,_,_,_,_,_,_,_,_,_,_,_,_,_,_,_,_,_,_,_,_,_,_,_,_,_,_,_,_,_,_,_,_,_,_,_,_,_,_,_,_,_,_,_,_,_,_,_,_,_,_,_,_,_,_,_,_,_,_,_,_,_,_,_,_,_,_,_,_,_,_,_,_,_,_,_,_,_,_,_,_,_,_,_,_,_,_,_,_,_,_,_,_,_,_,_,_,_,_,_,_,_,_,_,_,_,_,_,_,_,_,_,_,_,_,_,_,_,_,_,_,_,_,_,_,_,_,_,_,_,_,_,_,_,_,_,_,_,_,_,_,_,_,_,_,_,_,_,_,_,_,_,_,_,_,_,_,_,_,_,_,_,_,_,_,_,_,_,_,_,_,_,_,_,_,_,_,_,_,_,_,_,_,_,_,_,_,_,_,_,_,_,_,_,_,_,_,_,_,_,_,_,_,_,_,_,_,_,_,_,_,_,_,_,_,_,_,_,_,_,_,_,_,_,_,_,_,_,_,_,_,_,_,_,_,_,_,_,_,_,_,_,_,_,_,_,_,_,_,_,_,_,_,_,_,_,_,_,_,_,_,_,_,_,_,_,_,_,_], defers := _ } _
    refine tkH (i := 4) (v := .slice (some ⟨gw, 0, none⟩) s.m wc) rfl (by kernel_rfl) (by rfl) ?_ H ?_
    ·intro w' hSw; have c2 := (P5.out.x.ofBlock (w' := w') (hSw.block sb P5.out.x.lt NGS.out)).c2; clear hSw; go_simp
    change wpAnyH _ _ _ _ _ _ _ { tmps := #[_,_,_,_,_,_,_,_,_,_,_,_,_,_,_,_,_,_,_,_,_,_,_,_,_,_,_,_,_,_,_,_,_,_,_,_,_,_,_,_,_,_,_,_,_,_,_,_,_,_,_,_,_,_,_,_,_,_,_,_,_,_,_,_,_,_,_,_,_,_,_,_,_,_,_,_,_,_,_,_,_,_,_,_,_,_,_,_,_,_,_,_,_,_,_,_,_,_,_,_,_,_,_,_,_,_,_,_,_,_,_,_,_,_,_,_,_,_,_,_,_,_,_,_,_,_,_,_,_,_,_,_,_,_,_,_,_,_,_,_,_,_,_,_,_,_,_,_,_,_,_,_,_,_,_,_,_,_,_,_,_,_,_,_,_,_,_,_,_,_,_,_,_,_,_,_,_,_,_,_,_,_,_,_,_,_,_,_,_,_,_,_,_,_,_,_,_,_,_,_,_,_,_,_,_,_,_,_,_,_,_,_,_,_,_,_,_,_,_,_,_,_,_,_,_,_,_,_,_,_,_,_,_,_,_,_,_,_,_,_,_,_,_,_,_,_,_,_,_,_,_,_,_,_,_,_,_,_,_,_,_,_,_,_,_,_,_,_,_,_,_,_,_,_,_,_,_,_,_,_,_,_,_,_,_,_,_,_,_,_,_,_,_,_,_,_,_,_,_,_,_,_,_,_,_,_,_,_,_,_,_,_,_,_,_,_,_,_,_,_,_,_], defers := _ } _
    refine tkH (i := 5) (v := .int .i64 (p : Int)) rfl (by kernel_rfl) (by rfl) ?_ H ?_
    ·intro w' hSw; clear hSw; go_simp
    change wpAnyH _ _ _ _ _ _ _ { tmps := #[_,_,_,_,_,_,_,_,_,_,_,_,_,_,_,_,_,_,_,_,_,_,_,_,_,_,_,_,_,_,_,_,_,_,_,_,_,_,_,_,_,_,_,_,_,_,_,_,_,_,_,_,_,_,_,_,_,_,_,_,_,_,_,_,_,_,_,_,_,_,_,_,_,_,_,_,_,_,_,_,_,_,_,_,_,_,_,_,_,_,_,_,_,_,_,_,_,_,_,_,_,_,_,_,_,_,_,_,_,_,_,_,_,_,_,_,_,_,_,_,_,_,_,_,_,_,_,_,_,_,_,_,_,_,_,_,_,_,_,_,_,_,_,_,_,_,_,_,_,_,_,_,_,_,_,_,_,_,_,_,_,_,_,_,_,_,_,_,_,_,_,_,_,_,_,_,_,_,_,_,_,_,_,_,_,_,_,_,_,_,_,_,_,_,_,_,_,_,_,_,_,_,_,_,_,_,_,_,_,_,_,_,_,_,_,_,_,_,_,_,_,_,_,_,_,_,_,_,_,_,_,_,_,_,_,_,_,_,_,_,_,_,_,_,_,_,_,_,_,_,_,_,_,_,_,_,_,_,_,_,_,_,_,_,_,_,_,_,_,_,_,_,_,_,_,_,_,_,_,_,_,_,_,_,_,_,_,_,_,_,_,_,_,_,_,_,_,_,_,_,_,_,_,_,_,_,_,_,_,_,_,_,_,_,_,_,_,_,_,_,_,_], defers := _ } _
    refine tkH (i := 6) (v := .pointer (some ⟨gw, p * 5, none⟩)) rfl (by kernel_rfl) (by rfl) ?_ H ?_
    ·intro w' hSw; clear hSw; go_simp
    change wpAnyH _ _ _ _ _ _ _ { tmps := #[_,_,_,_,_,_,_,_,_,_,_,_,_,_,_,_,_,_,_,_,_,_,_,_,_,_,_,_,_,_,_,_,_,_,_,_,_,_,_,_,_,_,_,_,_,_,_,_,_,_,_,_,_,_,_,_,_,_,_,_,_,_,_,_,_,_,_,_,_,_,_,_,_,_,_,_,_,_,_,_,_,_,_,_,_,_,_,_,_,_,_,_,_,_,_,_,_,_,_,_,_,_,_,_,_,_,_,_,_,_,_,_,_,_,_,_,_,_,_,_,_,_,_,_,_,_,_,_,_,_,_,_,_,_,_,_,_,_,_,_,_,_,_,_,_,_,_,_,_,_,_,_,_,_,_,_,_,_,_,_,_,_,_,_,_,_,_,_,_,_,_,_,_,_,_,_,_,_,_,_,_,_,_,_,_,_,_,_,_,_,_,_,_,_,_,_,_,_,_,_,_,_,_,_,_,_,_,_,_,_,_,_,_,_,_,_,_,_,_,_,_,_,_,_,_,_,_,_,_,_,_,_,_,_,_,_,_,_,_,_,_,_,_,_,_,_,_,_,_,_,_,_,_,_,_,_,_,_,_,_,_,_,_,_,_,_,_,_,_,_,_,_,_,_,_,_,_,_,_,_,_,_,_,_,_,_,_,_,_,_,_,_,_,_,_,_,_,_,_,_,_,_,_,_,_,_,_,_,_,_,_,_,_,_,_,_,_,_,_,_,_,_], defers := _ } _
    refine tkH (i := 7) (v := .pointer (some ⟨gw, p * 5 + 2, none⟩)) rfl (by kernel_rfl) (by rfl) ?_ H ?_
    ·intro w' hSw; clear hSw; go_simp
    change wpAnyH _ _ _ _ _ _ _ { tmps := #[_,_,_,_,_,_,_,_,_,_,_,_,_,_,_,_,_,_,_,_,_,_,_,_,_,_,_,_,_,_,_,_,_,_,_,_,_,_,_,_,_,_,_,_,_,_,_,_,_,_,_,_,_,_,_,_,_,_,_,_,_,_,_,_,_,_,_,_,_,_,_,_,_,_,_,_,_,_,_,_,_,_,_,_,_,_,_,_,_,_,_,_,_,_,_,_,_,_,_,_,_,_,_,_,_,_,_,_,_,_,_,_,_,_,_,_,_,_,_,_,_,_,_,_,_,_,_,_,_,_,_,_,_,_,_,_,_,_,_,_,_,_,_,_,_,_,_,_,_,_,_,_,_,_,_,_,_,_,_,_,_,_,_,_,_,_,_,_,_,_,_,_,_,_,_,_,_,_,_,_,_,_,_,_,_,_,_,_,_,_,_,_,_,_,_,_,_,_,_,_,_,_,_,_,_,_,_,_,_,_,_,_,_,_,_,_,_,_,_,_,_,_,_,_,_,_,_,_,_,_,_,_,_,_,_,_,_,_,_,_,_,_,_,_,_,_,_,_,_,_,_,_,_,_,_,_,_,_,_,_,_,_,_,_,_,_,_,_,_,_,_,_,_,_,_,_,_,_,_,_,_,_,_,_,_,_,_,_,_,_,_,_,_,_,_,_,_,_,_,_,_,_,_,_,_,_,_,_,_,_,_,_,_,_,_,_,_,_,_,_,_,_], defers := _ } _
    refine tkH (i := 9) (v := .int .i64 (k : Int)) rfl (by kernel_rfl) (by rfl) ?_ H ?_
    ·intro w' hSw; clear hSw; go_simp
    change wpAnyH _ _ _ _ _ _ _ { tmps := #[_,_,_,_,_,_,_,_,_,_,_,_,_,_,_,_,_,_,_,_,_,_,_,_,_,_,_,_,_,_,_,_,_,_,_,_,_,_,_,_,_,_,_,_,_,_,_,_,_,_,_,_,_,_,_,_,_,_,_,_,_,_,_,_,_,_,_,_,_,_,_,_,_,_,_,_,_,_,_,_,_,_,_,_,_,_,_,_,_,_,_,_,_,_,_,_,_,_,_,_,_,_,_,_,_,_,_,_,_,_,_,_,_,_,_,_,_,_,_,_,_,_,_,_,_,_,_,_,_,_,_,_,_,_,_,_,_,_,_,_,_,_,_,_,_,_,_,_,_,_,_,_,_,_,_,_,_,_,_,_,_,_,_,_,_,_,_,_,_,_,_,_,_,_,_,_,_,_,_,_,_,_,_,_,_,_,_,_,_,_,_,_,_,_,_,_,_,_,_,_,_,_,_,_,_,_,_,_,_,_,_,_,_,_,_,_,_,_,_,_,_,_,_,_,_,_,_,_,_,_,_,_,_,_,_,_,_,_,_,_,_,_,_,_,_,_,_,_,_,_,_,_,_,_,_,_,_,_,_,_,_,_,_,_,_,_,_,_,_,_,_,_,_,_,_,_,_,_,_,_,_,_,_,_,_,_,_,_,_,_,_,_,_,_,_,_,_,_,_,_,_,_,_,_,_,_,_,_,_,_,_,_,_,_,_,_,_,_,_,_,_,_], defers := _ } _
    refine rdH (i := 8) (by kernel_rfl) rfl (fun KK hK => ?_)
    have q2 : z0.cell? ⟨gw, p * 5 + 2, none⟩ = some (.slice la (s.W p).ne lcap) := by have := KX.out.c pm 2 (by omega); rw [← EV.out]; exact this
    go_simp
    refine hK.out _ _ H (fun _ => ?_)
    clear hK KK
    change wpAnyH _ _ _ _ _ _ _ { tmps := #[_,_,_,_,_,_,_,_,_,_,_,_,_,_,_,_,_,_,_,_,_,_,_,_,_,_,_,_,_,_,_,_,_,_,_,_,_,_,_,_,_,_,_,_,_,_,_,_,_,_,_,_,_,_,_,_,_,_,_,_,_,_,_,_,_,_,_,_,_,_,_,_,_,_,_,_,_,_,_,_,_,_,_,_,_,_,_,_,_,_,_,_,_,_,_,_,_,_,_,_,_,_,_,_,_,_,_,_,_,_,_,_,_,_,_,_,_,_,_,_,_,_,_,_,_,_,_,_,_,_,_,_,_,_,_,_,_,_,_,_,_,_,_,_,_,_,_,_,_,_,_,_,_,_,_,_,_,_,_,_,_,_,_,_,_,_,_,_,_,_,_,_,_,_,_,_,_,_,_,_,_,_,_,_,_,_,_,_,_,_,_,_,_,_,_,_,_,_,_,_,_,_,_,_,_,_,_,_,_,_,_,_,_,_,_,_,_,_,_,_,_,_,_,_,_,_,_,_,_,_,_,_,_,_,_,_,_,_,_,_,_,_,_,_,_,_,_,_,_,_,_,_,_,_,_,_,_,_,_,_,_,_,_,_,_,_,_,_,_,_,_,_,_,_,_,_,_,_,_,_,_,_,_,_,_,_,_,_,_,_,_,_,_,_,_,_,_,_,_,_,_,_,_,_,_,_,_,_,_,_,_,_,_,_,_,_,_,_,_,_,_,_], defers := _ } _
    refine rdH (i := 10) (by kernel_rfl) rfl (fun KK hK => ?_)
    go_simp
    refine (l09Without_any s.n la (s.W p).ne lcap (s.W p).E k (OK.out.2.1 p pm).2.2.2.1 (by have := ids_le (OK.out.2.1 p pm).2.2.2.1; have := OK.out.1.1.2; omega) z0 LX.out).mono ?_
    rintro e z1 ⟨⟨xb, xd, rfl, hI⟩, hb⟩
    have KX2 : Hid (RkW z1 B gw wc s.m s.W VW p (s.W p) (VW p)) := KX.out.below hb
    have fz : ∀ g, (Value.slice xb (subE (s.W p).ne (s.W p).E k).1 xd).ownBlock = some g → v5.heap.size ≤ g := fun g e => Nat.le_trans H.size (EO.ge hI g e).1
    have II : Hid (IE z1 B (Value.slice xb (subE (s.W p).ne (s.W p).E k).1 xd) (subE (s.W p).ne (s.W p).E k).1 (subE (s.W p).ne (s.W p).E k).2) := EO.mono hI (Nat.le_trans B5.out.1 H.size)
    replace H : ChB (PG gw) v5 z1 := H.step hb
    obtain ⟨ne', hne⟩ : ∃ x, x = (subE (s.W p).ne (s.W p).E k).1 := ⟨_, rfl⟩
    have HNE : Hid (ne' = (subE (s.W p).ne (s.W p).E k).1) := hne
    have FZ : Hid (∀ g, (Value.slice xb ne' xd).ownBlock = some g → v5.heap.size ≤ g) := by rw [hne]; exact fz
    rw [← hne] at II ⊢
    clear hI hb hne fz KX LX
    refine hK.out _ _ H (fun _ => ?_)
    clear hK KK
    change wpAnyH _ _ _ _ _ _ _ { tmps := #[_,_,_,_,_,_,_,_,_,_,_,_,_,_,_,_,_,_,_,_,_,_,_,_,_,_,_,_,_,_,_,_,_,_,_,_,_,_,_,_,_,_,_,_,_,_,_,_,_,_,_,_,_,_,_,_,_,_,_,_,_,_,_,_,_,_,_,_,_,_,_,_,_,_,_,_,_,_,_,_,_,_,_,_,_,_,_,_,_,_,_,_,_,_,_,_,_,_,_,_,_,_,_,_,_,_,_,_,_,_,_,_,_,_,_,_,_,_,_,_,_,_,_,_,_,_,_,_,_,_,_,_,_,_,_,_,_,_,_,_,_,_,_,_,_,_,_,_,_,_,_,_,_,_,_,_,_,_,_,_,_,_,_,_,_,_,_,_,_,_,_,_,_,_,_,_,_,_,_,_,_,_,_,_,_,_,_,_,_,_,_,_,_,_,_,_,_,_,_,_,_,_,_,_,_,_,_,_,_,_,_,_,_,_,_,_,_,_,_,_,_,_,_,_,_,_,_,_,_,_,_,_,_,_,_,_,_,_,_,_,_,_,_,_,_,_,_,_,_,_,_,_,_,_,_,_,_,_,_,_,_,_,_,_,_,_,_,_,_,_,_,_,_,_,_,_,_,_,_,_,_,_,_,_,_,_,_,_,_,_,_,_,_,_,_,_,_,_,_,_,_,_,_,_,_,_,_,_,_,_,_,_,_,_,_,_,_,_,_,_,_,_], defers := _ } _
    refine tkH (i := 11) (v := .pointer (some ⟨gw, p * 5, none⟩)) rfl (by kernel_rfl) (by rfl) ?_ H ?_
    ·intro w' hSw; clear hSw; go_simp
    change wpAnyH _ _ _ _ _ _ _ { tmps := #[_,_,_,_,_,_,_,_,_,_,_,_,_,_,_,_,_,_,_,_,_,_,_,_,_,_,_,_,_,_,_,_,_,_,_,_,_,_,_,_,_,_,_,_,_,_,_,_,_,_,_,_,_,_,_,_,_,_,_,_,_,_,_,_,_,_,_,_,_,_,_,_,_,_,_,_,_,_,_,_,_,_,_,_,_,_,_,_,_,_,_,_,_,_,_,_,_,_,_,_,_,_,_,_,_,_,_,_,_,_,_,_,_,_,_,_,_,_,_,_,_,_,_,_,_,_,_,_,_,_,_,_,_,_,_,_,_,_,_,_,_,_,_,_,_,_,_,_,_,_,_,_,_,_,_,_,_,_,_,_,_,_,_,_,_,_,_,_,_,_,_,_,_,_,_,_,_,_,_,_,_,_,_,_,_,_,_,_,_,_,_,_,_,_,_,_,_,_,_,_,_,_,_,_,_,_,_,_,_,_,_,_,_,_,_,_,_,_,_,_,_,_,_,_,_,_,_,_,_,_,_,_,_,_,_,_,_,_,_,_,_,_,_,_,_,_,_,_,_,_,_,_,_,_,_,_,_,_,_,_,_,_,_,_,_,_,_,_,_,_,_,_,_,_,_,_,_,_,_,_,_,_,_,_,_,_,_,_,_,_,_,_,_,_,_,_,_,_,_,_,_,_,_,_,_,_,_,_,_,_,_,_,_,_,_,_,_,_,_,_,_,_], defers := _ } _
    refine tkH (i := 12) (v := .pointer (some ⟨gw, p * 5 + 2, none⟩)) rfl (by kernel_rfl) (by rfl) ?_ H ?_
    ·intro w' hSw; clear hSw; go_simp
    change wpAnyH _ _ _ _ _ _ _ { tmps := #[_,_,_,_,_,_,_,_,_,_,_,_,_,_,_,_,_,_,_,_,_,_,_,_,_,_,_,_,_,_,_,_,_,_,_,_,_,_,_,_,_,_,_,_,_,_,_,_,_,_,_,_,_,_,_,_,_,_,_,_,_,_,_,_,_,_,_,_,_,_,_,_,_,_,_,_,_,_,_,_,_,_,_,_,_,_,_,_,_,_,_,_,_,_,_,_,_,_,_,_,_,_,_,_,_,_,_,_,_,_,_,_,_,_,_,_,_,_,_,_,_,_,_,_,_,_,_,_,_,_,_,_,_,_,_,_,_,_,_,_,_,_,_,_,_,_,_,_,_,_,_,_,_,_,_,_,_,_,_,_,_,_,_,_,_,_,_,_,_,_,_,_,_,_,_,_,_,_,_,_,_,_,_,_,_,_,_,_,_,_,_,_,_,_,_,_,_,_,_,_,_,_,_,_,_,_,_,_,_,_,_,_,_,_,_,_,_,_,_,_,_,_,_,_,_,_,_,_,_,_,_,_,_,_,_,_,_,_,_,_,_,_,_,_,_,_,_,_,_,_,_,_,_,_,_,_,_,_,_,_,_,_,_,_,_,_,_,_,_,_,_,_,_,_,_,_,_,_,_,_,_,_,_,_,_,_,_,_,_,_,_,_,_,_,_,_,_,_,_,_,_,_,_,_,_,_,_,_,_,_,_,_,_,_,_,_,_,_,_,_,_,_], defers := _ } _
    refine rdH (i := 13) (by kernel_rfl) rfl (fun KK hK => ?_)
    have f2 := KX2.out.fr pm 2 (by omega)
    have q2 : z1.cell? ⟨gw, p * 5 + 2, none⟩ = some (VW p) := KX2.out.c pm 2 (by omega)
    go_simp
    have K6 : Hid (RkW (z1.setCell ⟨gw, p * 5 + 2, none⟩ (.slice xb ne' xd)) B gw wc s.m s.W VW p ((s.W p).lose k) (.slice xb ne' xd)) := by have h9 := KX2.out.setE pm (.slice xb ne' xd) ne' (subE (s.W p).ne (s.W p).E k).2; rw [HNE.out] at h9 ⊢; exact h9
    have I6 : Hid (IE (z1.setCell ⟨gw, p * 5 + 2, none⟩ (.slice xb ne' xd)) B (.slice xb ne' xd) ((s.W p).lose k).ne ((s.W p).lose k).E) := by have h9 := IE.setOther II.out KX2.out (by decide) (p * 5 + 2) (.slice xb ne' xd); rw [HNE.out] at h9 ⊢; exact h9
    replace H : ChB (PG gw) v5 (z1.setCell ⟨gw, p * 5 + 2, none⟩ (.slice xb ne' xd)) := H.at gw (.inl rfl) _ _
    clear f2 q2 II KX2
    generalize (z1.setCell ⟨gw, p * 5 + 2, none⟩ (.slice xb ne' xd)) = z2 at *
    refine hK.out _ _ H (fun _ => ?_)
    clear hK KK
    change wpAnyH _ _ _ _ _ _ _ { tmps := #[_,_,_,_,_,_,_,_,_,_,_,_,_,_,_,_,_,_,_,_,_,_,_,_,_,_,_,_,_,_,_,_,_,_,_,_,_,_,_,_,_,_,_,_,_,_,_,_,_,_,_,_,_,_,_,_,_,_,_,_,_,_,_,_,_,_,_,_,_,_,_,_,_,_,_,_,_,_,_,_,_,_,_,_,_,_,_,_,_,_,_,_,_,_,_,_,_,_,_,_,_,_,_,_,_,_,_,_,_,_,_,_,_,_,_,_,_,_,_,_,_,_,_,_,_,_,_,_,_,_,_,_,_,_,_,_,_,_,_,_,_,_,_,_,_,_,_,_,_,_,_,_,_,_,_,_,_,_,_,_,_,_,_,_,_,_,_,_,_,_,_,_,_,_,_,_,_,_,_,_,_,_,_,_,_,_,_,_,_,_,_,_,_,_,_,_,_,_,_,_,_,_,_,_,_,_,_,_,_,_,_,_,_,_,_,_,_,_,_,_,_,_,_,_,_,_,_,_,_,_,_,_,_,_,_,_,_,_,_,_,_,_,_,_,_,_,_,_,_,_,_,_,_,_,_,_,_,_,_,_,_,_,_,_,_,_,_,_,_,_,_,_,_,_,_,_,_,_,_,_,_,_,_,_,_,_,_,_,_,_,_,_,_,_,_,_,_,_,_,_,_,_,_,_,_,_,_,_,_,_,_,_,_,_,_,_,_,_,_,_,_,_], defers := _ } _
    refine wpAnyH_done (by kernel_rfl) ?_ _
    refine NoPanic.normal ?_
    have H6 : Hid (ChB (PG gw) v5 z2) := H
    clear H
    go_upto_region 55 with fail
    have PE := P5.out.chW pm (H6.out.wide (fun g z => .inl (by unfold PG at z; rw [z]; rfl))) K6.out I6.out (fun g e => .inr (FZ.out g e))
    have RE : Box4 z2 rb 28 (.slice none 0 0) (.int .i64 0) (.slice none 0 0) (.slice none 0 0) := RB5.out.ch H6.out (P5.out.nbG (.inr (.inl rfl)) RB5.out (by decide) (by decide) (by decide))
    have k0 := PE.x.c0
    have y0 := RE.c0
    have u0 := RE.fr 0
    have k1 := PE.x.c1
    have y1 := RE.c1
    have u1 := RE.fr 1
    have k2 := PE.x.c2
    have y2 := RE.c2
    have u2 := RE.fr 2
    have k3 := PE.x.c3
    have y3 := RE.c3
    have u3 := RE.fr 3
    have X9 : Hid (Box4 ((((z2.setCell ⟨rb, 0, none⟩ (.slice (some ⟨gr, 0, none⟩) s.n rc)).setCell ⟨rb, 1, none⟩ (.int .i64 s.t)).setCell ⟨rb, 2, none⟩ (.slice (some ⟨gw, 0, none⟩) s.m wc)).setCell ⟨rb, 3, none⟩ (.slice qa s.l qc)) rb 28 (.slice (some ⟨gr, 0, none⟩) s.n rc) (.int .i64 s.t) (.slice (some ⟨gw, 0, none⟩) s.m wc) (.slice qa s.l qc)) := (((RE.set0 _).set1 _).set2 _).set3 _
    have Q9 : Hid (RetR B s _ (.returned (.tuple #[.agg #[.slice (some ⟨gr, 0, none⟩) s.n rc, .int .i64 s.t, .slice (some ⟨gw, 0, none⟩) s.m wc, .slice qa s.l qc], .int .i64 0])) ((((z2.setCell ⟨rb, 0, none⟩ (.slice (some ⟨gr, 0, none⟩) s.n rc)).setCell ⟨rb, 1, none⟩ (.int .i64 s.t)).setCell ⟨rb, 2, none⟩ (.slice (some ⟨gw, 0, none⟩) s.m wc)).setCell ⟨rb, 3, none⟩ (.slice qa s.l qc))) := retR_end (s' := { s with R := updE s.R k ((s.R k).boot false), W := updE s.W p ((s.W p).lose k) }) (by have h := ActS.restartW (s := s) (a := ⟨6, k, an⟩) k hk rfl rfl (by omega) (by rw [← HP.out]; exact HE.out); rw [HZ.out, ← HP.out] at h; exact h) PE RE
    have B9 : Hid (Below B w ((((z2.setCell ⟨rb, 0, none⟩ (.slice (some ⟨gr, 0, none⟩) s.n rc)).setCell ⟨rb, 1, none⟩ (.int .i64 s.t)).setCell ⟨rb, 2, none⟩ (.slice (some ⟨gw, 0, none⟩) s.m wc)).setCell ⟨rb, 3, none⟩ (.slice qa s.l qc))) := below_res (B5.out.2.trans (H6.out.toBelow (fun g z => by unfold PG at z; rw [z]; exact P5.out.blk (.inr (.inl rfl))) B5.out.1)) (by have := DI.out; omega) _ _ _ _
    clear PE RE P5 RB5 B5 OK DI HSB HZ HP HE KWH LN K6 I6 H6 FZ EV
    go_wp2
    exact ret_cell2 (b := rb) Try.results74 rfl rfl (Box4.loadsv X9.out) ⟨Q9.out, B9.out⟩
   ·have hge : ¬ (s.W p).en < 0 := by have h1 := tm.1.1; have h2 := tm.2; omega
    have NE : Hid (¬ (s.W p).en = -1) := he
    clear he tm
    go_upto_region 55 with fail
    clear c2 q4
    have PE := P5.out
    have RE : Box4 v5 rb 28 (.slice none 0 0) (.int .i64 0) (.slice none 0 0) (.slice none 0 0) := RB5.out
    have k0 := PE.x.c0
    have y0 := RE.c0
    have u0 := RE.fr 0
    have k1 := PE.x.c1
    have y1 := RE.c1
    have u1 := RE.fr 1
    have k2 := PE.x.c2
    have y2 := RE.c2
    have u2 := RE.fr 2
    have k3 := PE.x.c3
    have y3 := RE.c3
    have u3 := RE.fr 3
    have X9 : Hid (Box4 ((((v5.setCell ⟨rb, 0, none⟩ (.slice (some ⟨gr, 0, none⟩) s.n rc)).setCell ⟨rb, 1, none⟩ (.int .i64 s.t)).setCell ⟨rb, 2, none⟩ (.slice (some ⟨gw, 0, none⟩) s.m wc)).setCell ⟨rb, 3, none⟩ (.slice qa s.l qc)) rb 28 (.slice (some ⟨gr, 0, none⟩) s.n rc) (.int .i64 s.t) (.slice (some ⟨gw, 0, none⟩) s.m wc) (.slice qa s.l qc)) := (((RE.set0 _).set1 _).set2 _).set3 _
    have Q9 : Hid (RetR B s _ (.returned (.tuple #[.agg #[.slice (some ⟨gr, 0, none⟩) s.n rc, .int .i64 s.t, .slice (some ⟨gw, 0, none⟩) s.m wc, .slice qa s.l qc], .int .i64 0])) ((((v5.setCell ⟨rb, 0, none⟩ (.slice (some ⟨gr, 0, none⟩) s.n rc)).setCell ⟨rb, 1, none⟩ (.int .i64 s.t)).setCell ⟨rb, 2, none⟩ (.slice (some ⟨gw, 0, none⟩) s.m wc)).setCell ⟨rb, 3, none⟩ (.slice qa s.l qc))) := retR_end (s' := { s with R := updE s.R k ((s.R k).boot false) }) (by have h := ActS.restart (s := s) (a := ⟨6, k, an⟩) k hk rfl rfl (fun z => NE.out (by rw [HP.out]; exact z.2)); rw [HZ.out] at h; exact h) PE RE
    have B9 : Hid (Below B w ((((v5.setCell ⟨rb, 0, none⟩ (.slice (some ⟨gr, 0, none⟩) s.n rc)).setCell ⟨rb, 1, none⟩ (.int .i64 s.t)).setCell ⟨rb, 2, none⟩ (.slice (some ⟨gw, 0, none⟩) s.m wc)).setCell ⟨rb, 3, none⟩ (.slice qa s.l qc))) := below_res (B5.out.2) (by have := DI.out; omega) _ _ _ _
    clear PE RE P5 RB5 B5 OK DI HSB HZ HP NE KWH
    go_wp2
    exact ret_cell2 (b := rb) Try.results74 rfl rfl (Box4.loadsv X9.out) ⟨Q9.out, B9.out⟩
end Go.Proofs.Ytedncfcmhaaobaa
