/-
  Texts of the proof, joined: QuRe.
-/
import Derived.Test.YtedncfcmhaaobaaY32
import Derived.Deep.Cut
import Derived.Test.YtedncfcmhaaobaaTkH
namespace Go.Proofs.Ytedncfcmhaaobaa
open Go.ChangeShapes Go.WideShapes Go.ChangeAt Go.RowKit
set_option linter.unusedVariables false
theorem BxF.st8 {w : World} {p : Nat} {t : TypeId} {f : Nat → Value} (h : BxF w p t 8 f) (x : Nat → Value) : BxF ((((((((w.setCell ⟨p, 0, none⟩ (x 0)).setCell ⟨p, 1, none⟩ (x 1)).setCell ⟨p, 2, none⟩ (x 2)).setCell ⟨p, 3, none⟩ (x 3)).setCell ⟨p, 4, none⟩ (x 4)).setCell ⟨p, 5, none⟩ (x 5)).setCell ⟨p, 6, none⟩ (x 6)).setCell ⟨p, 7, none⟩ (x 7)) p t 8 x :=
 World.rowIs.congr (World.rowIs.set (World.rowIs.set (World.rowIs.set (World.rowIs.set (World.rowIs.set (World.rowIs.set (World.rowIs.set (World.rowIs.set h 0 (x 0)) 1 (x 1)) 2 (x 2)) 3 (x 3)) 4 (x 4)) 5 (x 5)) 6 (x 6)) 7 (x 7)) (fun i hi => by
  rcases (show i = 0 ∨ i = 1 ∨ i = 2 ∨ i = 3 ∨ i = 4 ∨ i = 5 ∨ i = 6 ∨ i = 7 by omega) with rfl | rfl | rfl | rfl | rfl | rfl | rfl | rfl <;> rfl)
theorem BxF.fr {w : World} {b : Nat} {t : TypeId} {m : Nat} {f : Nat → Value} (h : BxF w b t m f) (i : Nat) : w.frozen? ⟨b, i, none⟩ = false := World.rowIs.frozen h i
theorem BxF.lt {w : World} {b : Nat} {t : TypeId} {m : Nat} {f : Nat → Value} (h : BxF w b t m f) : b < w.heap.size := World.rowIs.lt h
theorem BxF.ofBlock {w w' : World} {b : Nat} {t : TypeId} {m : Nat} {f : Nat → Value} (h : BxF w b t m f) (e : w'.heap[b]? = w.heap[b]?) : BxF w' b t m f := World.rowIs.of_block h e
theorem retA_reply {N : Nat → Prop} {w : World} {B b : Nat} {s : Sv} {a : Qa} {k q : Nat} {x : Ro} (hk : k < s.n) (hq : q < s.l) (hA : a.k = 4 ∧ a.r = k ∧ a.n = q) (hu : (s.R k).mute = false) (he : (s.Q q).en = -1) (hn : ¬ hasE (s.Q q).ne (s.Q q).E k) (hx : x = (s.Q q).hear s.n s.t k (s.R k).nc (s.R k).nt) (h : SvX N w B b { s with Q := updE s.Q q x }) : RetA N B b s a (.returned (.int .i64 0)) w := by
 subst hx
 exact ⟨_, 0, .reply k q hk hA.2.1 hA.1 hq hA.2.2 hu he hn, rfl, h⟩
set_option maxRecDepth 100000 in
set_option maxHeartbeats 8000000 in
theorem reply_v {N : Nat → Prop} (B b : Nat) (s : Sv) (a : Qa) (k : Nat) (hk : k < s.n) (ha : a.k = 4) (hr : a.r = k) (ok : s.Ok) (w : World) (hB : B ≤ w.heap.size) (h : SvX N w B b s) :
  Calls Try.prog 86 #[.pointer (some ⟨b, 0, none⟩), .int .i64 (k : Int), .int .i64 a.n] w fun e w' => RetA N B b s a e w' ∧ Blw N B w w' := by
 obtain ⟨vr, vw, vq, VR, VW, VQ, P⟩ := h.p
 clear h
 obtain ⟨qa, qc, rfl⟩ := P.o.q.form
 obtain ⟨ra, rc, rfl⟩ := P.o.r.form
 obtain ⟨wa, wc, rfl⟩ := P.o.x.form
 have c3 := P.x.c3
 by_cases hq0 : a.n < 0
 ·have Q : Hid (RetA N B b s a (.returned (.int .i64 4)) w) := ⟨s, 4, .reply0 k hk hr ha (by omega), rfl, P.sv⟩
  clear P ok hk hr ha
  go_enter Try.func86, Try.ntmps86
  go_wp2
  go_ret
  exact ⟨Q.out, Blw.refl _ _ _⟩
 ·by_cases hq1 : (s.l : Int) ≤ a.n
  ·have Q : Hid (RetA N B b s a (.returned (.int .i64 4)) w) := ⟨s, 4, .reply0 k hk hr ha (by omega), rfl, P.sv⟩
   clear P ok hk hr ha
   go_enter Try.func86, Try.ntmps86
   go_wp2
   go_ret
   exact ⟨Q.out, Blw.refl _ _ _⟩
  ·obtain ⟨q, hq⟩ := Int.eq_ofNat_of_zero_le (show 0 ≤ a.n by omega)
   have qm : q < s.l := by omega
   have qlt : (q : Int) < (s.l : Int) := by omega
   have klt : (k : Int) < (s.n : Int) := by omega
   obtain ⟨gr, rfl, gB, gl, KR⟩ := RkR.start P.o.r hk
   obtain ⟨gq, rfl, wB, wl, KQ⟩ := RkQ.start P.o.q qm
   have HA : Hid (a.k = 4 ∧ a.r = k ∧ a.n = q) := ⟨ha, hr, hq⟩
   have OK : Hid s.Ok := ok
   have B0 : Hid (B ≤ w.heap.size) := hB
   have PP : Hid (SvP N w B b s (.slice (some ⟨gr, 0, none⟩) s.n rc) (.slice wa s.m wc) (.slice (some ⟨gq, 0, none⟩) s.l qc) VR VW VQ) := P
   have KRH : Hid (RkR w B gr rc s.n s.R VR k (s.R k) (VR k)) := KR
   have KQH : Hid (RkQ w B gq qc s.l s.Q VQ q (s.Q q) (VQ q)) := KQ
   have q0 : ¬ (q : Int) < 0 := by omega
   obtain ⟨ea, ec, eE⟩ := EO.form (P.o.e k hk)
   have EE : Hid (VR k = .slice ea (s.R k).ne ec) := eE
   rw [hq]
   clear eE
   clear P ok hr ha KR KQ hq hq0 hq1 hB
   go_enter Try.func86, Try.ntmps86
   go_wp2_with fail
   have H : Below w.heap.size w w.drew := (Below.refl _ _).drew
   refine wp_region_noPanic ?_
   refine wp_region_held_drew (S := fun w' => Below w.heap.size w w') (by kernel_rfl) H (fun _ => ?_)
   generalize w.drew = y0 at *
   refine tkH (i := 0) (v := .pointer (some ⟨b, 0, none⟩)) rfl (by kernel_rfl) (by rfl) ?_ H ?_
   ·intro w' hSw; clear hSw; go_simp
   change wpAnyH _ _ _ _ _ _ _ { tmps := #[_,_,_,_,_,_,_,_,_,_,_,_,_,_,_,_,_,_,_,_,_,_,_,_,_,_,_,_,_,_,_,_,_,_,_,_,_,_,_,_,_,_,_,_,_,_,_,_,_,_,_,_,_,_,_,_,_,_,_,_,_,_,_,_,_,_,_,_,_,_,_,_,_,_,_,_,_,_,_,_,_,_], defers := _ } _
   refine tkH (i := 1) (v := .pointer (some ⟨b, 0, none⟩)) rfl (by kernel_rfl) (by rfl) ?_ H ?_
   ·intro w' hSw; clear hSw; go_simp
   change wpAnyH _ _ _ _ _ _ _ { tmps := #[_,_,_,_,_,_,_,_,_,_,_,_,_,_,_,_,_,_,_,_,_,_,_,_,_,_,_,_,_,_,_,_,_,_,_,_,_,_,_,_,_,_,_,_,_,_,_,_,_,_,_,_,_,_,_,_,_,_,_,_,_,_,_,_,_,_,_,_,_,_,_,_,_,_,_,_,_,_,_,_,_,_], defers := _ } _
   refine tkH (i := 2) (v := .pointer (some ⟨b, 0, none⟩)) rfl (by kernel_rfl) (by rfl) ?_ H ?_
   ·intro w' hSw; clear hSw; go_simp
   change wpAnyH _ _ _ _ _ _ _ { tmps := #[_,_,_,_,_,_,_,_,_,_,_,_,_,_,_,_,_,_,_,_,_,_,_,_,_,_,_,_,_,_,_,_,_,_,_,_,_,_,_,_,_,_,_,_,_,_,_,_,_,_,_,_,_,_,_,_,_,_,_,_,_,_,_,_,_,_,_,_,_,_,_,_,_,_,_,_,_,_,_,_,_,_], defers := _ } _
   refine tkH (i := 3) (v := .slice (some ⟨gr, 0, none⟩) s.n rc) rfl (by kernel_rfl) (by rfl) ?_ H ?_
   ·intro w' hSw; have c0 := (PP.out.x.ofBlock (w' := w') (hSw.block b PP.out.x.lt)).c0; clear hSw; go_simp
   change wpAnyH _ _ _ _ _ _ _ { tmps := #[_,_,_,_,_,_,_,_,_,_,_,_,_,_,_,_,_,_,_,_,_,_,_,_,_,_,_,_,_,_,_,_,_,_,_,_,_,_,_,_,_,_,_,_,_,_,_,_,_,_,_,_,_,_,_,_,_,_,_,_,_,_,_,_,_,_,_,_,_,_,_,_,_,_,_,_,_,_,_,_,_,_], defers := _ } _
   refine tkH (i := 4) (v := .int .i64 (k : Int)) rfl (by kernel_rfl) (by rfl) ?_ H ?_
   ·intro w' hSw; clear hSw; go_simp
   change wpAnyH _ _ _ _ _ _ _ { tmps := #[_,_,_,_,_,_,_,_,_,_,_,_,_,_,_,_,_,_,_,_,_,_,_,_,_,_,_,_,_,_,_,_,_,_,_,_,_,_,_,_,_,_,_,_,_,_,_,_,_,_,_,_,_,_,_,_,_,_,_,_,_,_,_,_,_,_,_,_,_,_,_,_,_,_,_,_,_,_,_,_,_,_], defers := _ } _
   refine tkH (i := 5) (v := .pointer (some ⟨gr, k * 8, none⟩)) rfl (by kernel_rfl) (by rfl) ?_ H ?_
   ·intro w' hSw; clear hSw; go_simp
   change wpAnyH _ _ _ _ _ _ _ { tmps := #[_,_,_,_,_,_,_,_,_,_,_,_,_,_,_,_,_,_,_,_,_,_,_,_,_,_,_,_,_,_,_,_,_,_,_,_,_,_,_,_,_,_,_,_,_,_,_,_,_,_,_,_,_,_,_,_,_,_,_,_,_,_,_,_,_,_,_,_,_,_,_,_,_,_,_,_,_,_,_,_,_,_], defers := _ } _
   refine tkH (i := 6) (v := .agg #[.bool (s.R k).mute, .int .i64 (s.R k).nc, .int .i64 (s.R k).nt, .int .i64 (s.R k).sc, .int .i64 (s.R k).st, .slice ea (s.R k).ne ec, .int .i64 (s.R k).bc, .int .i64 (s.R k).bt]) rfl (by kernel_rfl) (by rfl) ?_ H ?_
   ·intro w' hSw; have KT := KRH.out.keep (w' := w') (hSw.block gr KRH.out.lt.2); have r0 : w'.cell? ⟨gr, k * 8, none⟩ = some (.bool (s.R k).mute) := KT.c hk 0 (by omega); have r1 : w'.cell? ⟨gr, k * 8 + 1, none⟩ = some (.int .i64 (s.R k).nc) := KT.c hk 1 (by omega); have r2 : w'.cell? ⟨gr, k * 8 + 2, none⟩ = some (.int .i64 (s.R k).nt) := KT.c hk 2 (by omega); have r3 : w'.cell? ⟨gr, k * 8 + 3, none⟩ = some (.int .i64 (s.R k).sc) := KT.c hk 3 (by omega); have r4 : w'.cell? ⟨gr, k * 8 + 4, none⟩ = some (.int .i64 (s.R k).st) := KT.c hk 4 (by omega); have r5 : w'.cell? ⟨gr, k * 8 + 5, none⟩ = some (.slice ea (s.R k).ne ec) := (by have h5 := KT.c hk 5 (by omega); rw [← EE.out]; exact h5); have r6 : w'.cell? ⟨gr, k * 8 + 6, none⟩ = some (.int .i64 (s.R k).bc) := KT.c hk 6 (by omega); have r7 : w'.cell? ⟨gr, k * 8 + 7, none⟩ = some (.int .i64 (s.R k).bt) := KT.c hk 7 (by omega); clear KT hSw; go_simp
   change wpAnyH _ _ _ _ _ _ _ { tmps := #[_,_,_,_,_,_,_,_,_,_,_,_,_,_,_,_,_,_,_,_,_,_,_,_,_,_,_,_,_,_,_,_,_,_,_,_,_,_,_,_,_,_,_,_,_,_,_,_,_,_,_,_,_,_,_,_,_,_,_,_,_,_,_,_,_,_,_,_,_,_,_,_,_,_,_,_,_,_,_,_,_,_], defers := _ } _
   refine tkH (i := 7) (v := .pointer (some ⟨b, 0, none⟩)) rfl (by kernel_rfl) (by rfl) ?_ H ?_
   ·intro w' hSw; clear hSw; go_simp
   change wpAnyH _ _ _ _ _ _ _ { tmps := #[_,_,_,_,_,_,_,_,_,_,_,_,_,_,_,_,_,_,_,_,_,_,_,_,_,_,_,_,_,_,_,_,_,_,_,_,_,_,_,_,_,_,_,_,_,_,_,_,_,_,_,_,_,_,_,_,_,_,_,_,_,_,_,_,_,_,_,_,_,_,_,_,_,_,_,_,_,_,_,_,_,_], defers := _ } _
   refine tkH (i := 8) (v := .pointer (some ⟨b, 0, none⟩)) rfl (by kernel_rfl) (by rfl) ?_ H ?_
   ·intro w' hSw; clear hSw; go_simp
   change wpAnyH _ _ _ _ _ _ _ { tmps := #[_,_,_,_,_,_,_,_,_,_,_,_,_,_,_,_,_,_,_,_,_,_,_,_,_,_,_,_,_,_,_,_,_,_,_,_,_,_,_,_,_,_,_,_,_,_,_,_,_,_,_,_,_,_,_,_,_,_,_,_,_,_,_,_,_,_,_,_,_,_,_,_,_,_,_,_,_,_,_,_,_,_], defers := _ } _
   refine tkH (i := 9) (v := .pointer (some ⟨b, 3, none⟩)) rfl (by kernel_rfl) (by rfl) ?_ H ?_
   ·intro w' hSw; clear hSw; go_simp
   change wpAnyH _ _ _ _ _ _ _ { tmps := #[_,_,_,_,_,_,_,_,_,_,_,_,_,_,_,_,_,_,_,_,_,_,_,_,_,_,_,_,_,_,_,_,_,_,_,_,_,_,_,_,_,_,_,_,_,_,_,_,_,_,_,_,_,_,_,_,_,_,_,_,_,_,_,_,_,_,_,_,_,_,_,_,_,_,_,_,_,_,_,_,_,_], defers := _ } _
   refine tkH (i := 10) (v := .slice (some ⟨gq, 0, none⟩) s.l qc) rfl (by kernel_rfl) (by rfl) ?_ H ?_
   ·intro w' hSw; have c3 := (PP.out.x.ofBlock (w' := w') (hSw.block b PP.out.x.lt)).c3; clear hSw; go_simp
   change wpAnyH _ _ _ _ _ _ _ { tmps := #[_,_,_,_,_,_,_,_,_,_,_,_,_,_,_,_,_,_,_,_,_,_,_,_,_,_,_,_,_,_,_,_,_,_,_,_,_,_,_,_,_,_,_,_,_,_,_,_,_,_,_,_,_,_,_,_,_,_,_,_,_,_,_,_,_,_,_,_,_,_,_,_,_,_,_,_,_,_,_,_,_,_], defers := _ } _
   refine tkH (i := 11) (v := .int .i64 (q : Int)) rfl (by kernel_rfl) (by rfl) ?_ H ?_
   ·intro w' hSw; clear hSw; go_simp
   change wpAnyH _ _ _ _ _ _ _ { tmps := #[_,_,_,_,_,_,_,_,_,_,_,_,_,_,_,_,_,_,_,_,_,_,_,_,_,_,_,_,_,_,_,_,_,_,_,_,_,_,_,_,_,_,_,_,_,_,_,_,_,_,_,_,_,_,_,_,_,_,_,_,_,_,_,_,_,_,_,_,_,_,_,_,_,_,_,_,_,_,_,_,_,_], defers := _ } _
   refine tkH (i := 12) (v := .pointer (some ⟨gq, q * 5, none⟩)) rfl (by kernel_rfl) (by rfl) ?_ H ?_
   ·intro w' hSw; clear hSw; go_simp
   change wpAnyH _ _ _ _ _ _ _ { tmps := #[_,_,_,_,_,_,_,_,_,_,_,_,_,_,_,_,_,_,_,_,_,_,_,_,_,_,_,_,_,_,_,_,_,_,_,_,_,_,_,_,_,_,_,_,_,_,_,_,_,_,_,_,_,_,_,_,_,_,_,_,_,_,_,_,_,_,_,_,_,_,_,_,_,_,_,_,_,_,_,_,_,_], defers := _ } _
   refine rdH (i := 13) (by kernel_rfl) rfl (fun KK hK => ?_)
   go_simp
   have hb : Below y0.heap.size y0 (y0.alloc (.cells #[.bool false, .int .i64 0, .int .i64 0, .int .i64 0, .int .i64 0, .slice none 0 0, .int .i64 0, .int .i64 0] 43)) := (Below.refl _ _).alloc (Nat.le_refl _) _
   have RB : Hid (BxF (y0.alloc (.cells #[.bool false, .int .i64 0, .int .i64 0, .int .i64 0, .int .i64 0, .slice none 0 0, .int .i64 0, .int .i64 0] 43)) y0.heap.size 43 8 (rpV rpZ (.slice none 0 0))) := BxF.rp y0 rpZ (.slice none 0 0)
   have LB : Hid (w.heap.size ≤ y0.heap.size) := H.size
   replace H : Below w.heap.size w (y0.alloc (.cells #[.bool false, .int .i64 0, .int .i64 0, .int .i64 0, .int .i64 0, .slice none 0 0, .int .i64 0, .int .i64 0] 43)) := H.trans (hb.mono H.size)
   clear hb
   generalize (y0.alloc (.cells #[.bool false, .int .i64 0, .int .i64 0, .int .i64 0, .int .i64 0, .slice none 0 0, .int .i64 0, .int .i64 0] 43)) = y1 at *
   generalize y0.heap.size = pb at *
   refine hK.out _ _ H (fun _ => ?_)
   clear hK KK
   change wpAnyH _ _ _ _ _ _ _ { tmps := #[_,_,_,_,_,_,_,_,_,_,_,_,_,_,_,_,_,_,_,_,_,_,_,_,_,_,_,_,_,_,_,_,_,_,_,_,_,_,_,_,_,_,_,_,_,_,_,_,_,_,_,_,_,_,_,_,_,_,_,_,_,_,_,_,_,_,_,_,_,_,_,_,_,_,_,_,_,_,_,_,_,_], defers := _ } _
   refine rdH (i := 14) (by kernel_rfl) rfl (fun KK hK => ?_)
   have f0 := RB.out.fr 0
   have f1 := RB.out.fr 1
   have f2 := RB.out.fr 2
   have f3 := RB.out.fr 3
   have f4 := RB.out.fr 4
   have f5 := RB.out.fr 5
   have f6 := RB.out.fr 6
   have f7 := RB.out.fr 7
   have z0 : y1.cell? ⟨pb, 0, none⟩ = some (.bool false) := RB.out.cell 0 (by omega)
   have z1 : y1.cell? ⟨pb, 1, none⟩ = some (.int .i64 0) := RB.out.cell 1 (by omega)
   have z2 : y1.cell? ⟨pb, 2, none⟩ = some (.int .i64 0) := RB.out.cell 2 (by omega)
   have z3 : y1.cell? ⟨pb, 3, none⟩ = some (.int .i64 0) := RB.out.cell 3 (by omega)
   have z4 : y1.cell? ⟨pb, 4, none⟩ = some (.int .i64 0) := RB.out.cell 4 (by omega)
   have z5 : y1.cell? ⟨pb, 5, none⟩ = some (.slice none 0 0) := RB.out.cell 5 (by omega)
   have z6 : y1.cell? ⟨pb, 6, none⟩ = some (.int .i64 0) := RB.out.cell 6 (by omega)
   have z7 : y1.cell? ⟨pb, 7, none⟩ = some (.int .i64 0) := RB.out.cell 7 (by omega)
   go_simp
   have RS : Hid (BxF ((((((((y1.setCell ⟨pb, 0, none⟩ (.bool (s.R k).mute)).setCell ⟨pb, 1, none⟩ (.int .i64 (s.R k).nc)).setCell ⟨pb, 2, none⟩ (.int .i64 (s.R k).nt)).setCell ⟨pb, 3, none⟩ (.int .i64 (s.R k).sc)).setCell ⟨pb, 4, none⟩ (.int .i64 (s.R k).st)).setCell ⟨pb, 5, none⟩ (.slice ea (s.R k).ne ec)).setCell ⟨pb, 6, none⟩ (.int .i64 (s.R k).bc)).setCell ⟨pb, 7, none⟩ (.int .i64 (s.R k).bt)) pb 43 8 (rpV (s.R k) (.slice ea (s.R k).ne ec))) := RB.out.st8 (rpV (s.R k) (.slice ea (s.R k).ne ec))
   replace H : Below w.heap.size w ((((((((y1.setCell ⟨pb, 0, none⟩ (.bool (s.R k).mute)).setCell ⟨pb, 1, none⟩ (.int .i64 (s.R k).nc)).setCell ⟨pb, 2, none⟩ (.int .i64 (s.R k).nt)).setCell ⟨pb, 3, none⟩ (.int .i64 (s.R k).sc)).setCell ⟨pb, 4, none⟩ (.int .i64 (s.R k).st)).setCell ⟨pb, 5, none⟩ (.slice ea (s.R k).ne ec)).setCell ⟨pb, 6, none⟩ (.int .i64 (s.R k).bc)).setCell ⟨pb, 7, none⟩ (.int .i64 (s.R k).bt)) := ((((((((H.setCell LB.out _).setCell LB.out _).setCell LB.out _).setCell LB.out _).setCell LB.out _).setCell LB.out _).setCell LB.out _).setCell LB.out _)
   clear RB f0 z0 f1 z1 f2 z2 f3 z3 f4 z4 f5 z5 f6 z6 f7 z7
   generalize ((((((((y1.setCell ⟨pb, 0, none⟩ (.bool (s.R k).mute)).setCell ⟨pb, 1, none⟩ (.int .i64 (s.R k).nc)).setCell ⟨pb, 2, none⟩ (.int .i64 (s.R k).nt)).setCell ⟨pb, 3, none⟩ (.int .i64 (s.R k).sc)).setCell ⟨pb, 4, none⟩ (.int .i64 (s.R k).st)).setCell ⟨pb, 5, none⟩ (.slice ea (s.R k).ne ec)).setCell ⟨pb, 6, none⟩ (.int .i64 (s.R k).bc)).setCell ⟨pb, 7, none⟩ (.int .i64 (s.R k).bt)) = y2 at *
   refine hK.out _ _ H (fun _ => ?_)
   clear hK KK
   change wpAnyH _ _ _ _ _ _ _ { tmps := #[_,_,_,_,_,_,_,_,_,_,_,_,_,_,_,_,_,_,_,_,_,_,_,_,_,_,_,_,_,_,_,_,_,_,_,_,_,_,_,_,_,_,_,_,_,_,_,_,_,_,_,_,_,_,_,_,_,_,_,_,_,_,_,_,_,_,_,_,_,_,_,_,_,_,_,_,_,_,_,_,_,_], defers := _ } _
   refine tkH (i := 15) (v := .pointer (some ⟨gq, q * 5, none⟩)) rfl (by kernel_rfl) (by rfl) ?_ H ?_
   ·intro w' hSw; clear hSw; go_simp
   change wpAnyH _ _ _ _ _ _ _ { tmps := #[_,_,_,_,_,_,_,_,_,_,_,_,_,_,_,_,_,_,_,_,_,_,_,_,_,_,_,_,_,_,_,_,_,_,_,_,_,_,_,_,_,_,_,_,_,_,_,_,_,_,_,_,_,_,_,_,_,_,_,_,_,_,_,_,_,_,_,_,_,_,_,_,_,_,_,_,_,_,_,_,_,_], defers := _ } _
   refine wpAnyH_done (by kernel_rfl) ?_ _
   refine NoPanic.normal ?_
   have PV : Hid (SvP N y2 B b s (.slice (some ⟨gr, 0, none⟩) s.n rc) (.slice wa s.m wc) (.slice (some ⟨gq, 0, none⟩) s.l qc) VR VW VQ) := PP.out.below H
   have KY : Hid (RkQ y2 B gq qc s.l s.Q VQ q (s.Q q) (VQ q)) := KQH.out.below H
   have BV : Hid (B ≤ y2.heap.size ∧ Blw N B w y2) := ⟨Nat.le_trans B0.out H.size, blw_of H B0.out⟩
   have NP : Hid (gq < pb ∧ pb < y2.heap.size) := ⟨Nat.lt_of_lt_of_le wl LB.out, RS.out.lt⟩
   clear H PP KRH KQH B0 LB
   generalize y2 = v at *
   have m0 : v.cell? ⟨pb, 0, none⟩ = some (.bool (s.R k).mute) := RS.out.cell 0 (by omega)
   by_cases hu : (s.R k).mute = true
   ·have Q : Hid (RetA N B b s a (.returned (.int .i64 13)) v ∧ Blw N B w v) := ⟨⟨s, 13, .reply1 k q hk HA.out.2.1 HA.out.1 qm HA.out.2.2 hu, rfl, PV.out.sv⟩, BV.out.2⟩
    rw [hu] at m0
    clear PV KY BV NP RS hu
    go_wp2
    go_ret
    exact Q.out
   ·have hu' : (s.R k).mute = false := by cases e : (s.R k).mute <;> simp_all
    rw [hu'] at m0
    have HU : Hid ((s.R k).mute = false) := hu'
    clear hu hu'
    have q4 : v.cell? ⟨gq, q * 5 + 4, none⟩ = some (.int .i64 (s.Q q).en) := KY.out.c qm 4 (by omega)
    by_cases he : (s.Q q).en = -1
    ·skip
     have HE : Hid ((s.Q q).en = -1) := he
     rw [he] at q4
     clear he
     have IW := PV.out.o.f q qm
     obtain ⟨la, lcap, eV⟩ := EO.form IW
     have CO : Hid (∀ z : Bool, z = sB (hasE (s.Q q).ne (s.Q q).E k) → Calls Try.prog 107 #[.slice la (s.Q q).ne lcap, .int .i64 (k : Int)] v fun e w' => e = .returned (.bool z) ∧ v = w') := fun z hz => conInt_any la (s.Q q).ne lcap (s.Q q).E k (by have := ids_le (OK.out.2.2.2 q qm).2.1; have := OK.out.1.1.2; omega) z hz v (IE.num (by rw [← eV]; exact IW))
     have q0 : v.cell? ⟨gq, q * 5, none⟩ = some (.slice la (s.Q q).ne lcap) := by have := KY.out.c qm 0 (by omega); rw [← eV]; exact this
     clear IW eV
     by_cases hx : hasE (s.Q q).ne (s.Q q).E k
     ·have CH : Hid (Calls Try.prog 107 #[.slice la (s.Q q).ne lcap, .int .i64 (k : Int)] v fun e w' => e = .returned (.bool true) ∧ v = w') := CO.out true (sB_yes hx).symm
      have Q : Hid (RetA N B b s a (.returned (.int .i64 9)) v ∧ Blw N B w v) := ⟨⟨s, 9, .reply2 k q hk HA.out.2.1 HA.out.1 qm HA.out.2.2 HU.out (.inr hx), rfl, PV.out.sv⟩, BV.out.2⟩
      clear CO PV KY BV NP RS hx HE HU
      go_wp2_with fail
      refine CH.out.mono ?_
      rintro e _ ⟨rfl, rfl⟩
      clear CH
      go_wp2
      go_ret
      exact Q.out
     ·have CH : Hid (Calls Try.prog 107 #[.slice la (s.Q q).ne lcap, .int .i64 (k : Int)] v fun e w' => e = .returned (.bool false) ∧ v = w') := CO.out false (sB_no hx).symm
      have HX : Hid (¬ hasE (s.Q q).ne (s.Q q).E k) := hx
      clear CO hx
      go_wp2_with fail
      refine CH.out.mono ?_
      rintro e _ ⟨rfl, rfl⟩
      clear CH
      go_upto_region 8 with fail
      clear m0 q4 q0
      replace KY : Hid (RkQ v.drew B gq qc s.l s.Q VQ q (s.Q q) (VQ q)) := KY.out.below (Below.refl _ _).drew
      have H : ChB (PG gq) v v.drew := (ChB.refl _ _).drew
      refine wp_region_noPanic ?_
      refine wp_region_held_drew (S := fun w' => ChB (PG gq) v w') (by kernel_rfl) H (fun _ => ?_)
      generalize v.drew = y0 at *
      refine tkH (i := 0) (v := .pointer (some ⟨gq, q * 5, none⟩)) rfl (by kernel_rfl) (by rfl) ?_ H ?_
      ·intro w' hSw; clear hSw; go_simp
      change wpAnyH _ _ _ _ _ _ _ { tmps := #[_,_,_,_,_,_,_,_,_,_,_,_,_,_,_,_,_,_,_,_,_,_,_,_,_,_,_,_,_,_,_,_,_,_,_,_,_,_,_,_,_,_,_,_,_,_,_,_,_,_,_,_,_,_,_,_,_,_,_,_,_,_,_,_,_,_,_,_,_,_,_,_,_,_,_,_,_,_,_,_,_,_], defers := _ } _
      refine tkH (i := 1) (v := .pointer (some ⟨gq, q * 5, none⟩)) rfl (by kernel_rfl) (by rfl) ?_ H ?_
      ·intro w' hSw; clear hSw; go_simp
      change wpAnyH _ _ _ _ _ _ _ { tmps := #[_,_,_,_,_,_,_,_,_,_,_,_,_,_,_,_,_,_,_,_,_,_,_,_,_,_,_,_,_,_,_,_,_,_,_,_,_,_,_,_,_,_,_,_,_,_,_,_,_,_,_,_,_,_,_,_,_,_,_,_,_,_,_,_,_,_,_,_,_,_,_,_,_,_,_,_,_,_,_,_,_,_], defers := _ } _
      refine tkH (i := 2) (v := .pointer (some ⟨gq, q * 5, none⟩)) rfl (by kernel_rfl) (by rfl) ?_ H ?_
      ·intro w' hSw; clear hSw; go_simp
      change wpAnyH _ _ _ _ _ _ _ { tmps := #[_,_,_,_,_,_,_,_,_,_,_,_,_,_,_,_,_,_,_,_,_,_,_,_,_,_,_,_,_,_,_,_,_,_,_,_,_,_,_,_,_,_,_,_,_,_,_,_,_,_,_,_,_,_,_,_,_,_,_,_,_,_,_,_,_,_,_,_,_,_,_,_,_,_,_,_,_,_,_,_,_,_], defers := _ } _
      refine tkH (i := 3) (v := .pointer (some ⟨gq, q * 5 + 1, none⟩)) rfl (by kernel_rfl) (by rfl) ?_ H ?_
      ·intro w' hSw; clear hSw; go_simp
      change wpAnyH _ _ _ _ _ _ _ { tmps := #[_,_,_,_,_,_,_,_,_,_,_,_,_,_,_,_,_,_,_,_,_,_,_,_,_,_,_,_,_,_,_,_,_,_,_,_,_,_,_,_,_,_,_,_,_,_,_,_,_,_,_,_,_,_,_,_,_,_,_,_,_,_,_,_,_,_,_,_,_,_,_,_,_,_,_,_,_,_,_,_,_,_], defers := _ } _
      refine tkH (i := 5) (v := .pointer (some ⟨pb, 1, none⟩)) rfl (by kernel_rfl) (by rfl) ?_ H ?_
      ·intro w' hSw; clear hSw; go_simp
      change wpAnyH _ _ _ _ _ _ _ { tmps := #[_,_,_,_,_,_,_,_,_,_,_,_,_,_,_,_,_,_,_,_,_,_,_,_,_,_,_,_,_,_,_,_,_,_,_,_,_,_,_,_,_,_,_,_,_,_,_,_,_,_,_,_,_,_,_,_,_,_,_,_,_,_,_,_,_,_,_,_,_,_,_,_,_,_,_,_,_,_,_,_,_,_], defers := _ } _
      refine tkH (i := 6) (v := .agg #[.int .i64 (s.R k).nc, .int .i64 (s.R k).nt]) rfl (by kernel_rfl) (by rfl) ?_ H ?_
      ·intro w' hSw; have KX := RS.out.ofBlock (w' := w') (hSw.block pb NP.out.2 (fun z => by have := NP.out.1; unfold PG at z; omega)); have p1 := KX.cell 1 (by omega); have p2 := KX.cell 2 (by omega); replace p1 : w'.cell? ⟨pb, 1, none⟩ = some (.int .i64 (s.R k).nc) := p1; replace p2 : w'.cell? ⟨pb, 2, none⟩ = some (.int .i64 (s.R k).nt) := p2; clear KX hSw; go_simp
      change wpAnyH _ _ _ _ _ _ _ { tmps := #[_,_,_,_,_,_,_,_,_,_,_,_,_,_,_,_,_,_,_,_,_,_,_,_,_,_,_,_,_,_,_,_,_,_,_,_,_,_,_,_,_,_,_,_,_,_,_,_,_,_,_,_,_,_,_,_,_,_,_,_,_,_,_,_,_,_,_,_,_,_,_,_,_,_,_,_,_,_,_,_,_,_], defers := _ } _
      refine rdH (i := 4) (by kernel_rfl) rfl (fun KK hK => ?_)
      have r1 : y0.cell? ⟨gq, q * 5 + 1, none⟩ = some (.int .i64 (s.Q q).bc) := KY.out.c qm 1 (by omega)
      have r2 : y0.cell? ⟨gq, q * 5 + 2, none⟩ = some (.int .i64 (s.Q q).bt) := KY.out.c qm 2 (by omega)
      go_simp
      refine hK.out _ _ H (fun _ => ?_)
      clear hK KK
      change wpAnyH _ _ _ _ _ _ _ { tmps := #[_,_,_,_,_,_,_,_,_,_,_,_,_,_,_,_,_,_,_,_,_,_,_,_,_,_,_,_,_,_,_,_,_,_,_,_,_,_,_,_,_,_,_,_,_,_,_,_,_,_,_,_,_,_,_,_,_,_,_,_,_,_,_,_,_,_,_,_,_,_,_,_,_,_,_,_,_,_,_,_,_,_], defers := _ } _
      refine rdH (i := 7) (by kernel_rfl) rfl (fun KK hK => ?_)
      go_simp
      refine (later_any (s.Q q).bc (s.Q q).bt (s.R k).nc (s.R k).nt y0).mono ?_
      rintro e y1 ⟨rfl, hb⟩
      replace KY : Hid (RkQ y1 B gq qc s.l s.Q VQ q (s.Q q) (VQ q)) := KY.out.below hb
      replace H : ChB (PG gq) v y1 := H.step hb
      obtain ⟨lc, hlc⟩ : ∃ x, x = (ltr (s.Q q).bc (s.Q q).bt (s.R k).nc (s.R k).nt).1 := ⟨_, rfl⟩
      obtain ⟨lt, hlt⟩ : ∃ x, x = (ltr (s.Q q).bc (s.Q q).bt (s.R k).nc (s.R k).nt).2 := ⟨_, rfl⟩
      rw [← hlc, ← hlt]
      have LT : Hid (lc = (ltr (s.Q q).bc (s.Q q).bt (s.R k).nc (s.R k).nt).1 ∧ lt = (ltr (s.Q q).bc (s.Q q).bt (s.R k).nc (s.R k).nt).2) := ⟨hlc, hlt⟩
      clear hlc hlt r1 r2
      clear hb
      refine hK.out _ _ H (fun _ => ?_)
      clear hK KK
      change wpAnyH _ _ _ _ _ _ _ { tmps := #[_,_,_,_,_,_,_,_,_,_,_,_,_,_,_,_,_,_,_,_,_,_,_,_,_,_,_,_,_,_,_,_,_,_,_,_,_,_,_,_,_,_,_,_,_,_,_,_,_,_,_,_,_,_,_,_,_,_,_,_,_,_,_,_,_,_,_,_,_,_,_,_,_,_,_,_,_,_,_,_,_,_], defers := _ } _
      refine tkH (i := 8) (v := .pointer (some ⟨gq, q * 5, none⟩)) rfl (by kernel_rfl) (by rfl) ?_ H ?_
      ·intro w' hSw; clear hSw; go_simp
      change wpAnyH _ _ _ _ _ _ _ { tmps := #[_,_,_,_,_,_,_,_,_,_,_,_,_,_,_,_,_,_,_,_,_,_,_,_,_,_,_,_,_,_,_,_,_,_,_,_,_,_,_,_,_,_,_,_,_,_,_,_,_,_,_,_,_,_,_,_,_,_,_,_,_,_,_,_,_,_,_,_,_,_,_,_,_,_,_,_,_,_,_,_,_,_], defers := _ } _
      refine tkH (i := 9) (v := .pointer (some ⟨gq, q * 5 + 1, none⟩)) rfl (by kernel_rfl) (by rfl) ?_ H ?_
      ·intro w' hSw; clear hSw; go_simp
      change wpAnyH _ _ _ _ _ _ _ { tmps := #[_,_,_,_,_,_,_,_,_,_,_,_,_,_,_,_,_,_,_,_,_,_,_,_,_,_,_,_,_,_,_,_,_,_,_,_,_,_,_,_,_,_,_,_,_,_,_,_,_,_,_,_,_,_,_,_,_,_,_,_,_,_,_,_,_,_,_,_,_,_,_,_,_,_,_,_,_,_,_,_,_,_], defers := _ } _
      refine rdH (i := 10) (by kernel_rfl) rfl (fun KK hK => ?_)
      have f1 := KY.out.fr qm 1 (by omega)
      have f2 := KY.out.fr qm 2 (by omega)
      have r1 : y1.cell? ⟨gq, q * 5 + 1, none⟩ = some (.int .i64 (s.Q q).bc) := KY.out.c qm 1 (by omega)
      have r2 : y1.cell? ⟨gq, q * 5 + 2, none⟩ = some (.int .i64 (s.Q q).bt) := KY.out.c qm 2 (by omega)
      go_simp
      have K2 : Hid (RkQ ((y1.setCell ⟨gq, q * 5 + 1, none⟩ (.int .i64 lc)).setCell ⟨gq, q * 5 + 2, none⟩ (.int .i64 lt)) B gq qc s.l s.Q VQ q { s.Q q with bc := (ltr (s.Q q).bc (s.Q q).bt (s.R k).nc (s.R k).nt).1, bt := (ltr (s.Q q).bc (s.Q q).bt (s.R k).nc (s.R k).nt).2 } (VQ q)) := by have := KY.out.best qm lc lt; rw [← LT.out.1, ← LT.out.2]; exact this
      replace H : ChB (PG gq) v ((y1.setCell ⟨gq, q * 5 + 1, none⟩ (.int .i64 lc)).setCell ⟨gq, q * 5 + 2, none⟩ (.int .i64 lt)) := (H.at gq (.inl rfl) _ _).at gq (.inl rfl) _ _
      clear r1 r2 f1 f2 KY
      generalize ((y1.setCell ⟨gq, q * 5 + 1, none⟩ (.int .i64 lc)).setCell ⟨gq, q * 5 + 2, none⟩ (.int .i64 lt)) = y2 at *
      refine hK.out _ _ H (fun _ => ?_)
      clear hK KK
      change wpAnyH _ _ _ _ _ _ _ { tmps := #[_,_,_,_,_,_,_,_,_,_,_,_,_,_,_,_,_,_,_,_,_,_,_,_,_,_,_,_,_,_,_,_,_,_,_,_,_,_,_,_,_,_,_,_,_,_,_,_,_,_,_,_,_,_,_,_,_,_,_,_,_,_,_,_,_,_,_,_,_,_,_,_,_,_,_,_,_,_,_,_,_,_], defers := _ } _
      refine wpAnyH_done (by kernel_rfl) ?_ _
      refine NoPanic.normal ?_
      have KY : Hid (RkQ y2 B gq qc s.l s.Q VQ q { s.Q q with bc := (ltr (s.Q q).bc (s.Q q).bt (s.R k).nc (s.R k).nt).1, bt := (ltr (s.Q q).bc (s.Q q).bt (s.R k).nc (s.R k).nt).2 } (VQ q)) := K2.out
      clear K2 LT RS NP
      have IW : IE y2 B (VQ q) (s.Q q).ne (s.Q q).E := EO.ch (PV.out.o.f q qm) H (fun g e z => EO.apart (PV.out.o.f q qm) PV.out.o.q (by decide) g e (by unfold PG at z; rw [z]; rfl))
      obtain ⟨la, lcap, eV⟩ := EO.form IW
      have EV : Hid (VQ q = .slice la (s.Q q).ne lcap) := eV
      have JH : Hid (Calls Try.prog 105 #[.slice la (s.Q q).ne lcap, .int .i64 (k : Int)] y2 fun e w' => RetJn y2 B (.slice la (s.Q q).ne lcap) (s.Q q).ne (s.Q q).E (k : Int) e w') := joined_any s.n B la (s.Q q).ne lcap (s.Q q).E (k : Int) (OK.out.2.2.2 q qm).2.1 (by have := ids_le (OK.out.2.2.2 q qm).2.1; have := OK.out.1.1.2; omega) y2 (Nat.le_trans BV.out.1 H.size) (by rw [← EV.out]; exact IW)
      have q2 : y2.cell? ⟨gq, q * 5, none⟩ = some (.slice la (s.Q q).ne lcap) := by have := KY.out.c qm 0 (by omega); rw [← EV.out]; exact this
      have HH : Hid (ChB (PG gq) v y2) := H
      clear IW eV H
      go_wp2_with fail
      refine JH.out.mono ?_
      rintro e y3 ⟨⟨v', rfl, hI, hown⟩, hg⟩
      obtain ⟨va, vc, rfl⟩ := EO.form hI
      rw [← EV.out] at hg hown
      have gne : ∀ u, (VQ q).ownBlock = some u → u ≠ gq := fun u e z => EO.apart (PV.out.o.f q qm) PV.out.o.q (by decide) u e (by rw [z]; rfl)
      have H7 : ChB (PR (.slice (some ⟨gq, 0, none⟩) s.l qc) VQ q) v y3 := (HH.out.wide (fun g z => .inl (by unfold PG at z; rw [z]; rfl))).grown hg (fun g e => .inl (.inr e))
      have K7 : Hid (RkQ y3 B gq qc s.l s.Q VQ q { s.Q q with bc := (ltr (s.Q q).bc (s.Q q).bt (s.R k).nc (s.R k).nt).1, bt := (ltr (s.Q q).bc (s.Q q).bt (s.R k).nc (s.R k).nt).2 } (VQ q)) := KY.out.keep (hg.block gq KY.out.lt.2 (fun e => gne gq e.symm rfl))
      obtain ⟨W5, hW5⟩ : ∃ x : Ro, x = { { s.Q q with bc := (ltr (s.Q q).bc (s.Q q).bt (s.R k).nc (s.R k).nt).1, bt := (ltr (s.Q q).bc (s.Q q).bt (s.R k).nc (s.R k).nt).2 } with ne := (addE (s.Q q).ne (s.Q q).E (k : Int)).1, E := (addE (s.Q q).ne (s.Q q).E (k : Int)).2 } := ⟨_, rfl⟩
      have HW5 : Hid (W5 = { { s.Q q with bc := (ltr (s.Q q).bc (s.Q q).bt (s.R k).nc (s.R k).nt).1, bt := (ltr (s.Q q).bc (s.Q q).bt (s.R k).nc (s.R k).nt).2 } with ne := (addE (s.Q q).ne (s.Q q).E (k : Int)).1, E := (addE (s.Q q).ne (s.Q q).E (k : Int)).2 }) := hW5
      have NE : Hid ((addE (s.Q q).ne (s.Q q).E (k : Int)).1 ≤ 8) := by show _ ≤ _; have := addE_le (x := (k : Int)) (OK.out.2.2.2 q qm).2.1; have := OK.out.1.1.2; omega
      obtain ⟨ne', hne⟩ : ∃ x, x = (addE (s.Q q).ne (s.Q q).E (k : Int)).1 := ⟨_, rfl⟩
      have K8 : Hid (RkQ (y3.setCell ⟨gq, q * 5, none⟩ (.slice va ne' vc)) B gq qc s.l s.Q VQ q W5 (.slice va ne' vc)) := by rw [hW5, hne]; exact K7.out.setE qm _ _ _
      have I8 : Hid (IE (y3.setCell ⟨gq, q * 5, none⟩ (.slice va ne' vc)) B (.slice va ne' vc) W5.ne W5.E) := by rw [hW5, hne]; exact IE.setOther hI K7.out (by decide) _ _
      have H8 : Hid (ChB (PR (.slice (some ⟨gq, 0, none⟩) s.l qc) VQ q) v (y3.setCell ⟨gq, q * 5, none⟩ (.slice va ne' vc))) := H7.at gq (.inl (.inl rfl)) _ _
      have O8 : Hid (∀ g, (Value.slice va ne' vc).ownBlock = some g → (VQ q).ownBlock = some g ∨ v.heap.size ≤ g) := by rw [hne]; exact fun g e => hown.elim (fun z => .inl (z ▸ e)) (fun ⟨q, z, hq⟩ => .inr (by rw [z] at e; cases e; exact Nat.le_trans HH.out.size hq))
      have f2 : y3.frozen? ⟨gq, q * 5, none⟩ = false := K7.out.fr qm 0 (by omega)
      have g2 : y3.cell? ⟨gq, q * 5, none⟩ = some (VQ q) := K7.out.c qm 0 (by omega)
      rw [← hne]
      have HNE : Hid (ne' = (addE (s.Q q).ne (s.Q q).E (k : Int)).1) := hne
      clear hI hown hg gne H7 hW5 hne JH q2 KY EV HH K7
      go_upto_region 10 with fail
      generalize (y3.setCell ⟨gq, q * 5, none⟩ (.slice va ne' vc)) = y4 at *
      clear f2 g2
      have XS : Hid (Box4 y4 b 28 (.slice (some ⟨gr, 0, none⟩) s.n rc) (.int .i64 s.t) (.slice wa s.m wc) (.slice (some ⟨gq, 0, none⟩) s.l qc)) := PV.out.x.ch H8.out (chQ_box PV.out.x PV.out.o qm)
      have KX : Hid (RkQ y4 B gq qc s.l s.Q VQ q W5 (.slice va ne' vc)) := K8.out
      obtain ⟨z, hz⟩ : ∃ z, z = sB (majN s.n ≤ ne') := ⟨_, rfl⟩
      have HZ : Hid (z = sB (majN s.n ≤ ne')) := hz
      clear hz
      have H : Below y4.heap.size y4 y4.drew := (Below.refl _ _).drew
      refine wp_region_noPanic ?_
      refine wp_region_held_drew (S := fun w' => Below y4.heap.size y4 w') (by kernel_rfl) H (fun _ => ?_)
      generalize y4.drew = z0 at *
      refine tkH (i := 0) (v := .pointer (some ⟨b, 0, none⟩)) rfl (by kernel_rfl) (by rfl) ?_ H ?_
      ·intro w' hSw; clear hSw; go_simp
      change wpAnyH _ _ _ _ _ _ _ { tmps := #[_,_,_,_,_,_,_,_,_,_,_,_,_,_,_,_,_,_,_,_,_,_,_,_,_,_,_,_,_,_,_,_,_,_,_,_,_,_,_,_,_,_,_,_,_,_,_,_,_,_,_,_,_,_,_,_,_,_,_,_,_,_,_,_,_,_,_,_,_,_,_,_,_,_,_,_,_,_,_,_,_,_], defers := _ } _
      refine tkH (i := 1) (v := .pointer (some ⟨b, 0, none⟩)) rfl (by kernel_rfl) (by rfl) ?_ H ?_
      ·intro w' hSw; clear hSw; go_simp
      change wpAnyH _ _ _ _ _ _ _ { tmps := #[_,_,_,_,_,_,_,_,_,_,_,_,_,_,_,_,_,_,_,_,_,_,_,_,_,_,_,_,_,_,_,_,_,_,_,_,_,_,_,_,_,_,_,_,_,_,_,_,_,_,_,_,_,_,_,_,_,_,_,_,_,_,_,_,_,_,_,_,_,_,_,_,_,_,_,_,_,_,_,_,_,_], defers := _ } _
      refine tkH (i := 2) (v := .agg #[.slice (some ⟨gr, 0, none⟩) s.n rc, .int .i64 s.t, .slice wa s.m wc, .slice (some ⟨gq, 0, none⟩) s.l qc]) rfl (by kernel_rfl) (by rfl) ?_ H ?_
      ·intro w' hSw; have XT := (XS.out.ofBlock (w' := w') (hSw.block b XS.out.lt)); have c0 := XT.c0; have c1 := XT.c1; have c2 := XT.c2; have c3 := XT.c3; clear XT hSw; go_simp
      change wpAnyH _ _ _ _ _ _ _ { tmps := #[_,_,_,_,_,_,_,_,_,_,_,_,_,_,_,_,_,_,_,_,_,_,_,_,_,_,_,_,_,_,_,_,_,_,_,_,_,_,_,_,_,_,_,_,_,_,_,_,_,_,_,_,_,_,_,_,_,_,_,_,_,_,_,_,_,_,_,_,_,_,_,_,_,_,_,_,_,_,_,_,_,_], defers := _ } _
      refine tkH (i := 3) (v := .pointer (some ⟨gq, q * 5, none⟩)) rfl (by kernel_rfl) (by rfl) ?_ H ?_
      ·intro w' hSw; clear hSw; go_simp
      change wpAnyH _ _ _ _ _ _ _ { tmps := #[_,_,_,_,_,_,_,_,_,_,_,_,_,_,_,_,_,_,_,_,_,_,_,_,_,_,_,_,_,_,_,_,_,_,_,_,_,_,_,_,_,_,_,_,_,_,_,_,_,_,_,_,_,_,_,_,_,_,_,_,_,_,_,_,_,_,_,_,_,_,_,_,_,_,_,_,_,_,_,_,_,_], defers := _ } _
      refine tkH (i := 4) (v := .pointer (some ⟨gq, q * 5, none⟩)) rfl (by kernel_rfl) (by rfl) ?_ H ?_
      ·intro w' hSw; clear hSw; go_simp
      change wpAnyH _ _ _ _ _ _ _ { tmps := #[_,_,_,_,_,_,_,_,_,_,_,_,_,_,_,_,_,_,_,_,_,_,_,_,_,_,_,_,_,_,_,_,_,_,_,_,_,_,_,_,_,_,_,_,_,_,_,_,_,_,_,_,_,_,_,_,_,_,_,_,_,_,_,_,_,_,_,_,_,_,_,_,_,_,_,_,_,_,_,_,_,_], defers := _ } _
      refine tkH (i := 5) (v := .pointer (some ⟨gq, q * 5, none⟩)) rfl (by kernel_rfl) (by rfl) ?_ H ?_
      ·intro w' hSw; clear hSw; go_simp
      change wpAnyH _ _ _ _ _ _ _ { tmps := #[_,_,_,_,_,_,_,_,_,_,_,_,_,_,_,_,_,_,_,_,_,_,_,_,_,_,_,_,_,_,_,_,_,_,_,_,_,_,_,_,_,_,_,_,_,_,_,_,_,_,_,_,_,_,_,_,_,_,_,_,_,_,_,_,_,_,_,_,_,_,_,_,_,_,_,_,_,_,_,_,_,_], defers := _ } _
      refine tkH (i := 6) (v := .slice va ne' vc) rfl (by kernel_rfl) (by rfl) ?_ H ?_
      ·intro w' hSw; have KT := KX.out.keep (w' := w') (hSw.block gq KX.out.lt.2); have q2 : w'.cell? ⟨gq, q * 5, none⟩ = some (.slice va ne' vc) := KT.c qm 0 (by omega); clear KT hSw; go_simp
      change wpAnyH _ _ _ _ _ _ _ { tmps := #[_,_,_,_,_,_,_,_,_,_,_,_,_,_,_,_,_,_,_,_,_,_,_,_,_,_,_,_,_,_,_,_,_,_,_,_,_,_,_,_,_,_,_,_,_,_,_,_,_,_,_,_,_,_,_,_,_,_,_,_,_,_,_,_,_,_,_,_,_,_,_,_,_,_,_,_,_,_,_,_,_,_], defers := _ } _
      refine rdH (i := 7) (by kernel_rfl) rfl (fun KK hK => ?_)
      go_simp
      refine (majority_v (some ⟨gr, 0, none⟩) s.n rc (.int .i64 s.t) (.slice wa s.m wc) (.slice (some ⟨gq, 0, none⟩) s.l qc) va ne' vc OK.out.1.1 (by have := NE.out; have := HNE.out; omega) z HZ.out z0).mono ?_
      rintro e z1 ⟨rfl, hb⟩
      replace H : Below y4.heap.size y4 z1 := H.trans (hb.mono H.size)
      clear hb
      refine hK.out _ _ H (fun _ => ?_)
      clear hK KK
      change wpAnyH _ _ _ _ _ _ _ { tmps := #[_,_,_,_,_,_,_,_,_,_,_,_,_,_,_,_,_,_,_,_,_,_,_,_,_,_,_,_,_,_,_,_,_,_,_,_,_,_,_,_,_,_,_,_,_,_,_,_,_,_,_,_,_,_,_,_,_,_,_,_,_,_,_,_,_,_,_,_,_,_,_,_,_,_,_,_,_,_,_,_,_,_], defers := _ } _
      refine wpAnyH_done (by kernel_rfl) ?_ _
      refine NoPanic.normal ?_
      have HM : Hid (Below y4.heap.size y4 z1) := H
      clear H
      have H9 : Hid (ChB (PR (.slice (some ⟨gq, 0, none⟩) s.l qc) VQ q) v z1) := H8.out.step HM.out
      have K9 : Hid (RkQ z1 B gq qc s.l s.Q VQ q W5 (.slice va ne' vc)) := K8.out.below HM.out
      have I9 : Hid (IE z1 B (.slice va ne' vc) W5.ne W5.E) := EO.below I8.out HM.out
      have X9 : Hid (Box4 z1 b 28 (.slice (some ⟨gr, 0, none⟩) s.n rc) (.int .i64 s.t) (.slice wa s.m wc) (.slice (some ⟨gq, 0, none⟩) s.l qc)) := PV.out.x.ch H9.out (chQ_box PV.out.x PV.out.o qm)
      clear H8 K8 I8 HM XS KX
      by_cases hj : majN s.n ≤ ne'
      ·obtain rfl : z = true := HZ.out.trans (sB_yes hj)
       have f4 := K9.out.fr qm 4 (by omega)
       have g4 : z1.cell? ⟨gq, q * 5 + 4, none⟩ = some (.int .i64 W5.en) := K9.out.c qm 4 (by omega)
       have c1 := X9.out.c1
       have K10 := K9.out.setN qm s.t
       have I10 := IE.setOther I9.out K9.out (by decide) (q * 5 + 4) (.int .i64 s.t)
       have H10 := H9.out.at gq (.inl (.inl rfl)) (q * 5 + 4) (.int .i64 s.t)
       have Q : Hid (RetA N B b s a (.returned (.int .i64 0)) (z1.setCell ⟨gq, q * 5 + 4, none⟩ (.int .i64 s.t)) ∧ Blw N B w (z1.setCell ⟨gq, q * 5 + 4, none⟩ (.int .i64 s.t))) := ⟨retA_reply hk qm HA.out HU.out HE.out HX.out (by rw [HW5.out]; unfold Ro.hear; rw [if_pos (HNE.out ▸ hj)]) (PV.out.chQ qm H10 K10 I10 O8.out).sv, BV.out.2.trans (H10.toBlw (PR.geQ PV.out qm) BV.out.1)⟩
       clear K10 I10 H10 H9 K9 I9 X9 PV hj
       go_wp2
       go_ret
       exact Q.out
      ·obtain rfl : z = false := HZ.out.trans (sB_no hj)
       have Q : Hid (RetA N B b s a (.returned (.int .i64 0)) z1 ∧ Blw N B w z1) := ⟨retA_reply hk qm HA.out HU.out HE.out HX.out (by rw [HW5.out]; unfold Ro.hear; rw [if_neg (fun z => hj (HNE.out ▸ z))]) (PV.out.chQ qm H9.out K9.out I9.out O8.out).sv, BV.out.2.trans (H9.out.toBlw (PR.geQ PV.out qm) BV.out.1)⟩
       clear H9 K9 I9 X9 PV hj
       go_wp2
       go_ret
       exact Q.out
    ·have heb : ((s.Q q).en != -1) = true := by simp; exact he
     have Q : Hid (RetA N B b s a (.returned (.int .i64 9)) v ∧ Blw N B w v) := ⟨⟨s, 9, .reply2 k q hk HA.out.2.1 HA.out.1 qm HA.out.2.2 HU.out (.inl he), rfl, PV.out.sv⟩, BV.out.2⟩
     clear PV KY BV NP RS he HU
     go_wp2
     go_ret
     exact Q.out
end Go.Proofs.Ytedncfcmhaaobaa
