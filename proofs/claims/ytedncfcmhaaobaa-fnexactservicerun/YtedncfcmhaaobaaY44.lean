/-
  Texts of the proof, joined: QuSt, QuRb, QuDa.
-/
import Derived.Test.YtedncfcmhaaobaaY32
import Derived.Deep.Cut
import Derived.Test.YtedncfcmhaaobaaY25
import Derived.Test.YtedncfcmhaaobaaY35
import Derived.Test.YtedncfcmhaaobaaY36
import Derived.Test.YtedncfcmhaaobaaTkH
namespace Go.Proofs.Ytedncfcmhaaobaa
open Go.ChangeShapes Go.WideShapes Go.ChangeAt Go.RowKit
set_option linter.unusedVariables false
set_option maxRecDepth 100000 in
set_option maxHeartbeats 4000000 in
theorem store_v {N : Nat → Prop} (B b : Nat) (s : Sv) (a : Qa) (k : Nat) (hk : k < s.n) (ha : a.k = 2) (hr : a.r = k) (ok : s.Ok) (w : World) (hB : B ≤ w.heap.size) (h : SvX N w B b s) :
  Calls Try.prog 85 #[.pointer (some ⟨b, 0, none⟩), .int .i64 (k : Int)] w fun e w' => RetA N B b s a e w' ∧ Blw N B w w' := by
 obtain ⟨vr, vw, vq, VR, VW, VQ, P⟩ := h.p
 clear h
 obtain ⟨wa, wc, rfl⟩ := P.o.x.form
 obtain ⟨ra, rc, rfl⟩ := P.o.r.form
 have c2 := P.x.c2
 by_cases hm : s.m = 0
 ·have Q : Hid (RetA N B b s a (.returned (.int .i64 5)) w) := ⟨s, 5, .store0 k hk hr ha hm, rfl, P.sv⟩
  rw [hm] at c2
  clear P ok hk hr ha hm
  go_enter Try.func85, Try.ntmps85
  go_wp2
  go_ret
  exact ⟨Q.out, Blw.refl _ _ _⟩
 ·obtain ⟨p, hp⟩ : ∃ p, p = s.m - 1 := ⟨_, rfl⟩
  have pm : p < s.m := by omega
  have ep : (s.m : Int) - 1 = (p : Int) := by omega
  have plt : (p : Int) < (s.m : Int) := by omega
  have klt : (k : Int) < (s.n : Int) := by omega
  have m0 : ((s.m : Int) == 0) = false := by simp; omega
  have n7 : s.n ≤ 7 := ok.1.1.2
  have m200 : s.m ≤ 200 := ok.1.2.2.1
  have pw : IntKind.i64.wrap (p : Int) = (p : Int) := IntWalk.i64_in _ (by omega)
  obtain ⟨gr, rfl, gB, gl, KR⟩ := RkR.start P.o.r hk
  obtain ⟨gw, rfl, wB, wl, KW⟩ := RkW.start P.o.x pm
  have c0 := P.x.c0
  have r0 : w.cell? ⟨gr, k * 8, none⟩ = some (.bool (s.R k).mute) := KR.c hk 0 (by omega)
  have OK : Hid s.Ok := ok
  have PP : Hid (SvP N w B b s (.slice (some ⟨gr, 0, none⟩) s.n rc) (.slice (some ⟨gw, 0, none⟩) s.m wc) vq VR VW VQ) := P
  clear P ok
  by_cases hu : (s.R k).mute = true
  ·have Q : Hid (RetA N B b s a (.returned (.int .i64 13)) w) := ⟨s, 13, .store1 k hk hr ha (by omega) hu, rfl, PP.out.sv⟩
   rw [hu] at r0
   have B0 : Hid (B ≤ w.heap.size) := hB
   clear KR KW PP OK hu hp hr ha hB gB gl wB wl
   go_enter Try.func85, Try.ntmps85
   go_wp2_with fail
   go_quiet (fail)
   go_wp2
   go_ret
   exact ⟨Q.out.below (below_dN _ _), blw_of (below_dN _ _) B0.out⟩
  ·have hu' : (s.R k).mute = false := by cases e : (s.R k).mute <;> simp_all
   rw [hu'] at r0
   have B0 : Hid (B ≤ w.heap.size) := hB
   have HP : Hid (p = s.m - 1) := hp
   have HA : Hid (a.k = 2 ∧ a.r = k ∧ (s.R k).mute = false) := ⟨ha, hr, hu'⟩
   have KRH : Hid (RkR w B gr rc s.n s.R VR k (s.R k) (VR k)) := KR
   have KWH : Hid (RkW w B gw wc s.m s.W VW p (s.W p) (VW p)) := KW
   clear KR KW hp ha hr hu hu' hB
   go_enter Try.func85, Try.ntmps85
   go_wp2_with fail
   go_quiet (fail)
   go_wp2_with fail
   generalize hv : w.drewN nq = v at *
   have hb : Below w.heap.size w v := hv ▸ below_dN w nq
   clear hv c0 c2 r0
   have hbd : Below w.heap.size w v.drew := hb.drew
   have PV : Hid (SvP N v B b s (.slice (some ⟨gr, 0, none⟩) s.n rc) (.slice (some ⟨gw, 0, none⟩) s.m wc) vq VR VW VQ) := PP.out.below hb
   replace KRH : Hid (RkR v.drew B gr rc s.n s.R VR k (s.R k) (VR k)) := KRH.out.below hbd
   have KW0 : Hid (RkW v B gw wc s.m s.W VW p (s.W p) (VW p)) := KWH.out.below hb
   have NW : Hid (¬ PG gr gw) := fun z => PV.out.o.r.apart PV.out.o.x (by decide) gr rfl (by unfold PG at z; rw [z]; rfl)
   have BV : Hid (B ≤ v.heap.size ∧ Below w.heap.size w v) := ⟨Nat.le_trans B0.out hb.size, hb⟩
   have PM : Hid (p < s.m ∧ k < s.n) := ⟨pm, hk⟩
   clear hb hbd PP KWH
   have H : ChB (PG gr) v v.drew := (ChB.refl _ _).drew
   refine wp_region_noPanic ?_
   refine wp_region_held_drew (S := fun w' => ChB (PG gr) v w') (by kernel_rfl) H (fun _ => ?_)
   generalize v.drew = y0 at *
   refine tkH (i := 0) (v := .pointer (some ⟨gr, k * 8, none⟩)) rfl (by kernel_rfl) (by rfl) ?_ H ?_
   ·intro w' hSw; clear hSw; go_simp
   change wpAnyH _ _ _ _ _ _ _ { tmps := #[_,_,_,_,_,_,_,_,_,_,_,_,_,_,_,_,_,_,_,_,_,_,_,_,_,_,_,_,_,_,_,_,_,_,_,_,_,_,_,_,_,_,_,_,_,_,_,_,_,_,_,_,_,_,_,_,_,_,_,_,_,_,_,_,_,_,_,_,_,_,_,_,_,_,_,_,_], defers := _ } _
   refine tkH (i := 1) (v := .pointer (some ⟨gr, k * 8, none⟩)) rfl (by kernel_rfl) (by rfl) ?_ H ?_
   ·intro w' hSw; clear hSw; go_simp
   change wpAnyH _ _ _ _ _ _ _ { tmps := #[_,_,_,_,_,_,_,_,_,_,_,_,_,_,_,_,_,_,_,_,_,_,_,_,_,_,_,_,_,_,_,_,_,_,_,_,_,_,_,_,_,_,_,_,_,_,_,_,_,_,_,_,_,_,_,_,_,_,_,_,_,_,_,_,_,_,_,_,_,_,_,_,_,_,_,_,_], defers := _ } _
   refine tkH (i := 2) (v := .pointer (some ⟨gr, k * 8, none⟩)) rfl (by kernel_rfl) (by rfl) ?_ H ?_
   ·intro w' hSw; clear hSw; go_simp
   change wpAnyH _ _ _ _ _ _ _ { tmps := #[_,_,_,_,_,_,_,_,_,_,_,_,_,_,_,_,_,_,_,_,_,_,_,_,_,_,_,_,_,_,_,_,_,_,_,_,_,_,_,_,_,_,_,_,_,_,_,_,_,_,_,_,_,_,_,_,_,_,_,_,_,_,_,_,_,_,_,_,_,_,_,_,_,_,_,_,_], defers := _ } _
   refine tkH (i := 3) (v := .pointer (some ⟨gr, k * 8 + 1, none⟩)) rfl (by kernel_rfl) (by rfl) ?_ H ?_
   ·intro w' hSw; clear hSw; go_simp
   change wpAnyH _ _ _ _ _ _ _ { tmps := #[_,_,_,_,_,_,_,_,_,_,_,_,_,_,_,_,_,_,_,_,_,_,_,_,_,_,_,_,_,_,_,_,_,_,_,_,_,_,_,_,_,_,_,_,_,_,_,_,_,_,_,_,_,_,_,_,_,_,_,_,_,_,_,_,_,_,_,_,_,_,_,_,_,_,_,_,_], defers := _ } _
   refine tkH (i := 5) (v := .pointer (some ⟨gw, p * 5, none⟩)) rfl (by kernel_rfl) (by rfl) ?_ H ?_
   ·intro w' hSw; clear hSw; go_simp
   change wpAnyH _ _ _ _ _ _ _ { tmps := #[_,_,_,_,_,_,_,_,_,_,_,_,_,_,_,_,_,_,_,_,_,_,_,_,_,_,_,_,_,_,_,_,_,_,_,_,_,_,_,_,_,_,_,_,_,_,_,_,_,_,_,_,_,_,_,_,_,_,_,_,_,_,_,_,_,_,_,_,_,_,_,_,_,_,_,_,_], defers := _ } _
   refine tkH (i := 6) (v := .pointer (some ⟨gw, p * 5, none⟩)) rfl (by kernel_rfl) (by rfl) ?_ H ?_
   ·intro w' hSw; clear hSw; go_simp
   change wpAnyH _ _ _ _ _ _ _ { tmps := #[_,_,_,_,_,_,_,_,_,_,_,_,_,_,_,_,_,_,_,_,_,_,_,_,_,_,_,_,_,_,_,_,_,_,_,_,_,_,_,_,_,_,_,_,_,_,_,_,_,_,_,_,_,_,_,_,_,_,_,_,_,_,_,_,_,_,_,_,_,_,_,_,_,_,_,_,_], defers := _ } _
   refine tkH (i := 7) (v := .pointer (some ⟨gw, p * 5, none⟩)) rfl (by kernel_rfl) (by rfl) ?_ H ?_
   ·intro w' hSw; clear hSw; go_simp
   change wpAnyH _ _ _ _ _ _ _ { tmps := #[_,_,_,_,_,_,_,_,_,_,_,_,_,_,_,_,_,_,_,_,_,_,_,_,_,_,_,_,_,_,_,_,_,_,_,_,_,_,_,_,_,_,_,_,_,_,_,_,_,_,_,_,_,_,_,_,_,_,_,_,_,_,_,_,_,_,_,_,_,_,_,_,_,_,_,_,_], defers := _ } _
   refine tkH (i := 8) (v := .agg #[.int .i64 (s.W p).mc, .int .i64 (s.W p).mt]) rfl (by kernel_rfl) (by rfl) ?_ H ?_
   ·intro w' hSw; have KX := KW0.out.keep (hSw.block gw KW0.out.lt.2 NW.out); have q0 : w'.cell? ⟨gw, p * 5, none⟩ = some (.int .i64 (s.W p).mc) := KX.c pm 0 (by omega); have q1 : w'.cell? ⟨gw, p * 5 + 1, none⟩ = some (.int .i64 (s.W p).mt) := KX.c pm 1 (by omega); clear KX hSw; go_simp
   change wpAnyH _ _ _ _ _ _ _ { tmps := #[_,_,_,_,_,_,_,_,_,_,_,_,_,_,_,_,_,_,_,_,_,_,_,_,_,_,_,_,_,_,_,_,_,_,_,_,_,_,_,_,_,_,_,_,_,_,_,_,_,_,_,_,_,_,_,_,_,_,_,_,_,_,_,_,_,_,_,_,_,_,_,_,_,_,_,_,_], defers := _ } _
   refine rdH (i := 4) (by kernel_rfl) rfl (fun KK hK => ?_)
   have r1 : y0.cell? ⟨gr, k * 8 + 1, none⟩ = some (.int .i64 (s.R k).nc) := KRH.out.c hk 1 (by omega)
   have r2 : y0.cell? ⟨gr, k * 8 + 2, none⟩ = some (.int .i64 (s.R k).nt) := KRH.out.c hk 2 (by omega)
   go_simp
   refine hK.out _ _ H (fun _ => ?_)
   clear hK KK
   change wpAnyH _ _ _ _ _ _ _ { tmps := #[_,_,_,_,_,_,_,_,_,_,_,_,_,_,_,_,_,_,_,_,_,_,_,_,_,_,_,_,_,_,_,_,_,_,_,_,_,_,_,_,_,_,_,_,_,_,_,_,_,_,_,_,_,_,_,_,_,_,_,_,_,_,_,_,_,_,_,_,_,_,_,_,_,_,_,_,_], defers := _ } _
   refine rdH (i := 9) (by kernel_rfl) rfl (fun KK hK => ?_)
   go_simp
   refine (later_any (s.R k).nc (s.R k).nt (s.W p).mc (s.W p).mt y0).mono ?_
   rintro e y1 ⟨rfl, hb⟩
   replace KRH : Hid (RkR y1 B gr rc s.n s.R VR k (s.R k) (VR k)) := KRH.out.below hb
   replace H : ChB (PG gr) v y1 := H.step hb
   obtain ⟨lc, hlc⟩ : ∃ x, x = (ltr (s.R k).nc (s.R k).nt (s.W p).mc (s.W p).mt).1 := ⟨_, rfl⟩
   obtain ⟨lt, hlt⟩ : ∃ x, x = (ltr (s.R k).nc (s.R k).nt (s.W p).mc (s.W p).mt).2 := ⟨_, rfl⟩
   rw [← hlc, ← hlt]
   have LT : Hid (lc = (ltr (s.R k).nc (s.R k).nt (s.W p).mc (s.W p).mt).1 ∧ lt = (ltr (s.R k).nc (s.R k).nt (s.W p).mc (s.W p).mt).2) := ⟨hlc, hlt⟩
   clear hlc hlt
   clear hb
   refine hK.out _ _ H (fun _ => ?_)
   clear hK KK
   change wpAnyH _ _ _ _ _ _ _ { tmps := #[_,_,_,_,_,_,_,_,_,_,_,_,_,_,_,_,_,_,_,_,_,_,_,_,_,_,_,_,_,_,_,_,_,_,_,_,_,_,_,_,_,_,_,_,_,_,_,_,_,_,_,_,_,_,_,_,_,_,_,_,_,_,_,_,_,_,_,_,_,_,_,_,_,_,_,_,_], defers := _ } _
   refine tkH (i := 10) (v := .pointer (some ⟨gr, k * 8, none⟩)) rfl (by kernel_rfl) (by rfl) ?_ H ?_
   ·intro w' hSw; clear hSw; go_simp
   change wpAnyH _ _ _ _ _ _ _ { tmps := #[_,_,_,_,_,_,_,_,_,_,_,_,_,_,_,_,_,_,_,_,_,_,_,_,_,_,_,_,_,_,_,_,_,_,_,_,_,_,_,_,_,_,_,_,_,_,_,_,_,_,_,_,_,_,_,_,_,_,_,_,_,_,_,_,_,_,_,_,_,_,_,_,_,_,_,_,_], defers := _ } _
   refine tkH (i := 11) (v := .pointer (some ⟨gr, k * 8 + 1, none⟩)) rfl (by kernel_rfl) (by rfl) ?_ H ?_
   ·intro w' hSw; clear hSw; go_simp
   change wpAnyH _ _ _ _ _ _ _ { tmps := #[_,_,_,_,_,_,_,_,_,_,_,_,_,_,_,_,_,_,_,_,_,_,_,_,_,_,_,_,_,_,_,_,_,_,_,_,_,_,_,_,_,_,_,_,_,_,_,_,_,_,_,_,_,_,_,_,_,_,_,_,_,_,_,_,_,_,_,_,_,_,_,_,_,_,_,_,_], defers := _ } _
   refine rdH (i := 12) (by kernel_rfl) rfl (fun KK hK => ?_)
   have f1 := KRH.out.fr hk 1 (by omega)
   have f2 := KRH.out.fr hk 2 (by omega)
   have r1 : y1.cell? ⟨gr, k * 8 + 1, none⟩ = some (.int .i64 (s.R k).nc) := KRH.out.c hk 1 (by omega)
   have r2 : y1.cell? ⟨gr, k * 8 + 2, none⟩ = some (.int .i64 (s.R k).nt) := KRH.out.c hk 2 (by omega)
   go_simp
   have K2 : Hid (RkR ((y1.setCell ⟨gr, k * 8 + 1, none⟩ (.int .i64 lc)).setCell ⟨gr, k * 8 + 2, none⟩ (.int .i64 lt)) B gr rc s.n s.R VR k ((s.R k).take (s.W p).mc (s.W p).mt) (VR k)) := by have := KRH.out.now hk lc lt; unfold Rp.take; rw [← LT.out.1, ← LT.out.2]; exact this
   replace H : ChB (PG gr) v ((y1.setCell ⟨gr, k * 8 + 1, none⟩ (.int .i64 lc)).setCell ⟨gr, k * 8 + 2, none⟩ (.int .i64 lt)) := (H.at gr (.inl rfl) _ _).at gr (.inl rfl) _ _
   clear r1 r2 f1 f2
   generalize ((y1.setCell ⟨gr, k * 8 + 1, none⟩ (.int .i64 lc)).setCell ⟨gr, k * 8 + 2, none⟩ (.int .i64 lt)) = y2 at *
   refine hK.out _ _ H (fun _ => ?_)
   clear hK KK
   change wpAnyH _ _ _ _ _ _ _ { tmps := #[_,_,_,_,_,_,_,_,_,_,_,_,_,_,_,_,_,_,_,_,_,_,_,_,_,_,_,_,_,_,_,_,_,_,_,_,_,_,_,_,_,_,_,_,_,_,_,_,_,_,_,_,_,_,_,_,_,_,_,_,_,_,_,_,_,_,_,_,_,_,_,_,_,_,_,_,_], defers := _ } _
   refine wpAnyH_done (by kernel_rfl) ?_ _
   refine NoPanic.normal ?_
   have P2 : Hid (SvP N y2 B b { s with R := updE s.R k ((s.R k).take (s.W p).mc (s.W p).mt) } (.slice (some ⟨gr, 0, none⟩) s.n rc) (.slice (some ⟨gw, 0, none⟩) s.m wc) vq VR VW VQ) := PV.out.chR1 hk H K2.out rfl rfl
   have K3 : Hid (RkW y2 B gw wc s.m s.W VW p (s.W p) (VW p)) := KW0.out.keep (H.block gw KW0.out.lt.2 NW.out)
   have BY : Hid (B ≤ y2.heap.size ∧ Blw N B w y2) := ⟨Nat.le_trans BV.out.1 H.size, (blw_of BV.out.2 B0.out).trans (H.toBlw (fun g z => by unfold PG at z; rw [z]; exact ⟨K2.out.lt.1, PV.out.n.r gr rfl⟩) BV.out.1)⟩
   clear H KRH K2 KW0 NW LT PV BV
   have IW := P2.out.o.a p pm
   obtain ⟨la, lcap, eV⟩ := EO.form IW
   have EV : Hid (VW p = .slice la (s.W p).ne lcap) := eV
   have JH : Hid (Calls Try.prog 105 #[.slice la (s.W p).ne lcap, .int .i64 (k : Int)] y2 fun e w' => RetJn y2 B (.slice la (s.W p).ne lcap) (s.W p).ne (s.W p).E k e w') := joined_any s.n B la (s.W p).ne lcap (s.W p).E k (OK.out.2.1 p pm).2.2.2.1 (by have := ids_le (OK.out.2.1 p pm).2.2.2.1; have := OK.out.1.1.2; omega) y2 BY.out.1 (by rw [← EV.out]; exact IW)
   have q2 : y2.cell? ⟨gw, p * 5 + 2, none⟩ = some (.slice la (s.W p).ne lcap) := by have := K3.out.c pm 2 (by omega); rw [this]; show some (VW p) = _; rw [EV.out]
   clear IW eV
   go_wp2_with fail
   refine JH.out.mono ?_
   rintro e y3 ⟨⟨v', rfl, hI, hown⟩, hg⟩
   obtain ⟨va, vc, rfl⟩ := EO.form hI
   rw [← EV.out] at hg hown
   have gne : ∀ q, (VW p).ownBlock = some q → q ≠ gw := fun q e z => EO.apart (P2.out.o.a p pm) P2.out.o.x (by decide) q e (by rw [z]; rfl)
   have H7 : ChB (PR (.slice (some ⟨gw, 0, none⟩) s.m wc) VW p) y2 y3 := (ChB.refl _ _).grown hg (fun g e => .inl (.inr e))
   have K7 : Hid (RkW y3 B gw wc s.m s.W VW p (s.W p) (VW p)) := K3.out.keep (hg.block gw K3.out.lt.2 (fun e => gne gw e.symm rfl))
   obtain ⟨W5, hW5⟩ : ∃ x : Wo, x = { s.W p with ne := (addE (s.W p).ne (s.W p).E k).1, E := (addE (s.W p).ne (s.W p).E k).2 } := ⟨_, rfl⟩
   have HW5 : Hid (W5 = { s.W p with ne := (addE (s.W p).ne (s.W p).E k).1, E := (addE (s.W p).ne (s.W p).E k).2 }) := hW5
   have NE : Hid ((addE (s.W p).ne (s.W p).E k).1 ≤ 8) := by show _ ≤ _; have := addE_le (x := (k : Int)) (OK.out.2.1 p pm).2.2.2.1; have := OK.out.1.1.2; omega
   obtain ⟨ne', hne⟩ : ∃ x, x = (addE (s.W p).ne (s.W p).E k).1 := ⟨_, rfl⟩
   have K8 : Hid (RkW (y3.setCell ⟨gw, p * 5 + 2, none⟩ (.slice va ne' vc)) B gw wc s.m s.W VW p W5 (.slice va ne' vc)) := by rw [hW5, hne]; exact K7.out.setE pm _ _ _
   have I8 : Hid (IE (y3.setCell ⟨gw, p * 5 + 2, none⟩ (.slice va ne' vc)) B (.slice va ne' vc) W5.ne W5.E) := by rw [hW5, hne]; exact IE.setOther hI K7.out (by decide) _ _
   have H8 : Hid (ChB (PR (.slice (some ⟨gw, 0, none⟩) s.m wc) VW p) y2 (y3.setCell ⟨gw, p * 5 + 2, none⟩ (.slice va ne' vc))) := H7.at gw (.inl (.inl rfl)) _ _
   have O8 : Hid (∀ g, (Value.slice va ne' vc).ownBlock = some g → (VW p).ownBlock = some g ∨ y2.heap.size ≤ g) := by rw [hne]; exact fun g e => hown.elim (fun z => .inl (z ▸ e)) (fun ⟨q, z, hq⟩ => .inr (by rw [z] at e; cases e; exact hq))
   have f2 := K7.out.fr pm 2 (by omega)
   have g2 : y3.cell? ⟨gw, p * 5 + 2, none⟩ = some (VW p) := K7.out.c pm 2 (by omega)
   rw [← hne]
   have HNE : Hid (ne' = (addE (s.W p).ne (s.W p).E k).1) := hne
   clear hI hown hg gne H7 hW5 hne JH q2 K3 EV
   by_cases he : (s.W p).en = -1
   ·skip
    have HE : Hid ((s.W p).en = -1) := he
    clear he
    go_upto_region 8 with fail
    generalize (y3.setCell ⟨gw, p * 5 + 2, none⟩ (.slice va ne' vc)) = y4 at *
    clear f2 g2 K7
    have XS : Hid (Box4 y4 b 28 (.slice (some ⟨gr, 0, none⟩) s.n rc) (.int .i64 s.t) (.slice (some ⟨gw, 0, none⟩) s.m wc) vq) := (P2.out.x.ch H8.out (chW_box P2.out.x P2.out.o pm))
    have KX : Hid (RkW y4 B gw wc s.m s.W VW p W5 (.slice va ne' vc)) := K8.out
    obtain ⟨z, hz⟩ : ∃ z, z = sB (majN s.n ≤ ne') := ⟨_, rfl⟩
    have HZ : Hid (z = sB (majN s.n ≤ ne')) := hz
    clear hz
    have H : Below y4.heap.size y4 y4.drew := (Below.refl _ _).drew
    refine wp_region_noPanic ?_
    refine wp_region_held_drew (S := fun w' => Below y4.heap.size y4 w') (by kernel_rfl) H (fun _ => ?_)
    generalize y4.drew = z0 at *
    refine tkH (i := 0) (v := .pointer (some ⟨gw, p * 5, none⟩)) rfl (by kernel_rfl) (by rfl) ?_ H ?_
    ·intro w' hSw; clear hSw; go_simp
    change wpAnyH _ _ _ _ _ _ _ { tmps := #[_,_,_,_,_,_,_,_,_,_,_,_,_,_,_,_,_,_,_,_,_,_,_,_,_,_,_,_,_,_,_,_,_,_,_,_,_,_,_,_,_,_,_,_,_,_,_,_,_,_,_,_,_,_,_,_,_,_,_,_,_,_,_,_,_,_,_,_,_,_,_,_,_,_,_,_,_], defers := _ } _
    refine tkH (i := 1) (v := .pointer (some ⟨gw, p * 5, none⟩)) rfl (by kernel_rfl) (by rfl) ?_ H ?_
    ·intro w' hSw; clear hSw; go_simp
    change wpAnyH _ _ _ _ _ _ _ { tmps := #[_,_,_,_,_,_,_,_,_,_,_,_,_,_,_,_,_,_,_,_,_,_,_,_,_,_,_,_,_,_,_,_,_,_,_,_,_,_,_,_,_,_,_,_,_,_,_,_,_,_,_,_,_,_,_,_,_,_,_,_,_,_,_,_,_,_,_,_,_,_,_,_,_,_,_,_,_], defers := _ } _
    refine tkH (i := 2) (v := .pointer (some ⟨gw, p * 5 + 4, none⟩)) rfl (by kernel_rfl) (by rfl) ?_ H ?_
    ·intro w' hSw; clear hSw; go_simp
    change wpAnyH _ _ _ _ _ _ _ { tmps := #[_,_,_,_,_,_,_,_,_,_,_,_,_,_,_,_,_,_,_,_,_,_,_,_,_,_,_,_,_,_,_,_,_,_,_,_,_,_,_,_,_,_,_,_,_,_,_,_,_,_,_,_,_,_,_,_,_,_,_,_,_,_,_,_,_,_,_,_,_,_,_,_,_,_,_,_,_], defers := _ } _
    refine tkH (i := 3) (v := .int .i64 (-1)) rfl (by kernel_rfl) (by rfl) ?_ H ?_
    ·intro w' hSw; have KT := KX.out.keep (w' := w') (hSw.block gw KX.out.lt.2); have q4 : w'.cell? ⟨gw, p * 5 + 4, none⟩ = some (.int .i64 (-1)) := (by have h4 := KT.c pm 4 (by omega); rw [h4, HW5.out]; show some (Value.int .i64 (s.W p).en) = _; rw [HE.out]); clear KT hSw; go_simp
    change wpAnyH _ _ _ _ _ _ _ { tmps := #[_,_,_,_,_,_,_,_,_,_,_,_,_,_,_,_,_,_,_,_,_,_,_,_,_,_,_,_,_,_,_,_,_,_,_,_,_,_,_,_,_,_,_,_,_,_,_,_,_,_,_,_,_,_,_,_,_,_,_,_,_,_,_,_,_,_,_,_,_,_,_,_,_,_,_,_,_], defers := _ } _
    refine tkH (i := 4) (v := .bool true) rfl (by kernel_rfl) (by rfl) ?_ H ?_
    ·intro w' hSw; clear hSw; go_simp
    change wpAnyH _ _ _ _ _ _ _ { tmps := #[_,_,_,_,_,_,_,_,_,_,_,_,_,_,_,_,_,_,_,_,_,_,_,_,_,_,_,_,_,_,_,_,_,_,_,_,_,_,_,_,_,_,_,_,_,_,_,_,_,_,_,_,_,_,_,_,_,_,_,_,_,_,_,_,_,_,_,_,_,_,_,_,_,_,_,_,_], defers := _ } _
    refine tkH (i := 5) (v := .bool true) rfl (by kernel_rfl) (by rfl) ?_ H ?_
    ·intro w' hSw; clear hSw; go_simp
    change wpAnyH _ _ _ _ _ _ _ { tmps := #[_,_,_,_,_,_,_,_,_,_,_,_,_,_,_,_,_,_,_,_,_,_,_,_,_,_,_,_,_,_,_,_,_,_,_,_,_,_,_,_,_,_,_,_,_,_,_,_,_,_,_,_,_,_,_,_,_,_,_,_,_,_,_,_,_,_,_,_,_,_,_,_,_,_,_,_,_], defers := _ } _
    refine tkH (i := 6) (v := .pointer (some ⟨b, 0, none⟩)) rfl (by kernel_rfl) (by rfl) ?_ H ?_
    ·intro w' hSw; clear hSw; go_simp
    change wpAnyH _ _ _ _ _ _ _ { tmps := #[_,_,_,_,_,_,_,_,_,_,_,_,_,_,_,_,_,_,_,_,_,_,_,_,_,_,_,_,_,_,_,_,_,_,_,_,_,_,_,_,_,_,_,_,_,_,_,_,_,_,_,_,_,_,_,_,_,_,_,_,_,_,_,_,_,_,_,_,_,_,_,_,_,_,_,_,_], defers := _ } _
    refine tkH (i := 7) (v := .pointer (some ⟨b, 0, none⟩)) rfl (by kernel_rfl) (by rfl) ?_ H ?_
    ·intro w' hSw; clear hSw; go_simp
    change wpAnyH _ _ _ _ _ _ _ { tmps := #[_,_,_,_,_,_,_,_,_,_,_,_,_,_,_,_,_,_,_,_,_,_,_,_,_,_,_,_,_,_,_,_,_,_,_,_,_,_,_,_,_,_,_,_,_,_,_,_,_,_,_,_,_,_,_,_,_,_,_,_,_,_,_,_,_,_,_,_,_,_,_,_,_,_,_,_,_], defers := _ } _
    refine tkH (i := 8) (v := .agg #[.slice (some ⟨gr, 0, none⟩) s.n rc, .int .i64 s.t, .slice (some ⟨gw, 0, none⟩) s.m wc, vq]) rfl (by kernel_rfl) (by rfl) ?_ H ?_
    ·intro w' hSw; have XT := (XS.out.ofBlock (w' := w') (hSw.block b XS.out.lt)); have c0 := XT.c0; have c1 := XT.c1; have c2 := XT.c2; have c3 := XT.c3; clear XT hSw; go_simp
    change wpAnyH _ _ _ _ _ _ _ { tmps := #[_,_,_,_,_,_,_,_,_,_,_,_,_,_,_,_,_,_,_,_,_,_,_,_,_,_,_,_,_,_,_,_,_,_,_,_,_,_,_,_,_,_,_,_,_,_,_,_,_,_,_,_,_,_,_,_,_,_,_,_,_,_,_,_,_,_,_,_,_,_,_,_,_,_,_,_,_], defers := _ } _
    refine tkH (i := 9) (v := .pointer (some ⟨gw, p * 5, none⟩)) rfl (by kernel_rfl) (by rfl) ?_ H ?_
    ·intro w' hSw; clear hSw; go_simp
    change wpAnyH _ _ _ _ _ _ _ { tmps := #[_,_,_,_,_,_,_,_,_,_,_,_,_,_,_,_,_,_,_,_,_,_,_,_,_,_,_,_,_,_,_,_,_,_,_,_,_,_,_,_,_,_,_,_,_,_,_,_,_,_,_,_,_,_,_,_,_,_,_,_,_,_,_,_,_,_,_,_,_,_,_,_,_,_,_,_,_], defers := _ } _
    refine tkH (i := 10) (v := .pointer (some ⟨gw, p * 5, none⟩)) rfl (by kernel_rfl) (by rfl) ?_ H ?_
    ·intro w' hSw; clear hSw; go_simp
    change wpAnyH _ _ _ _ _ _ _ { tmps := #[_,_,_,_,_,_,_,_,_,_,_,_,_,_,_,_,_,_,_,_,_,_,_,_,_,_,_,_,_,_,_,_,_,_,_,_,_,_,_,_,_,_,_,_,_,_,_,_,_,_,_,_,_,_,_,_,_,_,_,_,_,_,_,_,_,_,_,_,_,_,_,_,_,_,_,_,_], defers := _ } _
    refine tkH (i := 11) (v := .pointer (some ⟨gw, p * 5 + 2, none⟩)) rfl (by kernel_rfl) (by rfl) ?_ H ?_
    ·intro w' hSw; clear hSw; go_simp
    change wpAnyH _ _ _ _ _ _ _ { tmps := #[_,_,_,_,_,_,_,_,_,_,_,_,_,_,_,_,_,_,_,_,_,_,_,_,_,_,_,_,_,_,_,_,_,_,_,_,_,_,_,_,_,_,_,_,_,_,_,_,_,_,_,_,_,_,_,_,_,_,_,_,_,_,_,_,_,_,_,_,_,_,_,_,_,_,_,_,_], defers := _ } _
    refine tkH (i := 12) (v := .slice va ne' vc) rfl (by kernel_rfl) (by rfl) ?_ H ?_
    ·intro w' hSw; have KT := KX.out.keep (w' := w') (hSw.block gw KX.out.lt.2); have q2 : w'.cell? ⟨gw, p * 5 + 2, none⟩ = some (.slice va ne' vc) := KT.c pm 2 (by omega); clear KT hSw; go_simp
    change wpAnyH _ _ _ _ _ _ _ { tmps := #[_,_,_,_,_,_,_,_,_,_,_,_,_,_,_,_,_,_,_,_,_,_,_,_,_,_,_,_,_,_,_,_,_,_,_,_,_,_,_,_,_,_,_,_,_,_,_,_,_,_,_,_,_,_,_,_,_,_,_,_,_,_,_,_,_,_,_,_,_,_,_,_,_,_,_,_,_], defers := _ } _
    refine rdH (i := 13) (by kernel_rfl) rfl (fun KK hK => ?_)
    go_simp
    refine (majority_v (some ⟨gr, 0, none⟩) s.n rc (.int .i64 s.t) (.slice (some ⟨gw, 0, none⟩) s.m wc) vq va ne' vc OK.out.1.1 (by have := NE.out; have := HNE.out; omega) z HZ.out z0).mono ?_
    rintro e z1 ⟨rfl, hb⟩
    replace H : Below y4.heap.size y4 z1 := H.trans (hb.mono H.size)
    clear hb
    refine hK.out _ _ H (fun _ => ?_)
    clear hK KK
    change wpAnyH _ _ _ _ _ _ _ { tmps := #[_,_,_,_,_,_,_,_,_,_,_,_,_,_,_,_,_,_,_,_,_,_,_,_,_,_,_,_,_,_,_,_,_,_,_,_,_,_,_,_,_,_,_,_,_,_,_,_,_,_,_,_,_,_,_,_,_,_,_,_,_,_,_,_,_,_,_,_,_,_,_,_,_,_,_,_,_], defers := _ } _
    refine tkH (i := 14) (v := .bool z) rfl (by kernel_rfl) (by rfl) ?_ H ?_
    ·intro w' hSw; clear hSw; go_simp
    change wpAnyH _ _ _ _ _ _ _ { tmps := #[_,_,_,_,_,_,_,_,_,_,_,_,_,_,_,_,_,_,_,_,_,_,_,_,_,_,_,_,_,_,_,_,_,_,_,_,_,_,_,_,_,_,_,_,_,_,_,_,_,_,_,_,_,_,_,_,_,_,_,_,_,_,_,_,_,_,_,_,_,_,_,_,_,_,_,_,_], defers := _ } _
    refine wpAnyH_done (by kernel_rfl) ?_ _
    refine NoPanic.normal ?_
    have HM : Hid (Below y4.heap.size y4 z1) := H
    clear H
    have H9 : Hid (ChB (PR (.slice (some ⟨gw, 0, none⟩) s.m wc) VW p) y2 z1) := H8.out.step HM.out
    have K9 : Hid (RkW z1 B gw wc s.m s.W VW p W5 (.slice va ne' vc)) := K8.out.below HM.out
    have I9 : Hid (IE z1 B (.slice va ne' vc) W5.ne W5.E) := EO.below I8.out HM.out
    have X9 : Hid (Box4 z1 b 28 (.slice (some ⟨gr, 0, none⟩) s.n rc) (.int .i64 s.t) (.slice (some ⟨gw, 0, none⟩) s.m wc) vq) := P2.out.x.ch H9.out (chW_box P2.out.x P2.out.o pm)
    clear H8 K8 I8 HM XS KX
    by_cases hj : majN s.n ≤ ne'
    ·obtain rfl : z = true := HZ.out.trans (sB_yes hj)
     have f4 := K9.out.fr pm 4 (by omega)
     have g4 : z1.cell? ⟨gw, p * 5 + 4, none⟩ = some (.int .i64 W5.en) := K9.out.c pm 4 (by omega)
     have c1 := X9.out.c1
     have K10 := K9.out.setN pm s.t
     have I10 := IE.setOther I9.out K9.out (by decide) (p * 5 + 4) (.int .i64 s.t)
     have H10 := H9.out.at gw (.inl (.inl rfl)) (p * 5 + 4) (.int .i64 s.t)
     have Q : Hid (RetA N B b s a (.returned (.int .i64 0)) (z1.setCell ⟨gw, p * 5 + 4, none⟩ (.int .i64 s.t)) ∧ Blw N B w (z1.setCell ⟨gw, p * 5 + 4, none⟩ (.int .i64 s.t))) := ⟨retA_store HP.out hk pm HA.out (by rw [HW5.out]; unfold Wo.ack; rw [if_pos ⟨HE.out, HNE.out ▸ hj⟩]) (P2.out.chW pm H10 K10 I10 O8.out).sv, BY.out.2.trans (H10.toBlw (PR.geW P2.out pm) BY.out.1)⟩
     clear K10 I10 H10 H9 K9 I9 X9 P2 hj
     go_wp2
     go_ret
     exact Q.out
    ·obtain rfl : z = false := HZ.out.trans (sB_no hj)
     have Q : Hid (RetA N B b s a (.returned (.int .i64 0)) z1 ∧ Blw N B w z1) := ⟨retA_store HP.out hk pm HA.out (by rw [HW5.out]; unfold Wo.ack; rw [if_neg (fun q => hj (HNE.out ▸ q.2))]) (P2.out.chW pm H9.out K9.out I9.out O8.out).sv, BY.out.2.trans (H9.out.toBlw (PR.geW P2.out pm) BY.out.1)⟩
     clear H9 K9 I9 X9 P2 hj
     go_wp2
     go_ret
     exact Q.out
   ·skip
    have heb : ((s.W p).en == -1) = false := by simp; exact he
    have HE : Hid (¬ (s.W p).en = -1) := he
    clear he
    go_upto_region 8 with fail
    generalize (y3.setCell ⟨gw, p * 5 + 2, none⟩ (.slice va ne' vc)) = y4 at *
    clear f2 g2 K7
    have q4 : y4.cell? ⟨gw, p * 5 + 4, none⟩ = some (.int .i64 (s.W p).en) := by have := K8.out.c pm 4 (by omega); rw [this, HW5.out]; rfl
    have Q : Hid (RetA N B b s a (.returned (.int .i64 0)) y4 ∧ Blw N B w y4) := ⟨retA_store HP.out hk pm HA.out (by rw [HW5.out]; unfold Wo.ack; rw [if_neg (fun q => HE.out q.1)]) (P2.out.chW pm H8.out K8.out I8.out O8.out).sv, BY.out.2.trans (H8.out.toBlw (PR.geW P2.out pm) BY.out.1)⟩
    have BZ : Hid (B ≤ y4.heap.size) := Nat.le_trans BY.out.1 H8.out.size
    clear P2 H8 K8 I8 O8 BY
    go_quiet (fail)
    go_wp2
    go_ret
    exact ⟨Q.out.1.below (below_dN _ _), Q.out.2.trans (blw_of (below_dN _ _) BZ.out)⟩
end Go.Proofs.Ytedncfcmhaaobaa
namespace Go.Proofs.Ytedncfcmhaaobaa
open Go.ChangeShapes Go.WideShapes Go.ChangeAt Go.RowKit
set_option linter.unusedVariables false
def RetV (N : Nat → Prop) (B b : Nat) (s : Sv) (a : Qa) (e : Ending) (w' : World) : Prop := ∃ s', ActS s a s' 0 ∧ e = .returned (.tuple #[]) ∧ SvX N w' B b s'
theorem retV_one {N : Nat → Prop} {w : World} {B b : Nat} {s : Sv} {a : Qa} {k : Nat} {z : Bool} (hk : k < s.n) (hA : a.k = 6 ∧ a.r = k ∧ z = sB (a.n = 1)) (hm : ¬ (0 < s.m ∧ (s.W (s.m - 1)).en = -1)) (h : SvX N w B b { s with R := updE s.R k ((s.R k).boot z) }) : RetV N B b s a (.returned (.tuple #[])) w := by
 rw [hA.2.2] at h
 exact ⟨_, .restart k hk hA.2.1 hA.1 hm, rfl, h⟩
theorem retV_two {N : Nat → Prop} {w : World} {B b : Nat} {s : Sv} {a : Qa} {k p : Nat} {z : Bool} {x : Wo} (hp : p = s.m - 1) (hm : p < s.m) (hk : k < s.n) (hA : a.k = 6 ∧ a.r = k ∧ z = sB (a.n = 1)) (he : (s.W p).en = -1) (hx : x = (s.W p).lose k) (h : SvX N w B b { s with R := updE s.R k ((s.R k).boot z), W := updE s.W p x }) : RetV N B b s a (.returned (.tuple #[])) w := by
 subst hp
 subst hx
 rw [hA.2.2] at h
 exact ⟨_, .restartW k hk hA.2.1 hA.1 (by omega) he, rfl, h⟩
theorem RkR.reset {w : World} {B g c n : Nat} {R : Nat → Rp} {V : Nat → Value} {k : Nat} {r : Rp} {v : Value} (h : RkR w B g c n R V k r v) (hk : k < n) (x y : Int) : RkR ((((w.setCell ⟨g, k * 8, none⟩ (.bool true)).setCell ⟨g, k * 8 + 5, none⟩ (.slice none 0 0)).setCell ⟨g, k * 8 + 6, none⟩ (.int .i64 x)).setCell ⟨g, k * 8 + 7, none⟩ (.int .i64 y)) B g c n R V k { r with mute := true, ne := 0, bc := x, bt := y } (.slice none 0 0) :=
 ((h.setM hk true).setE hk (.slice none 0 0) 0 r.E).best hk x y
set_option maxRecDepth 100000 in
set_option maxHeartbeats 4000000 in
theorem restart_v {N : Nat → Prop} (B b : Nat) (s : Sv) (a : Qa) (k : Nat) (back : Bool) (hk : k < s.n) (ha : a.k = 6) (hr : a.r = k) (hz : back = sB (a.n = 1)) (ok : s.Ok) (w : World) (hB : B ≤ w.heap.size) (h : SvX N w B b s) :
  Calls Try.prog 87 #[.pointer (some ⟨b, 0, none⟩), .int .i64 (k : Int), .bool back] w fun e w' => RetV N B b s a e w' ∧ Blw N B w w' := by
 obtain ⟨vr, vw, vq, VR, VW, VQ, P⟩ := h.p
 clear h
 have b0 := P.x.lt
 obtain ⟨ra, rc, rfl⟩ := P.o.r.form
 obtain ⟨wa, wc, rfl⟩ := P.o.x.form
 have klt : (k : Int) < (s.n : Int) := by omega
 have hb : Below w.heap.size w (w.alloc (.cells #[.int .i64 (k : Int)] 3)) := (Below.refl _ _).alloc (Nat.le_refl _) _
 obtain ⟨gr, rfl, gB, gl, KR⟩ := RkR.start P.o.r hk
 have PV : Hid (SvP N (w.alloc (.cells #[.int .i64 (k : Int)] 3)) B b s (.slice (some ⟨gr, 0, none⟩) s.n rc) (.slice wa s.m wc) vq VR VW VQ) := P.below hb
 have KRH : Hid (RkR (w.alloc (.cells #[.int .i64 (k : Int)] 3)) B gr rc s.n s.R VR k (s.R k) (VR k)) := KR.below hb
 have XK : Hid (BoxN (w.alloc (.cells #[.int .i64 (k : Int)] 3)) w.heap.size (k : Int)) := BoxN.made w _
 have BV : Hid (B ≤ (w.alloc (.cells #[.int .i64 (k : Int)] 3)).heap.size ∧ Blw N B w (w.alloc (.cells #[.int .i64 (k : Int)] 3))) := ⟨Nat.le_trans hB hb.size, blw_of hb hB⟩
 have SZ : Hid (w.heap.size < (w.alloc (.cells #[.int .i64 (k : Int)] 3)).heap.size) := by show _ < _; simp
 have HA : Hid (a.k = 6 ∧ a.r = k ∧ back = sB (a.n = 1)) := ⟨ha, hr, hz⟩
 have OK : Hid s.Ok := ok
 have NK : Hid (∀ q i, (q < s.n ∧ (VR q).ownBlock = some i) ∨ (q < s.m ∧ (VW q).ownBlock = some i) → w.heap.size ≠ i) := fun q i z e => by
  rcases z with ⟨h1, h2⟩ | ⟨h1, h2⟩
  ·have := (EO.ge (P.o.e q h1) i h2).2; omega
  ·have := (EO.ge (P.o.a q h1) i h2).2; omega
 have NG : Hid (gr ≠ w.heap.size ∧ b ≠ w.heap.size) := ⟨by omega, by omega⟩
 clear P KR hb ok ha hr hz
 go_enter Try.func87, Try.ntmps87
 go_upto_region 1 with fail
 generalize (w.alloc (.cells #[.int .i64 (k : Int)] 3)) = v at *
 obtain ⟨kb, hkb⟩ : ∃ x, x = w.heap.size := ⟨_, rfl⟩
 have HKB : Hid (kb = w.heap.size) := hkb
 rw [← hkb] at XK SZ NK NG ⊢
 clear hkb
 have c0 := PV.out.x.c0
 have x0 := XK.out.c0
 go_quiet (fail)
 clear c0 x0
 generalize hv : v.drewN nq = v1 at *
 have hb : Below v.heap.size v v1 := hv ▸ below_dN v nq
 clear hv
 replace PV : Hid (SvP N v1 B b s (.slice (some ⟨gr, 0, none⟩) s.n rc) (.slice wa s.m wc) vq VR VW VQ) := PV.out.below hb
 replace KRH : Hid (RkR v1 B gr rc s.n s.R VR k (s.R k) (VR k)) := KRH.out.below hb
 replace XK : Hid (BoxN v1 kb (k : Int)) := World.rowIs.of_block XK.out (hb.block kb SZ.out)
 replace SZ : Hid (kb < v1.heap.size) := Nat.lt_of_lt_of_le SZ.out hb.size
 replace BV : Hid (B ≤ v1.heap.size ∧ Blw N B w v1) := ⟨Nat.le_trans BV.out.1 hb.size, BV.out.2.trans (blw_of hb BV.out.1)⟩
 clear hb v
 cases back with
 | true =>
  have t1 : v1.cell? ⟨gr, k * 8 + 1, none⟩ = some (.int .i64 (s.R k).nc) := KRH.out.c hk 1 (by omega)
  have t2 : v1.cell? ⟨gr, k * 8 + 2, none⟩ = some (.int .i64 (s.R k).nt) := KRH.out.c hk 2 (by omega)
  have t3 : v1.cell? ⟨gr, k * 8 + 3, none⟩ = some (.int .i64 (s.R k).sc) := KRH.out.c hk 3 (by omega)
  have t4 : v1.cell? ⟨gr, k * 8 + 4, none⟩ = some (.int .i64 (s.R k).st) := KRH.out.c hk 4 (by omega)
  have f1 := KRH.out.fr hk 1 (by omega)
  have f2 := KRH.out.fr hk 2 (by omega)
  have K2 : Hid (RkR ((v1.setCell ⟨gr, k * 8 + 1, none⟩ (.int .i64 (s.R k).sc)).setCell ⟨gr, k * 8 + 2, none⟩ (.int .i64 (s.R k).st)) B gr rc s.n s.R VR k { s.R k with nc := (s.R k).sc, nt := (s.R k).st } (VR k)) := KRH.out.now hk _ _
  have H2 : Hid (ChB (PR (.slice (some ⟨gr, 0, none⟩) s.n rc) VR k) v1 ((v1.setCell ⟨gr, k * 8 + 1, none⟩ (.int .i64 (s.R k).sc)).setCell ⟨gr, k * 8 + 2, none⟩ (.int .i64 (s.R k).st))) := ((ChB.refl _ _).at gr (.inl (.inl rfl)) _ _).at gr (.inl (.inl rfl)) _ _
  go_upto_region 4 with fail
  generalize ((v1.setCell ⟨gr, k * 8 + 1, none⟩ (.int .i64 (s.R k).sc)).setCell ⟨gr, k * 8 + 2, none⟩ (.int .i64 (s.R k).st)) = v2 at *
  clear t1 t2 t3 t4 f1 f2
  have t0 : v2.cell? ⟨gr, k * 8, none⟩ = some (.bool (s.R k).mute) := K2.out.c hk 0 (by omega)
  have t1 : v2.cell? ⟨gr, k * 8 + 1, none⟩ = some (.int .i64 (s.R k).sc) := K2.out.c hk 1 (by omega)
  have t2 : v2.cell? ⟨gr, k * 8 + 2, none⟩ = some (.int .i64 (s.R k).st) := K2.out.c hk 2 (by omega)
  have t5 : v2.cell? ⟨gr, k * 8 + 5, none⟩ = some (VR k) := K2.out.c hk 5 (by omega)
  have t6 : v2.cell? ⟨gr, k * 8 + 6, none⟩ = some (.int .i64 (s.R k).bc) := K2.out.c hk 6 (by omega)
  have t7 : v2.cell? ⟨gr, k * 8 + 7, none⟩ = some (.int .i64 (s.R k).bt) := K2.out.c hk 7 (by omega)
  have f0 : v2.frozen? ⟨gr, k * 8, none⟩ = false := K2.out.fr hk 0 (by omega)
  have f5 := K2.out.fr hk 5 (by omega)
  have f6 := K2.out.fr hk 6 (by omega)
  have f7 := K2.out.fr hk 7 (by omega)
  have K3 : Hid (RkR ((((v2.setCell ⟨gr, k * 8, none⟩ (.bool true)).setCell ⟨gr, k * 8 + 5, none⟩ (.slice none 0 0)).setCell ⟨gr, k * 8 + 6, none⟩ (.int .i64 (s.R k).sc)).setCell ⟨gr, k * 8 + 7, none⟩ (.int .i64 (s.R k).st)) B gr rc s.n s.R VR k ((s.R k).boot true) (.slice none 0 0)) := K2.out.reset hk (s.R k).sc (s.R k).st
  have H3 : Hid (ChB (PR (.slice (some ⟨gr, 0, none⟩) s.n rc) VR k) v1 ((((v2.setCell ⟨gr, k * 8, none⟩ (.bool true)).setCell ⟨gr, k * 8 + 5, none⟩ (.slice none 0 0)).setCell ⟨gr, k * 8 + 6, none⟩ (.int .i64 (s.R k).sc)).setCell ⟨gr, k * 8 + 7, none⟩ (.int .i64 (s.R k).st))) := (((H2.out.at gr (.inl (.inl rfl)) _ _).at gr (.inl (.inl rfl)) _ _).at gr (.inl (.inl rfl)) _ _).at gr (.inl (.inl rfl)) _ _
  clear K2 H2
  go_upto_region 5 with fail
  generalize ((((v2.setCell ⟨gr, k * 8, none⟩ (.bool true)).setCell ⟨gr, k * 8 + 5, none⟩ (.slice none 0 0)).setCell ⟨gr, k * 8 + 6, none⟩ (.int .i64 (s.R k).sc)).setCell ⟨gr, k * 8 + 7, none⟩ (.int .i64 (s.R k).st)) = v3 at *
  clear t0 t1 t2 t5 t6 t7 f0 f5 f6 f7
  have P3 : Hid (SvP N v3 B b { s with R := updE s.R k ((s.R k).boot true) } (.slice (some ⟨gr, 0, none⟩) s.n rc) (.slice wa s.m wc) vq (updE VR k (.slice none 0 0)) VW VQ) := PV.out.chR hk H3.out K3.out (by cases hq : (s.R k).mute <;> exact EO.nil _ _ _ _ _) (fun g e => by cases e)
  have X3 : Hid (BoxN v3 kb (k : Int)) := World.rowIs.of_block XK.out (H3.out.block kb SZ.out (fun z => (show _ ∨ _ from z).elim (fun z => NG.out.1 (by cases z; rfl)) (fun z => NK.out k kb (.inl ⟨hk, z⟩) rfl)))
  have BY : Hid (B ≤ v3.heap.size ∧ Blw N B w v3) := ⟨Nat.le_trans BV.out.1 H3.out.size, BV.out.2.trans (H3.out.toBlw (PR.geR PV.out hk) BV.out.1)⟩
  clear PV KRH XK BV H3 K3 SZ
  have c2 := P3.out.x.c2
  by_cases hm : s.m = 0
  ·have Q : Hid (RetV N B b s a (.returned (.tuple #[])) v3 ∧ Blw N B w v3) := ⟨retV_one hk HA.out (by omega) P3.out.sv, BY.out.2⟩
   rw [hm] at c2
   clear P3 X3 BY OK HA NK NG hm
   go_wp2
   refine bodyPost_ret (results_none rfl _ _ _) rfl ?_
   exact Q.out
  ·obtain ⟨p, hp⟩ : ∃ p, p = s.m - 1 := ⟨_, rfl⟩
   have pm : p < s.m := by omega
   have ep : (s.m : Int) - 1 = (p : Int) := by omega
   have plt : (p : Int) < (s.m : Int) := by omega
   have m0 : ((s.m : Int) == 0) = false := by simp; omega
   have m200 : s.m ≤ 200 := OK.out.1.2.2.1
   have pw : IntKind.i64.wrap (p : Int) = (p : Int) := IntWalk.i64_in _ (by omega)
   have HP : Hid (p = s.m - 1) := hp
   obtain ⟨gw, rfl, wB, wl, KW⟩ := RkW.start P3.out.o.x pm
   have KWH : Hid (RkW v3 B gw wc s.m s.W VW p (s.W p) (VW p)) := KW
   clear KW hp
   go_wp2_with fail
   go_quiet (fail)
   clear c2
   generalize hv : v3.drewN _ = v4 at *
   have hb : Below v3.heap.size v3 v4 := hv ▸ below_dN v3 _
   clear hv
   have P4 : Hid (SvP N v4 B b { s with R := updE s.R k ((s.R k).boot true) } (.slice (some ⟨gr, 0, none⟩) s.n rc) (.slice (some ⟨gw, 0, none⟩) s.m wc) vq (updE VR k (.slice none 0 0)) VW VQ) := P3.out.below hb
   have K4 : Hid (RkW v4 B gw wc s.m s.W VW p (s.W p) (VW p)) := KWH.out.below hb
   have X4 : Hid (BoxN v4 kb (k : Int)) := World.rowIs.of_block X3.out (hb.block kb (World.rowIs.lt X3.out))
   replace BY : Hid (B ≤ v4.heap.size ∧ Blw N B w v4) := ⟨Nat.le_trans BY.out.1 hb.size, BY.out.2.trans (blw_of hb BY.out.1)⟩
   clear P3 KWH X3 hb
   have q4 : v4.cell? ⟨gw, p * 5 + 4, none⟩ = some (.int .i64 (s.W p).en) := K4.out.c pm 4 (by omega)
   by_cases he : (s.W p).en = -1
   ·have HE : Hid ((s.W p).en = -1) := he
    rw [he] at q4
    clear he
    have IW : IE v4 B (VW p) (s.W p).ne (s.W p).E := P4.out.o.a p pm
    obtain ⟨la, lcap, eV⟩ := EO.form IW
    have EV : Hid (VW p = .slice la (s.W p).ne lcap) := eV
    have DH : Hid (Calls Try.prog 108 #[.slice la (s.W p).ne lcap, .func (.func 109) #[] #[.pointer (some ⟨kb, 0, none⟩)]] v4 fun e w' => RetDl v4 B la (s.W p).ne lcap (s.W p).E k e w') := dropI_any s.n B la (s.W p).ne lcap (s.W p).E k kb (OK.out.2.1 p pm).2.2.2.1 (by have := ids_le (OK.out.2.1 p pm).2.2.2.1; have := OK.out.1.1.2; omega) v4 X4.out.c0 (fun g e => NK.out p g (.inr ⟨pm, by rw [eV]; exact e⟩)) (by rw [← eV]; exact IW)
    have q2 : v4.cell? ⟨gw, p * 5 + 2, none⟩ = some (.slice la (s.W p).ne lcap) := by have := K4.out.c pm 2 (by omega); rw [← eV]; exact this
    clear IW eV X4
    go_wp2_with fail
    refine DH.out.mono ?_
    rintro e v5 ⟨⟨rfl, hI⟩, hg⟩
    rw [← EV.out] at hg
    have gne : ∀ u, (VW p).ownBlock = some u → u ≠ gw := fun u e z => EO.apart (P4.out.o.a p pm) P4.out.o.x (by decide) u e (by rw [z]; rfl)
    have H5 : ChB (PR (.slice (some ⟨gw, 0, none⟩) s.m wc) VW p) v4 v5 := (ChB.refl _ _).grown hg (fun g e => .inl (.inr e))
    have K5 : Hid (RkW v5 B gw wc s.m s.W VW p (s.W p) (VW p)) := K4.out.keep (hg.block gw K4.out.lt.2 (fun e => gne gw e.symm rfl))
    have f2 := K5.out.fr pm 2 (by omega)
    have g2 : v5.cell? ⟨gw, p * 5 + 2, none⟩ = some (VW p) := K5.out.c pm 2 (by omega)
    have K6 := K5.out.setE pm (.slice la (subE (s.W p).ne (s.W p).E k).1 lcap) (subE (s.W p).ne (s.W p).E k).1 (subE (s.W p).ne (s.W p).E k).2
    have I6 := IE.setOther hI K5.out (by decide) (p * 5 + 2) (.slice la (subE (s.W p).ne (s.W p).E k).1 lcap)
    have H6 := H5.at gw (.inl (.inl rfl)) (p * 5 + 2) (.slice la (subE (s.W p).ne (s.W p).E k).1 lcap)
    have Q : Hid (RetV N B b s a (.returned (.tuple #[])) (v5.setCell ⟨gw, p * 5 + 2, none⟩ (.slice la (subE (s.W p).ne (s.W p).E k).1 lcap)) ∧ Blw N B w (v5.setCell ⟨gw, p * 5 + 2, none⟩ (.slice la (subE (s.W p).ne (s.W p).E k).1 lcap))) := ⟨retV_two HP.out pm hk HA.out HE.out rfl (P4.out.chW pm H6 K6 I6 (fun g e => .inl (by rw [EV.out]; cases la <;> exact e))).sv, BY.out.2.trans (H6.toBlw (PR.geW P4.out pm) BY.out.1)⟩
    clear K6 I6 H6 hI hg gne H5 K5 K4 P4 DH q2 q4 BY EV NK
    generalize (subE (s.W p).ne (s.W p).E k).1 = ne' at *
    go_wp2
    go_end0
    exact Q.out
   ·have heb : ((s.W p).en == -1) = false := by simp; exact he
    have Q : Hid (RetV N B b s a (.returned (.tuple #[])) v4 ∧ Blw N B w v4) := ⟨retV_one hk HA.out (fun z => he (by rw [HP.out]; exact z.2)) P4.out.sv, BY.out.2⟩
    clear P4 K4 X4 BY OK HA NK NG he
    go_wp2
    go_end0
    exact Q.out
 | false =>
  have K2 : Hid (RkR v1 B gr rc s.n s.R VR k (s.R k) (VR k)) := KRH.out
  have H2 : Hid (ChB (PR (.slice (some ⟨gr, 0, none⟩) s.n rc) VR k) v1 v1) := ChB.refl _ _
  go_upto_region 4 with fail
  have t0 : v1.cell? ⟨gr, k * 8, none⟩ = some (.bool (s.R k).mute) := K2.out.c hk 0 (by omega)
  have t1 : v1.cell? ⟨gr, k * 8 + 1, none⟩ = some (.int .i64 (s.R k).nc) := K2.out.c hk 1 (by omega)
  have t2 : v1.cell? ⟨gr, k * 8 + 2, none⟩ = some (.int .i64 (s.R k).nt) := K2.out.c hk 2 (by omega)
  have t5 : v1.cell? ⟨gr, k * 8 + 5, none⟩ = some (VR k) := K2.out.c hk 5 (by omega)
  have t6 : v1.cell? ⟨gr, k * 8 + 6, none⟩ = some (.int .i64 (s.R k).bc) := K2.out.c hk 6 (by omega)
  have t7 : v1.cell? ⟨gr, k * 8 + 7, none⟩ = some (.int .i64 (s.R k).bt) := K2.out.c hk 7 (by omega)
  have f0 : v1.frozen? ⟨gr, k * 8, none⟩ = false := K2.out.fr hk 0 (by omega)
  have f5 := K2.out.fr hk 5 (by omega)
  have f6 := K2.out.fr hk 6 (by omega)
  have f7 := K2.out.fr hk 7 (by omega)
  have K3 : Hid (RkR ((((v1.setCell ⟨gr, k * 8, none⟩ (.bool true)).setCell ⟨gr, k * 8 + 5, none⟩ (.slice none 0 0)).setCell ⟨gr, k * 8 + 6, none⟩ (.int .i64 (s.R k).nc)).setCell ⟨gr, k * 8 + 7, none⟩ (.int .i64 (s.R k).nt)) B gr rc s.n s.R VR k ((s.R k).boot false) (.slice none 0 0)) := K2.out.reset hk (s.R k).nc (s.R k).nt
  have H3 : Hid (ChB (PR (.slice (some ⟨gr, 0, none⟩) s.n rc) VR k) v1 ((((v1.setCell ⟨gr, k * 8, none⟩ (.bool true)).setCell ⟨gr, k * 8 + 5, none⟩ (.slice none 0 0)).setCell ⟨gr, k * 8 + 6, none⟩ (.int .i64 (s.R k).nc)).setCell ⟨gr, k * 8 + 7, none⟩ (.int .i64 (s.R k).nt))) := (((H2.out.at gr (.inl (.inl rfl)) _ _).at gr (.inl (.inl rfl)) _ _).at gr (.inl (.inl rfl)) _ _).at gr (.inl (.inl rfl)) _ _
  clear K2 H2
  go_upto_region 5 with fail
  generalize ((((v1.setCell ⟨gr, k * 8, none⟩ (.bool true)).setCell ⟨gr, k * 8 + 5, none⟩ (.slice none 0 0)).setCell ⟨gr, k * 8 + 6, none⟩ (.int .i64 (s.R k).nc)).setCell ⟨gr, k * 8 + 7, none⟩ (.int .i64 (s.R k).nt)) = v3 at *
  clear t0 t1 t2 t5 t6 t7 f0 f5 f6 f7
  have P3 : Hid (SvP N v3 B b { s with R := updE s.R k ((s.R k).boot false) } (.slice (some ⟨gr, 0, none⟩) s.n rc) (.slice wa s.m wc) vq (updE VR k (.slice none 0 0)) VW VQ) := PV.out.chR hk H3.out K3.out (by cases hq : (s.R k).mute <;> exact EO.nil _ _ _ _ _) (fun g e => by cases e)
  have X3 : Hid (BoxN v3 kb (k : Int)) := World.rowIs.of_block XK.out (H3.out.block kb SZ.out (fun z => (show _ ∨ _ from z).elim (fun z => NG.out.1 (by cases z; rfl)) (fun z => NK.out k kb (.inl ⟨hk, z⟩) rfl)))
  have BY : Hid (B ≤ v3.heap.size ∧ Blw N B w v3) := ⟨Nat.le_trans BV.out.1 H3.out.size, BV.out.2.trans (H3.out.toBlw (PR.geR PV.out hk) BV.out.1)⟩
  clear PV KRH XK BV H3 K3 SZ
  have c2 := P3.out.x.c2
  by_cases hm : s.m = 0
  ·have Q : Hid (RetV N B b s a (.returned (.tuple #[])) v3 ∧ Blw N B w v3) := ⟨retV_one hk HA.out (by omega) P3.out.sv, BY.out.2⟩
   rw [hm] at c2
   clear P3 X3 BY OK HA NK NG hm
   go_wp2
   refine bodyPost_ret (results_none rfl _ _ _) rfl ?_
   exact Q.out
  ·obtain ⟨p, hp⟩ : ∃ p, p = s.m - 1 := ⟨_, rfl⟩
   have pm : p < s.m := by omega
   have ep : (s.m : Int) - 1 = (p : Int) := by omega
   have plt : (p : Int) < (s.m : Int) := by omega
   have m0 : ((s.m : Int) == 0) = false := by simp; omega
   have m200 : s.m ≤ 200 := OK.out.1.2.2.1
   have pw : IntKind.i64.wrap (p : Int) = (p : Int) := IntWalk.i64_in _ (by omega)
   have HP : Hid (p = s.m - 1) := hp
   obtain ⟨gw, rfl, wB, wl, KW⟩ := RkW.start P3.out.o.x pm
   have KWH : Hid (RkW v3 B gw wc s.m s.W VW p (s.W p) (VW p)) := KW
   clear KW hp
   go_wp2_with fail
   go_quiet (fail)
   clear c2
   generalize hv : v3.drewN _ = v4 at *
   have hb : Below v3.heap.size v3 v4 := hv ▸ below_dN v3 _
   clear hv
   have P4 : Hid (SvP N v4 B b { s with R := updE s.R k ((s.R k).boot false) } (.slice (some ⟨gr, 0, none⟩) s.n rc) (.slice (some ⟨gw, 0, none⟩) s.m wc) vq (updE VR k (.slice none 0 0)) VW VQ) := P3.out.below hb
   have K4 : Hid (RkW v4 B gw wc s.m s.W VW p (s.W p) (VW p)) := KWH.out.below hb
   have X4 : Hid (BoxN v4 kb (k : Int)) := World.rowIs.of_block X3.out (hb.block kb (World.rowIs.lt X3.out))
   replace BY : Hid (B ≤ v4.heap.size ∧ Blw N B w v4) := ⟨Nat.le_trans BY.out.1 hb.size, BY.out.2.trans (blw_of hb BY.out.1)⟩
   clear P3 KWH X3 hb
   have q4 : v4.cell? ⟨gw, p * 5 + 4, none⟩ = some (.int .i64 (s.W p).en) := K4.out.c pm 4 (by omega)
   by_cases he : (s.W p).en = -1
   ·have HE : Hid ((s.W p).en = -1) := he
    rw [he] at q4
    clear he
    have IW : IE v4 B (VW p) (s.W p).ne (s.W p).E := P4.out.o.a p pm
    obtain ⟨la, lcap, eV⟩ := EO.form IW
    have EV : Hid (VW p = .slice la (s.W p).ne lcap) := eV
    have DH : Hid (Calls Try.prog 108 #[.slice la (s.W p).ne lcap, .func (.func 109) #[] #[.pointer (some ⟨kb, 0, none⟩)]] v4 fun e w' => RetDl v4 B la (s.W p).ne lcap (s.W p).E k e w') := dropI_any s.n B la (s.W p).ne lcap (s.W p).E k kb (OK.out.2.1 p pm).2.2.2.1 (by have := ids_le (OK.out.2.1 p pm).2.2.2.1; have := OK.out.1.1.2; omega) v4 X4.out.c0 (fun g e => NK.out p g (.inr ⟨pm, by rw [eV]; exact e⟩)) (by rw [← eV]; exact IW)
    have q2 : v4.cell? ⟨gw, p * 5 + 2, none⟩ = some (.slice la (s.W p).ne lcap) := by have := K4.out.c pm 2 (by omega); rw [← eV]; exact this
    clear IW eV X4
    go_wp2_with fail
    refine DH.out.mono ?_
    rintro e v5 ⟨⟨rfl, hI⟩, hg⟩
    rw [← EV.out] at hg
    have gne : ∀ u, (VW p).ownBlock = some u → u ≠ gw := fun u e z => EO.apart (P4.out.o.a p pm) P4.out.o.x (by decide) u e (by rw [z]; rfl)
    have H5 : ChB (PR (.slice (some ⟨gw, 0, none⟩) s.m wc) VW p) v4 v5 := (ChB.refl _ _).grown hg (fun g e => .inl (.inr e))
    have K5 : Hid (RkW v5 B gw wc s.m s.W VW p (s.W p) (VW p)) := K4.out.keep (hg.block gw K4.out.lt.2 (fun e => gne gw e.symm rfl))
    have f2 := K5.out.fr pm 2 (by omega)
    have g2 : v5.cell? ⟨gw, p * 5 + 2, none⟩ = some (VW p) := K5.out.c pm 2 (by omega)
    have K6 := K5.out.setE pm (.slice la (subE (s.W p).ne (s.W p).E k).1 lcap) (subE (s.W p).ne (s.W p).E k).1 (subE (s.W p).ne (s.W p).E k).2
    have I6 := IE.setOther hI K5.out (by decide) (p * 5 + 2) (.slice la (subE (s.W p).ne (s.W p).E k).1 lcap)
    have H6 := H5.at gw (.inl (.inl rfl)) (p * 5 + 2) (.slice la (subE (s.W p).ne (s.W p).E k).1 lcap)
    have Q : Hid (RetV N B b s a (.returned (.tuple #[])) (v5.setCell ⟨gw, p * 5 + 2, none⟩ (.slice la (subE (s.W p).ne (s.W p).E k).1 lcap)) ∧ Blw N B w (v5.setCell ⟨gw, p * 5 + 2, none⟩ (.slice la (subE (s.W p).ne (s.W p).E k).1 lcap))) := ⟨retV_two HP.out pm hk HA.out HE.out rfl (P4.out.chW pm H6 K6 I6 (fun g e => .inl (by rw [EV.out]; cases la <;> exact e))).sv, BY.out.2.trans (H6.toBlw (PR.geW P4.out pm) BY.out.1)⟩
    clear K6 I6 H6 hI hg gne H5 K5 K4 P4 DH q2 q4 BY EV NK
    generalize (subE (s.W p).ne (s.W p).E k).1 = ne' at *
    go_wp2
    go_end0
    exact Q.out
   ·have heb : ((s.W p).en == -1) = false := by simp; exact he
    have Q : Hid (RetV N B b s a (.returned (.tuple #[])) v4 ∧ Blw N B w v4) := ⟨retV_one hk HA.out (fun z => he (by rw [HP.out]; exact z.2)) P4.out.sv, BY.out.2⟩
    clear P4 K4 X4 BY OK HA NK NG he
    go_wp2
    go_end0
    exact Q.out
end Go.Proofs.Ytedncfcmhaaobaa
namespace Go.Proofs.Ytedncfcmhaaobaa
open Go.ChangeShapes Go.WideShapes Go.ChangeAt Go.RowKit
set_option linter.unusedVariables false
theorem retA_save {N : Nat → Prop} {w : World} {B b : Nat} {s : Sv} {k : Nat} {an : Int} (hk : k < s.n) (h : SvX N w B b { s with R := updE s.R k (s.R k).save }) : RetA N B b s ⟨5, k, an⟩ (.returned (.int .i64 0)) w := ⟨_, 0, .save k hk rfl rfl, rfl, h⟩
set_option maxRecDepth 100000 in
set_option maxHeartbeats 4000000 in
theorem doAt_v {N : Nat → Prop} (B b : Nat) (s : Sv) (ak an : Int) (k : Nat) (hk : k < s.n) (hkind : ak = 2 ∨ ak = 4 ∨ ak = 5 ∨ ak = 6 ∨ ak = 7) (ok : s.Ok) (w : World) (hB : B ≤ w.heap.size) (h : SvX N w B b s) :
  Calls Try.prog 54 #[.pointer (some ⟨b, 0, none⟩), .agg #[.int .i64 ak, .int .i64 (k : Int), .int .i64 an]] w fun e w' => RetA N B b s ⟨ak, k, an⟩ e w' ∧ Blw N B w w' := by
 have hb : Below w.heap.size w (w.alloc (.cells #[.int .i64 ak, .int .i64 (k : Int), .int .i64 an] 41)) := (Below.refl _ _).alloc (Nat.le_refl _) _
 have HX : Hid (SvX N (w.alloc (.cells #[.int .i64 ak, .int .i64 (k : Int), .int .i64 an] 41)) B b s) := h.below hb
 have X : Hid (Box3 (w.alloc (.cells #[.int .i64 ak, .int .i64 (k : Int), .int .i64 an] 41)) w.heap.size 41 (.int .i64 ak) (.int .i64 (k : Int)) (.int .i64 an)) := Box3.made _ _ _ _ _
 have BV : Hid (B ≤ (w.alloc (.cells #[.int .i64 ak, .int .i64 (k : Int), .int .i64 an] 41)).heap.size ∧ Blw N B w (w.alloc (.cells #[.int .i64 ak, .int .i64 (k : Int), .int .i64 an] 41))) := ⟨Nat.le_trans hB hb.size, blw_of hb hB⟩
 have OK : Hid s.Ok := ok
 clear hb h ok hB
 rcases hkind with rfl | rfl | rfl | rfl | rfl
 ·have G : Hid (∀ w : World, B ≤ w.heap.size → SvX N w B b s → Calls Try.prog 85 #[.pointer (some ⟨b, 0, none⟩), .int .i64 (k : Int)] w fun e w' => RetA N B b s ⟨2, k, an⟩ e w' ∧ Blw N B w w') := fun w hB h => store_v B b s ⟨2, k, an⟩ k hk rfl rfl OK.out w hB h
  go_enter Try.func54, Try.ntmps54
  go_upto_region 1 with fail
  generalize (w.alloc (.cells #[.int .i64 2, .int .i64 (k : Int), .int .i64 an] 41)) = v at *
  have x0 := X.out.c0
  have x1 := X.out.c1
  have x2 := X.out.c2
  go_wp2_with fail
  refine (G.out _ BV.out.1 HX.out).mono ?_
  rintro e v2 ⟨⟨s', c, h1, rfl, h3⟩, hb⟩
  have Q : Hid (RetA N B b s ⟨2, k, an⟩ (.returned (.int .i64 c)) v2 ∧ Blw N B w v2) := ⟨⟨s', c, h1, rfl, h3⟩, BV.out.2.trans hb⟩
  clear h1 h3 hb G HX X BV OK x0 x1 x2
  go_wp2
  go_ret
  exact Q.out
 ·have G : Hid (∀ w : World, B ≤ w.heap.size → SvX N w B b s → Calls Try.prog 86 #[.pointer (some ⟨b, 0, none⟩), .int .i64 (k : Int), .int .i64 an] w fun e w' => RetA N B b s ⟨4, k, an⟩ e w' ∧ Blw N B w w') := fun w hB h => reply_v B b s ⟨4, k, an⟩ k hk rfl rfl OK.out w hB h
  go_enter Try.func54, Try.ntmps54
  go_upto_region 1 with fail
  generalize (w.alloc (.cells #[.int .i64 4, .int .i64 (k : Int), .int .i64 an] 41)) = v at *
  have x0 := X.out.c0
  have x1 := X.out.c1
  have x2 := X.out.c2
  go_wp2_with fail
  refine (G.out _ BV.out.1 HX.out).mono ?_
  rintro e v2 ⟨⟨s', c, h1, rfl, h3⟩, hb⟩
  have Q : Hid (RetA N B b s ⟨4, k, an⟩ (.returned (.int .i64 c)) v2 ∧ Blw N B w v2) := ⟨⟨s', c, h1, rfl, h3⟩, BV.out.2.trans hb⟩
  clear h1 h3 hb G HX X BV OK x0 x1 x2
  go_wp2
  go_ret
  exact Q.out
 ·skip
  go_enter Try.func54, Try.ntmps54
  go_upto_region 1 with fail
  generalize (w.alloc (.cells #[.int .i64 5, .int .i64 (k : Int), .int .i64 an] 41)) = v at *
  have x0 := X.out.c0
  have x1 := X.out.c1
  have x2 := X.out.c2
  obtain ⟨vr, vw, vq, VR, VW, VQ, P⟩ := HX.out.p
  obtain ⟨ra, rc, rfl⟩ := P.o.r.form
  obtain ⟨gr, rfl, gB, gl, KR⟩ := RkR.start P.o.r hk
  have klt : (k : Int) < (s.n : Int) := by omega
  have PV : Hid (SvP N v B b s (.slice (some ⟨gr, 0, none⟩) s.n rc) vw vq VR VW VQ) := P
  have KY : Hid (RkR v B gr rc s.n s.R VR k (s.R k) (VR k)) := KR
  have c0 := P.x.c0
  clear P KR HX OK
  go_wp2_with fail
  go_quiet (fail)
  clear c0 x0 x1 x2
  generalize hv : v.drewN _ = v1 at *
  have hb : Below v.heap.size v v1 := hv ▸ below_dN v _
  clear hv
  replace PV : Hid (SvP N v1 B b s (.slice (some ⟨gr, 0, none⟩) s.n rc) vw vq VR VW VQ) := PV.out.below hb
  replace KY : Hid (RkR v1 B gr rc s.n s.R VR k (s.R k) (VR k)) := KY.out.below hb
  replace BV : Hid (B ≤ v1.heap.size ∧ Blw N B w v1) := ⟨Nat.le_trans BV.out.1 hb.size, BV.out.2.trans (blw_of hb BV.out.1)⟩
  clear hb X
  have t1 : v1.cell? ⟨gr, k * 8 + 1, none⟩ = some (.int .i64 (s.R k).nc) := KY.out.c hk 1 (by omega)
  have t2 : v1.cell? ⟨gr, k * 8 + 2, none⟩ = some (.int .i64 (s.R k).nt) := KY.out.c hk 2 (by omega)
  have t3 : v1.cell? ⟨gr, k * 8 + 3, none⟩ = some (.int .i64 (s.R k).sc) := KY.out.c hk 3 (by omega)
  have t4 : v1.cell? ⟨gr, k * 8 + 4, none⟩ = some (.int .i64 (s.R k).st) := KY.out.c hk 4 (by omega)
  have f3 := KY.out.fr hk 3 (by omega)
  have f4 := KY.out.fr hk 4 (by omega)
  have K2 := KY.out.saved hk (s.R k).nc (s.R k).nt
  have H2 : ChB (PG gr) v1 ((v1.setCell ⟨gr, k * 8 + 3, none⟩ (.int .i64 (s.R k).nc)).setCell ⟨gr, k * 8 + 4, none⟩ (.int .i64 (s.R k).nt)) := ((ChB.refl (PG gr) v1).at gr (.inl rfl) _ _).at gr (.inl rfl) _ _
  have Q : Hid (RetA N B b s ⟨5, k, an⟩ (.returned (.int .i64 0)) ((v1.setCell ⟨gr, k * 8 + 3, none⟩ (.int .i64 (s.R k).nc)).setCell ⟨gr, k * 8 + 4, none⟩ (.int .i64 (s.R k).nt)) ∧ Blw N B w ((v1.setCell ⟨gr, k * 8 + 3, none⟩ (.int .i64 (s.R k).nc)).setCell ⟨gr, k * 8 + 4, none⟩ (.int .i64 (s.R k).nt))) := ⟨retA_save hk (PV.out.chR1 hk H2 K2 rfl rfl).sv, BV.out.2.trans (H2.toBlw (fun g z => by unfold PG at z; rw [z]; exact ⟨gB, PV.out.n.r gr rfl⟩) BV.out.1)⟩
  clear K2 H2 PV KY BV
  go_wp2
  go_ret
  exact Q.out
 ·by_cases h1 : an = 1
  ·subst h1
   have G : Hid (∀ w : World, B ≤ w.heap.size → SvX N w B b s → Calls Try.prog 87 #[.pointer (some ⟨b, 0, none⟩), .int .i64 (k : Int), .bool true] w fun e w' => RetV N B b s ⟨6, k, 1⟩ e w' ∧ Blw N B w w') := fun w hB h => restart_v B b s ⟨6, k, 1⟩ k true hk rfl rfl (sB_yes rfl).symm OK.out w hB h
   go_enter Try.func54, Try.ntmps54
   go_upto_region 1 with fail
   generalize (w.alloc (.cells #[.int .i64 6, .int .i64 (k : Int), .int .i64 1] 41)) = v at *
   have x0 := X.out.c0
   have x1 := X.out.c1
   have x2 := X.out.c2
   go_wp2_with fail
   refine (G.out _ BV.out.1 HX.out).mono ?_
   rintro e v2 ⟨⟨s', h1, rfl, h3⟩, hb⟩
   have Q : Hid (RetA N B b s ⟨6, k, 1⟩ (.returned (.int .i64 0)) v2 ∧ Blw N B w v2) := ⟨⟨s', 0, h1, rfl, h3⟩, BV.out.2.trans hb⟩
   clear h1 h3 hb G HX X BV OK x0 x1 x2
   go_wp2
   go_ret
   exact Q.out
  ·have hn : (an == 1) = false := by simp; exact h1
   have G : Hid (∀ w : World, B ≤ w.heap.size → SvX N w B b s → Calls Try.prog 87 #[.pointer (some ⟨b, 0, none⟩), .int .i64 (k : Int), .bool false] w fun e w' => RetV N B b s ⟨6, k, an⟩ e w' ∧ Blw N B w w') := fun w hB h => restart_v B b s ⟨6, k, an⟩ k false hk rfl rfl (sB_no h1).symm OK.out w hB h
   go_enter Try.func54, Try.ntmps54
   go_upto_region 1 with fail
   generalize (w.alloc (.cells #[.int .i64 6, .int .i64 (k : Int), .int .i64 an] 41)) = v at *
   have x0 := X.out.c0
   have x1 := X.out.c1
   have x2 := X.out.c2
   go_wp2_with fail
   refine (G.out _ BV.out.1 HX.out).mono ?_
   rintro e v2 ⟨⟨s', h1, rfl, h3⟩, hb⟩
   have Q : Hid (RetA N B b s ⟨6, k, an⟩ (.returned (.int .i64 0)) v2 ∧ Blw N B w v2) := ⟨⟨s', 0, h1, rfl, h3⟩, BV.out.2.trans hb⟩
   clear h1 h3 hb G HX X BV OK x0 x1 x2
   go_wp2
   go_ret
   exact Q.out
 ·have G : Hid (∀ w : World, B ≤ w.heap.size → SvX N w B b s → Calls Try.prog 88 #[.pointer (some ⟨b, 0, none⟩), .int .i64 (k : Int), .int .i64 an] w fun e w' => RetA N B b s ⟨7, k, an⟩ e w' ∧ Blw N B w w') := fun w hB h => echo_v B b s ⟨7, k, an⟩ k hk rfl rfl OK.out w hB h
  go_enter Try.func54, Try.ntmps54
  go_upto_region 1 with fail
  generalize (w.alloc (.cells #[.int .i64 7, .int .i64 (k : Int), .int .i64 an] 41)) = v at *
  have x0 := X.out.c0
  have x1 := X.out.c1
  have x2 := X.out.c2
  go_wp2_with fail
  refine (G.out _ BV.out.1 HX.out).mono ?_
  rintro e v2 ⟨⟨s', c, h1, rfl, h3⟩, hb⟩
  have Q : Hid (RetA N B b s ⟨7, k, an⟩ (.returned (.int .i64 c)) v2 ∧ Blw N B w v2) := ⟨⟨s', c, h1, rfl, h3⟩, BV.out.2.trans hb⟩
  clear h1 h3 hb G HX X BV OK x0 x1 x2
  go_wp2
  go_ret
  exact Q.out
end Go.Proofs.Ytedncfcmhaaobaa
