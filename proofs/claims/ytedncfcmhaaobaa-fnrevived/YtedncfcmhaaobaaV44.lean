/-
  Texts of the proof, joined: QuSt.
-/
import Derived.Test.YtedncfcmhaaobaaV29
import Derived.Deep.Cut
namespace Go.Proofs.Ytedncfcmhaaobaa
open Go.ChangeShapes Go.WideShapes Go.ChangeAt Go.RowKit
set_option linter.unusedVariables false
set_option maxRecDepth 100000 in
set_option maxHeartbeats 4000000 in
theorem store_v {N : Nat → Prop} (B b : Nat) (s : Sv) (a : Qa) (k : Nat) (hk : k < s.n) (ha : a.k = 2) (hr : a.r = k) (ok : s.Ok) (w : World) (hB : B ≤ w.heap.size) (h : SvX N w B b s) :
  Calls Try.prog 85 #[.pointer (some ⟨b, 0, none⟩), .int .i64 (k : Int)] w fun e w' => RetA N B b s a e w' ∧ Blw N B w w' := by
 obtain ⟨vr, vw, vq, VR, VW, VQ, P⟩ := h.p
 clear h
 obtain ⟨wa, wc, rfl⟩ := P.o.x.form
 obtain ⟨ra, rc, rfl⟩ := P.o.r.form
 have c2 := P.x.c2
 by_cases hm : s.m = 0
 ·have Q : Hid (RetA N B b s a (.returned (.int .i64 5)) w) := ⟨s, 5, .store0 k hk hr ha hm, rfl, P.sv⟩
  rw [hm] at c2
  clear P ok hk hr ha hm
  go_enter Try.func85, Try.ntmps85
  go_wp2
  go_ret
  exact ⟨Q.out, Blw.refl _ _ _⟩
 ·obtain ⟨p, hp⟩ : ∃ p, p = s.m - 1 := ⟨_, rfl⟩
  have pm : p < s.m := by omega
  have ep : (s.m : Int) - 1 = (p : Int) := by omega
  have plt : (p : Int) < (s.m : Int) := by omega
  have klt : (k : Int) < (s.n : Int) := by omega
  have m0 : ((s.m : Int) == 0) = false := by simp; omega
  have n7 : s.n ≤ 7 := ok.1.1.2
  have m200 : s.m ≤ 200 := ok.1.2.2.1
  have pw : IntKind.i64.wrap (p : Int) = (p : Int) := IntWalk.i64_in _ (by omega)
  obtain ⟨gr, rfl, gB, gl, KR⟩ := RkR.start P.o.r hk
  obtain ⟨gw, rfl, wB, wl, KW⟩ := RkW.start P.o.x pm
  have c0 := P.x.c0
  have r0 : w.cell? ⟨gr, k * 8, none⟩ = some (.bool (s.R k).mute) := KR.c hk 0 (by omega)
  have OK : Hid s.Ok := ok
  have PP : Hid (SvP N w B b s (.slice (some ⟨gr, 0, none⟩) s.n rc) (.slice (some ⟨gw, 0, none⟩) s.m wc) vq VR VW VQ) := P
  clear P ok
  by_cases hu : (s.R k).mute = true
  ·have Q : Hid (RetA N B b s a (.returned (.int .i64 13)) w) := ⟨s, 13, .store1 k hk hr ha (by omega) hu, rfl, PP.out.sv⟩
   rw [hu] at r0
   have B0 : Hid (B ≤ w.heap.size) := hB
   clear KR KW PP OK hu hp hr ha hB gB gl wB wl
   go_enter Try.func85, Try.ntmps85
   go_wp2_with fail
   go_quiet (fail)
   go_wp2
   go_ret
   exact ⟨Q.out.below (below_dN _ _), blw_of (below_dN _ _) B0.out⟩
  ·have hu' : (s.R k).mute = false := by cases e : (s.R k).mute <;> simp_all
   rw [hu'] at r0
   have B0 : Hid (B ≤ w.heap.size) := hB
   have HP : Hid (p = s.m - 1) := hp
   have HA : Hid (a.k = 2 ∧ a.r = k ∧ (s.R k).mute = false) := ⟨ha, hr, hu'⟩
   have KRH : Hid (RkR w B gr rc s.n s.R VR k (s.R k) (VR k)) := KR
   have KWH : Hid (RkW w B gw wc s.m s.W VW p (s.W p) (VW p)) := KW
   clear KR KW hp ha hr hu hu' hB
   go_enter Try.func85, Try.ntmps85
   go_wp2_with fail
   go_quiet (fail)
   go_wp2_with fail
   generalize hv : w.drewN nq = v at *
   have hb : Below w.heap.size w v := hv ▸ below_dN w nq
   clear hv c0 c2 r0
   have hbd : Below w.heap.size w v.drew := hb.drew
   have PV : Hid (SvP N v B b s (.slice (some ⟨gr, 0, none⟩) s.n rc) (.slice (some ⟨gw, 0, none⟩) s.m wc) vq VR VW VQ) := PP.out.below hb
   replace KRH : Hid (RkR v.drew B gr rc s.n s.R VR k (s.R k) (VR k)) := KRH.out.below hbd
   have KW0 : Hid (RkW v B gw wc s.m s.W VW p (s.W p) (VW p)) := KWH.out.below hb
   have NW : Hid (¬ PG gr gw) := fun z => PV.out.o.r.apart PV.out.o.x (by decide) gr rfl (by unfold PG at z; rw [z]; rfl)
   have BV : Hid (B ≤ v.heap.size ∧ Below w.heap.size w v) := ⟨Nat.le_trans B0.out hb.size, hb⟩
   have PM : Hid (p < s.m ∧ k < s.n) := ⟨pm, hk⟩
   clear hb hbd PP KWH
   have H : ChB (PG gr) v v.drew := (ChB.refl _ _).drew
   refine wp_region_noPanic ?_
   refine wp_region_held_drew (S := fun w' => ChB (PG gr) v w') (by kernel_rfl) H (fun _ => ?_)
   generalize v.drew = y0 at *
   refine wpAnyH_take (i := 0) (v := .pointer (some ⟨gr, k * 8, none⟩)) rfl (by kernel_rfl) (by kernel_rfl) (by kernel_rfl) (fun _ _ _ h => h) (Or.inl ⟨by rfl, ?_⟩) H ?_
   ·intro w' hSw; clear hSw; go_simp
   change wpAnyH _ _ _ _ _ _ _ { tmps := #[_,_,_,_,_,_,_,_,_,_,_,_,_,_,_,_,_,_,_,_,_,_,_,_,_,_,_,_,_,_,_,_,_,_,_,_,_,_,_,_,_,_,_,_,_,_,_,_,_,_,_,_,_,_,_,_,_,_,_,_,_,_,_,_,_,_,_,_,_,_,_,_,_,_,_,_,_], defers := _ } _
   refine wpAnyH_take (i := 1) (v := .pointer (some ⟨gr, k * 8, none⟩)) rfl (by kernel_rfl) (by kernel_rfl) (by kernel_rfl) (fun _ _ _ h => h) (Or.inl ⟨by rfl, ?_⟩) H ?_
   ·intro w' hSw; clear hSw; go_simp
   change wpAnyH _ _ _ _ _ _ _ { tmps := #[_,_,_,_,_,_,_,_,_,_,_,_,_,_,_,_,_,_,_,_,_,_,_,_,_,_,_,_,_,_,_,_,_,_,_,_,_,_,_,_,_,_,_,_,_,_,_,_,_,_,_,_,_,_,_,_,_,_,_,_,_,_,_,_,_,_,_,_,_,_,_,_,_,_,_,_,_], defers := _ } _
   refine wpAnyH_take (i := 2) (v := .pointer (some ⟨gr, k * 8, none⟩)) rfl (by kernel_rfl) (by kernel_rfl) (by kernel_rfl) (fun _ _ _ h => h) (Or.inl ⟨by rfl, ?_⟩) H ?_
   ·intro w' hSw; clear hSw; go_simp
   change wpAnyH _ _ _ _ _ _ _ { tmps := #[_,_,_,_,_,_,_,_,_,_,_,_,_,_,_,_,_,_,_,_,_,_,_,_,_,_,_,_,_,_,_,_,_,_,_,_,_,_,_,_,_,_,_,_,_,_,_,_,_,_,_,_,_,_,_,_,_,_,_,_,_,_,_,_,_,_,_,_,_,_,_,_,_,_,_,_,_], defers := _ } _
   refine wpAnyH_take (i := 3) (v := .pointer (some ⟨gr, k * 8 + 1, none⟩)) rfl (by kernel_rfl) (by kernel_rfl) (by kernel_rfl) (fun _ _ _ h => h) (Or.inl ⟨by rfl, ?_⟩) H ?_
   ·intro w' hSw; clear hSw; go_simp
   change wpAnyH _ _ _ _ _ _ _ { tmps := #[_,_,_,_,_,_,_,_,_,_,_,_,_,_,_,_,_,_,_,_,_,_,_,_,_,_,_,_,_,_,_,_,_,_,_,_,_,_,_,_,_,_,_,_,_,_,_,_,_,_,_,_,_,_,_,_,_,_,_,_,_,_,_,_,_,_,_,_,_,_,_,_,_,_,_,_,_], defers := _ } _
   refine wpAnyH_take (i := 5) (v := .pointer (some ⟨gw, p * 5, none⟩)) rfl (by kernel_rfl) (by kernel_rfl) (by kernel_rfl) (fun _ _ _ h => h) (Or.inl ⟨by rfl, ?_⟩) H ?_
   ·intro w' hSw; clear hSw; go_simp
   change wpAnyH _ _ _ _ _ _ _ { tmps := #[_,_,_,_,_,_,_,_,_,_,_,_,_,_,_,_,_,_,_,_,_,_,_,_,_,_,_,_,_,_,_,_,_,_,_,_,_,_,_,_,_,_,_,_,_,_,_,_,_,_,_,_,_,_,_,_,_,_,_,_,_,_,_,_,_,_,_,_,_,_,_,_,_,_,_,_,_], defers := _ } _
   refine wpAnyH_take (i := 6) (v := .pointer (some ⟨gw, p * 5, none⟩)) rfl (by kernel_rfl) (by kernel_rfl) (by kernel_rfl) (fun _ _ _ h => h) (Or.inl ⟨by rfl, ?_⟩) H ?_
   ·intro w' hSw; clear hSw; go_simp
   change wpAnyH _ _ _ _ _ _ _ { tmps := #[_,_,_,_,_,_,_,_,_,_,_,_,_,_,_,_,_,_,_,_,_,_,_,_,_,_,_,_,_,_,_,_,_,_,_,_,_,_,_,_,_,_,_,_,_,_,_,_,_,_,_,_,_,_,_,_,_,_,_,_,_,_,_,_,_,_,_,_,_,_,_,_,_,_,_,_,_], defers := _ } _
   refine wpAnyH_take (i := 7) (v := .pointer (some ⟨gw, p * 5, none⟩)) rfl (by kernel_rfl) (by kernel_rfl) (by kernel_rfl) (fun _ _ _ h => h) (Or.inl ⟨by rfl, ?_⟩) H ?_
   ·intro w' hSw; clear hSw; go_simp
   change wpAnyH _ _ _ _ _ _ _ { tmps := #[_,_,_,_,_,_,_,_,_,_,_,_,_,_,_,_,_,_,_,_,_,_,_,_,_,_,_,_,_,_,_,_,_,_,_,_,_,_,_,_,_,_,_,_,_,_,_,_,_,_,_,_,_,_,_,_,_,_,_,_,_,_,_,_,_,_,_,_,_,_,_,_,_,_,_,_,_], defers := _ } _
   refine wpAnyH_take (i := 8) (v := .agg #[.int .i64 (s.W p).mc, .int .i64 (s.W p).mt]) rfl (by kernel_rfl) (by kernel_rfl) (by kernel_rfl) (fun _ _ _ h => h) (Or.inl ⟨by rfl, ?_⟩) H ?_
   ·intro w' hSw; have KX := KW0.out.keep (hSw.block gw KW0.out.lt.2 NW.out); have q0 : w'.cell? ⟨gw, p * 5, none⟩ = some (.int .i64 (s.W p).mc) := KX.c pm 0 (by omega); have q1 : w'.cell? ⟨gw, p * 5 + 1, none⟩ = some (.int .i64 (s.W p).mt) := KX.c pm 1 (by omega); clear KX hSw; go_simp
   change wpAnyH _ _ _ _ _ _ _ { tmps := #[_,_,_,_,_,_,_,_,_,_,_,_,_,_,_,_,_,_,_,_,_,_,_,_,_,_,_,_,_,_,_,_,_,_,_,_,_,_,_,_,_,_,_,_,_,_,_,_,_,_,_,_,_,_,_,_,_,_,_,_,_,_,_,_,_,_,_,_,_,_,_,_,_,_,_,_,_], defers := _ } _
   refine wpAnyH_ready (rs := [4]) (by kernel_rfl) (by simp) ?_
   refine (AllReadyH.cons rfl (fun KK hK => ?_) AllReadyH.nil)
   have r1 : y0.cell? ⟨gr, k * 8 + 1, none⟩ = some (.int .i64 (s.R k).nc) := KRH.out.c hk 1 (by omega)
   have r2 : y0.cell? ⟨gr, k * 8 + 2, none⟩ = some (.int .i64 (s.R k).nt) := KRH.out.c hk 2 (by omega)
   go_simp
   refine hK.out _ _ H (fun _ => ?_)
   clear hK KK
   change wpAnyH _ _ _ _ _ _ _ { tmps := #[_,_,_,_,_,_,_,_,_,_,_,_,_,_,_,_,_,_,_,_,_,_,_,_,_,_,_,_,_,_,_,_,_,_,_,_,_,_,_,_,_,_,_,_,_,_,_,_,_,_,_,_,_,_,_,_,_,_,_,_,_,_,_,_,_,_,_,_,_,_,_,_,_,_,_,_,_], defers := _ } _
   refine wpAnyH_ready (rs := [9]) (by kernel_rfl) (by simp) ?_
   refine (AllReadyH.cons rfl (fun KK hK => ?_) AllReadyH.nil)
   go_simp
   refine (later_any (s.R k).nc (s.R k).nt (s.W p).mc (s.W p).mt y0).mono ?_
   rintro e y1 ⟨rfl, hb⟩
   replace KRH : Hid (RkR y1 B gr rc s.n s.R VR k (s.R k) (VR k)) := KRH.out.below hb
   replace H : ChB (PG gr) v y1 := H.step hb
   obtain ⟨lc, hlc⟩ : ∃ x, x = (ltr (s.R k).nc (s.R k).nt (s.W p).mc (s.W p).mt).1 := ⟨_, rfl⟩
   obtain ⟨lt, hlt⟩ : ∃ x, x = (ltr (s.R k).nc (s.R k).nt (s.W p).mc (s.W p).mt).2 := ⟨_, rfl⟩
   rw [← hlc, ← hlt]
   have LT : Hid (lc = (ltr (s.R k).nc (s.R k).nt (s.W p).mc (s.W p).mt).1 ∧ lt = (ltr (s.R k).nc (s.R k).nt (s.W p).mc (s.W p).mt).2) := ⟨hlc, hlt⟩
   clear hlc hlt
   clear hb
   refine hK.out _ _ H (fun _ => ?_)
   clear hK KK
   change wpAnyH _ _ _ _ _ _ _ { tmps := #[_,_,_,_,_,_,_,_,_,_,_,_,_,_,_,_,_,_,_,_,_,_,_,_,_,_,_,_,_,_,_,_,_,_,_,_,_,_,_,_,_,_,_,_,_,_,_,_,_,_,_,_,_,_,_,_,_,_,_,_,_,_,_,_,_,_,_,_,_,_,_,_,_,_,_,_,_], defers := _ } _
   refine wpAnyH_take (i := 10) (v := .pointer (some ⟨gr, k * 8, none⟩)) rfl (by kernel_rfl) (by kernel_rfl) (by kernel_rfl) (fun _ _ _ h => h) (Or.inl ⟨by rfl, ?_⟩) H ?_
   ·intro w' hSw; clear hSw; go_simp
   change wpAnyH _ _ _ _ _ _ _ { tmps := #[_,_,_,_,_,_,_,_,_,_,_,_,_,_,_,_,_,_,_,_,_,_,_,_,_,_,_,_,_,_,_,_,_,_,_,_,_,_,_,_,_,_,_,_,_,_,_,_,_,_,_,_,_,_,_,_,_,_,_,_,_,_,_,_,_,_,_,_,_,_,_,_,_,_,_,_,_], defers := _ } _
   refine wpAnyH_take (i := 11) (v := .pointer (some ⟨gr, k * 8 + 1, none⟩)) rfl (by kernel_rfl) (by kernel_rfl) (by kernel_rfl) (fun _ _ _ h => h) (Or.inl ⟨by rfl, ?_⟩) H ?_
   ·intro w' hSw; clear hSw; go_simp
   change wpAnyH _ _ _ _ _ _ _ { tmps := #[_,_,_,_,_,_,_,_,_,_,_,_,_,_,_,_,_,_,_,_,_,_,_,_,_,_,_,_,_,_,_,_,_,_,_,_,_,_,_,_,_,_,_,_,_,_,_,_,_,_,_,_,_,_,_,_,_,_,_,_,_,_,_,_,_,_,_,_,_,_,_,_,_,_,_,_,_], defers := _ } _
   refine wpAnyH_ready (rs := [12]) (by kernel_rfl) (by simp) ?_
   refine (AllReadyH.cons rfl (fun KK hK => ?_) AllReadyH.nil)
   have f1 := KRH.out.fr hk 1 (by omega)
   have f2 := KRH.out.fr hk 2 (by omega)
   have r1 : y1.cell? ⟨gr, k * 8 + 1, none⟩ = some (.int .i64 (s.R k).nc) := KRH.out.c hk 1 (by omega)
   have r2 : y1.cell? ⟨gr, k * 8 + 2, none⟩ = some (.int .i64 (s.R k).nt) := KRH.out.c hk 2 (by omega)
   go_simp
   have K2 : Hid (RkR ((y1.setCell ⟨gr, k * 8 + 1, none⟩ (.int .i64 lc)).setCell ⟨gr, k * 8 + 2, none⟩ (.int .i64 lt)) B gr rc s.n s.R VR k ((s.R k).take (s.W p).mc (s.W p).mt) (VR k)) := by have := KRH.out.now hk lc lt; unfold Rp.take; rw [← LT.out.1, ← LT.out.2]; exact this
   replace H : ChB (PG gr) v ((y1.setCell ⟨gr, k * 8 + 1, none⟩ (.int .i64 lc)).setCell ⟨gr, k * 8 + 2, none⟩ (.int .i64 lt)) := (H.at gr (.inl rfl) _ _).at gr (.inl rfl) _ _
   clear r1 r2 f1 f2
   generalize ((y1.setCell ⟨gr, k * 8 + 1, none⟩ (.int .i64 lc)).setCell ⟨gr, k * 8 + 2, none⟩ (.int .i64 lt)) = y2 at *
   refine hK.out _ _ H (fun _ => ?_)
   clear hK KK
   change wpAnyH _ _ _ _ _ _ _ { tmps := #[_,_,_,_,_,_,_,_,_,_,_,_,_,_,_,_,_,_,_,_,_,_,_,_,_,_,_,_,_,_,_,_,_,_,_,_,_,_,_,_,_,_,_,_,_,_,_,_,_,_,_,_,_,_,_,_,_,_,_,_,_,_,_,_,_,_,_,_,_,_,_,_,_,_,_,_,_], defers := _ } _
   refine wpAnyH_done (by kernel_rfl) ?_ _
   refine NoPanic.normal ?_
   have P2 : Hid (SvP N y2 B b { s with R := updE s.R k ((s.R k).take (s.W p).mc (s.W p).mt) } (.slice (some ⟨gr, 0, none⟩) s.n rc) (.slice (some ⟨gw, 0, none⟩) s.m wc) vq VR VW VQ) := PV.out.chR1 hk H K2.out rfl rfl
   have K3 : Hid (RkW y2 B gw wc s.m s.W VW p (s.W p) (VW p)) := KW0.out.keep (H.block gw KW0.out.lt.2 NW.out)
   have BY : Hid (B ≤ y2.heap.size ∧ Blw N B w y2) := ⟨Nat.le_trans BV.out.1 H.size, (blw_of BV.out.2 B0.out).trans (H.toBlw (fun g z => by unfold PG at z; rw [z]; exact ⟨K2.out.lt.1, PV.out.n.r gr rfl⟩) BV.out.1)⟩
   clear H KRH K2 KW0 NW LT PV BV
   have IW := P2.out.o.a p pm
   obtain ⟨la, lcap, eV⟩ := EO.form IW
   have EV : Hid (VW p = .slice la (s.W p).ne lcap) := eV
   have JH : Hid (Calls Try.prog 105 #[.slice la (s.W p).ne lcap, .int .i64 (k : Int)] y2 fun e w' => RetJn y2 B (.slice la (s.W p).ne lcap) (s.W p).ne (s.W p).E k e w') := joined_any s.n B la (s.W p).ne lcap (s.W p).E k (OK.out.2.1 p pm).2.2.2.1 (by have := ids_le (OK.out.2.1 p pm).2.2.2.1; have := OK.out.1.1.2; omega) y2 BY.out.1 (by rw [← EV.out]; exact IW)
   have q2 : y2.cell? ⟨gw, p * 5 + 2, none⟩ = some (.slice la (s.W p).ne lcap) := by have := K3.out.c pm 2 (by omega); rw [this]; show some (VW p) = _; rw [EV.out]
   clear IW eV
   go_wp2_with fail
   refine JH.out.mono ?_
   rintro e y3 ⟨⟨v', rfl, hI, hown⟩, hg⟩
   obtain ⟨va, vc, rfl⟩ := EO.form hI
   rw [← EV.out] at hg hown
   have gne : ∀ q, (VW p).ownBlock = some q → q ≠ gw := fun q e z => EO.apart (P2.out.o.a p pm) P2.out.o.x (by decide) q e (by rw [z]; rfl)
   have H7 : ChB (PR (.slice (some ⟨gw, 0, none⟩) s.m wc) VW p) y2 y3 := (ChB.refl _ _).grown hg (fun g e => .inl (.inr e))
   have K7 : Hid (RkW y3 B gw wc s.m s.W VW p (s.W p) (VW p)) := K3.out.keep (hg.block gw K3.out.lt.2 (fun e => gne gw e.symm rfl))
   obtain ⟨W5, hW5⟩ : ∃ x : Wo, x = { s.W p with ne := (addE (s.W p).ne (s.W p).E k).1, E := (addE (s.W p).ne (s.W p).E k).2 } := ⟨_, rfl⟩
   have HW5 : Hid (W5 = { s.W p with ne := (addE (s.W p).ne (s.W p).E k).1, E := (addE (s.W p).ne (s.W p).E k).2 }) := hW5
   have NE : Hid ((addE (s.W p).ne (s.W p).E k).1 ≤ 8) := by show _ ≤ _; have := addE_le (x := (k : Int)) (OK.out.2.1 p pm).2.2.2.1; have := OK.out.1.1.2; omega
   obtain ⟨ne', hne⟩ : ∃ x, x = (addE (s.W p).ne (s.W p).E k).1 := ⟨_, rfl⟩
   have K8 : Hid (RkW (y3.setCell ⟨gw, p * 5 + 2, none⟩ (.slice va ne' vc)) B gw wc s.m s.W VW p W5 (.slice va ne' vc)) := by rw [hW5, hne]; exact K7.out.setE pm _ _ _
   have I8 : Hid (IE (y3.setCell ⟨gw, p * 5 + 2, none⟩ (.slice va ne' vc)) B (.slice va ne' vc) W5.ne W5.E) := by rw [hW5, hne]; exact IE.setOther hI K7.out (by decide) _ _
   have H8 : Hid (ChB (PR (.slice (some ⟨gw, 0, none⟩) s.m wc) VW p) y2 (y3.setCell ⟨gw, p * 5 + 2, none⟩ (.slice va ne' vc))) := H7.at gw (.inl (.inl rfl)) _ _
   have O8 : Hid (∀ g, (Value.slice va ne' vc).ownBlock = some g → (VW p).ownBlock = some g ∨ y2.heap.size ≤ g) := by rw [hne]; exact fun g e => hown.elim (fun z => .inl (z ▸ e)) (fun ⟨q, z, hq⟩ => .inr (by rw [z] at e; cases e; exact hq))
   have f2 := K7.out.fr pm 2 (by omega)
   have g2 : y3.cell? ⟨gw, p * 5 + 2, none⟩ = some (VW p) := K7.out.c pm 2 (by omega)
   rw [← hne]
   have HNE : Hid (ne' = (addE (s.W p).ne (s.W p).E k).1) := hne
   clear hI hown hg gne H7 hW5 hne JH q2 K3 EV
   by_cases he : (s.W p).en = -1
   ·skip
    have HE : Hid ((s.W p).en = -1) := he
    clear he
    go_upto_region 8 with fail
    generalize (y3.setCell ⟨gw, p * 5 + 2, none⟩ (.slice va ne' vc)) = y4 at *
    clear f2 g2 K7
    have XS : Hid (Box4 y4 b 28 (.slice (some ⟨gr, 0, none⟩) s.n rc) (.int .i64 s.t) (.slice (some ⟨gw, 0, none⟩) s.m wc) vq) := (P2.out.x.ch H8.out (chW_box P2.out.x P2.out.o pm))
    have KX : Hid (RkW y4 B gw wc s.m s.W VW p W5 (.slice va ne' vc)) := K8.out
    obtain ⟨z, hz⟩ : ∃ z, z = sB (majN s.n ≤ ne') := ⟨_, rfl⟩
    have HZ : Hid (z = sB (majN s.n ≤ ne')) := hz
    clear hz
    have H : Below y4.heap.size y4 y4.drew := (Below.refl _ _).drew
    refine wp_region_noPanic ?_
    refine wp_region_held_drew (S := fun w' => Below y4.heap.size y4 w') (by kernel_rfl) H (fun _ => ?_)
    generalize y4.drew = z0 at *
    refine wpAnyH_take (i := 0) (v := .pointer (some ⟨gw, p * 5, none⟩)) rfl (by kernel_rfl) (by kernel_rfl) (by kernel_rfl) (fun _ _ _ h => h) (Or.inl ⟨by rfl, ?_⟩) H ?_
    ·intro w' hSw; clear hSw; go_simp
    change wpAnyH _ _ _ _ _ _ _ { tmps := #[_,_,_,_,_,_,_,_,_,_,_,_,_,_,_,_,_,_,_,_,_,_,_,_,_,_,_,_,_,_,_,_,_,_,_,_,_,_,_,_,_,_,_,_,_,_,_,_,_,_,_,_,_,_,_,_,_,_,_,_,_,_,_,_,_,_,_,_,_,_,_,_,_,_,_,_,_], defers := _ } _
    refine wpAnyH_take (i := 1) (v := .pointer (some ⟨gw, p * 5, none⟩)) rfl (by kernel_rfl) (by kernel_rfl) (by kernel_rfl) (fun _ _ _ h => h) (Or.inl ⟨by rfl, ?_⟩) H ?_
    ·intro w' hSw; clear hSw; go_simp
    change wpAnyH _ _ _ _ _ _ _ { tmps := #[_,_,_,_,_,_,_,_,_,_,_,_,_,_,_,_,_,_,_,_,_,_,_,_,_,_,_,_,_,_,_,_,_,_,_,_,_,_,_,_,_,_,_,_,_,_,_,_,_,_,_,_,_,_,_,_,_,_,_,_,_,_,_,_,_,_,_,_,_,_,_,_,_,_,_,_,_], defers := _ } _
    refine wpAnyH_take (i := 2) (v := .pointer (some ⟨gw, p * 5 + 4, none⟩)) rfl (by kernel_rfl) (by kernel_rfl) (by kernel_rfl) (fun _ _ _ h => h) (Or.inl ⟨by rfl, ?_⟩) H ?_
    ·intro w' hSw; clear hSw; go_simp
    change wpAnyH _ _ _ _ _ _ _ { tmps := #[_,_,_,_,_,_,_,_,_,_,_,_,_,_,_,_,_,_,_,_,_,_,_,_,_,_,_,_,_,_,_,_,_,_,_,_,_,_,_,_,_,_,_,_,_,_,_,_,_,_,_,_,_,_,_,_,_,_,_,_,_,_,_,_,_,_,_,_,_,_,_,_,_,_,_,_,_], defers := _ } _
    refine wpAnyH_take (i := 3) (v := .int .i64 (-1)) rfl (by kernel_rfl) (by kernel_rfl) (by kernel_rfl) (fun _ _ _ h => h) (Or.inl ⟨by rfl, ?_⟩) H ?_
    ·intro w' hSw; have KT := KX.out.keep (w' := w') (hSw.block gw KX.out.lt.2); have q4 : w'.cell? ⟨gw, p * 5 + 4, none⟩ = some (.int .i64 (-1)) := (by have h4 := KT.c pm 4 (by omega); rw [h4, HW5.out]; show some (Value.int .i64 (s.W p).en) = _; rw [HE.out]); clear KT hSw; go_simp
    change wpAnyH _ _ _ _ _ _ _ { tmps := #[_,_,_,_,_,_,_,_,_,_,_,_,_,_,_,_,_,_,_,_,_,_,_,_,_,_,_,_,_,_,_,_,_,_,_,_,_,_,_,_,_,_,_,_,_,_,_,_,_,_,_,_,_,_,_,_,_,_,_,_,_,_,_,_,_,_,_,_,_,_,_,_,_,_,_,_,_], defers := _ } _
    refine wpAnyH_take (i := 4) (v := .bool true) rfl (by kernel_rfl) (by kernel_rfl) (by kernel_rfl) (fun _ _ _ h => h) (Or.inl ⟨by rfl, ?_⟩) H ?_
    ·intro w' hSw; clear hSw; go_simp
    change wpAnyH _ _ _ _ _ _ _ { tmps := #[_,_,_,_,_,_,_,_,_,_,_,_,_,_,_,_,_,_,_,_,_,_,_,_,_,_,_,_,_,_,_,_,_,_,_,_,_,_,_,_,_,_,_,_,_,_,_,_,_,_,_,_,_,_,_,_,_,_,_,_,_,_,_,_,_,_,_,_,_,_,_,_,_,_,_,_,_], defers := _ } _
    refine wpAnyH_take (i := 5) (v := .bool true) rfl (by kernel_rfl) (by kernel_rfl) (by kernel_rfl) (fun _ _ _ h => h) (Or.inl ⟨by rfl, ?_⟩) H ?_
    ·intro w' hSw; clear hSw; go_simp
    change wpAnyH _ _ _ _ _ _ _ { tmps := #[_,_,_,_,_,_,_,_,_,_,_,_,_,_,_,_,_,_,_,_,_,_,_,_,_,_,_,_,_,_,_,_,_,_,_,_,_,_,_,_,_,_,_,_,_,_,_,_,_,_,_,_,_,_,_,_,_,_,_,_,_,_,_,_,_,_,_,_,_,_,_,_,_,_,_,_,_], defers := _ } _
    refine wpAnyH_take (i := 6) (v := .pointer (some ⟨b, 0, none⟩)) rfl (by kernel_rfl) (by kernel_rfl) (by kernel_rfl) (fun _ _ _ h => h) (Or.inl ⟨by rfl, ?_⟩) H ?_
    ·intro w' hSw; clear hSw; go_simp
    change wpAnyH _ _ _ _ _ _ _ { tmps := #[_,_,_,_,_,_,_,_,_,_,_,_,_,_,_,_,_,_,_,_,_,_,_,_,_,_,_,_,_,_,_,_,_,_,_,_,_,_,_,_,_,_,_,_,_,_,_,_,_,_,_,_,_,_,_,_,_,_,_,_,_,_,_,_,_,_,_,_,_,_,_,_,_,_,_,_,_], defers := _ } _
    refine wpAnyH_take (i := 7) (v := .pointer (some ⟨b, 0, none⟩)) rfl (by kernel_rfl) (by kernel_rfl) (by kernel_rfl) (fun _ _ _ h => h) (Or.inl ⟨by rfl, ?_⟩) H ?_
    ·intro w' hSw; clear hSw; go_simp
    change wpAnyH _ _ _ _ _ _ _ { tmps := #[_,_,_,_,_,_,_,_,_,_,_,_,_,_,_,_,_,_,_,_,_,_,_,_,_,_,_,_,_,_,_,_,_,_,_,_,_,_,_,_,_,_,_,_,_,_,_,_,_,_,_,_,_,_,_,_,_,_,_,_,_,_,_,_,_,_,_,_,_,_,_,_,_,_,_,_,_], defers := _ } _
    refine wpAnyH_take (i := 8) (v := .agg #[.slice (some ⟨gr, 0, none⟩) s.n rc, .int .i64 s.t, .slice (some ⟨gw, 0, none⟩) s.m wc, vq]) rfl (by kernel_rfl) (by kernel_rfl) (by kernel_rfl) (fun _ _ _ h => h) (Or.inl ⟨by rfl, ?_⟩) H ?_
    ·intro w' hSw; have XT := (XS.out.ofBlock (w' := w') (hSw.block b XS.out.lt)); have c0 := XT.c0; have c1 := XT.c1; have c2 := XT.c2; have c3 := XT.c3; clear XT hSw; go_simp
    change wpAnyH _ _ _ _ _ _ _ { tmps := #[_,_,_,_,_,_,_,_,_,_,_,_,_,_,_,_,_,_,_,_,_,_,_,_,_,_,_,_,_,_,_,_,_,_,_,_,_,_,_,_,_,_,_,_,_,_,_,_,_,_,_,_,_,_,_,_,_,_,_,_,_,_,_,_,_,_,_,_,_,_,_,_,_,_,_,_,_], defers := _ } _
    refine wpAnyH_take (i := 9) (v := .pointer (some ⟨gw, p * 5, none⟩)) rfl (by kernel_rfl) (by kernel_rfl) (by kernel_rfl) (fun _ _ _ h => h) (Or.inl ⟨by rfl, ?_⟩) H ?_
    ·intro w' hSw; clear hSw; go_simp
    change wpAnyH _ _ _ _ _ _ _ { tmps := #[_,_,_,_,_,_,_,_,_,_,_,_,_,_,_,_,_,_,_,_,_,_,_,_,_,_,_,_,_,_,_,_,_,_,_,_,_,_,_,_,_,_,_,_,_,_,_,_,_,_,_,_,_,_,_,_,_,_,_,_,_,_,_,_,_,_,_,_,_,_,_,_,_,_,_,_,_], defers := _ } _
    refine wpAnyH_take (i := 10) (v := .pointer (some ⟨gw, p * 5, none⟩)) rfl (by kernel_rfl) (by kernel_rfl) (by kernel_rfl) (fun _ _ _ h => h) (Or.inl ⟨by rfl, ?_⟩) H ?_
    ·intro w' hSw; clear hSw; go_simp
    change wpAnyH _ _ _ _ _ _ _ { tmps := #[_,_,_,_,_,_,_,_,_,_,_,_,_,_,_,_,_,_,_,_,_,_,_,_,_,_,_,_,_,_,_,_,_,_,_,_,_,_,_,_,_,_,_,_,_,_,_,_,_,_,_,_,_,_,_,_,_,_,_,_,_,_,_,_,_,_,_,_,_,_,_,_,_,_,_,_,_], defers := _ } _
    refine wpAnyH_take (i := 11) (v := .pointer (some ⟨gw, p * 5 + 2, none⟩)) rfl (by kernel_rfl) (by kernel_rfl) (by kernel_rfl) (fun _ _ _ h => h) (Or.inl ⟨by rfl, ?_⟩) H ?_
    ·intro w' hSw; clear hSw; go_simp
    change wpAnyH _ _ _ _ _ _ _ { tmps := #[_,_,_,_,_,_,_,_,_,_,_,_,_,_,_,_,_,_,_,_,_,_,_,_,_,_,_,_,_,_,_,_,_,_,_,_,_,_,_,_,_,_,_,_,_,_,_,_,_,_,_,_,_,_,_,_,_,_,_,_,_,_,_,_,_,_,_,_,_,_,_,_,_,_,_,_,_], defers := _ } _
    refine wpAnyH_take (i := 12) (v := .slice va ne' vc) rfl (by kernel_rfl) (by kernel_rfl) (by kernel_rfl) (fun _ _ _ h => h) (Or.inl ⟨by rfl, ?_⟩) H ?_
    ·intro w' hSw; have KT := KX.out.keep (w' := w') (hSw.block gw KX.out.lt.2); have q2 : w'.cell? ⟨gw, p * 5 + 2, none⟩ = some (.slice va ne' vc) := KT.c pm 2 (by omega); clear KT hSw; go_simp
    change wpAnyH _ _ _ _ _ _ _ { tmps := #[_,_,_,_,_,_,_,_,_,_,_,_,_,_,_,_,_,_,_,_,_,_,_,_,_,_,_,_,_,_,_,_,_,_,_,_,_,_,_,_,_,_,_,_,_,_,_,_,_,_,_,_,_,_,_,_,_,_,_,_,_,_,_,_,_,_,_,_,_,_,_,_,_,_,_,_,_], defers := _ } _
    refine wpAnyH_ready (rs := [13]) (by kernel_rfl) (by simp) ?_
    refine (AllReadyH.cons rfl (fun KK hK => ?_) AllReadyH.nil)
    go_simp
    refine (majority_v (some ⟨gr, 0, none⟩) s.n rc (.int .i64 s.t) (.slice (some ⟨gw, 0, none⟩) s.m wc) vq va ne' vc OK.out.1.1 (by have := NE.out; have := HNE.out; omega) z HZ.out z0).mono ?_
    rintro e z1 ⟨rfl, hb⟩
    replace H : Below y4.heap.size y4 z1 := H.trans (hb.mono H.size)
    clear hb
    refine hK.out _ _ H (fun _ => ?_)
    clear hK KK
    change wpAnyH _ _ _ _ _ _ _ { tmps := #[_,_,_,_,_,_,_,_,_,_,_,_,_,_,_,_,_,_,_,_,_,_,_,_,_,_,_,_,_,_,_,_,_,_,_,_,_,_,_,_,_,_,_,_,_,_,_,_,_,_,_,_,_,_,_,_,_,_,_,_,_,_,_,_,_,_,_,_,_,_,_,_,_,_,_,_,_], defers := _ } _
    refine wpAnyH_take (i := 14) (v := .bool z) rfl (by kernel_rfl) (by kernel_rfl) (by kernel_rfl) (fun _ _ _ h => h) (Or.inl ⟨by rfl, ?_⟩) H ?_
    ·intro w' hSw; clear hSw; go_simp
    change wpAnyH _ _ _ _ _ _ _ { tmps := #[_,_,_,_,_,_,_,_,_,_,_,_,_,_,_,_,_,_,_,_,_,_,_,_,_,_,_,_,_,_,_,_,_,_,_,_,_,_,_,_,_,_,_,_,_,_,_,_,_,_,_,_,_,_,_,_,_,_,_,_,_,_,_,_,_,_,_,_,_,_,_,_,_,_,_,_,_], defers := _ } _
    refine wpAnyH_done (by kernel_rfl) ?_ _
    refine NoPanic.normal ?_
    have HM : Hid (Below y4.heap.size y4 z1) := H
    clear H
    have H9 : Hid (ChB (PR (.slice (some ⟨gw, 0, none⟩) s.m wc) VW p) y2 z1) := H8.out.step HM.out
    have K9 : Hid (RkW z1 B gw wc s.m s.W VW p W5 (.slice va ne' vc)) := K8.out.below HM.out
    have I9 : Hid (IE z1 B (.slice va ne' vc) W5.ne W5.E) := EO.below I8.out HM.out
    have X9 : Hid (Box4 z1 b 28 (.slice (some ⟨gr, 0, none⟩) s.n rc) (.int .i64 s.t) (.slice (some ⟨gw, 0, none⟩) s.m wc) vq) := P2.out.x.ch H9.out (chW_box P2.out.x P2.out.o pm)
    clear H8 K8 I8 HM XS KX
    by_cases hj : majN s.n ≤ ne'
    ·obtain rfl : z = true := HZ.out.trans (sB_yes hj)
     have f4 := K9.out.fr pm 4 (by omega)
     have g4 : z1.cell? ⟨gw, p * 5 + 4, none⟩ = some (.int .i64 W5.en) := K9.out.c pm 4 (by omega)
     have c1 := X9.out.c1
     have K10 := K9.out.setN pm s.t
     have I10 := IE.setOther I9.out K9.out (by decide) (p * 5 + 4) (.int .i64 s.t)
     have H10 := H9.out.at gw (.inl (.inl rfl)) (p * 5 + 4) (.int .i64 s.t)
     have Q : Hid (RetA N B b s a (.returned (.int .i64 0)) (z1.setCell ⟨gw, p * 5 + 4, none⟩ (.int .i64 s.t)) ∧ Blw N B w (z1.setCell ⟨gw, p * 5 + 4, none⟩ (.int .i64 s.t))) := ⟨retA_store HP.out hk pm HA.out (by rw [HW5.out]; unfold Wo.ack; rw [if_pos ⟨HE.out, HNE.out ▸ hj⟩]) (P2.out.chW pm H10 K10 I10 O8.out).sv, BY.out.2.trans (H10.toBlw (PR.geW P2.out pm) BY.out.1)⟩
     clear K10 I10 H10 H9 K9 I9 X9 P2 hj
     go_wp2
     go_ret
     exact Q.out
    ·obtain rfl : z = false := HZ.out.trans (sB_no hj)
     have Q : Hid (RetA N B b s a (.returned (.int .i64 0)) z1 ∧ Blw N B w z1) := ⟨retA_store HP.out hk pm HA.out (by rw [HW5.out]; unfold Wo.ack; rw [if_neg (fun q => hj (HNE.out ▸ q.2))]) (P2.out.chW pm H9.out K9.out I9.out O8.out).sv, BY.out.2.trans (H9.out.toBlw (PR.geW P2.out pm) BY.out.1)⟩
     clear H9 K9 I9 X9 P2 hj
     go_wp2
     go_ret
     exact Q.out
   ·skip
    have heb : ((s.W p).en == -1) = false := by simp; exact he
    have HE : Hid (¬ (s.W p).en = -1) := he
    clear he
    go_upto_region 8 with fail
    generalize (y3.setCell ⟨gw, p * 5 + 2, none⟩ (.slice va ne' vc)) = y4 at *
    clear f2 g2 K7
    have q4 : y4.cell? ⟨gw, p * 5 + 4, none⟩ = some (.int .i64 (s.W p).en) := by have := K8.out.c pm 4 (by omega); rw [this, HW5.out]; rfl
    have Q : Hid (RetA N B b s a (.returned (.int .i64 0)) y4 ∧ Blw N B w y4) := ⟨retA_store HP.out hk pm HA.out (by rw [HW5.out]; unfold Wo.ack; rw [if_neg (fun q => HE.out q.1)]) (P2.out.chW pm H8.out K8.out I8.out O8.out).sv, BY.out.2.trans (H8.out.toBlw (PR.geW P2.out pm) BY.out.1)⟩
    have BZ : Hid (B ≤ y4.heap.size) := Nat.le_trans BY.out.1 H8.out.size
    clear P2 H8 K8 I8 O8 BY
    go_quiet (fail)
    go_wp2
    go_ret
    exact ⟨Q.out.1.below (below_dN _ _), Q.out.2.trans (blw_of (below_dN _ _) BZ.out)⟩
end Go.Proofs.Ytedncfcmhaaobaa
