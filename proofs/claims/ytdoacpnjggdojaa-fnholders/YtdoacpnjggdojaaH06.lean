/-
  The quorum's acts at the program's service: store.
-/
import Derived.Test.YtdoacpnjggdojaaH05
import Derived.Deep.Cut
import Derived.Test.YtdoacpnjggdojaaH02
namespace Go.Proofs.Ytdoacpnjggdojaa
open Go.ChangeShapes Go.WideShapes Go.ChangeAt Go.RowKit
set_option linter.unusedVariables false

set_option maxRecDepth 100000 in
set_option maxHeartbeats 4000000 in
theorem store_v {N : Nat → Prop} (B b : Nat) (s : Sv) (a : Qa) (k : Nat) (hk : k < s.n) (ha : a.k = 2) (hr : a.r = k) (ok : s.Ok) (w : World) (hB : B ≤ w.heap.size) (h : SvX N w B b s) :
    Calls Try.prog 102 #[.pointer (some ⟨b, 0, none⟩), .int .i64 (k : Int)] w fun e w' => RetA N B b s a e w' ∧ Blw N B w w' := by
  obtain ⟨vr, vw, vq, VR, VW, VQ, P⟩ := h.p
  clear h
  obtain ⟨wa, wc, rfl⟩ := P.o.x.form
  obtain ⟨ra, rc, rfl⟩ := P.o.r.form
  have c2 := P.x.c2
  by_cases hm : s.m = 0
  · have Q : Hid (RetA N B b s a (.returned (.int .i64 5)) w) := ⟨s, 5, .store0 k hk hr ha hm, rfl, P.sv⟩
    rw [hm] at c2
    clear P ok hk hr ha hm
    go_enter Try.func102, Try.ntmps102
    go_wp2
    go_ret
    exact ⟨Q.out, Blw.refl _ _ _⟩
  · obtain ⟨p, hp⟩ : ∃ p, p = s.m - 1 := ⟨_, rfl⟩
    have pm : p < s.m := by omega
    have ep : (s.m : Int) - 1 = (p : Int) := by omega
    have plt : (p : Int) < (s.m : Int) := by omega
    have klt : (k : Int) < (s.n : Int) := by omega
    have m0 : ((s.m : Int) == 0) = false := by simp; omega
    have n7 : s.n ≤ 7 := ok.1.1.2
    have m200 : s.m ≤ 200 := ok.1.2.2.1
    have pw : IntKind.i64.wrap (p : Int) = (p : Int) := IntWalk.i64_in _ (by omega)
    obtain ⟨gr, rfl, gB, gl, KR⟩ := RkR.start P.o.r hk
    obtain ⟨gw, rfl, wB, wl, KW⟩ := RkW.start P.o.x pm
    have c0 := P.x.c0
    have r0 : w.cell? ⟨gr, k * 8, none⟩ = some (.bool (s.R k).mute) := KR.c hk 0 (by omega)
    have OK : Hid s.Ok := ok
    have PP : Hid (SvP N w B b s (.slice (some ⟨gr, 0, none⟩) s.n rc) (.slice (some ⟨gw, 0, none⟩) s.m wc) vq VR VW VQ) := P
    clear P ok
    by_cases hu : (s.R k).mute = true
    · have Q : Hid (RetA N B b s a (.returned (.int .i64 13)) w) := ⟨s, 13, .store1 k hk hr ha (by omega) hu, rfl, PP.out.sv⟩
      rw [hu] at r0
      have B0 : Hid (B ≤ w.heap.size) := hB
      clear KR KW PP OK hu hp hr ha hB gB gl wB wl
      go_enter Try.func102, Try.ntmps102
      go_wp2_with fail
      go_quiet (fail)
      go_wp2
      go_ret
      exact ⟨Q.out.below (below_dN _ _), blw_of (below_dN _ _) B0.out⟩
    · have hu' : (s.R k).mute = false := by cases e : (s.R k).mute <;> simp_all
      rw [hu'] at r0
      have B0 : Hid (B ≤ w.heap.size) := hB
      have HP : Hid (p = s.m - 1) := hp
      have HA : Hid (a.k = 2 ∧ a.r = k ∧ (s.R k).mute = false) := ⟨ha, hr, hu'⟩
      have KRH : Hid (RkR w B gr rc s.n s.R VR k (s.R k) (VR k)) := KR
      have KWH : Hid (RkW w B gw wc s.m s.W VW p (s.W p) (VW p)) := KW
      clear KR KW hp ha hr hu hu' hB
      go_enter Try.func102, Try.ntmps102
      go_wp2_with fail
      go_quiet (fail)
      go_wp2_with fail
      generalize hv : w.drewN nq = v at *
      have hb : Below w.heap.size w v := hv ▸ below_dN w nq
      clear hv c0 c2 r0
      have hbd : Below w.heap.size w v.drew := hb.drew
      have PV : Hid (SvP N v B b s (.slice (some ⟨gr, 0, none⟩) s.n rc) (.slice (some ⟨gw, 0, none⟩) s.m wc) vq VR VW VQ) := PP.out.below hb
      replace KRH : Hid (RkR v.drew B gr rc s.n s.R VR k (s.R k) (VR k)) := KRH.out.below hbd
      have KW0 : Hid (RkW v B gw wc s.m s.W VW p (s.W p) (VW p)) := KWH.out.below hb
      have NW : Hid (¬ PG gr gw) := fun z => PV.out.o.r.apart PV.out.o.x (by decide) gr rfl (by unfold PG at z; rw [z]; rfl)
      have BV : Hid (B ≤ v.heap.size ∧ Below w.heap.size w v) := ⟨Nat.le_trans B0.out hb.size, hb⟩
      have PM : Hid (p < s.m ∧ k < s.n) := ⟨pm, hk⟩
      clear hb hbd PP KWH
      have H : ChB (PG gr) v v.drew := (ChB.refl _ _).drew
      refine wp_region_noPanic ?_
      refine wp_region_held_drew (S := fun w' => ChB (PG gr) v w') (by kernel_rfl) H (fun _ => ?_)
      generalize v.drew = y0 at *
      refine wpAnyH_take (i := 0) (v := .pointer (some ⟨gr, k * 8, none⟩)) rfl (by kernel_rfl) (by kernel_rfl) (by kernel_rfl) (fun _ _ _ h => h) (Or.inl ⟨by rfl, ?_⟩) H ?_
      · intro w' hSw; clear hSw; go_simp
      change wpAnyH _ _ _ _ _ _ _ { tmps := #[_, _, _, _, _, _, _, _, _, _, _, _, _, _, _, _, _, _, _, _, _, _, _, _, _, _, _, _, _, _, _, _, _, _, _, _, _, _, _, _, _, _, _, _, _, _, _, _, _, _, _, _, _, _, _, _, _, _, _, _, _, _, _, _, _, _, _, _, _, _, _, _, _, _, _, _, _], defers := _ } _
      refine wpAnyH_take (i := 1) (v := .pointer (some ⟨gr, k * 8, none⟩)) rfl (by kernel_rfl) (by kernel_rfl) (by kernel_rfl) (fun _ _ _ h => h) (Or.inl ⟨by rfl, ?_⟩) H ?_
      · intro w' hSw; clear hSw; go_simp
      change wpAnyH _ _ _ _ _ _ _ { tmps := #[_, _, _, _, _, _, _, _, _, _, _, _, _, _, _, _, _, _, _, _, _, _, _, _, _, _, _, _, _, _, _, _, _, _, _, _, _, _, _, _, _, _, _, _, _, _, _, _, _, _, _, _, _, _, _, _, _, _, _, _, _, _, _, _, _, _, _, _, _, _, _, _, _, _, _, _, _], defers := _ } _
      refine wpAnyH_take (i := 2) (v := .pointer (some ⟨gr, k * 8, none⟩)) rfl (by kernel_rfl) (by kernel_rfl) (by kernel_rfl) (fun _ _ _ h => h) (Or.inl ⟨by rfl, ?_⟩) H ?_
      · intro w' hSw; clear hSw; go_simp
      change wpAnyH _ _ _ _ _ _ _ { tmps := #[_, _, _, _, _, _, _, _, _, _, _, _, _, _, _, _, _, _, _, _, _, _, _, _, _, _, _, _, _, _, _, _, _, _, _, _, _, _, _, _, _, _, _, _, _, _, _, _, _, _, _, _, _, _, _, _, _, _, _, _, _, _, _, _, _, _, _, _, _, _, _, _, _, _, _, _, _], defers := _ } _
      refine wpAnyH_take (i := 3) (v := .pointer (some ⟨gr, k * 8 + 1, none⟩)) rfl (by kernel_rfl) (by kernel_rfl) (by kernel_rfl) (fun _ _ _ h => h) (Or.inl ⟨by rfl, ?_⟩) H ?_
      · intro w' hSw; clear hSw; go_simp
      change wpAnyH _ _ _ _ _ _ _ { tmps := #[_, _, _, _, _, _, _, _, _, _, _, _, _, _, _, _, _, _, _, _, _, _, _, _, _, _, _, _, _, _, _, _, _, _, _, _, _, _, _, _, _, _, _, _, _, _, _, _, _, _, _, _, _, _, _, _, _, _, _, _, _, _, _, _, _, _, _, _, _, _, _, _, _, _, _, _, _], defers := _ } _
      refine wpAnyH_take (i := 5) (v := .pointer (some ⟨gw, p * 5, none⟩)) rfl (by kernel_rfl) (by kernel_rfl) (by kernel_rfl) (fun _ _ _ h => h) (Or.inl ⟨by rfl, ?_⟩) H ?_
      · intro w' hSw; clear hSw; go_simp
      change wpAnyH _ _ _ _ _ _ _ { tmps := #[_, _, _, _, _, _, _, _, _, _, _, _, _, _, _, _, _, _, _, _, _, _, _, _, _, _, _, _, _, _, _, _, _, _, _, _, _, _, _, _, _, _, _, _, _, _, _, _, _, _, _, _, _, _, _, _, _, _, _, _, _, _, _, _, _, _, _, _, _, _, _, _, _, _, _, _, _], defers := _ } _
      refine wpAnyH_take (i := 6) (v := .pointer (some ⟨gw, p * 5, none⟩)) rfl (by kernel_rfl) (by kernel_rfl) (by kernel_rfl) (fun _ _ _ h => h) (Or.inl ⟨by rfl, ?_⟩) H ?_
      · intro w' hSw; clear hSw; go_simp
      change wpAnyH _ _ _ _ _ _ _ { tmps := #[_, _, _, _, _, _, _, _, _, _, _, _, _, _, _, _, _, _, _, _, _, _, _, _, _, _, _, _, _, _, _, _, _, _, _, _, _, _, _, _, _, _, _, _, _, _, _, _, _, _, _, _, _, _, _, _, _, _, _, _, _, _, _, _, _, _, _, _, _, _, _, _, _, _, _, _, _], defers := _ } _
      refine wpAnyH_take (i := 7) (v := .pointer (some ⟨gw, p * 5, none⟩)) rfl (by kernel_rfl) (by kernel_rfl) (by kernel_rfl) (fun _ _ _ h => h) (Or.inl ⟨by rfl, ?_⟩) H ?_
      · intro w' hSw; clear hSw; go_simp
      change wpAnyH _ _ _ _ _ _ _ { tmps := #[_, _, _, _, _, _, _, _, _, _, _, _, _, _, _, _, _, _, _, _, _, _, _, _, _, _, _, _, _, _, _, _, _, _, _, _, _, _, _, _, _, _, _, _, _, _, _, _, _, _, _, _, _, _, _, _, _, _, _, _, _, _, _, _, _, _, _, _, _, _, _, _, _, _, _, _, _], defers := _ } _
      refine wpAnyH_take (i := 8) (v := .agg #[.int .i64 (s.W p).mc, .int .i64 (s.W p).mt]) rfl (by kernel_rfl) (by kernel_rfl) (by kernel_rfl) (fun _ _ _ h => h) (Or.inl ⟨by rfl, ?_⟩) H ?_
      · intro w' hSw; have KX := KW0.out.keep (hSw.block gw KW0.out.lt.2 NW.out); have q0 : w'.cell? ⟨gw, p * 5, none⟩ = some (.int .i64 (s.W p).mc) := KX.c pm 0 (by omega); have q1 : w'.cell? ⟨gw, p * 5 + 1, none⟩ = some (.int .i64 (s.W p).mt) := KX.c pm 1 (by omega); clear KX hSw; go_simp
      change wpAnyH _ _ _ _ _ _ _ { tmps := #[_, _, _, _, _, _, _, _, _, _, _, _, _, _, _, _, _, _, _, _, _, _, _, _, _, _, _, _, _, _, _, _, _, _, _, _, _, _, _, _, _, _, _, _, _, _, _, _, _, _, _, _, _, _, _, _, _, _, _, _, _, _, _, _, _, _, _, _, _, _, _, _, _, _, _, _, _], defers := _ } _
      refine wpAnyH_ready (rs := [4]) (by kernel_rfl) (by simp) ?_
      refine (AllReadyH.cons rfl (fun KK hK => ?_) AllReadyH.nil)
      have r1 : y0.cell? ⟨gr, k * 8 + 1, none⟩ = some (.int .i64 (s.R k).nc) := KRH.out.c hk 1 (by omega)
      have r2 : y0.cell? ⟨gr, k * 8 + 2, none⟩ = some (.int .i64 (s.R k).nt) := KRH.out.c hk 2 (by omega)
      go_simp
      refine hK.out _ _ H (fun _ => ?_)
      clear hK KK
      change wpAnyH _ _ _ _ _ _ _ { tmps := #[_, _, _, _, _, _, _, _, _, _, _, _, _, _, _, _, _, _, _, _, _, _, _, _, _, _, _, _, _, _, _, _, _, _, _, _, _, _, _, _, _, _, _, _, _, _, _, _, _, _, _, _, _, _, _, _, _, _, _, _, _, _, _, _, _, _, _, _, _, _, _, _, _, _, _, _, _], defers := _ } _
      refine wpAnyH_ready (rs := [9]) (by kernel_rfl) (by simp) ?_
      refine (AllReadyH.cons rfl (fun KK hK => ?_) AllReadyH.nil)
      go_simp
      refine (later_any (s.R k).nc (s.R k).nt (s.W p).mc (s.W p).mt y0).mono ?_
      rintro e y1 ⟨rfl, hb⟩
      replace KRH : Hid (RkR y1 B gr rc s.n s.R VR k (s.R k) (VR k)) := KRH.out.below hb
      replace H : ChB (PG gr) v y1 := H.step hb
      obtain ⟨lc, hlc⟩ : ∃ x, x = (ltr (s.R k).nc (s.R k).nt (s.W p).mc (s.W p).mt).1 := ⟨_, rfl⟩
      obtain ⟨lt, hlt⟩ : ∃ x, x = (ltr (s.R k).nc (s.R k).nt (s.W p).mc (s.W p).mt).2 := ⟨_, rfl⟩
      rw [← hlc, ← hlt]
      have LT : Hid (lc = (ltr (s.R k).nc (s.R k).nt (s.W p).mc (s.W p).mt).1 ∧ lt = (ltr (s.R k).nc (s.R k).nt (s.W p).mc (s.W p).mt).2) := ⟨hlc, hlt⟩
      clear hlc hlt
      clear hb
      refine hK.out _ _ H (fun _ => ?_)
      clear hK KK
      change wpAnyH _ _ _ _ _ _ _ { tmps := #[_, _, _, _, _, _, _, _, _, _, _, _, _, _, _, _, _, _, _, _, _, _, _, _, _, _, _, _, _, _, _, _, _, _, _, _, _, _, _, _, _, _, _, _, _, _, _, _, _, _, _, _, _, _, _, _, _, _, _, _, _, _, _, _, _, _, _, _, _, _, _, _, _, _, _, _, _], defers := _ } _
      refine wpAnyH_take (i := 10) (v := .pointer (some ⟨gr, k * 8, none⟩)) rfl (by kernel_rfl) (by kernel_rfl) (by kernel_rfl) (fun _ _ _ h => h) (Or.inl ⟨by rfl, ?_⟩) H ?_
      · intro w' hSw; clear hSw; go_simp
      change wpAnyH _ _ _ _ _ _ _ { tmps := #[_, _, _, _, _, _, _, _, _, _, _, _, _, _, _, _, _, _, _, _, _, _, _, _, _, _, _, _, _, _, _, _, _, _, _, _, _, _, _, _, _, _, _, _, _, _, _, _, _, _, _, _, _, _, _, _, _, _, _, _, _, _, _, _, _, _, _, _, _, _, _, _, _, _, _, _, _], defers := _ } _
      refine wpAnyH_take (i := 11) (v := .pointer (some ⟨gr, k * 8 + 1, none⟩)) rfl (by kernel_rfl) (by kernel_rfl) (by kernel_rfl) (fun _ _ _ h => h) (Or.inl ⟨by rfl, ?_⟩) H ?_
      · intro w' hSw; clear hSw; go_simp
      change wpAnyH _ _ _ _ _ _ _ { tmps := #[_, _, _, _, _, _, _, _, _, _, _, _, _, _, _, _, _, _, _, _, _, _, _, _, _, _, _, _, _, _, _, _, _, _, _, _, _, _, _, _, _, _, _, _, _, _, _, _, _, _, _, _, _, _, _, _, _, _, _, _, _, _, _, _, _, _, _, _, _, _, _, _, _, _, _, _, _], defers := _ } _
      refine wpAnyH_ready (rs := [12]) (by kernel_rfl) (by simp) ?_
      refine (AllReadyH.cons rfl (fun KK hK => ?_) AllReadyH.nil)
      have f1 := KRH.out.fr hk 1 (by omega)
      have f2 := KRH.out.fr hk 2 (by omega)
      have r1 : y1.cell? ⟨gr, k * 8 + 1, none⟩ = some (.int .i64 (s.R k).nc) := KRH.out.c hk 1 (by omega)
      have r2 : y1.cell? ⟨gr, k * 8 + 2, none⟩ = some (.int .i64 (s.R k).nt) := KRH.out.c hk 2 (by omega)
      go_simp
      have K2 : Hid (RkR ((y1.setCell ⟨gr, k * 8 + 1, none⟩ (.int .i64 lc)).setCell ⟨gr, k * 8 + 2, none⟩ (.int .i64 lt)) B gr rc s.n s.R VR k ((s.R k).take (s.W p).mc (s.W p).mt) (VR k)) := by have := KRH.out.now hk lc lt; unfold Rp.take; rw [← LT.out.1, ← LT.out.2]; exact this
      replace H : ChB (PG gr) v ((y1.setCell ⟨gr, k * 8 + 1, none⟩ (.int .i64 lc)).setCell ⟨gr, k * 8 + 2, none⟩ (.int .i64 lt)) := (H.at gr (.inl rfl) _ _).at gr (.inl rfl) _ _
      clear r1 r2 f1 f2
      generalize ((y1.setCell ⟨gr, k * 8 + 1, none⟩ (.int .i64 lc)).setCell ⟨gr, k * 8 + 2, none⟩ (.int .i64 lt)) = y2 at *
      refine hK.out _ _ H (fun _ => ?_)
      clear hK KK
      change wpAnyH _ _ _ _ _ _ _ { tmps := #[_, _, _, _, _, _, _, _, _, _, _, _, _, _, _, _, _, _, _, _, _, _, _, _, _, _, _, _, _, _, _, _, _, _, _, _, _, _, _, _, _, _, _, _, _, _, _, _, _, _, _, _, _, _, _, _, _, _, _, _, _, _, _, _, _, _, _, _, _, _, _, _, _, _, _, _, _], defers := _ } _
      refine wpAnyH_done (by kernel_rfl) ?_ _
      refine NoPanic.normal ?_
      have P2 : Hid (SvP N y2 B b { s with R := updE s.R k ((s.R k).take (s.W p).mc (s.W p).mt) } (.slice (some ⟨gr, 0, none⟩) s.n rc) (.slice (some ⟨gw, 0, none⟩) s.m wc) vq VR VW VQ) := PV.out.chR1 hk H K2.out rfl rfl
      have K3 : Hid (RkW y2 B gw wc s.m s.W VW p (s.W p) (VW p)) := KW0.out.keep (H.block gw KW0.out.lt.2 NW.out)
      have BY : Hid (B ≤ y2.heap.size ∧ Blw N B w y2) := ⟨Nat.le_trans BV.out.1 H.size, (blw_of BV.out.2 B0.out).trans (H.toBlw (fun g z => by unfold PG at z; rw [z]; exact ⟨K2.out.lt.1, PV.out.n.r gr rfl⟩) BV.out.1)⟩
      clear H KRH K2 KW0 NW LT PV BV
      have IW := P2.out.o.a p pm
      obtain ⟨la, lcap, eV⟩ := EO.form IW
      have EV : Hid (VW p = .slice la (s.W p).ne lcap) := eV
      have JH : Hid (Calls Try.prog 116 #[.slice la (s.W p).ne lcap, .int .i64 (k : Int)] y2 fun e w' => RetJn y2 B (.slice la (s.W p).ne lcap) (s.W p).ne (s.W p).E k e w') := joined_any s.n B la (s.W p).ne lcap (s.W p).E k (OK.out.2.1 p pm).2.2.2.1 (by have := ids_le (OK.out.2.1 p pm).2.2.2.1; have := OK.out.1.1.2; omega) y2 BY.out.1 (by rw [← EV.out]; exact IW)
      have q2 : y2.cell? ⟨gw, p * 5 + 2, none⟩ = some (.slice la (s.W p).ne lcap) := by have := K3.out.c pm 2 (by omega); rw [this]; show some (VW p) = _; rw [EV.out]
      clear IW eV
      go_wp2_with fail
      refine JH.out.mono ?_
      rintro e y3 ⟨⟨v', rfl, hI, hown⟩, hg⟩
      obtain ⟨va, vc, rfl⟩ := EO.form hI
      rw [← EV.out] at hg hown
      have gne : ∀ q, (VW p).ownBlock = some q → q ≠ gw := fun q e z => EO.apart (P2.out.o.a p pm) P2.out.o.x (by decide) q e (by rw [z]; rfl)
      have H7 : ChB (PR (.slice (some ⟨gw, 0, none⟩) s.m wc) VW p) y2 y3 := (ChB.refl _ _).grown hg (fun g e => .inl (.inr e))
      have K7 : Hid (RkW y3 B gw wc s.m s.W VW p (s.W p) (VW p)) := K3.out.keep (hg.block gw K3.out.lt.2 (fun e => gne gw e.symm rfl))
      obtain ⟨W5, hW5⟩ : ∃ x : Wo, x = { s.W p with ne := (addE (s.W p).ne (s.W p).E k).1, E := (addE (s.W p).ne (s.W p).E k).2 } := ⟨_, rfl⟩
      have HW5 : Hid (W5 = { s.W p with ne := (addE (s.W p).ne (s.W p).E k).1, E := (addE (s.W p).ne (s.W p).E k).2 }) := hW5
      have NE : Hid ((addE (s.W p).ne (s.W p).E k).1 ≤ 8) := by show _ ≤ _; have := addE_le (x := (k : Int)) (OK.out.2.1 p pm).2.2.2.1; have := OK.out.1.1.2; omega
      obtain ⟨ne', hne⟩ : ∃ x, x = (addE (s.W p).ne (s.W p).E k).1 := ⟨_, rfl⟩
      have K8 : Hid (RkW (y3.setCell ⟨gw, p * 5 + 2, none⟩ (.slice va ne' vc)) B gw wc s.m s.W VW p W5 (.slice va ne' vc)) := by rw [hW5, hne]; exact K7.out.setE pm _ _ _
      have I8 : Hid (IE (y3.setCell ⟨gw, p * 5 + 2, none⟩ (.slice va ne' vc)) B (.slice va ne' vc) W5.ne W5.E) := by rw [hW5, hne]; exact IE.setOther hI K7.out (by decide) _ _
      have H8 : Hid (ChB (PR (.slice (some ⟨gw, 0, none⟩) s.m wc) VW p) y2 (y3.setCell ⟨gw, p * 5 + 2, none⟩ (.slice va ne' vc))) := H7.at gw (.inl (.inl rfl)) _ _
      have O8 : Hid (∀ g, (Value.slice va ne' vc).ownBlock = some g → (VW p).ownBlock = some g ∨ y2.heap.size ≤ g) := by rw [hne]; exact fun g e => hown.elim (fun z => .inl (z ▸ e)) (fun ⟨q, z, hq⟩ => .inr (by rw [z] at e; cases e; exact hq))
      have f2 := K7.out.fr pm 2 (by omega)
      have g2 : y3.cell? ⟨gw, p * 5 + 2, none⟩ = some (VW p) := K7.out.c pm 2 (by omega)
      rw [← hne]
      have HNE : Hid (ne' = (addE (s.W p).ne (s.W p).E k).1) := hne
      clear hI hown hg gne H7 hW5 hne JH q2 K3 EV
      by_cases he : (s.W p).en = -1
      · skip
        have HE : Hid ((s.W p).en = -1) := he
        clear he
        go_upto_region 8 with fail
        generalize (y3.setCell ⟨gw, p * 5 + 2, none⟩ (.slice va ne' vc)) = y4 at *
        clear f2 g2 K7
        have XS : Hid (Box4 y4 b 30 (.slice (some ⟨gr, 0, none⟩) s.n rc) (.int .i64 s.t) (.slice (some ⟨gw, 0, none⟩) s.m wc) vq) := (P2.out.x.ch H8.out (chW_box P2.out.x P2.out.o pm))
        have KX : Hid (RkW y4 B gw wc s.m s.W VW p W5 (.slice va ne' vc)) := K8.out
        obtain ⟨z, hz⟩ : ∃ z, z = sB (majN s.n ≤ ne') := ⟨_, rfl⟩
        have HZ : Hid (z = sB (majN s.n ≤ ne')) := hz
        clear hz
        have H : Below y4.heap.size y4 y4.drew := (Below.refl _ _).drew
        refine wp_region_noPanic ?_
        refine wp_region_held_drew (S := fun w' => Below y4.heap.size y4 w') (by kernel_rfl) H (fun _ => ?_)
        generalize y4.drew = z0 at *
        refine wpAnyH_take (i := 0) (v := .pointer (some ⟨gw, p * 5, none⟩)) rfl (by kernel_rfl) (by kernel_rfl) (by kernel_rfl) (fun _ _ _ h => h) (Or.inl ⟨by rfl, ?_⟩) H ?_
        · intro w' hSw; clear hSw; go_simp
        change wpAnyH _ _ _ _ _ _ _ { tmps := #[_, _, _, _, _, _, _, _, _, _, _, _, _, _, _, _, _, _, _, _, _, _, _, _, _, _, _, _, _, _, _, _, _, _, _, _, _, _, _, _, _, _, _, _, _, _, _, _, _, _, _, _, _, _, _, _, _, _, _, _, _, _, _, _, _, _, _, _, _, _, _, _, _, _, _, _, _], defers := _ } _
        refine wpAnyH_take (i := 1) (v := .pointer (some ⟨gw, p * 5, none⟩)) rfl (by kernel_rfl) (by kernel_rfl) (by kernel_rfl) (fun _ _ _ h => h) (Or.inl ⟨by rfl, ?_⟩) H ?_
        · intro w' hSw; clear hSw; go_simp
        change wpAnyH _ _ _ _ _ _ _ { tmps := #[_, _, _, _, _, _, _, _, _, _, _, _, _, _, _, _, _, _, _, _, _, _, _, _, _, _, _, _, _, _, _, _, _, _, _, _, _, _, _, _, _, _, _, _, _, _, _, _, _, _, _, _, _, _, _, _, _, _, _, _, _, _, _, _, _, _, _, _, _, _, _, _, _, _, _, _, _], defers := _ } _
        refine wpAnyH_take (i := 2) (v := .pointer (some ⟨gw, p * 5 + 4, none⟩)) rfl (by kernel_rfl) (by kernel_rfl) (by kernel_rfl) (fun _ _ _ h => h) (Or.inl ⟨by rfl, ?_⟩) H ?_
        · intro w' hSw; clear hSw; go_simp
        change wpAnyH _ _ _ _ _ _ _ { tmps := #[_, _, _, _, _, _, _, _, _, _, _, _, _, _, _, _, _, _, _, _, _, _, _, _, _, _, _, _, _, _, _, _, _, _, _, _, _, _, _, _, _, _, _, _, _, _, _, _, _, _, _, _, _, _, _, _, _, _, _, _, _, _, _, _, _, _, _, _, _, _, _, _, _, _, _, _, _], defers := _ } _
        refine wpAnyH_take (i := 3) (v := .int .i64 (-1)) rfl (by kernel_rfl) (by kernel_rfl) (by kernel_rfl) (fun _ _ _ h => h) (Or.inl ⟨by rfl, ?_⟩) H ?_
        · intro w' hSw; have KT := KX.out.keep (w' := w') (hSw.block gw KX.out.lt.2); have q4 : w'.cell? ⟨gw, p * 5 + 4, none⟩ = some (.int .i64 (-1)) := (by have h4 := KT.c pm 4 (by omega); rw [h4, HW5.out]; show some (Value.int .i64 (s.W p).en) = _; rw [HE.out]); clear KT hSw; go_simp
        change wpAnyH _ _ _ _ _ _ _ { tmps := #[_, _, _, _, _, _, _, _, _, _, _, _, _, _, _, _, _, _, _, _, _, _, _, _, _, _, _, _, _, _, _, _, _, _, _, _, _, _, _, _, _, _, _, _, _, _, _, _, _, _, _, _, _, _, _, _, _, _, _, _, _, _, _, _, _, _, _, _, _, _, _, _, _, _, _, _, _], defers := _ } _
        refine wpAnyH_take (i := 4) (v := .bool true) rfl (by kernel_rfl) (by kernel_rfl) (by kernel_rfl) (fun _ _ _ h => h) (Or.inl ⟨by rfl, ?_⟩) H ?_
        · intro w' hSw; clear hSw; go_simp
        change wpAnyH _ _ _ _ _ _ _ { tmps := #[_, _, _, _, _, _, _, _, _, _, _, _, _, _, _, _, _, _, _, _, _, _, _, _, _, _, _, _, _, _, _, _, _, _, _, _, _, _, _, _, _, _, _, _, _, _, _, _, _, _, _, _, _, _, _, _, _, _, _, _, _, _, _, _, _, _, _, _, _, _, _, _, _, _, _, _, _], defers := _ } _
        refine wpAnyH_take (i := 5) (v := .bool true) rfl (by kernel_rfl) (by kernel_rfl) (by kernel_rfl) (fun _ _ _ h => h) (Or.inl ⟨by rfl, ?_⟩) H ?_
        · intro w' hSw; clear hSw; go_simp
        change wpAnyH _ _ _ _ _ _ _ { tmps := #[_, _, _, _, _, _, _, _, _, _, _, _, _, _, _, _, _, _, _, _, _, _, _, _, _, _, _, _, _, _, _, _, _, _, _, _, _, _, _, _, _, _, _, _, _, _, _, _, _, _, _, _, _, _, _, _, _, _, _, _, _, _, _, _, _, _, _, _, _, _, _, _, _, _, _, _, _], defers := _ } _
        refine wpAnyH_take (i := 6) (v := .pointer (some ⟨b, 0, none⟩)) rfl (by kernel_rfl) (by kernel_rfl) (by kernel_rfl) (fun _ _ _ h => h) (Or.inl ⟨by rfl, ?_⟩) H ?_
        · intro w' hSw; clear hSw; go_simp
        change wpAnyH _ _ _ _ _ _ _ { tmps := #[_, _, _, _, _, _, _, _, _, _, _, _, _, _, _, _, _, _, _, _, _, _, _, _, _, _, _, _, _, _, _, _, _, _, _, _, _, _, _, _, _, _, _, _, _, _, _, _, _, _, _, _, _, _, _, _, _, _, _, _, _, _, _, _, _, _, _, _, _, _, _, _, _, _, _, _, _], defers := _ } _
        refine wpAnyH_take (i := 7) (v := .pointer (some ⟨b, 0, none⟩)) rfl (by kernel_rfl) (by kernel_rfl) (by kernel_rfl) (fun _ _ _ h => h) (Or.inl ⟨by rfl, ?_⟩) H ?_
        · intro w' hSw; clear hSw; go_simp
        change wpAnyH _ _ _ _ _ _ _ { tmps := #[_, _, _, _, _, _, _, _, _, _, _, _, _, _, _, _, _, _, _, _, _, _, _, _, _, _, _, _, _, _, _, _, _, _, _, _, _, _, _, _, _, _, _, _, _, _, _, _, _, _, _, _, _, _, _, _, _, _, _, _, _, _, _, _, _, _, _, _, _, _, _, _, _, _, _, _, _], defers := _ } _
        refine wpAnyH_take (i := 8) (v := .agg #[.slice (some ⟨gr, 0, none⟩) s.n rc, .int .i64 s.t, .slice (some ⟨gw, 0, none⟩) s.m wc, vq]) rfl (by kernel_rfl) (by kernel_rfl) (by kernel_rfl) (fun _ _ _ h => h) (Or.inl ⟨by rfl, ?_⟩) H ?_
        · intro w' hSw; have XT := (XS.out.ofBlock (w' := w') (hSw.block b XS.out.lt)); have c0 := XT.c0; have c1 := XT.c1; have c2 := XT.c2; have c3 := XT.c3; clear XT hSw; go_simp
        change wpAnyH _ _ _ _ _ _ _ { tmps := #[_, _, _, _, _, _, _, _, _, _, _, _, _, _, _, _, _, _, _, _, _, _, _, _, _, _, _, _, _, _, _, _, _, _, _, _, _, _, _, _, _, _, _, _, _, _, _, _, _, _, _, _, _, _, _, _, _, _, _, _, _, _, _, _, _, _, _, _, _, _, _, _, _, _, _, _, _], defers := _ } _
        refine wpAnyH_take (i := 9) (v := .pointer (some ⟨gw, p * 5, none⟩)) rfl (by kernel_rfl) (by kernel_rfl) (by kernel_rfl) (fun _ _ _ h => h) (Or.inl ⟨by rfl, ?_⟩) H ?_
        · intro w' hSw; clear hSw; go_simp
        change wpAnyH _ _ _ _ _ _ _ { tmps := #[_, _, _, _, _, _, _, _, _, _, _, _, _, _, _, _, _, _, _, _, _, _, _, _, _, _, _, _, _, _, _, _, _, _, _, _, _, _, _, _, _, _, _, _, _, _, _, _, _, _, _, _, _, _, _, _, _, _, _, _, _, _, _, _, _, _, _, _, _, _, _, _, _, _, _, _, _], defers := _ } _
        refine wpAnyH_take (i := 10) (v := .pointer (some ⟨gw, p * 5, none⟩)) rfl (by kernel_rfl) (by kernel_rfl) (by kernel_rfl) (fun _ _ _ h => h) (Or.inl ⟨by rfl, ?_⟩) H ?_
        · intro w' hSw; clear hSw; go_simp
        change wpAnyH _ _ _ _ _ _ _ { tmps := #[_, _, _, _, _, _, _, _, _, _, _, _, _, _, _, _, _, _, _, _, _, _, _, _, _, _, _, _, _, _, _, _, _, _, _, _, _, _, _, _, _, _, _, _, _, _, _, _, _, _, _, _, _, _, _, _, _, _, _, _, _, _, _, _, _, _, _, _, _, _, _, _, _, _, _, _, _], defers := _ } _
        refine wpAnyH_take (i := 11) (v := .pointer (some ⟨gw, p * 5 + 2, none⟩)) rfl (by kernel_rfl) (by kernel_rfl) (by kernel_rfl) (fun _ _ _ h => h) (Or.inl ⟨by rfl, ?_⟩) H ?_
        · intro w' hSw; clear hSw; go_simp
        change wpAnyH _ _ _ _ _ _ _ { tmps := #[_, _, _, _, _, _, _, _, _, _, _, _, _, _, _, _, _, _, _, _, _, _, _, _, _, _, _, _, _, _, _, _, _, _, _, _, _, _, _, _, _, _, _, _, _, _, _, _, _, _, _, _, _, _, _, _, _, _, _, _, _, _, _, _, _, _, _, _, _, _, _, _, _, _, _, _, _], defers := _ } _
        refine wpAnyH_take (i := 12) (v := .slice va ne' vc) rfl (by kernel_rfl) (by kernel_rfl) (by kernel_rfl) (fun _ _ _ h => h) (Or.inl ⟨by rfl, ?_⟩) H ?_
        · intro w' hSw; have KT := KX.out.keep (w' := w') (hSw.block gw KX.out.lt.2); have q2 : w'.cell? ⟨gw, p * 5 + 2, none⟩ = some (.slice va ne' vc) := KT.c pm 2 (by omega); clear KT hSw; go_simp
        change wpAnyH _ _ _ _ _ _ _ { tmps := #[_, _, _, _, _, _, _, _, _, _, _, _, _, _, _, _, _, _, _, _, _, _, _, _, _, _, _, _, _, _, _, _, _, _, _, _, _, _, _, _, _, _, _, _, _, _, _, _, _, _, _, _, _, _, _, _, _, _, _, _, _, _, _, _, _, _, _, _, _, _, _, _, _, _, _, _, _], defers := _ } _
        refine wpAnyH_ready (rs := [13]) (by kernel_rfl) (by simp) ?_
        refine (AllReadyH.cons rfl (fun KK hK => ?_) AllReadyH.nil)
        go_simp
        refine (majority_v (some ⟨gr, 0, none⟩) s.n rc (.int .i64 s.t) (.slice (some ⟨gw, 0, none⟩) s.m wc) vq va ne' vc OK.out.1.1 (by have := NE.out; have := HNE.out; omega) z HZ.out z0).mono ?_
        rintro e z1 ⟨rfl, hb⟩
        replace H : Below y4.heap.size y4 z1 := H.trans (hb.mono H.size)
        clear hb
        refine hK.out _ _ H (fun _ => ?_)
        clear hK KK
        change wpAnyH _ _ _ _ _ _ _ { tmps := #[_, _, _, _, _, _, _, _, _, _, _, _, _, _, _, _, _, _, _, _, _, _, _, _, _, _, _, _, _, _, _, _, _, _, _, _, _, _, _, _, _, _, _, _, _, _, _, _, _, _, _, _, _, _, _, _, _, _, _, _, _, _, _, _, _, _, _, _, _, _, _, _, _, _, _, _, _], defers := _ } _
        refine wpAnyH_take (i := 14) (v := .bool z) rfl (by kernel_rfl) (by kernel_rfl) (by kernel_rfl) (fun _ _ _ h => h) (Or.inl ⟨by rfl, ?_⟩) H ?_
        · intro w' hSw; clear hSw; go_simp
        change wpAnyH _ _ _ _ _ _ _ { tmps := #[_, _, _, _, _, _, _, _, _, _, _, _, _, _, _, _, _, _, _, _, _, _, _, _, _, _, _, _, _, _, _, _, _, _, _, _, _, _, _, _, _, _, _, _, _, _, _, _, _, _, _, _, _, _, _, _, _, _, _, _, _, _, _, _, _, _, _, _, _, _, _, _, _, _, _, _, _], defers := _ } _
        refine wpAnyH_done (by kernel_rfl) ?_ _
        refine NoPanic.normal ?_
        have HM : Hid (Below y4.heap.size y4 z1) := H
        clear H
        have H9 : Hid (ChB (PR (.slice (some ⟨gw, 0, none⟩) s.m wc) VW p) y2 z1) := H8.out.step HM.out
        have K9 : Hid (RkW z1 B gw wc s.m s.W VW p W5 (.slice va ne' vc)) := K8.out.below HM.out
        have I9 : Hid (IE z1 B (.slice va ne' vc) W5.ne W5.E) := EO.below I8.out HM.out
        have X9 : Hid (Box4 z1 b 30 (.slice (some ⟨gr, 0, none⟩) s.n rc) (.int .i64 s.t) (.slice (some ⟨gw, 0, none⟩) s.m wc) vq) := P2.out.x.ch H9.out (chW_box P2.out.x P2.out.o pm)
        clear H8 K8 I8 HM XS KX
        by_cases hj : majN s.n ≤ ne'
        · obtain rfl : z = true := HZ.out.trans (sB_yes hj)
          have f4 := K9.out.fr pm 4 (by omega)
          have g4 : z1.cell? ⟨gw, p * 5 + 4, none⟩ = some (.int .i64 W5.en) := K9.out.c pm 4 (by omega)
          have c1 := X9.out.c1
          have K10 := K9.out.setN pm s.t
          have I10 := IE.setOther I9.out K9.out (by decide) (p * 5 + 4) (.int .i64 s.t)
          have H10 := H9.out.at gw (.inl (.inl rfl)) (p * 5 + 4) (.int .i64 s.t)
          have Q : Hid (RetA N B b s a (.returned (.int .i64 0)) (z1.setCell ⟨gw, p * 5 + 4, none⟩ (.int .i64 s.t)) ∧ Blw N B w (z1.setCell ⟨gw, p * 5 + 4, none⟩ (.int .i64 s.t))) := ⟨retA_store HP.out hk pm HA.out (by rw [HW5.out]; unfold Wo.ack; rw [if_pos ⟨HE.out, HNE.out ▸ hj⟩]) (P2.out.chW pm H10 K10 I10 O8.out).sv, BY.out.2.trans (H10.toBlw (PR.geW P2.out pm) BY.out.1)⟩
          clear K10 I10 H10 H9 K9 I9 X9 P2 hj
          go_wp2
          go_ret
          exact Q.out
        · obtain rfl : z = false := HZ.out.trans (sB_no hj)
          have Q : Hid (RetA N B b s a (.returned (.int .i64 0)) z1 ∧ Blw N B w z1) := ⟨retA_store HP.out hk pm HA.out (by rw [HW5.out]; unfold Wo.ack; rw [if_neg (fun q => hj (HNE.out ▸ q.2))]) (P2.out.chW pm H9.out K9.out I9.out O8.out).sv, BY.out.2.trans (H9.out.toBlw (PR.geW P2.out pm) BY.out.1)⟩
          clear H9 K9 I9 X9 P2 hj
          go_wp2
          go_ret
          exact Q.out
      · skip
        have heb : ((s.W p).en == -1) = false := by simp; exact he
        have HE : Hid (¬ (s.W p).en = -1) := he
        clear he
        go_upto_region 8 with fail
        generalize (y3.setCell ⟨gw, p * 5 + 2, none⟩ (.slice va ne' vc)) = y4 at *
        clear f2 g2 K7
        have q4 : y4.cell? ⟨gw, p * 5 + 4, none⟩ = some (.int .i64 (s.W p).en) := by have := K8.out.c pm 4 (by omega); rw [this, HW5.out]; rfl
        have Q : Hid (RetA N B b s a (.returned (.int .i64 0)) y4 ∧ Blw N B w y4) := ⟨retA_store HP.out hk pm HA.out (by rw [HW5.out]; unfold Wo.ack; rw [if_neg (fun q => HE.out q.1)]) (P2.out.chW pm H8.out K8.out I8.out O8.out).sv, BY.out.2.trans (H8.out.toBlw (PR.geW P2.out pm) BY.out.1)⟩
        have BZ : Hid (B ≤ y4.heap.size) := Nat.le_trans BY.out.1 H8.out.size
        clear P2 H8 K8 I8 O8 BY
        go_quiet (fail)
        go_wp2
        go_ret
        exact ⟨Q.out.1.below (below_dN _ _), Q.out.2.trans (blw_of (below_dN _ _) BZ.out)⟩
end Go.Proofs.Ytdoacpnjggdojaa

/-
  The quorum's acts at the program's service: reply.
-/
namespace Go.Proofs.Ytdoacpnjggdojaa
open Go.ChangeShapes Go.WideShapes Go.ChangeAt Go.RowKit
set_option linter.unusedVariables false

theorem BxF.st8 {w : World} {p : Nat} {t : TypeId} {f : Nat → Value} (h : BxF w p t 8 f) (x : Nat → Value) : BxF ((((((((w.setCell ⟨p, 0, none⟩ (x 0)).setCell ⟨p, 1, none⟩ (x 1)).setCell ⟨p, 2, none⟩ (x 2)).setCell ⟨p, 3, none⟩ (x 3)).setCell ⟨p, 4, none⟩ (x 4)).setCell ⟨p, 5, none⟩ (x 5)).setCell ⟨p, 6, none⟩ (x 6)).setCell ⟨p, 7, none⟩ (x 7)) p t 8 x :=
  World.rowIs.congr (World.rowIs.set (World.rowIs.set (World.rowIs.set (World.rowIs.set (World.rowIs.set (World.rowIs.set (World.rowIs.set (World.rowIs.set h 0 (x 0)) 1 (x 1)) 2 (x 2)) 3 (x 3)) 4 (x 4)) 5 (x 5)) 6 (x 6)) 7 (x 7)) (fun i hi => by
    rcases (show i = 0 ∨ i = 1 ∨ i = 2 ∨ i = 3 ∨ i = 4 ∨ i = 5 ∨ i = 6 ∨ i = 7 by omega) with rfl | rfl | rfl | rfl | rfl | rfl | rfl | rfl <;> rfl)
theorem BxF.fr {w : World} {b : Nat} {t : TypeId} {m : Nat} {f : Nat → Value} (h : BxF w b t m f) (i : Nat) : w.frozen? ⟨b, i, none⟩ = false := World.rowIs.frozen h i
theorem BxF.lt {w : World} {b : Nat} {t : TypeId} {m : Nat} {f : Nat → Value} (h : BxF w b t m f) : b < w.heap.size := World.rowIs.lt h
theorem BxF.ofBlock {w w' : World} {b : Nat} {t : TypeId} {m : Nat} {f : Nat → Value} (h : BxF w b t m f) (e : w'.heap[b]? = w.heap[b]?) : BxF w' b t m f := World.rowIs.of_block h e
theorem retA_reply {N : Nat → Prop} {w : World} {B b : Nat} {s : Sv} {a : Qa} {k q : Nat} {x : Ro} (hk : k < s.n) (hq : q < s.l) (hA : a.k = 4 ∧ a.r = k ∧ a.n = q) (hu : (s.R k).mute = false) (he : (s.Q q).en = -1) (hn : ¬ hasE (s.Q q).ne (s.Q q).E k) (hx : x = (s.Q q).hear s.n s.t k (s.R k).nc (s.R k).nt) (h : SvX N w B b { s with Q := updE s.Q q x }) : RetA N B b s a (.returned (.int .i64 0)) w := by
  subst hx
  exact ⟨_, 0, .reply k q hk hA.2.1 hA.1 hq hA.2.2 hu he hn, rfl, h⟩
set_option maxRecDepth 100000 in
set_option maxHeartbeats 8000000 in
theorem reply_v {N : Nat → Prop} (B b : Nat) (s : Sv) (a : Qa) (k : Nat) (hk : k < s.n) (ha : a.k = 4) (hr : a.r = k) (ok : s.Ok) (w : World) (hB : B ≤ w.heap.size) (h : SvX N w B b s) :
    Calls Try.prog 103 #[.pointer (some ⟨b, 0, none⟩), .int .i64 (k : Int), .int .i64 a.n] w fun e w' => RetA N B b s a e w' ∧ Blw N B w w' := by
  obtain ⟨vr, vw, vq, VR, VW, VQ, P⟩ := h.p
  clear h
  obtain ⟨qa, qc, rfl⟩ := P.o.q.form
  obtain ⟨ra, rc, rfl⟩ := P.o.r.form
  obtain ⟨wa, wc, rfl⟩ := P.o.x.form
  have c3 := P.x.c3
  by_cases hq0 : a.n < 0
  · have Q : Hid (RetA N B b s a (.returned (.int .i64 4)) w) := ⟨s, 4, .reply0 k hk hr ha (by omega), rfl, P.sv⟩
    clear P ok hk hr ha
    go_enter Try.func103, Try.ntmps103
    go_wp2
    go_ret
    exact ⟨Q.out, Blw.refl _ _ _⟩
  · by_cases hq1 : (s.l : Int) ≤ a.n
    · have Q : Hid (RetA N B b s a (.returned (.int .i64 4)) w) := ⟨s, 4, .reply0 k hk hr ha (by omega), rfl, P.sv⟩
      clear P ok hk hr ha
      go_enter Try.func103, Try.ntmps103
      go_wp2
      go_ret
      exact ⟨Q.out, Blw.refl _ _ _⟩
    · obtain ⟨q, hq⟩ := Int.eq_ofNat_of_zero_le (show 0 ≤ a.n by omega)
      have qm : q < s.l := by omega
      have qlt : (q : Int) < (s.l : Int) := by omega
      have klt : (k : Int) < (s.n : Int) := by omega
      obtain ⟨gr, rfl, gB, gl, KR⟩ := RkR.start P.o.r hk
      obtain ⟨gq, rfl, wB, wl, KQ⟩ := RkQ.start P.o.q qm
      have HA : Hid (a.k = 4 ∧ a.r = k ∧ a.n = q) := ⟨ha, hr, hq⟩
      have OK : Hid s.Ok := ok
      have B0 : Hid (B ≤ w.heap.size) := hB
      have PP : Hid (SvP N w B b s (.slice (some ⟨gr, 0, none⟩) s.n rc) (.slice wa s.m wc) (.slice (some ⟨gq, 0, none⟩) s.l qc) VR VW VQ) := P
      have KRH : Hid (RkR w B gr rc s.n s.R VR k (s.R k) (VR k)) := KR
      have KQH : Hid (RkQ w B gq qc s.l s.Q VQ q (s.Q q) (VQ q)) := KQ
      have q0 : ¬ (q : Int) < 0 := by omega
      obtain ⟨ea, ec, eE⟩ := EO.form (P.o.e k hk)
      have EE : Hid (VR k = .slice ea (s.R k).ne ec) := eE
      rw [hq]
      clear eE
      clear P ok hr ha KR KQ hq hq0 hq1 hB
      go_enter Try.func103, Try.ntmps103
      go_wp2_with fail
      have H : Below w.heap.size w w.drew := (Below.refl _ _).drew
      refine wp_region_noPanic ?_
      refine wp_region_held_drew (S := fun w' => Below w.heap.size w w') (by kernel_rfl) H (fun _ => ?_)
      generalize w.drew = y0 at *
      refine wpAnyH_take (i := 0) (v := .pointer (some ⟨b, 0, none⟩)) rfl (by kernel_rfl) (by kernel_rfl) (by kernel_rfl) (fun _ _ _ h => h) (Or.inl ⟨by rfl, ?_⟩) H ?_
      · intro w' hSw; clear hSw; go_simp
      change wpAnyH _ _ _ _ _ _ _ { tmps := #[_, _, _, _, _, _, _, _, _, _, _, _, _, _, _, _, _, _, _, _, _, _, _, _, _, _, _, _, _, _, _, _, _, _, _, _, _, _, _, _, _, _, _, _, _, _, _, _, _, _, _, _, _, _, _, _, _, _, _, _, _, _, _, _, _, _, _, _, _, _, _, _, _, _, _, _, _, _, _, _, _, _], defers := _ } _
      refine wpAnyH_take (i := 1) (v := .pointer (some ⟨b, 0, none⟩)) rfl (by kernel_rfl) (by kernel_rfl) (by kernel_rfl) (fun _ _ _ h => h) (Or.inl ⟨by rfl, ?_⟩) H ?_
      · intro w' hSw; clear hSw; go_simp
      change wpAnyH _ _ _ _ _ _ _ { tmps := #[_, _, _, _, _, _, _, _, _, _, _, _, _, _, _, _, _, _, _, _, _, _, _, _, _, _, _, _, _, _, _, _, _, _, _, _, _, _, _, _, _, _, _, _, _, _, _, _, _, _, _, _, _, _, _, _, _, _, _, _, _, _, _, _, _, _, _, _, _, _, _, _, _, _, _, _, _, _, _, _, _, _], defers := _ } _
      refine wpAnyH_take (i := 2) (v := .pointer (some ⟨b, 0, none⟩)) rfl (by kernel_rfl) (by kernel_rfl) (by kernel_rfl) (fun _ _ _ h => h) (Or.inl ⟨by rfl, ?_⟩) H ?_
      · intro w' hSw; clear hSw; go_simp
      change wpAnyH _ _ _ _ _ _ _ { tmps := #[_, _, _, _, _, _, _, _, _, _, _, _, _, _, _, _, _, _, _, _, _, _, _, _, _, _, _, _, _, _, _, _, _, _, _, _, _, _, _, _, _, _, _, _, _, _, _, _, _, _, _, _, _, _, _, _, _, _, _, _, _, _, _, _, _, _, _, _, _, _, _, _, _, _, _, _, _, _, _, _, _, _], defers := _ } _
      refine wpAnyH_take (i := 3) (v := .slice (some ⟨gr, 0, none⟩) s.n rc) rfl (by kernel_rfl) (by kernel_rfl) (by kernel_rfl) (fun _ _ _ h => h) (Or.inl ⟨by rfl, ?_⟩) H ?_
      · intro w' hSw; have c0 := (PP.out.x.ofBlock (w' := w') (hSw.block b PP.out.x.lt)).c0; clear hSw; go_simp
      change wpAnyH _ _ _ _ _ _ _ { tmps := #[_, _, _, _, _, _, _, _, _, _, _, _, _, _, _, _, _, _, _, _, _, _, _, _, _, _, _, _, _, _, _, _, _, _, _, _, _, _, _, _, _, _, _, _, _, _, _, _, _, _, _, _, _, _, _, _, _, _, _, _, _, _, _, _, _, _, _, _, _, _, _, _, _, _, _, _, _, _, _, _, _, _], defers := _ } _
      refine wpAnyH_take (i := 4) (v := .int .i64 (k : Int)) rfl (by kernel_rfl) (by kernel_rfl) (by kernel_rfl) (fun _ _ _ h => h) (Or.inl ⟨by rfl, ?_⟩) H ?_
      · intro w' hSw; clear hSw; go_simp
      change wpAnyH _ _ _ _ _ _ _ { tmps := #[_, _, _, _, _, _, _, _, _, _, _, _, _, _, _, _, _, _, _, _, _, _, _, _, _, _, _, _, _, _, _, _, _, _, _, _, _, _, _, _, _, _, _, _, _, _, _, _, _, _, _, _, _, _, _, _, _, _, _, _, _, _, _, _, _, _, _, _, _, _, _, _, _, _, _, _, _, _, _, _, _, _], defers := _ } _
      refine wpAnyH_take (i := 5) (v := .pointer (some ⟨gr, k * 8, none⟩)) rfl (by kernel_rfl) (by kernel_rfl) (by kernel_rfl) (fun _ _ _ h => h) (Or.inl ⟨by rfl, ?_⟩) H ?_
      · intro w' hSw; clear hSw; go_simp
      change wpAnyH _ _ _ _ _ _ _ { tmps := #[_, _, _, _, _, _, _, _, _, _, _, _, _, _, _, _, _, _, _, _, _, _, _, _, _, _, _, _, _, _, _, _, _, _, _, _, _, _, _, _, _, _, _, _, _, _, _, _, _, _, _, _, _, _, _, _, _, _, _, _, _, _, _, _, _, _, _, _, _, _, _, _, _, _, _, _, _, _, _, _, _, _], defers := _ } _
      refine wpAnyH_take (i := 6) (v := .agg #[.bool (s.R k).mute, .int .i64 (s.R k).nc, .int .i64 (s.R k).nt, .int .i64 (s.R k).sc, .int .i64 (s.R k).st, .slice ea (s.R k).ne ec, .int .i64 (s.R k).bc, .int .i64 (s.R k).bt]) rfl (by kernel_rfl) (by kernel_rfl) (by kernel_rfl) (fun _ _ _ h => h) (Or.inl ⟨by rfl, ?_⟩) H ?_
      · intro w' hSw; have KT := KRH.out.keep (w' := w') (hSw.block gr KRH.out.lt.2); have r0 : w'.cell? ⟨gr, k * 8, none⟩ = some (.bool (s.R k).mute) := KT.c hk 0 (by omega); have r1 : w'.cell? ⟨gr, k * 8 + 1, none⟩ = some (.int .i64 (s.R k).nc) := KT.c hk 1 (by omega); have r2 : w'.cell? ⟨gr, k * 8 + 2, none⟩ = some (.int .i64 (s.R k).nt) := KT.c hk 2 (by omega); have r3 : w'.cell? ⟨gr, k * 8 + 3, none⟩ = some (.int .i64 (s.R k).sc) := KT.c hk 3 (by omega); have r4 : w'.cell? ⟨gr, k * 8 + 4, none⟩ = some (.int .i64 (s.R k).st) := KT.c hk 4 (by omega); have r5 : w'.cell? ⟨gr, k * 8 + 5, none⟩ = some (.slice ea (s.R k).ne ec) := (by have h5 := KT.c hk 5 (by omega); rw [← EE.out]; exact h5); have r6 : w'.cell? ⟨gr, k * 8 + 6, none⟩ = some (.int .i64 (s.R k).bc) := KT.c hk 6 (by omega); have r7 : w'.cell? ⟨gr, k * 8 + 7, none⟩ = some (.int .i64 (s.R k).bt) := KT.c hk 7 (by omega); clear KT hSw; go_simp
      change wpAnyH _ _ _ _ _ _ _ { tmps := #[_, _, _, _, _, _, _, _, _, _, _, _, _, _, _, _, _, _, _, _, _, _, _, _, _, _, _, _, _, _, _, _, _, _, _, _, _, _, _, _, _, _, _, _, _, _, _, _, _, _, _, _, _, _, _, _, _, _, _, _, _, _, _, _, _, _, _, _, _, _, _, _, _, _, _, _, _, _, _, _, _, _], defers := _ } _
      refine wpAnyH_take (i := 7) (v := .pointer (some ⟨b, 0, none⟩)) rfl (by kernel_rfl) (by kernel_rfl) (by kernel_rfl) (fun _ _ _ h => h) (Or.inl ⟨by rfl, ?_⟩) H ?_
      · intro w' hSw; clear hSw; go_simp
      change wpAnyH _ _ _ _ _ _ _ { tmps := #[_, _, _, _, _, _, _, _, _, _, _, _, _, _, _, _, _, _, _, _, _, _, _, _, _, _, _, _, _, _, _, _, _, _, _, _, _, _, _, _, _, _, _, _, _, _, _, _, _, _, _, _, _, _, _, _, _, _, _, _, _, _, _, _, _, _, _, _, _, _, _, _, _, _, _, _, _, _, _, _, _, _], defers := _ } _
      refine wpAnyH_take (i := 8) (v := .pointer (some ⟨b, 0, none⟩)) rfl (by kernel_rfl) (by kernel_rfl) (by kernel_rfl) (fun _ _ _ h => h) (Or.inl ⟨by rfl, ?_⟩) H ?_
      · intro w' hSw; clear hSw; go_simp
      change wpAnyH _ _ _ _ _ _ _ { tmps := #[_, _, _, _, _, _, _, _, _, _, _, _, _, _, _, _, _, _, _, _, _, _, _, _, _, _, _, _, _, _, _, _, _, _, _, _, _, _, _, _, _, _, _, _, _, _, _, _, _, _, _, _, _, _, _, _, _, _, _, _, _, _, _, _, _, _, _, _, _, _, _, _, _, _, _, _, _, _, _, _, _, _], defers := _ } _
      refine wpAnyH_take (i := 9) (v := .pointer (some ⟨b, 3, none⟩)) rfl (by kernel_rfl) (by kernel_rfl) (by kernel_rfl) (fun _ _ _ h => h) (Or.inl ⟨by rfl, ?_⟩) H ?_
      · intro w' hSw; clear hSw; go_simp
      change wpAnyH _ _ _ _ _ _ _ { tmps := #[_, _, _, _, _, _, _, _, _, _, _, _, _, _, _, _, _, _, _, _, _, _, _, _, _, _, _, _, _, _, _, _, _, _, _, _, _, _, _, _, _, _, _, _, _, _, _, _, _, _, _, _, _, _, _, _, _, _, _, _, _, _, _, _, _, _, _, _, _, _, _, _, _, _, _, _, _, _, _, _, _, _], defers := _ } _
      refine wpAnyH_take (i := 10) (v := .slice (some ⟨gq, 0, none⟩) s.l qc) rfl (by kernel_rfl) (by kernel_rfl) (by kernel_rfl) (fun _ _ _ h => h) (Or.inl ⟨by rfl, ?_⟩) H ?_
      · intro w' hSw; have c3 := (PP.out.x.ofBlock (w' := w') (hSw.block b PP.out.x.lt)).c3; clear hSw; go_simp
      change wpAnyH _ _ _ _ _ _ _ { tmps := #[_, _, _, _, _, _, _, _, _, _, _, _, _, _, _, _, _, _, _, _, _, _, _, _, _, _, _, _, _, _, _, _, _, _, _, _, _, _, _, _, _, _, _, _, _, _, _, _, _, _, _, _, _, _, _, _, _, _, _, _, _, _, _, _, _, _, _, _, _, _, _, _, _, _, _, _, _, _, _, _, _, _], defers := _ } _
      refine wpAnyH_take (i := 11) (v := .int .i64 (q : Int)) rfl (by kernel_rfl) (by kernel_rfl) (by kernel_rfl) (fun _ _ _ h => h) (Or.inl ⟨by rfl, ?_⟩) H ?_
      · intro w' hSw; clear hSw; go_simp
      change wpAnyH _ _ _ _ _ _ _ { tmps := #[_, _, _, _, _, _, _, _, _, _, _, _, _, _, _, _, _, _, _, _, _, _, _, _, _, _, _, _, _, _, _, _, _, _, _, _, _, _, _, _, _, _, _, _, _, _, _, _, _, _, _, _, _, _, _, _, _, _, _, _, _, _, _, _, _, _, _, _, _, _, _, _, _, _, _, _, _, _, _, _, _, _], defers := _ } _
      refine wpAnyH_take (i := 12) (v := .pointer (some ⟨gq, q * 5, none⟩)) rfl (by kernel_rfl) (by kernel_rfl) (by kernel_rfl) (fun _ _ _ h => h) (Or.inl ⟨by rfl, ?_⟩) H ?_
      · intro w' hSw; clear hSw; go_simp
      change wpAnyH _ _ _ _ _ _ _ { tmps := #[_, _, _, _, _, _, _, _, _, _, _, _, _, _, _, _, _, _, _, _, _, _, _, _, _, _, _, _, _, _, _, _, _, _, _, _, _, _, _, _, _, _, _, _, _, _, _, _, _, _, _, _, _, _, _, _, _, _, _, _, _, _, _, _, _, _, _, _, _, _, _, _, _, _, _, _, _, _, _, _, _, _], defers := _ } _
      refine wpAnyH_ready (rs := [13]) (by kernel_rfl) (by simp) ?_
      refine (AllReadyH.cons rfl (fun KK hK => ?_) AllReadyH.nil)
      go_simp
      have hb : Below y0.heap.size y0 (y0.alloc (.cells #[.bool false, .int .i64 0, .int .i64 0, .int .i64 0, .int .i64 0, .slice none 0 0, .int .i64 0, .int .i64 0] 50)) := (Below.refl _ _).alloc (Nat.le_refl _) _
      have RB : Hid (BxF (y0.alloc (.cells #[.bool false, .int .i64 0, .int .i64 0, .int .i64 0, .int .i64 0, .slice none 0 0, .int .i64 0, .int .i64 0] 50)) y0.heap.size 50 8 (rpV rpZ (.slice none 0 0))) := BxF.rp y0 rpZ (.slice none 0 0)
      have LB : Hid (w.heap.size ≤ y0.heap.size) := H.size
      replace H : Below w.heap.size w (y0.alloc (.cells #[.bool false, .int .i64 0, .int .i64 0, .int .i64 0, .int .i64 0, .slice none 0 0, .int .i64 0, .int .i64 0] 50)) := H.trans (hb.mono H.size)
      clear hb
      generalize (y0.alloc (.cells #[.bool false, .int .i64 0, .int .i64 0, .int .i64 0, .int .i64 0, .slice none 0 0, .int .i64 0, .int .i64 0] 50)) = y1 at *
      generalize y0.heap.size = pb at *
      refine hK.out _ _ H (fun _ => ?_)
      clear hK KK
      change wpAnyH _ _ _ _ _ _ _ { tmps := #[_, _, _, _, _, _, _, _, _, _, _, _, _, _, _, _, _, _, _, _, _, _, _, _, _, _, _, _, _, _, _, _, _, _, _, _, _, _, _, _, _, _, _, _, _, _, _, _, _, _, _, _, _, _, _, _, _, _, _, _, _, _, _, _, _, _, _, _, _, _, _, _, _, _, _, _, _, _, _, _, _, _], defers := _ } _
      refine wpAnyH_ready (rs := [14]) (by kernel_rfl) (by simp) ?_
      refine (AllReadyH.cons rfl (fun KK hK => ?_) AllReadyH.nil)
      have f0 := RB.out.fr 0
      have f1 := RB.out.fr 1
      have f2 := RB.out.fr 2
      have f3 := RB.out.fr 3
      have f4 := RB.out.fr 4
      have f5 := RB.out.fr 5
      have f6 := RB.out.fr 6
      have f7 := RB.out.fr 7
      have z0 : y1.cell? ⟨pb, 0, none⟩ = some (.bool false) := RB.out.cell 0 (by omega)
      have z1 : y1.cell? ⟨pb, 1, none⟩ = some (.int .i64 0) := RB.out.cell 1 (by omega)
      have z2 : y1.cell? ⟨pb, 2, none⟩ = some (.int .i64 0) := RB.out.cell 2 (by omega)
      have z3 : y1.cell? ⟨pb, 3, none⟩ = some (.int .i64 0) := RB.out.cell 3 (by omega)
      have z4 : y1.cell? ⟨pb, 4, none⟩ = some (.int .i64 0) := RB.out.cell 4 (by omega)
      have z5 : y1.cell? ⟨pb, 5, none⟩ = some (.slice none 0 0) := RB.out.cell 5 (by omega)
      have z6 : y1.cell? ⟨pb, 6, none⟩ = some (.int .i64 0) := RB.out.cell 6 (by omega)
      have z7 : y1.cell? ⟨pb, 7, none⟩ = some (.int .i64 0) := RB.out.cell 7 (by omega)
      go_simp
      have RS : Hid (BxF ((((((((y1.setCell ⟨pb, 0, none⟩ (.bool (s.R k).mute)).setCell ⟨pb, 1, none⟩ (.int .i64 (s.R k).nc)).setCell ⟨pb, 2, none⟩ (.int .i64 (s.R k).nt)).setCell ⟨pb, 3, none⟩ (.int .i64 (s.R k).sc)).setCell ⟨pb, 4, none⟩ (.int .i64 (s.R k).st)).setCell ⟨pb, 5, none⟩ (.slice ea (s.R k).ne ec)).setCell ⟨pb, 6, none⟩ (.int .i64 (s.R k).bc)).setCell ⟨pb, 7, none⟩ (.int .i64 (s.R k).bt)) pb 50 8 (rpV (s.R k) (.slice ea (s.R k).ne ec))) := RB.out.st8 (rpV (s.R k) (.slice ea (s.R k).ne ec))
      replace H : Below w.heap.size w ((((((((y1.setCell ⟨pb, 0, none⟩ (.bool (s.R k).mute)).setCell ⟨pb, 1, none⟩ (.int .i64 (s.R k).nc)).setCell ⟨pb, 2, none⟩ (.int .i64 (s.R k).nt)).setCell ⟨pb, 3, none⟩ (.int .i64 (s.R k).sc)).setCell ⟨pb, 4, none⟩ (.int .i64 (s.R k).st)).setCell ⟨pb, 5, none⟩ (.slice ea (s.R k).ne ec)).setCell ⟨pb, 6, none⟩ (.int .i64 (s.R k).bc)).setCell ⟨pb, 7, none⟩ (.int .i64 (s.R k).bt)) := ((((((((H.setCell LB.out _).setCell LB.out _).setCell LB.out _).setCell LB.out _).setCell LB.out _).setCell LB.out _).setCell LB.out _).setCell LB.out _)
      clear RB f0 z0 f1 z1 f2 z2 f3 z3 f4 z4 f5 z5 f6 z6 f7 z7
      generalize ((((((((y1.setCell ⟨pb, 0, none⟩ (.bool (s.R k).mute)).setCell ⟨pb, 1, none⟩ (.int .i64 (s.R k).nc)).setCell ⟨pb, 2, none⟩ (.int .i64 (s.R k).nt)).setCell ⟨pb, 3, none⟩ (.int .i64 (s.R k).sc)).setCell ⟨pb, 4, none⟩ (.int .i64 (s.R k).st)).setCell ⟨pb, 5, none⟩ (.slice ea (s.R k).ne ec)).setCell ⟨pb, 6, none⟩ (.int .i64 (s.R k).bc)).setCell ⟨pb, 7, none⟩ (.int .i64 (s.R k).bt)) = y2 at *
      refine hK.out _ _ H (fun _ => ?_)
      clear hK KK
      change wpAnyH _ _ _ _ _ _ _ { tmps := #[_, _, _, _, _, _, _, _, _, _, _, _, _, _, _, _, _, _, _, _, _, _, _, _, _, _, _, _, _, _, _, _, _, _, _, _, _, _, _, _, _, _, _, _, _, _, _, _, _, _, _, _, _, _, _, _, _, _, _, _, _, _, _, _, _, _, _, _, _, _, _, _, _, _, _, _, _, _, _, _, _, _], defers := _ } _
      refine wpAnyH_take (i := 15) (v := .pointer (some ⟨gq, q * 5, none⟩)) rfl (by kernel_rfl) (by kernel_rfl) (by kernel_rfl) (fun _ _ _ h => h) (Or.inl ⟨by rfl, ?_⟩) H ?_
      · intro w' hSw; clear hSw; go_simp
      change wpAnyH _ _ _ _ _ _ _ { tmps := #[_, _, _, _, _, _, _, _, _, _, _, _, _, _, _, _, _, _, _, _, _, _, _, _, _, _, _, _, _, _, _, _, _, _, _, _, _, _, _, _, _, _, _, _, _, _, _, _, _, _, _, _, _, _, _, _, _, _, _, _, _, _, _, _, _, _, _, _, _, _, _, _, _, _, _, _, _, _, _, _, _, _], defers := _ } _
      refine wpAnyH_done (by kernel_rfl) ?_ _
      refine NoPanic.normal ?_
      have PV : Hid (SvP N y2 B b s (.slice (some ⟨gr, 0, none⟩) s.n rc) (.slice wa s.m wc) (.slice (some ⟨gq, 0, none⟩) s.l qc) VR VW VQ) := PP.out.below H
      have KY : Hid (RkQ y2 B gq qc s.l s.Q VQ q (s.Q q) (VQ q)) := KQH.out.below H
      have BV : Hid (B ≤ y2.heap.size ∧ Blw N B w y2) := ⟨Nat.le_trans B0.out H.size, blw_of H B0.out⟩
      have NP : Hid (gq < pb ∧ pb < y2.heap.size) := ⟨Nat.lt_of_lt_of_le wl LB.out, RS.out.lt⟩
      clear H PP KRH KQH B0 LB
      generalize y2 = v at *
      have m0 : v.cell? ⟨pb, 0, none⟩ = some (.bool (s.R k).mute) := RS.out.cell 0 (by omega)
      by_cases hu : (s.R k).mute = true
      · have Q : Hid (RetA N B b s a (.returned (.int .i64 13)) v ∧ Blw N B w v) := ⟨⟨s, 13, .reply1 k q hk HA.out.2.1 HA.out.1 qm HA.out.2.2 hu, rfl, PV.out.sv⟩, BV.out.2⟩
        rw [hu] at m0
        clear PV KY BV NP RS hu
        go_wp2
        go_ret
        exact Q.out
      · have hu' : (s.R k).mute = false := by cases e : (s.R k).mute <;> simp_all
        rw [hu'] at m0
        have HU : Hid ((s.R k).mute = false) := hu'
        clear hu hu'
        have q4 : v.cell? ⟨gq, q * 5 + 4, none⟩ = some (.int .i64 (s.Q q).en) := KY.out.c qm 4 (by omega)
        by_cases he : (s.Q q).en = -1
        · skip
          have HE : Hid ((s.Q q).en = -1) := he
          rw [he] at q4
          clear he
          have IW := PV.out.o.f q qm
          obtain ⟨la, lcap, eV⟩ := EO.form IW
          have CO : Hid (∀ z : Bool, z = sB (hasE (s.Q q).ne (s.Q q).E k) → Calls Try.prog 118 #[.slice la (s.Q q).ne lcap, .int .i64 (k : Int)] v fun e w' => e = .returned (.bool z) ∧ v = w') := fun z hz => conInt_any la (s.Q q).ne lcap (s.Q q).E k (by have := ids_le (OK.out.2.2.2 q qm).2.1; have := OK.out.1.1.2; omega) z hz v (IE.num (by rw [← eV]; exact IW))
          have q0 : v.cell? ⟨gq, q * 5, none⟩ = some (.slice la (s.Q q).ne lcap) := by have := KY.out.c qm 0 (by omega); rw [← eV]; exact this
          clear IW eV
          by_cases hx : hasE (s.Q q).ne (s.Q q).E k
          · have CH : Hid (Calls Try.prog 118 #[.slice la (s.Q q).ne lcap, .int .i64 (k : Int)] v fun e w' => e = .returned (.bool true) ∧ v = w') := CO.out true (sB_yes hx).symm
            have Q : Hid (RetA N B b s a (.returned (.int .i64 9)) v ∧ Blw N B w v) := ⟨⟨s, 9, .reply2 k q hk HA.out.2.1 HA.out.1 qm HA.out.2.2 HU.out (.inr hx), rfl, PV.out.sv⟩, BV.out.2⟩
            clear CO PV KY BV NP RS hx HE HU
            go_wp2_with fail
            refine CH.out.mono ?_
            rintro e _ ⟨rfl, rfl⟩
            clear CH
            go_wp2
            go_ret
            exact Q.out
          · have CH : Hid (Calls Try.prog 118 #[.slice la (s.Q q).ne lcap, .int .i64 (k : Int)] v fun e w' => e = .returned (.bool false) ∧ v = w') := CO.out false (sB_no hx).symm
            have HX : Hid (¬ hasE (s.Q q).ne (s.Q q).E k) := hx
            clear CO hx
            go_wp2_with fail
            refine CH.out.mono ?_
            rintro e _ ⟨rfl, rfl⟩
            clear CH
            go_upto_region 8 with fail
            clear m0 q4 q0
            replace KY : Hid (RkQ v.drew B gq qc s.l s.Q VQ q (s.Q q) (VQ q)) := KY.out.below (Below.refl _ _).drew
            have H : ChB (PG gq) v v.drew := (ChB.refl _ _).drew
            refine wp_region_noPanic ?_
            refine wp_region_held_drew (S := fun w' => ChB (PG gq) v w') (by kernel_rfl) H (fun _ => ?_)
            generalize v.drew = y0 at *
            refine wpAnyH_take (i := 0) (v := .pointer (some ⟨gq, q * 5, none⟩)) rfl (by kernel_rfl) (by kernel_rfl) (by kernel_rfl) (fun _ _ _ h => h) (Or.inl ⟨by rfl, ?_⟩) H ?_
            · intro w' hSw; clear hSw; go_simp
            change wpAnyH _ _ _ _ _ _ _ { tmps := #[_, _, _, _, _, _, _, _, _, _, _, _, _, _, _, _, _, _, _, _, _, _, _, _, _, _, _, _, _, _, _, _, _, _, _, _, _, _, _, _, _, _, _, _, _, _, _, _, _, _, _, _, _, _, _, _, _, _, _, _, _, _, _, _, _, _, _, _, _, _, _, _, _, _, _, _, _, _, _, _, _, _], defers := _ } _
            refine wpAnyH_take (i := 1) (v := .pointer (some ⟨gq, q * 5, none⟩)) rfl (by kernel_rfl) (by kernel_rfl) (by kernel_rfl) (fun _ _ _ h => h) (Or.inl ⟨by rfl, ?_⟩) H ?_
            · intro w' hSw; clear hSw; go_simp
            change wpAnyH _ _ _ _ _ _ _ { tmps := #[_, _, _, _, _, _, _, _, _, _, _, _, _, _, _, _, _, _, _, _, _, _, _, _, _, _, _, _, _, _, _, _, _, _, _, _, _, _, _, _, _, _, _, _, _, _, _, _, _, _, _, _, _, _, _, _, _, _, _, _, _, _, _, _, _, _, _, _, _, _, _, _, _, _, _, _, _, _, _, _, _, _], defers := _ } _
            refine wpAnyH_take (i := 2) (v := .pointer (some ⟨gq, q * 5, none⟩)) rfl (by kernel_rfl) (by kernel_rfl) (by kernel_rfl) (fun _ _ _ h => h) (Or.inl ⟨by rfl, ?_⟩) H ?_
            · intro w' hSw; clear hSw; go_simp
            change wpAnyH _ _ _ _ _ _ _ { tmps := #[_, _, _, _, _, _, _, _, _, _, _, _, _, _, _, _, _, _, _, _, _, _, _, _, _, _, _, _, _, _, _, _, _, _, _, _, _, _, _, _, _, _, _, _, _, _, _, _, _, _, _, _, _, _, _, _, _, _, _, _, _, _, _, _, _, _, _, _, _, _, _, _, _, _, _, _, _, _, _, _, _, _], defers := _ } _
            refine wpAnyH_take (i := 3) (v := .pointer (some ⟨gq, q * 5 + 1, none⟩)) rfl (by kernel_rfl) (by kernel_rfl) (by kernel_rfl) (fun _ _ _ h => h) (Or.inl ⟨by rfl, ?_⟩) H ?_
            · intro w' hSw; clear hSw; go_simp
            change wpAnyH _ _ _ _ _ _ _ { tmps := #[_, _, _, _, _, _, _, _, _, _, _, _, _, _, _, _, _, _, _, _, _, _, _, _, _, _, _, _, _, _, _, _, _, _, _, _, _, _, _, _, _, _, _, _, _, _, _, _, _, _, _, _, _, _, _, _, _, _, _, _, _, _, _, _, _, _, _, _, _, _, _, _, _, _, _, _, _, _, _, _, _, _], defers := _ } _
            refine wpAnyH_take (i := 5) (v := .pointer (some ⟨pb, 1, none⟩)) rfl (by kernel_rfl) (by kernel_rfl) (by kernel_rfl) (fun _ _ _ h => h) (Or.inl ⟨by rfl, ?_⟩) H ?_
            · intro w' hSw; clear hSw; go_simp
            change wpAnyH _ _ _ _ _ _ _ { tmps := #[_, _, _, _, _, _, _, _, _, _, _, _, _, _, _, _, _, _, _, _, _, _, _, _, _, _, _, _, _, _, _, _, _, _, _, _, _, _, _, _, _, _, _, _, _, _, _, _, _, _, _, _, _, _, _, _, _, _, _, _, _, _, _, _, _, _, _, _, _, _, _, _, _, _, _, _, _, _, _, _, _, _], defers := _ } _
            refine wpAnyH_take (i := 6) (v := .agg #[.int .i64 (s.R k).nc, .int .i64 (s.R k).nt]) rfl (by kernel_rfl) (by kernel_rfl) (by kernel_rfl) (fun _ _ _ h => h) (Or.inl ⟨by rfl, ?_⟩) H ?_
            · intro w' hSw; have KX := RS.out.ofBlock (w' := w') (hSw.block pb NP.out.2 (fun z => by have := NP.out.1; unfold PG at z; omega)); have p1 := KX.cell 1 (by omega); have p2 := KX.cell 2 (by omega); replace p1 : w'.cell? ⟨pb, 1, none⟩ = some (.int .i64 (s.R k).nc) := p1; replace p2 : w'.cell? ⟨pb, 2, none⟩ = some (.int .i64 (s.R k).nt) := p2; clear KX hSw; go_simp
            change wpAnyH _ _ _ _ _ _ _ { tmps := #[_, _, _, _, _, _, _, _, _, _, _, _, _, _, _, _, _, _, _, _, _, _, _, _, _, _, _, _, _, _, _, _, _, _, _, _, _, _, _, _, _, _, _, _, _, _, _, _, _, _, _, _, _, _, _, _, _, _, _, _, _, _, _, _, _, _, _, _, _, _, _, _, _, _, _, _, _, _, _, _, _, _], defers := _ } _
            refine wpAnyH_ready (rs := [4]) (by kernel_rfl) (by simp) ?_
            refine (AllReadyH.cons rfl (fun KK hK => ?_) AllReadyH.nil)
            have r1 : y0.cell? ⟨gq, q * 5 + 1, none⟩ = some (.int .i64 (s.Q q).bc) := KY.out.c qm 1 (by omega)
            have r2 : y0.cell? ⟨gq, q * 5 + 2, none⟩ = some (.int .i64 (s.Q q).bt) := KY.out.c qm 2 (by omega)
            go_simp
            refine hK.out _ _ H (fun _ => ?_)
            clear hK KK
            change wpAnyH _ _ _ _ _ _ _ { tmps := #[_, _, _, _, _, _, _, _, _, _, _, _, _, _, _, _, _, _, _, _, _, _, _, _, _, _, _, _, _, _, _, _, _, _, _, _, _, _, _, _, _, _, _, _, _, _, _, _, _, _, _, _, _, _, _, _, _, _, _, _, _, _, _, _, _, _, _, _, _, _, _, _, _, _, _, _, _, _, _, _, _, _], defers := _ } _
            refine wpAnyH_ready (rs := [7]) (by kernel_rfl) (by simp) ?_
            refine (AllReadyH.cons rfl (fun KK hK => ?_) AllReadyH.nil)
            go_simp
            refine (later_any (s.Q q).bc (s.Q q).bt (s.R k).nc (s.R k).nt y0).mono ?_
            rintro e y1 ⟨rfl, hb⟩
            replace KY : Hid (RkQ y1 B gq qc s.l s.Q VQ q (s.Q q) (VQ q)) := KY.out.below hb
            replace H : ChB (PG gq) v y1 := H.step hb
            obtain ⟨lc, hlc⟩ : ∃ x, x = (ltr (s.Q q).bc (s.Q q).bt (s.R k).nc (s.R k).nt).1 := ⟨_, rfl⟩
            obtain ⟨lt, hlt⟩ : ∃ x, x = (ltr (s.Q q).bc (s.Q q).bt (s.R k).nc (s.R k).nt).2 := ⟨_, rfl⟩
            rw [← hlc, ← hlt]
            have LT : Hid (lc = (ltr (s.Q q).bc (s.Q q).bt (s.R k).nc (s.R k).nt).1 ∧ lt = (ltr (s.Q q).bc (s.Q q).bt (s.R k).nc (s.R k).nt).2) := ⟨hlc, hlt⟩
            clear hlc hlt r1 r2
            clear hb
            refine hK.out _ _ H (fun _ => ?_)
            clear hK KK
            change wpAnyH _ _ _ _ _ _ _ { tmps := #[_, _, _, _, _, _, _, _, _, _, _, _, _, _, _, _, _, _, _, _, _, _, _, _, _, _, _, _, _, _, _, _, _, _, _, _, _, _, _, _, _, _, _, _, _, _, _, _, _, _, _, _, _, _, _, _, _, _, _, _, _, _, _, _, _, _, _, _, _, _, _, _, _, _, _, _, _, _, _, _, _, _], defers := _ } _
            refine wpAnyH_take (i := 8) (v := .pointer (some ⟨gq, q * 5, none⟩)) rfl (by kernel_rfl) (by kernel_rfl) (by kernel_rfl) (fun _ _ _ h => h) (Or.inl ⟨by rfl, ?_⟩) H ?_
            · intro w' hSw; clear hSw; go_simp
            change wpAnyH _ _ _ _ _ _ _ { tmps := #[_, _, _, _, _, _, _, _, _, _, _, _, _, _, _, _, _, _, _, _, _, _, _, _, _, _, _, _, _, _, _, _, _, _, _, _, _, _, _, _, _, _, _, _, _, _, _, _, _, _, _, _, _, _, _, _, _, _, _, _, _, _, _, _, _, _, _, _, _, _, _, _, _, _, _, _, _, _, _, _, _, _], defers := _ } _
            refine wpAnyH_take (i := 9) (v := .pointer (some ⟨gq, q * 5 + 1, none⟩)) rfl (by kernel_rfl) (by kernel_rfl) (by kernel_rfl) (fun _ _ _ h => h) (Or.inl ⟨by rfl, ?_⟩) H ?_
            · intro w' hSw; clear hSw; go_simp
            change wpAnyH _ _ _ _ _ _ _ { tmps := #[_, _, _, _, _, _, _, _, _, _, _, _, _, _, _, _, _, _, _, _, _, _, _, _, _, _, _, _, _, _, _, _, _, _, _, _, _, _, _, _, _, _, _, _, _, _, _, _, _, _, _, _, _, _, _, _, _, _, _, _, _, _, _, _, _, _, _, _, _, _, _, _, _, _, _, _, _, _, _, _, _, _], defers := _ } _
            refine wpAnyH_ready (rs := [10]) (by kernel_rfl) (by simp) ?_
            refine (AllReadyH.cons rfl (fun KK hK => ?_) AllReadyH.nil)
            have f1 := KY.out.fr qm 1 (by omega)
            have f2 := KY.out.fr qm 2 (by omega)
            have r1 : y1.cell? ⟨gq, q * 5 + 1, none⟩ = some (.int .i64 (s.Q q).bc) := KY.out.c qm 1 (by omega)
            have r2 : y1.cell? ⟨gq, q * 5 + 2, none⟩ = some (.int .i64 (s.Q q).bt) := KY.out.c qm 2 (by omega)
            go_simp
            have K2 : Hid (RkQ ((y1.setCell ⟨gq, q * 5 + 1, none⟩ (.int .i64 lc)).setCell ⟨gq, q * 5 + 2, none⟩ (.int .i64 lt)) B gq qc s.l s.Q VQ q { s.Q q with bc := (ltr (s.Q q).bc (s.Q q).bt (s.R k).nc (s.R k).nt).1, bt := (ltr (s.Q q).bc (s.Q q).bt (s.R k).nc (s.R k).nt).2 } (VQ q)) := by have := KY.out.best qm lc lt; rw [← LT.out.1, ← LT.out.2]; exact this
            replace H : ChB (PG gq) v ((y1.setCell ⟨gq, q * 5 + 1, none⟩ (.int .i64 lc)).setCell ⟨gq, q * 5 + 2, none⟩ (.int .i64 lt)) := (H.at gq (.inl rfl) _ _).at gq (.inl rfl) _ _
            clear r1 r2 f1 f2 KY
            generalize ((y1.setCell ⟨gq, q * 5 + 1, none⟩ (.int .i64 lc)).setCell ⟨gq, q * 5 + 2, none⟩ (.int .i64 lt)) = y2 at *
            refine hK.out _ _ H (fun _ => ?_)
            clear hK KK
            change wpAnyH _ _ _ _ _ _ _ { tmps := #[_, _, _, _, _, _, _, _, _, _, _, _, _, _, _, _, _, _, _, _, _, _, _, _, _, _, _, _, _, _, _, _, _, _, _, _, _, _, _, _, _, _, _, _, _, _, _, _, _, _, _, _, _, _, _, _, _, _, _, _, _, _, _, _, _, _, _, _, _, _, _, _, _, _, _, _, _, _, _, _, _, _], defers := _ } _
            refine wpAnyH_done (by kernel_rfl) ?_ _
            refine NoPanic.normal ?_
            have KY : Hid (RkQ y2 B gq qc s.l s.Q VQ q { s.Q q with bc := (ltr (s.Q q).bc (s.Q q).bt (s.R k).nc (s.R k).nt).1, bt := (ltr (s.Q q).bc (s.Q q).bt (s.R k).nc (s.R k).nt).2 } (VQ q)) := K2.out
            clear K2 LT RS NP
            have IW : IE y2 B (VQ q) (s.Q q).ne (s.Q q).E := EO.ch (PV.out.o.f q qm) H (fun g e z => EO.apart (PV.out.o.f q qm) PV.out.o.q (by decide) g e (by unfold PG at z; rw [z]; rfl))
            obtain ⟨la, lcap, eV⟩ := EO.form IW
            have EV : Hid (VQ q = .slice la (s.Q q).ne lcap) := eV
            have JH : Hid (Calls Try.prog 116 #[.slice la (s.Q q).ne lcap, .int .i64 (k : Int)] y2 fun e w' => RetJn y2 B (.slice la (s.Q q).ne lcap) (s.Q q).ne (s.Q q).E (k : Int) e w') := joined_any s.n B la (s.Q q).ne lcap (s.Q q).E (k : Int) (OK.out.2.2.2 q qm).2.1 (by have := ids_le (OK.out.2.2.2 q qm).2.1; have := OK.out.1.1.2; omega) y2 (Nat.le_trans BV.out.1 H.size) (by rw [← EV.out]; exact IW)
            have q2 : y2.cell? ⟨gq, q * 5, none⟩ = some (.slice la (s.Q q).ne lcap) := by have := KY.out.c qm 0 (by omega); rw [← EV.out]; exact this
            have HH : Hid (ChB (PG gq) v y2) := H
            clear IW eV H
            go_wp2_with fail
            refine JH.out.mono ?_
            rintro e y3 ⟨⟨v', rfl, hI, hown⟩, hg⟩
            obtain ⟨va, vc, rfl⟩ := EO.form hI
            rw [← EV.out] at hg hown
            have gne : ∀ u, (VQ q).ownBlock = some u → u ≠ gq := fun u e z => EO.apart (PV.out.o.f q qm) PV.out.o.q (by decide) u e (by rw [z]; rfl)
            have H7 : ChB (PR (.slice (some ⟨gq, 0, none⟩) s.l qc) VQ q) v y3 := (HH.out.wide (fun g z => .inl (by unfold PG at z; rw [z]; rfl))).grown hg (fun g e => .inl (.inr e))
            have K7 : Hid (RkQ y3 B gq qc s.l s.Q VQ q { s.Q q with bc := (ltr (s.Q q).bc (s.Q q).bt (s.R k).nc (s.R k).nt).1, bt := (ltr (s.Q q).bc (s.Q q).bt (s.R k).nc (s.R k).nt).2 } (VQ q)) := KY.out.keep (hg.block gq KY.out.lt.2 (fun e => gne gq e.symm rfl))
            obtain ⟨W5, hW5⟩ : ∃ x : Ro, x = { { s.Q q with bc := (ltr (s.Q q).bc (s.Q q).bt (s.R k).nc (s.R k).nt).1, bt := (ltr (s.Q q).bc (s.Q q).bt (s.R k).nc (s.R k).nt).2 } with ne := (addE (s.Q q).ne (s.Q q).E (k : Int)).1, E := (addE (s.Q q).ne (s.Q q).E (k : Int)).2 } := ⟨_, rfl⟩
            have HW5 : Hid (W5 = { { s.Q q with bc := (ltr (s.Q q).bc (s.Q q).bt (s.R k).nc (s.R k).nt).1, bt := (ltr (s.Q q).bc (s.Q q).bt (s.R k).nc (s.R k).nt).2 } with ne := (addE (s.Q q).ne (s.Q q).E (k : Int)).1, E := (addE (s.Q q).ne (s.Q q).E (k : Int)).2 }) := hW5
            have NE : Hid ((addE (s.Q q).ne (s.Q q).E (k : Int)).1 ≤ 8) := by show _ ≤ _; have := addE_le (x := (k : Int)) (OK.out.2.2.2 q qm).2.1; have := OK.out.1.1.2; omega
            obtain ⟨ne', hne⟩ : ∃ x, x = (addE (s.Q q).ne (s.Q q).E (k : Int)).1 := ⟨_, rfl⟩
            have K8 : Hid (RkQ (y3.setCell ⟨gq, q * 5, none⟩ (.slice va ne' vc)) B gq qc s.l s.Q VQ q W5 (.slice va ne' vc)) := by rw [hW5, hne]; exact K7.out.setE qm _ _ _
            have I8 : Hid (IE (y3.setCell ⟨gq, q * 5, none⟩ (.slice va ne' vc)) B (.slice va ne' vc) W5.ne W5.E) := by rw [hW5, hne]; exact IE.setOther hI K7.out (by decide) _ _
            have H8 : Hid (ChB (PR (.slice (some ⟨gq, 0, none⟩) s.l qc) VQ q) v (y3.setCell ⟨gq, q * 5, none⟩ (.slice va ne' vc))) := H7.at gq (.inl (.inl rfl)) _ _
            have O8 : Hid (∀ g, (Value.slice va ne' vc).ownBlock = some g → (VQ q).ownBlock = some g ∨ v.heap.size ≤ g) := by rw [hne]; exact fun g e => hown.elim (fun z => .inl (z ▸ e)) (fun ⟨q, z, hq⟩ => .inr (by rw [z] at e; cases e; exact Nat.le_trans HH.out.size hq))
            have f2 : y3.frozen? ⟨gq, q * 5, none⟩ = false := K7.out.fr qm 0 (by omega)
            have g2 : y3.cell? ⟨gq, q * 5, none⟩ = some (VQ q) := K7.out.c qm 0 (by omega)
            rw [← hne]
            have HNE : Hid (ne' = (addE (s.Q q).ne (s.Q q).E (k : Int)).1) := hne
            clear hI hown hg gne H7 hW5 hne JH q2 KY EV HH K7
            go_upto_region 10 with fail
            generalize (y3.setCell ⟨gq, q * 5, none⟩ (.slice va ne' vc)) = y4 at *
            clear f2 g2
            have XS : Hid (Box4 y4 b 30 (.slice (some ⟨gr, 0, none⟩) s.n rc) (.int .i64 s.t) (.slice wa s.m wc) (.slice (some ⟨gq, 0, none⟩) s.l qc)) := PV.out.x.ch H8.out (chQ_box PV.out.x PV.out.o qm)
            have KX : Hid (RkQ y4 B gq qc s.l s.Q VQ q W5 (.slice va ne' vc)) := K8.out
            obtain ⟨z, hz⟩ : ∃ z, z = sB (majN s.n ≤ ne') := ⟨_, rfl⟩
            have HZ : Hid (z = sB (majN s.n ≤ ne')) := hz
            clear hz
            have H : Below y4.heap.size y4 y4.drew := (Below.refl _ _).drew
            refine wp_region_noPanic ?_
            refine wp_region_held_drew (S := fun w' => Below y4.heap.size y4 w') (by kernel_rfl) H (fun _ => ?_)
            generalize y4.drew = z0 at *
            refine wpAnyH_take (i := 0) (v := .pointer (some ⟨b, 0, none⟩)) rfl (by kernel_rfl) (by kernel_rfl) (by kernel_rfl) (fun _ _ _ h => h) (Or.inl ⟨by rfl, ?_⟩) H ?_
            · intro w' hSw; clear hSw; go_simp
            change wpAnyH _ _ _ _ _ _ _ { tmps := #[_, _, _, _, _, _, _, _, _, _, _, _, _, _, _, _, _, _, _, _, _, _, _, _, _, _, _, _, _, _, _, _, _, _, _, _, _, _, _, _, _, _, _, _, _, _, _, _, _, _, _, _, _, _, _, _, _, _, _, _, _, _, _, _, _, _, _, _, _, _, _, _, _, _, _, _, _, _, _, _, _, _], defers := _ } _
            refine wpAnyH_take (i := 1) (v := .pointer (some ⟨b, 0, none⟩)) rfl (by kernel_rfl) (by kernel_rfl) (by kernel_rfl) (fun _ _ _ h => h) (Or.inl ⟨by rfl, ?_⟩) H ?_
            · intro w' hSw; clear hSw; go_simp
            change wpAnyH _ _ _ _ _ _ _ { tmps := #[_, _, _, _, _, _, _, _, _, _, _, _, _, _, _, _, _, _, _, _, _, _, _, _, _, _, _, _, _, _, _, _, _, _, _, _, _, _, _, _, _, _, _, _, _, _, _, _, _, _, _, _, _, _, _, _, _, _, _, _, _, _, _, _, _, _, _, _, _, _, _, _, _, _, _, _, _, _, _, _, _, _], defers := _ } _
            refine wpAnyH_take (i := 2) (v := .agg #[.slice (some ⟨gr, 0, none⟩) s.n rc, .int .i64 s.t, .slice wa s.m wc, .slice (some ⟨gq, 0, none⟩) s.l qc]) rfl (by kernel_rfl) (by kernel_rfl) (by kernel_rfl) (fun _ _ _ h => h) (Or.inl ⟨by rfl, ?_⟩) H ?_
            · intro w' hSw; have XT := (XS.out.ofBlock (w' := w') (hSw.block b XS.out.lt)); have c0 := XT.c0; have c1 := XT.c1; have c2 := XT.c2; have c3 := XT.c3; clear XT hSw; go_simp
            change wpAnyH _ _ _ _ _ _ _ { tmps := #[_, _, _, _, _, _, _, _, _, _, _, _, _, _, _, _, _, _, _, _, _, _, _, _, _, _, _, _, _, _, _, _, _, _, _, _, _, _, _, _, _, _, _, _, _, _, _, _, _, _, _, _, _, _, _, _, _, _, _, _, _, _, _, _, _, _, _, _, _, _, _, _, _, _, _, _, _, _, _, _, _, _], defers := _ } _
            refine wpAnyH_take (i := 3) (v := .pointer (some ⟨gq, q * 5, none⟩)) rfl (by kernel_rfl) (by kernel_rfl) (by kernel_rfl) (fun _ _ _ h => h) (Or.inl ⟨by rfl, ?_⟩) H ?_
            · intro w' hSw; clear hSw; go_simp
            change wpAnyH _ _ _ _ _ _ _ { tmps := #[_, _, _, _, _, _, _, _, _, _, _, _, _, _, _, _, _, _, _, _, _, _, _, _, _, _, _, _, _, _, _, _, _, _, _, _, _, _, _, _, _, _, _, _, _, _, _, _, _, _, _, _, _, _, _, _, _, _, _, _, _, _, _, _, _, _, _, _, _, _, _, _, _, _, _, _, _, _, _, _, _, _], defers := _ } _
            refine wpAnyH_take (i := 4) (v := .pointer (some ⟨gq, q * 5, none⟩)) rfl (by kernel_rfl) (by kernel_rfl) (by kernel_rfl) (fun _ _ _ h => h) (Or.inl ⟨by rfl, ?_⟩) H ?_
            · intro w' hSw; clear hSw; go_simp
            change wpAnyH _ _ _ _ _ _ _ { tmps := #[_, _, _, _, _, _, _, _, _, _, _, _, _, _, _, _, _, _, _, _, _, _, _, _, _, _, _, _, _, _, _, _, _, _, _, _, _, _, _, _, _, _, _, _, _, _, _, _, _, _, _, _, _, _, _, _, _, _, _, _, _, _, _, _, _, _, _, _, _, _, _, _, _, _, _, _, _, _, _, _, _, _], defers := _ } _
            refine wpAnyH_take (i := 5) (v := .pointer (some ⟨gq, q * 5, none⟩)) rfl (by kernel_rfl) (by kernel_rfl) (by kernel_rfl) (fun _ _ _ h => h) (Or.inl ⟨by rfl, ?_⟩) H ?_
            · intro w' hSw; clear hSw; go_simp
            change wpAnyH _ _ _ _ _ _ _ { tmps := #[_, _, _, _, _, _, _, _, _, _, _, _, _, _, _, _, _, _, _, _, _, _, _, _, _, _, _, _, _, _, _, _, _, _, _, _, _, _, _, _, _, _, _, _, _, _, _, _, _, _, _, _, _, _, _, _, _, _, _, _, _, _, _, _, _, _, _, _, _, _, _, _, _, _, _, _, _, _, _, _, _, _], defers := _ } _
            refine wpAnyH_take (i := 6) (v := .slice va ne' vc) rfl (by kernel_rfl) (by kernel_rfl) (by kernel_rfl) (fun _ _ _ h => h) (Or.inl ⟨by rfl, ?_⟩) H ?_
            · intro w' hSw; have KT := KX.out.keep (w' := w') (hSw.block gq KX.out.lt.2); have q2 : w'.cell? ⟨gq, q * 5, none⟩ = some (.slice va ne' vc) := KT.c qm 0 (by omega); clear KT hSw; go_simp
            change wpAnyH _ _ _ _ _ _ _ { tmps := #[_, _, _, _, _, _, _, _, _, _, _, _, _, _, _, _, _, _, _, _, _, _, _, _, _, _, _, _, _, _, _, _, _, _, _, _, _, _, _, _, _, _, _, _, _, _, _, _, _, _, _, _, _, _, _, _, _, _, _, _, _, _, _, _, _, _, _, _, _, _, _, _, _, _, _, _, _, _, _, _, _, _], defers := _ } _
            refine wpAnyH_ready (rs := [7]) (by kernel_rfl) (by simp) ?_
            refine (AllReadyH.cons rfl (fun KK hK => ?_) AllReadyH.nil)
            go_simp
            refine (majority_v (some ⟨gr, 0, none⟩) s.n rc (.int .i64 s.t) (.slice wa s.m wc) (.slice (some ⟨gq, 0, none⟩) s.l qc) va ne' vc OK.out.1.1 (by have := NE.out; have := HNE.out; omega) z HZ.out z0).mono ?_
            rintro e z1 ⟨rfl, hb⟩
            replace H : Below y4.heap.size y4 z1 := H.trans (hb.mono H.size)
            clear hb
            refine hK.out _ _ H (fun _ => ?_)
            clear hK KK
            change wpAnyH _ _ _ _ _ _ _ { tmps := #[_, _, _, _, _, _, _, _, _, _, _, _, _, _, _, _, _, _, _, _, _, _, _, _, _, _, _, _, _, _, _, _, _, _, _, _, _, _, _, _, _, _, _, _, _, _, _, _, _, _, _, _, _, _, _, _, _, _, _, _, _, _, _, _, _, _, _, _, _, _, _, _, _, _, _, _, _, _, _, _, _, _], defers := _ } _
            refine wpAnyH_done (by kernel_rfl) ?_ _
            refine NoPanic.normal ?_
            have HM : Hid (Below y4.heap.size y4 z1) := H
            clear H
            have H9 : Hid (ChB (PR (.slice (some ⟨gq, 0, none⟩) s.l qc) VQ q) v z1) := H8.out.step HM.out
            have K9 : Hid (RkQ z1 B gq qc s.l s.Q VQ q W5 (.slice va ne' vc)) := K8.out.below HM.out
            have I9 : Hid (IE z1 B (.slice va ne' vc) W5.ne W5.E) := EO.below I8.out HM.out
            have X9 : Hid (Box4 z1 b 30 (.slice (some ⟨gr, 0, none⟩) s.n rc) (.int .i64 s.t) (.slice wa s.m wc) (.slice (some ⟨gq, 0, none⟩) s.l qc)) := PV.out.x.ch H9.out (chQ_box PV.out.x PV.out.o qm)
            clear H8 K8 I8 HM XS KX
            by_cases hj : majN s.n ≤ ne'
            · obtain rfl : z = true := HZ.out.trans (sB_yes hj)
              have f4 := K9.out.fr qm 4 (by omega)
              have g4 : z1.cell? ⟨gq, q * 5 + 4, none⟩ = some (.int .i64 W5.en) := K9.out.c qm 4 (by omega)
              have c1 := X9.out.c1
              have K10 := K9.out.setN qm s.t
              have I10 := IE.setOther I9.out K9.out (by decide) (q * 5 + 4) (.int .i64 s.t)
              have H10 := H9.out.at gq (.inl (.inl rfl)) (q * 5 + 4) (.int .i64 s.t)
              have Q : Hid (RetA N B b s a (.returned (.int .i64 0)) (z1.setCell ⟨gq, q * 5 + 4, none⟩ (.int .i64 s.t)) ∧ Blw N B w (z1.setCell ⟨gq, q * 5 + 4, none⟩ (.int .i64 s.t))) := ⟨retA_reply hk qm HA.out HU.out HE.out HX.out (by rw [HW5.out]; unfold Ro.hear; rw [if_pos (HNE.out ▸ hj)]) (PV.out.chQ qm H10 K10 I10 O8.out).sv, BV.out.2.trans (H10.toBlw (PR.geQ PV.out qm) BV.out.1)⟩
              clear K10 I10 H10 H9 K9 I9 X9 PV hj
              go_wp2
              go_ret
              exact Q.out
            · obtain rfl : z = false := HZ.out.trans (sB_no hj)
              have Q : Hid (RetA N B b s a (.returned (.int .i64 0)) z1 ∧ Blw N B w z1) := ⟨retA_reply hk qm HA.out HU.out HE.out HX.out (by rw [HW5.out]; unfold Ro.hear; rw [if_neg (fun z => hj (HNE.out ▸ z))]) (PV.out.chQ qm H9.out K9.out I9.out O8.out).sv, BV.out.2.trans (H9.out.toBlw (PR.geQ PV.out qm) BV.out.1)⟩
              clear H9 K9 I9 X9 PV hj
              go_wp2
              go_ret
              exact Q.out
        · have heb : ((s.Q q).en != -1) = true := by simp; exact he
          have Q : Hid (RetA N B b s a (.returned (.int .i64 9)) v ∧ Blw N B w v) := ⟨⟨s, 9, .reply2 k q hk HA.out.2.1 HA.out.1 qm HA.out.2.2 HU.out (.inl he), rfl, PV.out.sv⟩, BV.out.2⟩
          clear PV KY BV NP RS he HU
          go_wp2
          go_ret
          exact Q.out
end Go.Proofs.Ytdoacpnjggdojaa

/-
  The quorum's acts at the program's service: restart.
-/
namespace Go.Proofs.Ytdoacpnjggdojaa
open Go.ChangeShapes Go.WideShapes Go.ChangeAt Go.RowKit
set_option linter.unusedVariables false

/-- What a restart hands back. -/
def RetV (N : Nat → Prop) (B b : Nat) (s : Sv) (a : Qa) (e : Ending) (w' : World) : Prop := ∃ s', ActS s a s' 0 ∧ e = .returned (.tuple #[]) ∧ SvX N w' B b s'
theorem RetV.below {N : Nat → Prop} {B b : Nat} {s : Sv} {a : Qa} {e : Ending} {w w' : World} (h : RetV N B b s a e w) (hb : Below w.heap.size w w') : RetV N B b s a e w' := by
  obtain ⟨s', h1, h2, h3⟩ := h
  exact ⟨s', h1, h2, h3.below hb⟩
theorem retV_one {N : Nat → Prop} {w : World} {B b : Nat} {s : Sv} {a : Qa} {k : Nat} {z : Bool} (hk : k < s.n) (hA : a.k = 6 ∧ a.r = k ∧ z = sB (a.n = 1)) (hm : ¬ (0 < s.m ∧ (s.W (s.m - 1)).en = -1)) (h : SvX N w B b { s with R := updE s.R k ((s.R k).boot z) }) : RetV N B b s a (.returned (.tuple #[])) w := by
  rw [hA.2.2] at h
  exact ⟨_, .restart k hk hA.2.1 hA.1 hm, rfl, h⟩
theorem retV_two {N : Nat → Prop} {w : World} {B b : Nat} {s : Sv} {a : Qa} {k p : Nat} {z : Bool} {x : Wo} (hp : p = s.m - 1) (hm : p < s.m) (hk : k < s.n) (hA : a.k = 6 ∧ a.r = k ∧ z = sB (a.n = 1)) (he : (s.W p).en = -1) (hx : x = (s.W p).lose k) (h : SvX N w B b { s with R := updE s.R k ((s.R k).boot z), W := updE s.W p x }) : RetV N B b s a (.returned (.tuple #[])) w := by
  subst hp
  subst hx
  rw [hA.2.2] at h
  exact ⟨_, .restartW k hk hA.2.1 hA.1 (by omega) he, rfl, h⟩
theorem RkR.reset {w : World} {B g c n : Nat} {R : Nat → Rp} {V : Nat → Value} {k : Nat} {r : Rp} {v : Value} (h : RkR w B g c n R V k r v) (hk : k < n) (x y : Int) : RkR ((((w.setCell ⟨g, k * 8, none⟩ (.bool true)).setCell ⟨g, k * 8 + 5, none⟩ (.slice none 0 0)).setCell ⟨g, k * 8 + 6, none⟩ (.int .i64 x)).setCell ⟨g, k * 8 + 7, none⟩ (.int .i64 y)) B g c n R V k { r with mute := true, ne := 0, bc := x, bt := y } (.slice none 0 0) :=
  ((h.setM hk true).setE hk (.slice none 0 0) 0 r.E).best hk x y
set_option maxRecDepth 100000 in
set_option maxHeartbeats 4000000 in
theorem restart_v {N : Nat → Prop} (B b : Nat) (s : Sv) (a : Qa) (k : Nat) (back : Bool) (hk : k < s.n) (ha : a.k = 6) (hr : a.r = k) (hz : back = sB (a.n = 1)) (ok : s.Ok) (w : World) (hB : B ≤ w.heap.size) (h : SvX N w B b s) :
    Calls Try.prog 104 #[.pointer (some ⟨b, 0, none⟩), .int .i64 (k : Int), .bool back] w fun e w' => RetV N B b s a e w' ∧ Blw N B w w' := by
  obtain ⟨vr, vw, vq, VR, VW, VQ, P⟩ := h.p
  clear h
  have b0 := P.x.lt
  obtain ⟨ra, rc, rfl⟩ := P.o.r.form
  obtain ⟨wa, wc, rfl⟩ := P.o.x.form
  have klt : (k : Int) < (s.n : Int) := by omega
  have hb : Below w.heap.size w (w.alloc (.cells #[.int .i64 (k : Int)] 3)) := (Below.refl _ _).alloc (Nat.le_refl _) _
  obtain ⟨gr, rfl, gB, gl, KR⟩ := RkR.start P.o.r hk
  have PV : Hid (SvP N (w.alloc (.cells #[.int .i64 (k : Int)] 3)) B b s (.slice (some ⟨gr, 0, none⟩) s.n rc) (.slice wa s.m wc) vq VR VW VQ) := P.below hb
  have KRH : Hid (RkR (w.alloc (.cells #[.int .i64 (k : Int)] 3)) B gr rc s.n s.R VR k (s.R k) (VR k)) := KR.below hb
  have XK : Hid (BoxN (w.alloc (.cells #[.int .i64 (k : Int)] 3)) w.heap.size (k : Int)) := BoxN.made w _
  have BV : Hid (B ≤ (w.alloc (.cells #[.int .i64 (k : Int)] 3)).heap.size ∧ Blw N B w (w.alloc (.cells #[.int .i64 (k : Int)] 3))) := ⟨Nat.le_trans hB hb.size, blw_of hb hB⟩
  have SZ : Hid (w.heap.size < (w.alloc (.cells #[.int .i64 (k : Int)] 3)).heap.size) := by show _ < _; simp
  have HA : Hid (a.k = 6 ∧ a.r = k ∧ back = sB (a.n = 1)) := ⟨ha, hr, hz⟩
  have OK : Hid s.Ok := ok
  have NK : Hid (∀ q i, (q < s.n ∧ (VR q).ownBlock = some i) ∨ (q < s.m ∧ (VW q).ownBlock = some i) → w.heap.size ≠ i) := fun q i z e => by
    rcases z with ⟨h1, h2⟩ | ⟨h1, h2⟩
    · have := (EO.ge (P.o.e q h1) i h2).2; omega
    · have := (EO.ge (P.o.a q h1) i h2).2; omega
  have NG : Hid (gr ≠ w.heap.size ∧ b ≠ w.heap.size) := ⟨by omega, by omega⟩
  clear P KR hb ok ha hr hz
  go_enter Try.func104, Try.ntmps104
  go_upto_region 1 with fail
  generalize (w.alloc (.cells #[.int .i64 (k : Int)] 3)) = v at *
  obtain ⟨kb, hkb⟩ : ∃ x, x = w.heap.size := ⟨_, rfl⟩
  have HKB : Hid (kb = w.heap.size) := hkb
  rw [← hkb] at XK SZ NK NG ⊢
  clear hkb
  have c0 := PV.out.x.c0
  have x0 := XK.out.c0
  go_quiet (fail)
  clear c0 x0
  generalize hv : v.drewN nq = v1 at *
  have hb : Below v.heap.size v v1 := hv ▸ below_dN v nq
  clear hv
  replace PV : Hid (SvP N v1 B b s (.slice (some ⟨gr, 0, none⟩) s.n rc) (.slice wa s.m wc) vq VR VW VQ) := PV.out.below hb
  replace KRH : Hid (RkR v1 B gr rc s.n s.R VR k (s.R k) (VR k)) := KRH.out.below hb
  replace XK : Hid (BoxN v1 kb (k : Int)) := World.rowIs.of_block XK.out (hb.block kb SZ.out)
  replace SZ : Hid (kb < v1.heap.size) := Nat.lt_of_lt_of_le SZ.out hb.size
  replace BV : Hid (B ≤ v1.heap.size ∧ Blw N B w v1) := ⟨Nat.le_trans BV.out.1 hb.size, BV.out.2.trans (blw_of hb BV.out.1)⟩
  clear hb v
  cases back with
  | true =>
    have t1 : v1.cell? ⟨gr, k * 8 + 1, none⟩ = some (.int .i64 (s.R k).nc) := KRH.out.c hk 1 (by omega)
    have t2 : v1.cell? ⟨gr, k * 8 + 2, none⟩ = some (.int .i64 (s.R k).nt) := KRH.out.c hk 2 (by omega)
    have t3 : v1.cell? ⟨gr, k * 8 + 3, none⟩ = some (.int .i64 (s.R k).sc) := KRH.out.c hk 3 (by omega)
    have t4 : v1.cell? ⟨gr, k * 8 + 4, none⟩ = some (.int .i64 (s.R k).st) := KRH.out.c hk 4 (by omega)
    have f1 := KRH.out.fr hk 1 (by omega)
    have f2 := KRH.out.fr hk 2 (by omega)
    have K2 : Hid (RkR ((v1.setCell ⟨gr, k * 8 + 1, none⟩ (.int .i64 (s.R k).sc)).setCell ⟨gr, k * 8 + 2, none⟩ (.int .i64 (s.R k).st)) B gr rc s.n s.R VR k { s.R k with nc := (s.R k).sc, nt := (s.R k).st } (VR k)) := KRH.out.now hk _ _
    have H2 : Hid (ChB (PR (.slice (some ⟨gr, 0, none⟩) s.n rc) VR k) v1 ((v1.setCell ⟨gr, k * 8 + 1, none⟩ (.int .i64 (s.R k).sc)).setCell ⟨gr, k * 8 + 2, none⟩ (.int .i64 (s.R k).st))) := ((ChB.refl _ _).at gr (.inl (.inl rfl)) _ _).at gr (.inl (.inl rfl)) _ _
    go_upto_region 4 with fail
    generalize ((v1.setCell ⟨gr, k * 8 + 1, none⟩ (.int .i64 (s.R k).sc)).setCell ⟨gr, k * 8 + 2, none⟩ (.int .i64 (s.R k).st)) = v2 at *
    clear t1 t2 t3 t4 f1 f2
    have t0 : v2.cell? ⟨gr, k * 8, none⟩ = some (.bool (s.R k).mute) := K2.out.c hk 0 (by omega)
    have t1 : v2.cell? ⟨gr, k * 8 + 1, none⟩ = some (.int .i64 (s.R k).sc) := K2.out.c hk 1 (by omega)
    have t2 : v2.cell? ⟨gr, k * 8 + 2, none⟩ = some (.int .i64 (s.R k).st) := K2.out.c hk 2 (by omega)
    have t5 : v2.cell? ⟨gr, k * 8 + 5, none⟩ = some (VR k) := K2.out.c hk 5 (by omega)
    have t6 : v2.cell? ⟨gr, k * 8 + 6, none⟩ = some (.int .i64 (s.R k).bc) := K2.out.c hk 6 (by omega)
    have t7 : v2.cell? ⟨gr, k * 8 + 7, none⟩ = some (.int .i64 (s.R k).bt) := K2.out.c hk 7 (by omega)
    have f0 : v2.frozen? ⟨gr, k * 8, none⟩ = false := K2.out.fr hk 0 (by omega)
    have f5 := K2.out.fr hk 5 (by omega)
    have f6 := K2.out.fr hk 6 (by omega)
    have f7 := K2.out.fr hk 7 (by omega)
    have K3 : Hid (RkR ((((v2.setCell ⟨gr, k * 8, none⟩ (.bool true)).setCell ⟨gr, k * 8 + 5, none⟩ (.slice none 0 0)).setCell ⟨gr, k * 8 + 6, none⟩ (.int .i64 (s.R k).sc)).setCell ⟨gr, k * 8 + 7, none⟩ (.int .i64 (s.R k).st)) B gr rc s.n s.R VR k ((s.R k).boot true) (.slice none 0 0)) := K2.out.reset hk (s.R k).sc (s.R k).st
    have H3 : Hid (ChB (PR (.slice (some ⟨gr, 0, none⟩) s.n rc) VR k) v1 ((((v2.setCell ⟨gr, k * 8, none⟩ (.bool true)).setCell ⟨gr, k * 8 + 5, none⟩ (.slice none 0 0)).setCell ⟨gr, k * 8 + 6, none⟩ (.int .i64 (s.R k).sc)).setCell ⟨gr, k * 8 + 7, none⟩ (.int .i64 (s.R k).st))) := (((H2.out.at gr (.inl (.inl rfl)) _ _).at gr (.inl (.inl rfl)) _ _).at gr (.inl (.inl rfl)) _ _).at gr (.inl (.inl rfl)) _ _
    clear K2 H2
    go_upto_region 5 with fail
    generalize ((((v2.setCell ⟨gr, k * 8, none⟩ (.bool true)).setCell ⟨gr, k * 8 + 5, none⟩ (.slice none 0 0)).setCell ⟨gr, k * 8 + 6, none⟩ (.int .i64 (s.R k).sc)).setCell ⟨gr, k * 8 + 7, none⟩ (.int .i64 (s.R k).st)) = v3 at *
    clear t0 t1 t2 t5 t6 t7 f0 f5 f6 f7
    have P3 : Hid (SvP N v3 B b { s with R := updE s.R k ((s.R k).boot true) } (.slice (some ⟨gr, 0, none⟩) s.n rc) (.slice wa s.m wc) vq (updE VR k (.slice none 0 0)) VW VQ) := PV.out.chR hk H3.out K3.out (by cases hq : (s.R k).mute <;> exact EO.nil _ _ _ _ _) (fun g e => by cases e)
    have X3 : Hid (BoxN v3 kb (k : Int)) := World.rowIs.of_block XK.out (H3.out.block kb SZ.out (fun z => (show _ ∨ _ from z).elim (fun z => NG.out.1 (by cases z; rfl)) (fun z => NK.out k kb (.inl ⟨hk, z⟩) rfl)))
    have BY : Hid (B ≤ v3.heap.size ∧ Blw N B w v3) := ⟨Nat.le_trans BV.out.1 H3.out.size, BV.out.2.trans (H3.out.toBlw (PR.geR PV.out hk) BV.out.1)⟩
    clear PV KRH XK BV H3 K3 SZ
    have c2 := P3.out.x.c2
    by_cases hm : s.m = 0
    · have Q : Hid (RetV N B b s a (.returned (.tuple #[])) v3 ∧ Blw N B w v3) := ⟨retV_one hk HA.out (by omega) P3.out.sv, BY.out.2⟩
      rw [hm] at c2
      clear P3 X3 BY OK HA NK NG hm
      go_wp2
      refine bodyPost_ret (results_none rfl _ _ _) rfl ?_
      exact Q.out
    · obtain ⟨p, hp⟩ : ∃ p, p = s.m - 1 := ⟨_, rfl⟩
      have pm : p < s.m := by omega
      have ep : (s.m : Int) - 1 = (p : Int) := by omega
      have plt : (p : Int) < (s.m : Int) := by omega
      have m0 : ((s.m : Int) == 0) = false := by simp; omega
      have m200 : s.m ≤ 200 := OK.out.1.2.2.1
      have pw : IntKind.i64.wrap (p : Int) = (p : Int) := IntWalk.i64_in _ (by omega)
      have HP : Hid (p = s.m - 1) := hp
      obtain ⟨gw, rfl, wB, wl, KW⟩ := RkW.start P3.out.o.x pm
      have KWH : Hid (RkW v3 B gw wc s.m s.W VW p (s.W p) (VW p)) := KW
      clear KW hp
      go_wp2_with fail
      go_quiet (fail)
      clear c2
      generalize hv : v3.drewN _ = v4 at *
      have hb : Below v3.heap.size v3 v4 := hv ▸ below_dN v3 _
      clear hv
      have P4 : Hid (SvP N v4 B b { s with R := updE s.R k ((s.R k).boot true) } (.slice (some ⟨gr, 0, none⟩) s.n rc) (.slice (some ⟨gw, 0, none⟩) s.m wc) vq (updE VR k (.slice none 0 0)) VW VQ) := P3.out.below hb
      have K4 : Hid (RkW v4 B gw wc s.m s.W VW p (s.W p) (VW p)) := KWH.out.below hb
      have X4 : Hid (BoxN v4 kb (k : Int)) := World.rowIs.of_block X3.out (hb.block kb (World.rowIs.lt X3.out))
      replace BY : Hid (B ≤ v4.heap.size ∧ Blw N B w v4) := ⟨Nat.le_trans BY.out.1 hb.size, BY.out.2.trans (blw_of hb BY.out.1)⟩
      clear P3 KWH X3 hb
      have q4 : v4.cell? ⟨gw, p * 5 + 4, none⟩ = some (.int .i64 (s.W p).en) := K4.out.c pm 4 (by omega)
      by_cases he : (s.W p).en = -1
      · have HE : Hid ((s.W p).en = -1) := he
        rw [he] at q4
        clear he
        have IW : IE v4 B (VW p) (s.W p).ne (s.W p).E := P4.out.o.a p pm
        obtain ⟨la, lcap, eV⟩ := EO.form IW
        have EV : Hid (VW p = .slice la (s.W p).ne lcap) := eV
        have DH : Hid (Calls Try.prog 119 #[.slice la (s.W p).ne lcap, .func (.func 120) #[] #[.pointer (some ⟨kb, 0, none⟩)]] v4 fun e w' => RetDl v4 B la (s.W p).ne lcap (s.W p).E k e w') := dropI_any s.n B la (s.W p).ne lcap (s.W p).E k kb (OK.out.2.1 p pm).2.2.2.1 (by have := ids_le (OK.out.2.1 p pm).2.2.2.1; have := OK.out.1.1.2; omega) v4 X4.out.c0 (fun g e => NK.out p g (.inr ⟨pm, by rw [eV]; exact e⟩)) (by rw [← eV]; exact IW)
        have q2 : v4.cell? ⟨gw, p * 5 + 2, none⟩ = some (.slice la (s.W p).ne lcap) := by have := K4.out.c pm 2 (by omega); rw [← eV]; exact this
        clear IW eV X4
        go_wp2_with fail
        refine DH.out.mono ?_
        rintro e v5 ⟨⟨rfl, hI⟩, hg⟩
        rw [← EV.out] at hg
        have gne : ∀ u, (VW p).ownBlock = some u → u ≠ gw := fun u e z => EO.apart (P4.out.o.a p pm) P4.out.o.x (by decide) u e (by rw [z]; rfl)
        have H5 : ChB (PR (.slice (some ⟨gw, 0, none⟩) s.m wc) VW p) v4 v5 := (ChB.refl _ _).grown hg (fun g e => .inl (.inr e))
        have K5 : Hid (RkW v5 B gw wc s.m s.W VW p (s.W p) (VW p)) := K4.out.keep (hg.block gw K4.out.lt.2 (fun e => gne gw e.symm rfl))
        have f2 := K5.out.fr pm 2 (by omega)
        have g2 : v5.cell? ⟨gw, p * 5 + 2, none⟩ = some (VW p) := K5.out.c pm 2 (by omega)
        have K6 := K5.out.setE pm (.slice la (subE (s.W p).ne (s.W p).E k).1 lcap) (subE (s.W p).ne (s.W p).E k).1 (subE (s.W p).ne (s.W p).E k).2
        have I6 := IE.setOther hI K5.out (by decide) (p * 5 + 2) (.slice la (subE (s.W p).ne (s.W p).E k).1 lcap)
        have H6 := H5.at gw (.inl (.inl rfl)) (p * 5 + 2) (.slice la (subE (s.W p).ne (s.W p).E k).1 lcap)
        have Q : Hid (RetV N B b s a (.returned (.tuple #[])) (v5.setCell ⟨gw, p * 5 + 2, none⟩ (.slice la (subE (s.W p).ne (s.W p).E k).1 lcap)) ∧ Blw N B w (v5.setCell ⟨gw, p * 5 + 2, none⟩ (.slice la (subE (s.W p).ne (s.W p).E k).1 lcap))) := ⟨retV_two HP.out pm hk HA.out HE.out rfl (P4.out.chW pm H6 K6 I6 (fun g e => .inl (by rw [EV.out]; cases la <;> exact e))).sv, BY.out.2.trans (H6.toBlw (PR.geW P4.out pm) BY.out.1)⟩
        clear K6 I6 H6 hI hg gne H5 K5 K4 P4 DH q2 q4 BY EV NK
        generalize (subE (s.W p).ne (s.W p).E k).1 = ne' at *
        go_wp2
        go_end0
        exact Q.out
      · have heb : ((s.W p).en == -1) = false := by simp; exact he
        have Q : Hid (RetV N B b s a (.returned (.tuple #[])) v4 ∧ Blw N B w v4) := ⟨retV_one hk HA.out (fun z => he (by rw [HP.out]; exact z.2)) P4.out.sv, BY.out.2⟩
        clear P4 K4 X4 BY OK HA NK NG he
        go_wp2
        go_end0
        exact Q.out
  | false =>
    have K2 : Hid (RkR v1 B gr rc s.n s.R VR k (s.R k) (VR k)) := KRH.out
    have H2 : Hid (ChB (PR (.slice (some ⟨gr, 0, none⟩) s.n rc) VR k) v1 v1) := ChB.refl _ _
    go_upto_region 4 with fail
    have t0 : v1.cell? ⟨gr, k * 8, none⟩ = some (.bool (s.R k).mute) := K2.out.c hk 0 (by omega)
    have t1 : v1.cell? ⟨gr, k * 8 + 1, none⟩ = some (.int .i64 (s.R k).nc) := K2.out.c hk 1 (by omega)
    have t2 : v1.cell? ⟨gr, k * 8 + 2, none⟩ = some (.int .i64 (s.R k).nt) := K2.out.c hk 2 (by omega)
    have t5 : v1.cell? ⟨gr, k * 8 + 5, none⟩ = some (VR k) := K2.out.c hk 5 (by omega)
    have t6 : v1.cell? ⟨gr, k * 8 + 6, none⟩ = some (.int .i64 (s.R k).bc) := K2.out.c hk 6 (by omega)
    have t7 : v1.cell? ⟨gr, k * 8 + 7, none⟩ = some (.int .i64 (s.R k).bt) := K2.out.c hk 7 (by omega)
    have f0 : v1.frozen? ⟨gr, k * 8, none⟩ = false := K2.out.fr hk 0 (by omega)
    have f5 := K2.out.fr hk 5 (by omega)
    have f6 := K2.out.fr hk 6 (by omega)
    have f7 := K2.out.fr hk 7 (by omega)
    have K3 : Hid (RkR ((((v1.setCell ⟨gr, k * 8, none⟩ (.bool true)).setCell ⟨gr, k * 8 + 5, none⟩ (.slice none 0 0)).setCell ⟨gr, k * 8 + 6, none⟩ (.int .i64 (s.R k).nc)).setCell ⟨gr, k * 8 + 7, none⟩ (.int .i64 (s.R k).nt)) B gr rc s.n s.R VR k ((s.R k).boot false) (.slice none 0 0)) := K2.out.reset hk (s.R k).nc (s.R k).nt
    have H3 : Hid (ChB (PR (.slice (some ⟨gr, 0, none⟩) s.n rc) VR k) v1 ((((v1.setCell ⟨gr, k * 8, none⟩ (.bool true)).setCell ⟨gr, k * 8 + 5, none⟩ (.slice none 0 0)).setCell ⟨gr, k * 8 + 6, none⟩ (.int .i64 (s.R k).nc)).setCell ⟨gr, k * 8 + 7, none⟩ (.int .i64 (s.R k).nt))) := (((H2.out.at gr (.inl (.inl rfl)) _ _).at gr (.inl (.inl rfl)) _ _).at gr (.inl (.inl rfl)) _ _).at gr (.inl (.inl rfl)) _ _
    clear K2 H2
    go_upto_region 5 with fail
    generalize ((((v1.setCell ⟨gr, k * 8, none⟩ (.bool true)).setCell ⟨gr, k * 8 + 5, none⟩ (.slice none 0 0)).setCell ⟨gr, k * 8 + 6, none⟩ (.int .i64 (s.R k).nc)).setCell ⟨gr, k * 8 + 7, none⟩ (.int .i64 (s.R k).nt)) = v3 at *
    clear t0 t1 t2 t5 t6 t7 f0 f5 f6 f7
    have P3 : Hid (SvP N v3 B b { s with R := updE s.R k ((s.R k).boot false) } (.slice (some ⟨gr, 0, none⟩) s.n rc) (.slice wa s.m wc) vq (updE VR k (.slice none 0 0)) VW VQ) := PV.out.chR hk H3.out K3.out (by cases hq : (s.R k).mute <;> exact EO.nil _ _ _ _ _) (fun g e => by cases e)
    have X3 : Hid (BoxN v3 kb (k : Int)) := World.rowIs.of_block XK.out (H3.out.block kb SZ.out (fun z => (show _ ∨ _ from z).elim (fun z => NG.out.1 (by cases z; rfl)) (fun z => NK.out k kb (.inl ⟨hk, z⟩) rfl)))
    have BY : Hid (B ≤ v3.heap.size ∧ Blw N B w v3) := ⟨Nat.le_trans BV.out.1 H3.out.size, BV.out.2.trans (H3.out.toBlw (PR.geR PV.out hk) BV.out.1)⟩
    clear PV KRH XK BV H3 K3 SZ
    have c2 := P3.out.x.c2
    by_cases hm : s.m = 0
    · have Q : Hid (RetV N B b s a (.returned (.tuple #[])) v3 ∧ Blw N B w v3) := ⟨retV_one hk HA.out (by omega) P3.out.sv, BY.out.2⟩
      rw [hm] at c2
      clear P3 X3 BY OK HA NK NG hm
      go_wp2
      refine bodyPost_ret (results_none rfl _ _ _) rfl ?_
      exact Q.out
    · obtain ⟨p, hp⟩ : ∃ p, p = s.m - 1 := ⟨_, rfl⟩
      have pm : p < s.m := by omega
      have ep : (s.m : Int) - 1 = (p : Int) := by omega
      have plt : (p : Int) < (s.m : Int) := by omega
      have m0 : ((s.m : Int) == 0) = false := by simp; omega
      have m200 : s.m ≤ 200 := OK.out.1.2.2.1
      have pw : IntKind.i64.wrap (p : Int) = (p : Int) := IntWalk.i64_in _ (by omega)
      have HP : Hid (p = s.m - 1) := hp
      obtain ⟨gw, rfl, wB, wl, KW⟩ := RkW.start P3.out.o.x pm
      have KWH : Hid (RkW v3 B gw wc s.m s.W VW p (s.W p) (VW p)) := KW
      clear KW hp
      go_wp2_with fail
      go_quiet (fail)
      clear c2
      generalize hv : v3.drewN _ = v4 at *
      have hb : Below v3.heap.size v3 v4 := hv ▸ below_dN v3 _
      clear hv
      have P4 : Hid (SvP N v4 B b { s with R := updE s.R k ((s.R k).boot false) } (.slice (some ⟨gr, 0, none⟩) s.n rc) (.slice (some ⟨gw, 0, none⟩) s.m wc) vq (updE VR k (.slice none 0 0)) VW VQ) := P3.out.below hb
      have K4 : Hid (RkW v4 B gw wc s.m s.W VW p (s.W p) (VW p)) := KWH.out.below hb
      have X4 : Hid (BoxN v4 kb (k : Int)) := World.rowIs.of_block X3.out (hb.block kb (World.rowIs.lt X3.out))
      replace BY : Hid (B ≤ v4.heap.size ∧ Blw N B w v4) := ⟨Nat.le_trans BY.out.1 hb.size, BY.out.2.trans (blw_of hb BY.out.1)⟩
      clear P3 KWH X3 hb
      have q4 : v4.cell? ⟨gw, p * 5 + 4, none⟩ = some (.int .i64 (s.W p).en) := K4.out.c pm 4 (by omega)
      by_cases he : (s.W p).en = -1
      · have HE : Hid ((s.W p).en = -1) := he
        rw [he] at q4
        clear he
        have IW : IE v4 B (VW p) (s.W p).ne (s.W p).E := P4.out.o.a p pm
        obtain ⟨la, lcap, eV⟩ := EO.form IW
        have EV : Hid (VW p = .slice la (s.W p).ne lcap) := eV
        have DH : Hid (Calls Try.prog 119 #[.slice la (s.W p).ne lcap, .func (.func 120) #[] #[.pointer (some ⟨kb, 0, none⟩)]] v4 fun e w' => RetDl v4 B la (s.W p).ne lcap (s.W p).E k e w') := dropI_any s.n B la (s.W p).ne lcap (s.W p).E k kb (OK.out.2.1 p pm).2.2.2.1 (by have := ids_le (OK.out.2.1 p pm).2.2.2.1; have := OK.out.1.1.2; omega) v4 X4.out.c0 (fun g e => NK.out p g (.inr ⟨pm, by rw [eV]; exact e⟩)) (by rw [← eV]; exact IW)
        have q2 : v4.cell? ⟨gw, p * 5 + 2, none⟩ = some (.slice la (s.W p).ne lcap) := by have := K4.out.c pm 2 (by omega); rw [← eV]; exact this
        clear IW eV X4
        go_wp2_with fail
        refine DH.out.mono ?_
        rintro e v5 ⟨⟨rfl, hI⟩, hg⟩
        rw [← EV.out] at hg
        have gne : ∀ u, (VW p).ownBlock = some u → u ≠ gw := fun u e z => EO.apart (P4.out.o.a p pm) P4.out.o.x (by decide) u e (by rw [z]; rfl)
        have H5 : ChB (PR (.slice (some ⟨gw, 0, none⟩) s.m wc) VW p) v4 v5 := (ChB.refl _ _).grown hg (fun g e => .inl (.inr e))
        have K5 : Hid (RkW v5 B gw wc s.m s.W VW p (s.W p) (VW p)) := K4.out.keep (hg.block gw K4.out.lt.2 (fun e => gne gw e.symm rfl))
        have f2 := K5.out.fr pm 2 (by omega)
        have g2 : v5.cell? ⟨gw, p * 5 + 2, none⟩ = some (VW p) := K5.out.c pm 2 (by omega)
        have K6 := K5.out.setE pm (.slice la (subE (s.W p).ne (s.W p).E k).1 lcap) (subE (s.W p).ne (s.W p).E k).1 (subE (s.W p).ne (s.W p).E k).2
        have I6 := IE.setOther hI K5.out (by decide) (p * 5 + 2) (.slice la (subE (s.W p).ne (s.W p).E k).1 lcap)
        have H6 := H5.at gw (.inl (.inl rfl)) (p * 5 + 2) (.slice la (subE (s.W p).ne (s.W p).E k).1 lcap)
        have Q : Hid (RetV N B b s a (.returned (.tuple #[])) (v5.setCell ⟨gw, p * 5 + 2, none⟩ (.slice la (subE (s.W p).ne (s.W p).E k).1 lcap)) ∧ Blw N B w (v5.setCell ⟨gw, p * 5 + 2, none⟩ (.slice la (subE (s.W p).ne (s.W p).E k).1 lcap))) := ⟨retV_two HP.out pm hk HA.out HE.out rfl (P4.out.chW pm H6 K6 I6 (fun g e => .inl (by rw [EV.out]; cases la <;> exact e))).sv, BY.out.2.trans (H6.toBlw (PR.geW P4.out pm) BY.out.1)⟩
        clear K6 I6 H6 hI hg gne H5 K5 K4 P4 DH q2 q4 BY EV NK
        generalize (subE (s.W p).ne (s.W p).E k).1 = ne' at *
        go_wp2
        go_end0
        exact Q.out
      · have heb : ((s.W p).en == -1) = false := by simp; exact he
        have Q : Hid (RetV N B b s a (.returned (.tuple #[])) v4 ∧ Blw N B w v4) := ⟨retV_one hk HA.out (fun z => he (by rw [HP.out]; exact z.2)) P4.out.sv, BY.out.2⟩
        clear P4 K4 X4 BY OK HA NK NG he
        go_wp2
        go_end0
        exact Q.out
end Go.Proofs.Ytdoacpnjggdojaa

/-
  The quorum's acts at the program's service: echo.
-/
namespace Go.Proofs.Ytdoacpnjggdojaa
open Go.ChangeShapes Go.WideShapes Go.ChangeAt Go.RowKit
set_option linter.unusedVariables false

/-- One block has changed, but not two cells of it. -/
def SEc (v : World) (g f : Nat) (c t : Int) (w' : World) : Prop := ChB (PG g) v w' ∧ w'.cell? ⟨g, f * 8 + 1, none⟩ = some (.int .i64 c) ∧ w'.cell? ⟨g, f * 8 + 2, none⟩ = some (.int .i64 t)
theorem SEc.below {v w w' : World} {g f : Nat} {c t : Int} (h : SEc v g f c t w) (hb : Below w.heap.size w w') : SEc v g f c t w' := ⟨h.1.step hb, (hb.cell (strBlock h.2.1)).trans h.2.1, (hb.cell (strBlock h.2.2)).trans h.2.2⟩
theorem SEc.at {v w : World} {g f : Nat} {c t : Int} (h : SEc v g f c t w) {i : Nat} (h1 : i ≠ f * 8 + 1) (h2 : i ≠ f * 8 + 2) (u : Value) : SEc v g f c t (w.setCell ⟨g, i, none⟩ u) :=
  ⟨h.1.at g (.inl rfl) i u, (World.cell?_setCell_other _ ⟨g, i, none⟩ ⟨g, f * 8 + 1, none⟩ _ (fun q => h1 (congrArg Addr.off q))).trans h.2.1, (World.cell?_setCell_other _ ⟨g, i, none⟩ ⟨g, f * 8 + 2, none⟩ _ (fun q => h2 (congrArg Addr.off q))).trans h.2.2⟩
theorem retA_echo {N : Nat → Prop} {w : World} {B b : Nat} {s : Sv} {a : Qa} {k f : Nat} {x : Rp} (hk : k < s.n) (hf : f < s.n) (hA : a.k = 7 ∧ a.r = k ∧ a.n = f) (hu : (s.R k).mute = true) (hne : f ≠ k) (hv : (s.R f).mute = false) (hn : ¬ hasE (s.R k).ne (s.R k).E f) (hx : x = (s.R k).echo s.n f (s.R f).nc (s.R f).nt) (h : SvX N w B b { s with R := updE s.R k x }) : RetA N B b s a (.returned (.int .i64 0)) w := by
  subst hx
  exact ⟨_, 0, .echo k f hk hA.2.1 hA.1 hu hf hA.2.2 hne hv hn, rfl, h⟩
theorem RkR.wakes {w : World} {B g c n : Nat} {R : Nat → Rp} {V : Nat → Value} {k : Nat} {r : Rp} {v : Value} (h : RkR w B g c n R V k r v) (hk : k < n) : RkR ((((w.setCell ⟨g, k * 8 + 1, none⟩ (.int .i64 r.bc)).setCell ⟨g, k * 8 + 2, none⟩ (.int .i64 r.bt)).setCell ⟨g, k * 8, none⟩ (.bool false)).setCell ⟨g, k * 8 + 5, none⟩ (.slice none 0 0)) B g c n R V k r.wake (.slice none 0 0) :=
  ((h.now hk r.bc r.bt).setM hk false).setE hk (.slice none 0 0) 0 r.E
set_option maxRecDepth 100000 in
set_option maxHeartbeats 8000000 in
theorem echo_v {N : Nat → Prop} (B b : Nat) (s : Sv) (a : Qa) (k : Nat) (hk : k < s.n) (ha : a.k = 7) (hr : a.r = k) (ok : s.Ok) (w : World) (hB : B ≤ w.heap.size) (h : SvX N w B b s) :
    Calls Try.prog 105 #[.pointer (some ⟨b, 0, none⟩), .int .i64 (k : Int), .int .i64 a.n] w fun e w' => RetA N B b s a e w' ∧ Blw N B w w' := by
  obtain ⟨vr, vw, vq, VR, VW, VQ, P⟩ := h.p
  clear h
  obtain ⟨qa, qc, rfl⟩ := P.o.q.form
  obtain ⟨ra, rc, rfl⟩ := P.o.r.form
  obtain ⟨wa, wc, rfl⟩ := P.o.x.form
  have klt : (k : Int) < (s.n : Int) := by omega
  obtain ⟨gr, rfl, gB, gl, KR⟩ := RkR.start P.o.r hk
  have c0 := P.x.c0
  have m0 : w.cell? ⟨gr, k * 8, none⟩ = some (.bool (s.R k).mute) := KR.c hk 0 (by omega)
  cases hu : (s.R k).mute with
  | false =>
    have Q : Hid (RetA N B b s a (.returned (.int .i64 9)) w) := ⟨s, 9, .echo0 k hk hr ha hu, rfl, P.sv⟩
    rw [hu] at m0
    clear P ok hr ha KR hu
    go_enter Try.func105, Try.ntmps105
    go_wp2
    go_ret
    exact ⟨Q.out, Blw.refl _ _ _⟩
  | true =>
  rw [hu] at m0
  have HU : Hid ((s.R k).mute = true) := hu
  have OK : Hid s.Ok := ok
  have B0 : Hid (B ≤ w.heap.size) := hB
  have PP : Hid (SvP N w B b s (.slice (some ⟨gr, 0, none⟩) s.n rc) (.slice wa s.m wc) (.slice qa s.l qc) VR VW VQ) := P
  have HAS : Hid (∀ z : Bool, z = sB (0 ≤ a.n ∧ a.n < (s.n : Int)) → Calls Try.prog 76 #[.agg #[.slice (some ⟨gr, 0, none⟩) s.n rc, .int .i64 s.t, .slice wa s.m wc, .slice qa s.l qc], .int .i64 a.n] w fun e w' => e = .returned (.bool z) ∧ Below w.heap.size w w') := fun z hz => has_v s ⟨some ⟨gr, 0, none⟩, wa, qa, fun _ => none, fun _ => none, fun _ => none, fun _ => 0, fun _ => 0, fun _ => 0, rc, wc, qc⟩ a.n z hz w
  have c1 := P.x.c1
  have c2 := P.x.c2
  have c3 := P.x.c3
  by_cases hin : ¬ (0 ≤ a.n ∧ a.n < (s.n : Int))
  · have Q : Hid (RetA N B b s a (.returned (.int .i64 4)) w) := ⟨s, 4, .echo1 k hk hr ha hu (.inl hin), rfl, P.sv⟩
    have HS1 : Hid (Calls Try.prog 76 #[.agg #[.slice (some ⟨gr, 0, none⟩) s.n rc, .int .i64 s.t, .slice wa s.m wc, .slice qa s.l qc], .int .i64 a.n] w fun e w' => e = .returned (.bool false) ∧ Below w.heap.size w w') := HAS.out false (sB_no hin).symm
    clear P PP ok hr ha KR hu hin HAS HU OK
    go_enter Try.func105, Try.ntmps105
    go_wp2_with fail
    refine HS1.out.mono ?_
    rintro e w1 ⟨rfl, hb⟩
    have Q2 : Hid (RetA N B b s a (.returned (.int .i64 4)) w1 ∧ Blw N B w w1) := ⟨Q.out.below hb, blw_of hb B0.out⟩
    clear hb Q HS1
    go_wp2
    go_ret
    exact Q2.out
  · replace hin := Classical.not_not.1 hin
    obtain ⟨f, hq⟩ := Int.eq_ofNat_of_zero_le hin.1
    have HS1 : Hid (Calls Try.prog 76 #[.agg #[.slice (some ⟨gr, 0, none⟩) s.n rc, .int .i64 s.t, .slice wa s.m wc, .slice qa s.l qc], .int .i64 (f : Int)] w fun e w' => e = .returned (.bool true) ∧ Below w.heap.size w w') := by have := HAS.out true (sB_yes hin).symm; rw [hq] at this; exact this
    have fm : f < s.n := by omega
    have flt : (f : Int) < (s.n : Int) := by omega
    have HA : Hid (a.k = 7 ∧ a.r = k ∧ a.n = f) := ⟨ha, hr, hq⟩
    rw [hq]
    by_cases hfk : f = k
    · have Q : Hid (RetA N B b s a (.returned (.int .i64 4)) w) := ⟨s, 4, .echo1 k hk hr ha hu (.inr (by rw [hq, hfk])), rfl, P.sv⟩
      clear P PP ok hr ha KR hu hin HAS HU OK hq HA
      subst hfk
      have ff : ((f : Int) == (f : Int)) = true := by simp
      go_enter Try.func105, Try.ntmps105
      go_wp2_with fail
      refine HS1.out.mono ?_
      rintro e w1 ⟨rfl, hb⟩
      have Q2 : Hid (RetA N B b s a (.returned (.int .i64 4)) w1 ∧ Blw N B w w1) := ⟨Q.out.below hb, blw_of hb B0.out⟩
      clear hb Q HS1
      go_wp2
      go_ret
      exact Q2.out
    · have FK : Hid (f ≠ k) := hfk
      have fkb : ((f : Int) == (k : Int)) = false := by simp; exact fun e => hfk (by omega)
      have KRH : Hid (RkR w B gr rc s.n s.R VR k (s.R k) (VR k)) := KR
      clear P ok hr ha KR hu hin HAS hq hfk hB
      go_enter Try.func105, Try.ntmps105
      go_wp2_with fail
      refine HS1.out.mono ?_
      rintro e v ⟨rfl, hb⟩
      have PV : Hid (SvP N v B b s (.slice (some ⟨gr, 0, none⟩) s.n rc) (.slice wa s.m wc) (.slice qa s.l qc) VR VW VQ) := PP.out.below hb
      have KY : Hid (RkR v B gr rc s.n s.R VR k (s.R k) (VR k)) := KRH.out.below hb
      have BV : Hid (B ≤ v.heap.size ∧ Blw N B w v) := ⟨Nat.le_trans B0.out hb.size, blw_of hb B0.out⟩
      clear hb PP KRH B0 HS1 c0 c1 c2 c3 m0
      have c0 := PV.out.x.c0
      obtain ⟨gr', e2, -, -, KF⟩ := RkR.start PV.out.o.r fm
      obtain rfl : gr = gr' := by cases e2; rfl
      have KFH : Hid (RkR v B gr rc s.n s.R VR f (s.R f) (VR f)) := KF
      have n0 : v.cell? ⟨gr, f * 8, none⟩ = some (.bool (s.R f).mute) := KF.c fm 0 (by omega)
      clear KF e2
      cases hv : (s.R f).mute with
      | true =>
        have Q : Hid (RetA N B b s a (.returned (.int .i64 13)) v ∧ Blw N B w v) := ⟨⟨s, 13, .echo2 k f hk HA.out.2.1 HA.out.1 HU.out fm HA.out.2.2 FK.out hv, rfl, PV.out.sv⟩, BV.out.2⟩
        rw [hv] at n0
        clear PV KY KFH BV hv HU FK OK
        go_wp2
        go_ret
        exact Q.out
      | false =>
      rw [hv] at n0
      have HV : Hid ((s.R f).mute = false) := hv
      clear hv
      have IW := PV.out.o.e k hk
      obtain ⟨la, lcap, eV⟩ := EO.form IW
      have CO : Hid (∀ z : Bool, z = sB (hasE (s.R k).ne (s.R k).E f) → Calls Try.prog 118 #[.slice la (s.R k).ne lcap, .int .i64 (f : Int)] v fun e w' => e = .returned (.bool z) ∧ v = w') := fun z hz => conInt_any la (s.R k).ne lcap (s.R k).E f (by have := ids_le (OK.out.2.2.1 k hk).2.1; have := OK.out.1.1.2; omega) z hz v (IE.num (by rw [← eV]; exact IW))
      have q0 : v.cell? ⟨gr, k * 8 + 5, none⟩ = some (.slice la (s.R k).ne lcap) := by have := KY.out.c hk 5 (by omega); rw [← eV]; exact this
      clear IW eV
      by_cases hx : hasE (s.R k).ne (s.R k).E f
      · have CH : Hid (Calls Try.prog 118 #[.slice la (s.R k).ne lcap, .int .i64 (f : Int)] v fun e w' => e = .returned (.bool true) ∧ v = w') := CO.out true (sB_yes hx).symm
        have Q : Hid (RetA N B b s a (.returned (.int .i64 9)) v ∧ Blw N B w v) := ⟨⟨s, 9, .echo3 k f hk HA.out.2.1 HA.out.1 HU.out fm HA.out.2.2 FK.out HV.out hx, rfl, PV.out.sv⟩, BV.out.2⟩
        clear CO PV KY KFH BV hx HV HU FK OK
        go_wp2_with fail
        refine CH.out.mono ?_
        rintro e _ ⟨rfl, rfl⟩
        clear CH
        go_wp2
        go_ret
        exact Q.out
      · have CH : Hid (Calls Try.prog 118 #[.slice la (s.R k).ne lcap, .int .i64 (f : Int)] v fun e w' => e = .returned (.bool false) ∧ v = w') := CO.out false (sB_no hx).symm
        have HX : Hid (¬ hasE (s.R k).ne (s.R k).E f) := hx
        clear CO hx
        go_wp2_with fail
        refine CH.out.mono ?_
        rintro e _ ⟨rfl, rfl⟩
        clear CH
        go_upto_region 10 with fail
        clear c0 n0 q0
        have SE : Hid (SEc v gr f (s.R f).nc (s.R f).nt v.drew) := ⟨(ChB.refl _ _).drew, KFH.out.c fm 1 (by omega), KFH.out.c fm 2 (by omega)⟩
        replace KY : Hid (RkR v.drew B gr rc s.n s.R VR k (s.R k) (VR k)) := KY.out.below (Below.refl _ _).drew
        clear KFH
        have NBR : Hid (¬ PG gr b) := fun z => PV.out.o.r.notB4 PV.out.x (by decide) (by unfold PG at z; rw [z]; rfl)
        have H : SEc v gr f (s.R f).nc (s.R f).nt v.drew := SE.out
        refine wp_region_noPanic ?_
        refine wp_region_held_drew (S := fun w' => SEc v gr f (s.R f).nc (s.R f).nt w') (by kernel_rfl) H (fun _ => ?_)
        generalize v.drew = y0 at *
        refine wpAnyH_take (i := 0) (v := .pointer (some ⟨gr, k * 8, none⟩)) rfl (by kernel_rfl) (by kernel_rfl) (by kernel_rfl) (fun _ _ _ h => h) (Or.inl ⟨by rfl, ?_⟩) H ?_
        · intro w' hSw; clear hSw; go_simp
        change wpAnyH _ _ _ _ _ _ _ { tmps := #[_, _, _, _, _, _, _, _, _, _, _, _, _, _, _, _, _, _, _, _, _, _, _, _, _, _, _, _, _, _, _, _, _, _, _, _, _, _, _, _, _, _, _, _, _, _, _, _, _, _, _, _, _, _, _, _, _, _, _, _, _, _, _, _, _, _, _, _, _, _, _, _, _, _, _, _, _, _, _, _, _, _, _, _, _, _, _, _, _, _, _, _, _, _], defers := _ } _
        refine wpAnyH_take (i := 1) (v := .pointer (some ⟨gr, k * 8, none⟩)) rfl (by kernel_rfl) (by kernel_rfl) (by kernel_rfl) (fun _ _ _ h => h) (Or.inl ⟨by rfl, ?_⟩) H ?_
        · intro w' hSw; clear hSw; go_simp
        change wpAnyH _ _ _ _ _ _ _ { tmps := #[_, _, _, _, _, _, _, _, _, _, _, _, _, _, _, _, _, _, _, _, _, _, _, _, _, _, _, _, _, _, _, _, _, _, _, _, _, _, _, _, _, _, _, _, _, _, _, _, _, _, _, _, _, _, _, _, _, _, _, _, _, _, _, _, _, _, _, _, _, _, _, _, _, _, _, _, _, _, _, _, _, _, _, _, _, _, _, _, _, _, _, _, _, _], defers := _ } _
        refine wpAnyH_take (i := 2) (v := .pointer (some ⟨gr, k * 8, none⟩)) rfl (by kernel_rfl) (by kernel_rfl) (by kernel_rfl) (fun _ _ _ h => h) (Or.inl ⟨by rfl, ?_⟩) H ?_
        · intro w' hSw; clear hSw; go_simp
        change wpAnyH _ _ _ _ _ _ _ { tmps := #[_, _, _, _, _, _, _, _, _, _, _, _, _, _, _, _, _, _, _, _, _, _, _, _, _, _, _, _, _, _, _, _, _, _, _, _, _, _, _, _, _, _, _, _, _, _, _, _, _, _, _, _, _, _, _, _, _, _, _, _, _, _, _, _, _, _, _, _, _, _, _, _, _, _, _, _, _, _, _, _, _, _, _, _, _, _, _, _, _, _, _, _, _, _], defers := _ } _
        refine wpAnyH_take (i := 3) (v := .pointer (some ⟨gr, k * 8 + 6, none⟩)) rfl (by kernel_rfl) (by kernel_rfl) (by kernel_rfl) (fun _ _ _ h => h) (Or.inl ⟨by rfl, ?_⟩) H ?_
        · intro w' hSw; clear hSw; go_simp
        change wpAnyH _ _ _ _ _ _ _ { tmps := #[_, _, _, _, _, _, _, _, _, _, _, _, _, _, _, _, _, _, _, _, _, _, _, _, _, _, _, _, _, _, _, _, _, _, _, _, _, _, _, _, _, _, _, _, _, _, _, _, _, _, _, _, _, _, _, _, _, _, _, _, _, _, _, _, _, _, _, _, _, _, _, _, _, _, _, _, _, _, _, _, _, _, _, _, _, _, _, _, _, _, _, _, _, _], defers := _ } _
        refine wpAnyH_take (i := 5) (v := .pointer (some ⟨b, 0, none⟩)) rfl (by kernel_rfl) (by kernel_rfl) (by kernel_rfl) (fun _ _ _ h => h) (Or.inl ⟨by rfl, ?_⟩) H ?_
        · intro w' hSw; clear hSw; go_simp
        change wpAnyH _ _ _ _ _ _ _ { tmps := #[_, _, _, _, _, _, _, _, _, _, _, _, _, _, _, _, _, _, _, _, _, _, _, _, _, _, _, _, _, _, _, _, _, _, _, _, _, _, _, _, _, _, _, _, _, _, _, _, _, _, _, _, _, _, _, _, _, _, _, _, _, _, _, _, _, _, _, _, _, _, _, _, _, _, _, _, _, _, _, _, _, _, _, _, _, _, _, _, _, _, _, _, _, _], defers := _ } _
        refine wpAnyH_take (i := 6) (v := .pointer (some ⟨b, 0, none⟩)) rfl (by kernel_rfl) (by kernel_rfl) (by kernel_rfl) (fun _ _ _ h => h) (Or.inl ⟨by rfl, ?_⟩) H ?_
        · intro w' hSw; clear hSw; go_simp
        change wpAnyH _ _ _ _ _ _ _ { tmps := #[_, _, _, _, _, _, _, _, _, _, _, _, _, _, _, _, _, _, _, _, _, _, _, _, _, _, _, _, _, _, _, _, _, _, _, _, _, _, _, _, _, _, _, _, _, _, _, _, _, _, _, _, _, _, _, _, _, _, _, _, _, _, _, _, _, _, _, _, _, _, _, _, _, _, _, _, _, _, _, _, _, _, _, _, _, _, _, _, _, _, _, _, _, _], defers := _ } _
        refine wpAnyH_take (i := 7) (v := .pointer (some ⟨b, 0, none⟩)) rfl (by kernel_rfl) (by kernel_rfl) (by kernel_rfl) (fun _ _ _ h => h) (Or.inl ⟨by rfl, ?_⟩) H ?_
        · intro w' hSw; clear hSw; go_simp
        change wpAnyH _ _ _ _ _ _ _ { tmps := #[_, _, _, _, _, _, _, _, _, _, _, _, _, _, _, _, _, _, _, _, _, _, _, _, _, _, _, _, _, _, _, _, _, _, _, _, _, _, _, _, _, _, _, _, _, _, _, _, _, _, _, _, _, _, _, _, _, _, _, _, _, _, _, _, _, _, _, _, _, _, _, _, _, _, _, _, _, _, _, _, _, _, _, _, _, _, _, _, _, _, _, _, _, _], defers := _ } _
        refine wpAnyH_take (i := 8) (v := .slice (some ⟨gr, 0, none⟩) s.n rc) rfl (by kernel_rfl) (by kernel_rfl) (by kernel_rfl) (fun _ _ _ h => h) (Or.inl ⟨by rfl, ?_⟩) H ?_
        · intro w' hSw; have c0 := (PV.out.x.ofBlock (w' := w') (hSw.1.block b PV.out.x.lt NBR.out)).c0; clear hSw; go_simp
        change wpAnyH _ _ _ _ _ _ _ { tmps := #[_, _, _, _, _, _, _, _, _, _, _, _, _, _, _, _, _, _, _, _, _, _, _, _, _, _, _, _, _, _, _, _, _, _, _, _, _, _, _, _, _, _, _, _, _, _, _, _, _, _, _, _, _, _, _, _, _, _, _, _, _, _, _, _, _, _, _, _, _, _, _, _, _, _, _, _, _, _, _, _, _, _, _, _, _, _, _, _, _, _, _, _, _, _], defers := _ } _
        refine wpAnyH_take (i := 9) (v := .int .i64 (f : Int)) rfl (by kernel_rfl) (by kernel_rfl) (by kernel_rfl) (fun _ _ _ h => h) (Or.inl ⟨by rfl, ?_⟩) H ?_
        · intro w' hSw; clear hSw; go_simp
        change wpAnyH _ _ _ _ _ _ _ { tmps := #[_, _, _, _, _, _, _, _, _, _, _, _, _, _, _, _, _, _, _, _, _, _, _, _, _, _, _, _, _, _, _, _, _, _, _, _, _, _, _, _, _, _, _, _, _, _, _, _, _, _, _, _, _, _, _, _, _, _, _, _, _, _, _, _, _, _, _, _, _, _, _, _, _, _, _, _, _, _, _, _, _, _, _, _, _, _, _, _, _, _, _, _, _, _], defers := _ } _
        refine wpAnyH_take (i := 10) (v := .pointer (some ⟨gr, f * 8, none⟩)) rfl (by kernel_rfl) (by kernel_rfl) (by kernel_rfl) (fun _ _ _ h => h) (Or.inl ⟨by rfl, ?_⟩) H ?_
        · intro w' hSw; clear hSw; go_simp
        change wpAnyH _ _ _ _ _ _ _ { tmps := #[_, _, _, _, _, _, _, _, _, _, _, _, _, _, _, _, _, _, _, _, _, _, _, _, _, _, _, _, _, _, _, _, _, _, _, _, _, _, _, _, _, _, _, _, _, _, _, _, _, _, _, _, _, _, _, _, _, _, _, _, _, _, _, _, _, _, _, _, _, _, _, _, _, _, _, _, _, _, _, _, _, _, _, _, _, _, _, _, _, _, _, _, _, _], defers := _ } _
        refine wpAnyH_take (i := 11) (v := .pointer (some ⟨gr, f * 8 + 1, none⟩)) rfl (by kernel_rfl) (by kernel_rfl) (by kernel_rfl) (fun _ _ _ h => h) (Or.inl ⟨by rfl, ?_⟩) H ?_
        · intro w' hSw; clear hSw; go_simp
        change wpAnyH _ _ _ _ _ _ _ { tmps := #[_, _, _, _, _, _, _, _, _, _, _, _, _, _, _, _, _, _, _, _, _, _, _, _, _, _, _, _, _, _, _, _, _, _, _, _, _, _, _, _, _, _, _, _, _, _, _, _, _, _, _, _, _, _, _, _, _, _, _, _, _, _, _, _, _, _, _, _, _, _, _, _, _, _, _, _, _, _, _, _, _, _, _, _, _, _, _, _, _, _, _, _, _, _], defers := _ } _
        refine wpAnyH_take (i := 12) (v := .agg #[.int .i64 (s.R f).nc, .int .i64 (s.R f).nt]) rfl (by kernel_rfl) (by kernel_rfl) (by kernel_rfl) (fun _ _ _ h => h) (Or.inl ⟨by rfl, ?_⟩) H ?_
        · intro w' hSw; have r1 := hSw.2.1; have r2 := hSw.2.2; clear hSw; go_simp
        change wpAnyH _ _ _ _ _ _ _ { tmps := #[_, _, _, _, _, _, _, _, _, _, _, _, _, _, _, _, _, _, _, _, _, _, _, _, _, _, _, _, _, _, _, _, _, _, _, _, _, _, _, _, _, _, _, _, _, _, _, _, _, _, _, _, _, _, _, _, _, _, _, _, _, _, _, _, _, _, _, _, _, _, _, _, _, _, _, _, _, _, _, _, _, _, _, _, _, _, _, _, _, _, _, _, _, _], defers := _ } _
        refine wpAnyH_ready (rs := [4]) (by kernel_rfl) (by simp) ?_
        refine (AllReadyH.cons rfl (fun KK hK => ?_) AllReadyH.nil)
        have r6 : y0.cell? ⟨gr, k * 8 + 6, none⟩ = some (.int .i64 (s.R k).bc) := KY.out.c hk 6 (by omega)
        have r7 : y0.cell? ⟨gr, k * 8 + 7, none⟩ = some (.int .i64 (s.R k).bt) := KY.out.c hk 7 (by omega)
        go_simp
        refine hK.out _ _ H (fun _ => ?_)
        clear hK KK
        change wpAnyH _ _ _ _ _ _ _ { tmps := #[_, _, _, _, _, _, _, _, _, _, _, _, _, _, _, _, _, _, _, _, _, _, _, _, _, _, _, _, _, _, _, _, _, _, _, _, _, _, _, _, _, _, _, _, _, _, _, _, _, _, _, _, _, _, _, _, _, _, _, _, _, _, _, _, _, _, _, _, _, _, _, _, _, _, _, _, _, _, _, _, _, _, _, _, _, _, _, _, _, _, _, _, _, _], defers := _ } _
        refine wpAnyH_ready (rs := [13]) (by kernel_rfl) (by simp) ?_
        refine (AllReadyH.cons rfl (fun KK hK => ?_) AllReadyH.nil)
        go_simp
        refine (later_any (s.R k).bc (s.R k).bt (s.R f).nc (s.R f).nt y0).mono ?_
        rintro e y1 ⟨rfl, hb⟩
        replace KY : Hid (RkR y1 B gr rc s.n s.R VR k (s.R k) (VR k)) := KY.out.below hb
        replace H : SEc v gr f (s.R f).nc (s.R f).nt y1 := H.below hb
        obtain ⟨lc, hlc⟩ : ∃ x, x = (ltr (s.R k).bc (s.R k).bt (s.R f).nc (s.R f).nt).1 := ⟨_, rfl⟩
        obtain ⟨lt, hlt⟩ : ∃ x, x = (ltr (s.R k).bc (s.R k).bt (s.R f).nc (s.R f).nt).2 := ⟨_, rfl⟩
        rw [← hlc, ← hlt]
        have LT : Hid (lc = (ltr (s.R k).bc (s.R k).bt (s.R f).nc (s.R f).nt).1 ∧ lt = (ltr (s.R k).bc (s.R k).bt (s.R f).nc (s.R f).nt).2) := ⟨hlc, hlt⟩
        clear hlc hlt r6 r7
        clear hb
        refine hK.out _ _ H (fun _ => ?_)
        clear hK KK
        change wpAnyH _ _ _ _ _ _ _ { tmps := #[_, _, _, _, _, _, _, _, _, _, _, _, _, _, _, _, _, _, _, _, _, _, _, _, _, _, _, _, _, _, _, _, _, _, _, _, _, _, _, _, _, _, _, _, _, _, _, _, _, _, _, _, _, _, _, _, _, _, _, _, _, _, _, _, _, _, _, _, _, _, _, _, _, _, _, _, _, _, _, _, _, _, _, _, _, _, _, _, _, _, _, _, _, _], defers := _ } _
        refine wpAnyH_take (i := 14) (v := .pointer (some ⟨gr, k * 8, none⟩)) rfl (by kernel_rfl) (by kernel_rfl) (by kernel_rfl) (fun _ _ _ h => h) (Or.inl ⟨by rfl, ?_⟩) H ?_
        · intro w' hSw; clear hSw; go_simp
        change wpAnyH _ _ _ _ _ _ _ { tmps := #[_, _, _, _, _, _, _, _, _, _, _, _, _, _, _, _, _, _, _, _, _, _, _, _, _, _, _, _, _, _, _, _, _, _, _, _, _, _, _, _, _, _, _, _, _, _, _, _, _, _, _, _, _, _, _, _, _, _, _, _, _, _, _, _, _, _, _, _, _, _, _, _, _, _, _, _, _, _, _, _, _, _, _, _, _, _, _, _, _, _, _, _, _, _], defers := _ } _
        refine wpAnyH_take (i := 15) (v := .pointer (some ⟨gr, k * 8 + 6, none⟩)) rfl (by kernel_rfl) (by kernel_rfl) (by kernel_rfl) (fun _ _ _ h => h) (Or.inl ⟨by rfl, ?_⟩) H ?_
        · intro w' hSw; clear hSw; go_simp
        change wpAnyH _ _ _ _ _ _ _ { tmps := #[_, _, _, _, _, _, _, _, _, _, _, _, _, _, _, _, _, _, _, _, _, _, _, _, _, _, _, _, _, _, _, _, _, _, _, _, _, _, _, _, _, _, _, _, _, _, _, _, _, _, _, _, _, _, _, _, _, _, _, _, _, _, _, _, _, _, _, _, _, _, _, _, _, _, _, _, _, _, _, _, _, _, _, _, _, _, _, _, _, _, _, _, _, _], defers := _ } _
        refine wpAnyH_ready (rs := [16]) (by kernel_rfl) (by simp) ?_
        refine (AllReadyH.cons rfl (fun KK hK => ?_) AllReadyH.nil)
        have f6 := KY.out.fr hk 6 (by omega)
        have f7 := KY.out.fr hk 7 (by omega)
        have r6 : y1.cell? ⟨gr, k * 8 + 6, none⟩ = some (.int .i64 (s.R k).bc) := KY.out.c hk 6 (by omega)
        have r7 : y1.cell? ⟨gr, k * 8 + 7, none⟩ = some (.int .i64 (s.R k).bt) := KY.out.c hk 7 (by omega)
        go_simp
        have K2 : Hid (RkR ((y1.setCell ⟨gr, k * 8 + 6, none⟩ (.int .i64 lc)).setCell ⟨gr, k * 8 + 7, none⟩ (.int .i64 lt)) B gr rc s.n s.R VR k { s.R k with bc := (ltr (s.R k).bc (s.R k).bt (s.R f).nc (s.R f).nt).1, bt := (ltr (s.R k).bc (s.R k).bt (s.R f).nc (s.R f).nt).2 } (VR k)) := by have := KY.out.best hk lc lt; rw [← LT.out.1, ← LT.out.2]; exact this
        replace H : SEc v gr f (s.R f).nc (s.R f).nt ((y1.setCell ⟨gr, k * 8 + 6, none⟩ (.int .i64 lc)).setCell ⟨gr, k * 8 + 7, none⟩ (.int .i64 lt)) := (H.at (by omega) (by omega) _).at (by omega) (by omega) _
        clear r6 r7 f6 f7 KY
        generalize ((y1.setCell ⟨gr, k * 8 + 6, none⟩ (.int .i64 lc)).setCell ⟨gr, k * 8 + 7, none⟩ (.int .i64 lt)) = y2 at *
        refine hK.out _ _ H (fun _ => ?_)
        clear hK KK
        change wpAnyH _ _ _ _ _ _ _ { tmps := #[_, _, _, _, _, _, _, _, _, _, _, _, _, _, _, _, _, _, _, _, _, _, _, _, _, _, _, _, _, _, _, _, _, _, _, _, _, _, _, _, _, _, _, _, _, _, _, _, _, _, _, _, _, _, _, _, _, _, _, _, _, _, _, _, _, _, _, _, _, _, _, _, _, _, _, _, _, _, _, _, _, _, _, _, _, _, _, _, _, _, _, _, _, _], defers := _ } _
        refine wpAnyH_done (by kernel_rfl) ?_ _
        refine NoPanic.normal ?_
        replace H : ChB (PG gr) v y2 := H.1
        have KY : Hid (RkR y2 B gr rc s.n s.R VR k { s.R k with bc := (ltr (s.R k).bc (s.R k).bt (s.R f).nc (s.R f).nt).1, bt := (ltr (s.R k).bc (s.R k).bt (s.R f).nc (s.R f).nt).2 } (VR k)) := K2.out
        clear K2 LT SE
        have IW : IE y2 B (VR k) (s.R k).ne (s.R k).E := EO.ch (PV.out.o.e k hk) H (fun g e z => EO.apart (PV.out.o.e k hk) PV.out.o.r (by decide) g e (by unfold PG at z; rw [z]; rfl))
        obtain ⟨la, lcap, eV⟩ := EO.form IW
        have EV : Hid (VR k = .slice la (s.R k).ne lcap) := eV
        have JH : Hid (Calls Try.prog 116 #[.slice la (s.R k).ne lcap, .int .i64 (f : Int)] y2 fun e w' => RetJn y2 B (.slice la (s.R k).ne lcap) (s.R k).ne (s.R k).E (f : Int) e w') := joined_any s.n B la (s.R k).ne lcap (s.R k).E (f : Int) (OK.out.2.2.1 k hk).2.1 (by have := ids_le (OK.out.2.2.1 k hk).2.1; have := OK.out.1.1.2; omega) y2 (Nat.le_trans BV.out.1 H.size) (by rw [← EV.out]; exact IW)
        have q2 : y2.cell? ⟨gr, k * 8 + 5, none⟩ = some (.slice la (s.R k).ne lcap) := by have := KY.out.c hk 5 (by omega); rw [← EV.out]; exact this
        have HH : Hid (ChB (PG gr) v y2) := H
        clear IW eV H
        go_wp2_with fail
        refine JH.out.mono ?_
        rintro e y3 ⟨⟨v', rfl, hI, hown⟩, hg⟩
        obtain ⟨va, vc, rfl⟩ := EO.form hI
        rw [← EV.out] at hg hown
        have gne : ∀ u, (VR k).ownBlock = some u → u ≠ gr := fun u e z => EO.apart (PV.out.o.e k hk) PV.out.o.r (by decide) u e (by rw [z]; rfl)
        have H7 : ChB (PR (.slice (some ⟨gr, 0, none⟩) s.n rc) VR k) v y3 := (HH.out.wide (fun g z => .inl (by unfold PG at z; rw [z]; rfl))).grown hg (fun g e => .inl (.inr e))
        have K7 : Hid (RkR y3 B gr rc s.n s.R VR k { s.R k with bc := (ltr (s.R k).bc (s.R k).bt (s.R f).nc (s.R f).nt).1, bt := (ltr (s.R k).bc (s.R k).bt (s.R f).nc (s.R f).nt).2 } (VR k)) := KY.out.keep (hg.block gr KY.out.lt.2 (fun e => gne gr e.symm rfl))
        obtain ⟨W5, hW5⟩ : ∃ x : Rp, x = { { s.R k with bc := (ltr (s.R k).bc (s.R k).bt (s.R f).nc (s.R f).nt).1, bt := (ltr (s.R k).bc (s.R k).bt (s.R f).nc (s.R f).nt).2 } with ne := (addE (s.R k).ne (s.R k).E (f : Int)).1, E := (addE (s.R k).ne (s.R k).E (f : Int)).2 } := ⟨_, rfl⟩
        have HW5 : Hid (W5 = { { s.R k with bc := (ltr (s.R k).bc (s.R k).bt (s.R f).nc (s.R f).nt).1, bt := (ltr (s.R k).bc (s.R k).bt (s.R f).nc (s.R f).nt).2 } with ne := (addE (s.R k).ne (s.R k).E (f : Int)).1, E := (addE (s.R k).ne (s.R k).E (f : Int)).2 }) := hW5
        have NE : Hid ((addE (s.R k).ne (s.R k).E (f : Int)).1 ≤ 8) := by show _ ≤ _; have := addE_le (x := (f : Int)) (OK.out.2.2.1 k hk).2.1; have := OK.out.1.1.2; omega
        obtain ⟨ne', hne⟩ : ∃ x, x = (addE (s.R k).ne (s.R k).E (f : Int)).1 := ⟨_, rfl⟩
        have K8 : Hid (RkR (y3.setCell ⟨gr, k * 8 + 5, none⟩ (.slice va ne' vc)) B gr rc s.n s.R VR k W5 (.slice va ne' vc)) := by rw [hW5, hne]; exact K7.out.setE hk _ _ _
        have I8 : Hid (IE (y3.setCell ⟨gr, k * 8 + 5, none⟩ (.slice va ne' vc)) B (.slice va ne' vc) W5.ne W5.E) := by rw [hW5, hne]; exact IE.setOther hI K7.out (by decide) _ _
        have H8 : Hid (ChB (PR (.slice (some ⟨gr, 0, none⟩) s.n rc) VR k) v (y3.setCell ⟨gr, k * 8 + 5, none⟩ (.slice va ne' vc))) := H7.at gr (.inl (.inl rfl)) _ _
        have O8 : Hid (∀ g, (Value.slice va ne' vc).ownBlock = some g → (VR k).ownBlock = some g ∨ v.heap.size ≤ g) := by rw [hne]; exact fun g e => hown.elim (fun z => .inl (z ▸ e)) (fun ⟨q, z, hq⟩ => .inr (by rw [z] at e; cases e; exact Nat.le_trans HH.out.size hq))
        have f2 : y3.frozen? ⟨gr, k * 8 + 5, none⟩ = false := K7.out.fr hk 5 (by omega)
        have g2 : y3.cell? ⟨gr, k * 8 + 5, none⟩ = some (VR k) := K7.out.c hk 5 (by omega)
        rw [← hne]
        have HNE : Hid (ne' = (addE (s.R k).ne (s.R k).E (f : Int)).1) := hne
        clear hI hown hg gne H7 hW5 hne JH q2 KY EV HH K7
        go_upto_region 12 with fail
        generalize (y3.setCell ⟨gr, k * 8 + 5, none⟩ (.slice va ne' vc)) = y4 at *
        clear f2 g2
        have XS : Hid (Box4 y4 b 30 (.slice (some ⟨gr, 0, none⟩) s.n rc) (.int .i64 s.t) (.slice wa s.m wc) (.slice qa s.l qc)) := PV.out.x.ch H8.out (chR_box PV.out.x PV.out.o hk)
        have KX : Hid (RkR y4 B gr rc s.n s.R VR k W5 (.slice va ne' vc)) := K8.out
        obtain ⟨z, hz⟩ : ∃ z, z = sB (majN s.n ≤ ne') := ⟨_, rfl⟩
        have HZ : Hid (z = sB (majN s.n ≤ ne')) := hz
        clear hz
        have H : Below y4.heap.size y4 y4.drew := (Below.refl _ _).drew
        refine wp_region_noPanic ?_
        refine wp_region_held_drew (S := fun w' => Below y4.heap.size y4 w') (by kernel_rfl) H (fun _ => ?_)
        generalize y4.drew = z0 at *
        refine wpAnyH_take (i := 0) (v := .pointer (some ⟨b, 0, none⟩)) rfl (by kernel_rfl) (by kernel_rfl) (by kernel_rfl) (fun _ _ _ h => h) (Or.inl ⟨by rfl, ?_⟩) H ?_
        · intro w' hSw; clear hSw; go_simp
        change wpAnyH _ _ _ _ _ _ _ { tmps := #[_, _, _, _, _, _, _, _, _, _, _, _, _, _, _, _, _, _, _, _, _, _, _, _, _, _, _, _, _, _, _, _, _, _, _, _, _, _, _, _, _, _, _, _, _, _, _, _, _, _, _, _, _, _, _, _, _, _, _, _, _, _, _, _, _, _, _, _, _, _, _, _, _, _, _, _, _, _, _, _, _, _, _, _, _, _, _, _, _, _, _, _, _, _], defers := _ } _
        refine wpAnyH_take (i := 1) (v := .pointer (some ⟨b, 0, none⟩)) rfl (by kernel_rfl) (by kernel_rfl) (by kernel_rfl) (fun _ _ _ h => h) (Or.inl ⟨by rfl, ?_⟩) H ?_
        · intro w' hSw; clear hSw; go_simp
        change wpAnyH _ _ _ _ _ _ _ { tmps := #[_, _, _, _, _, _, _, _, _, _, _, _, _, _, _, _, _, _, _, _, _, _, _, _, _, _, _, _, _, _, _, _, _, _, _, _, _, _, _, _, _, _, _, _, _, _, _, _, _, _, _, _, _, _, _, _, _, _, _, _, _, _, _, _, _, _, _, _, _, _, _, _, _, _, _, _, _, _, _, _, _, _, _, _, _, _, _, _, _, _, _, _, _, _], defers := _ } _
        refine wpAnyH_take (i := 2) (v := .agg #[.slice (some ⟨gr, 0, none⟩) s.n rc, .int .i64 s.t, .slice wa s.m wc, .slice qa s.l qc]) rfl (by kernel_rfl) (by kernel_rfl) (by kernel_rfl) (fun _ _ _ h => h) (Or.inl ⟨by rfl, ?_⟩) H ?_
        · intro w' hSw; have XT := (XS.out.ofBlock (w' := w') (hSw.block b XS.out.lt)); have c0 := XT.c0; have c1 := XT.c1; have c2 := XT.c2; have c3 := XT.c3; clear XT hSw; go_simp
        change wpAnyH _ _ _ _ _ _ _ { tmps := #[_, _, _, _, _, _, _, _, _, _, _, _, _, _, _, _, _, _, _, _, _, _, _, _, _, _, _, _, _, _, _, _, _, _, _, _, _, _, _, _, _, _, _, _, _, _, _, _, _, _, _, _, _, _, _, _, _, _, _, _, _, _, _, _, _, _, _, _, _, _, _, _, _, _, _, _, _, _, _, _, _, _, _, _, _, _, _, _, _, _, _, _, _, _], defers := _ } _
        refine wpAnyH_take (i := 3) (v := .pointer (some ⟨gr, k * 8, none⟩)) rfl (by kernel_rfl) (by kernel_rfl) (by kernel_rfl) (fun _ _ _ h => h) (Or.inl ⟨by rfl, ?_⟩) H ?_
        · intro w' hSw; clear hSw; go_simp
        change wpAnyH _ _ _ _ _ _ _ { tmps := #[_, _, _, _, _, _, _, _, _, _, _, _, _, _, _, _, _, _, _, _, _, _, _, _, _, _, _, _, _, _, _, _, _, _, _, _, _, _, _, _, _, _, _, _, _, _, _, _, _, _, _, _, _, _, _, _, _, _, _, _, _, _, _, _, _, _, _, _, _, _, _, _, _, _, _, _, _, _, _, _, _, _, _, _, _, _, _, _, _, _, _, _, _, _], defers := _ } _
        refine wpAnyH_take (i := 4) (v := .pointer (some ⟨gr, k * 8, none⟩)) rfl (by kernel_rfl) (by kernel_rfl) (by kernel_rfl) (fun _ _ _ h => h) (Or.inl ⟨by rfl, ?_⟩) H ?_
        · intro w' hSw; clear hSw; go_simp
        change wpAnyH _ _ _ _ _ _ _ { tmps := #[_, _, _, _, _, _, _, _, _, _, _, _, _, _, _, _, _, _, _, _, _, _, _, _, _, _, _, _, _, _, _, _, _, _, _, _, _, _, _, _, _, _, _, _, _, _, _, _, _, _, _, _, _, _, _, _, _, _, _, _, _, _, _, _, _, _, _, _, _, _, _, _, _, _, _, _, _, _, _, _, _, _, _, _, _, _, _, _, _, _, _, _, _, _], defers := _ } _
        refine wpAnyH_take (i := 5) (v := .pointer (some ⟨gr, k * 8 + 5, none⟩)) rfl (by kernel_rfl) (by kernel_rfl) (by kernel_rfl) (fun _ _ _ h => h) (Or.inl ⟨by rfl, ?_⟩) H ?_
        · intro w' hSw; clear hSw; go_simp
        change wpAnyH _ _ _ _ _ _ _ { tmps := #[_, _, _, _, _, _, _, _, _, _, _, _, _, _, _, _, _, _, _, _, _, _, _, _, _, _, _, _, _, _, _, _, _, _, _, _, _, _, _, _, _, _, _, _, _, _, _, _, _, _, _, _, _, _, _, _, _, _, _, _, _, _, _, _, _, _, _, _, _, _, _, _, _, _, _, _, _, _, _, _, _, _, _, _, _, _, _, _, _, _, _, _, _, _], defers := _ } _
        refine wpAnyH_take (i := 6) (v := .slice va ne' vc) rfl (by kernel_rfl) (by kernel_rfl) (by kernel_rfl) (fun _ _ _ h => h) (Or.inl ⟨by rfl, ?_⟩) H ?_
        · intro w' hSw; have KT := KX.out.keep (w' := w') (hSw.block gr KX.out.lt.2); have q2 : w'.cell? ⟨gr, k * 8 + 5, none⟩ = some (.slice va ne' vc) := KT.c hk 5 (by omega); clear KT hSw; go_simp
        change wpAnyH _ _ _ _ _ _ _ { tmps := #[_, _, _, _, _, _, _, _, _, _, _, _, _, _, _, _, _, _, _, _, _, _, _, _, _, _, _, _, _, _, _, _, _, _, _, _, _, _, _, _, _, _, _, _, _, _, _, _, _, _, _, _, _, _, _, _, _, _, _, _, _, _, _, _, _, _, _, _, _, _, _, _, _, _, _, _, _, _, _, _, _, _, _, _, _, _, _, _, _, _, _, _, _, _], defers := _ } _
        refine wpAnyH_ready (rs := [7]) (by kernel_rfl) (by simp) ?_
        refine (AllReadyH.cons rfl (fun KK hK => ?_) AllReadyH.nil)
        go_simp
        refine (majority_v (some ⟨gr, 0, none⟩) s.n rc (.int .i64 s.t) (.slice wa s.m wc) (.slice qa s.l qc) va ne' vc OK.out.1.1 (by have := NE.out; have := HNE.out; omega) z HZ.out z0).mono ?_
        rintro e z1 ⟨rfl, hb⟩
        replace H : Below y4.heap.size y4 z1 := H.trans (hb.mono H.size)
        clear hb
        refine hK.out _ _ H (fun _ => ?_)
        clear hK KK
        change wpAnyH _ _ _ _ _ _ _ { tmps := #[_, _, _, _, _, _, _, _, _, _, _, _, _, _, _, _, _, _, _, _, _, _, _, _, _, _, _, _, _, _, _, _, _, _, _, _, _, _, _, _, _, _, _, _, _, _, _, _, _, _, _, _, _, _, _, _, _, _, _, _, _, _, _, _, _, _, _, _, _, _, _, _, _, _, _, _, _, _, _, _, _, _, _, _, _, _, _, _, _, _, _, _, _, _], defers := _ } _
        refine wpAnyH_done (by kernel_rfl) ?_ _
        refine NoPanic.normal ?_
        have HM : Hid (Below y4.heap.size y4 z1) := H
        clear H
        have H9 : Hid (ChB (PR (.slice (some ⟨gr, 0, none⟩) s.n rc) VR k) v z1) := H8.out.step HM.out
        have K9 : Hid (RkR z1 B gr rc s.n s.R VR k W5 (.slice va ne' vc)) := K8.out.below HM.out
        have I9 : Hid (IE z1 B (.slice va ne' vc) W5.ne W5.E) := EO.below I8.out HM.out
        clear H8 K8 I8 HM XS KX
        by_cases hj : majN s.n ≤ ne'
        · obtain rfl : z = true := HZ.out.trans (sB_yes hj)
          have f1 := K9.out.fr hk 1 (by omega)
          have f2 := K9.out.fr hk 2 (by omega)
          have f5 := K9.out.fr hk 5 (by omega)
          have f0 : z1.frozen? ⟨gr, k * 8, none⟩ = false := K9.out.fr hk 0 (by omega)
          have t0 : z1.cell? ⟨gr, k * 8, none⟩ = some (.bool W5.mute) := K9.out.c hk 0 (by omega)
          have t1 : z1.cell? ⟨gr, k * 8 + 1, none⟩ = some (.int .i64 W5.nc) := K9.out.c hk 1 (by omega)
          have t2 : z1.cell? ⟨gr, k * 8 + 2, none⟩ = some (.int .i64 W5.nt) := K9.out.c hk 2 (by omega)
          have t5 : z1.cell? ⟨gr, k * 8 + 5, none⟩ = some (.slice va ne' vc) := K9.out.c hk 5 (by omega)
          have t6 : z1.cell? ⟨gr, k * 8 + 6, none⟩ = some (.int .i64 W5.bc) := K9.out.c hk 6 (by omega)
          have t7 : z1.cell? ⟨gr, k * 8 + 7, none⟩ = some (.int .i64 W5.bt) := K9.out.c hk 7 (by omega)
          have K10 := K9.out.wakes hk
          have H10 : ChB (PR (.slice (some ⟨gr, 0, none⟩) s.n rc) VR k) v ((((z1.setCell ⟨gr, k * 8 + 1, none⟩ (.int .i64 W5.bc)).setCell ⟨gr, k * 8 + 2, none⟩ (.int .i64 W5.bt)).setCell ⟨gr, k * 8, none⟩ (.bool false)).setCell ⟨gr, k * 8 + 5, none⟩ (.slice none 0 0)) := (((H9.out.at gr (.inl (.inl rfl)) _ _).at gr (.inl (.inl rfl)) _ _).at gr (.inl (.inl rfl)) _ _).at gr (.inl (.inl rfl)) _ _
          have Q : Hid (RetA N B b s a (.returned (.int .i64 0)) ((((z1.setCell ⟨gr, k * 8 + 1, none⟩ (.int .i64 W5.bc)).setCell ⟨gr, k * 8 + 2, none⟩ (.int .i64 W5.bt)).setCell ⟨gr, k * 8, none⟩ (.bool false)).setCell ⟨gr, k * 8 + 5, none⟩ (.slice none 0 0)) ∧ Blw N B w ((((z1.setCell ⟨gr, k * 8 + 1, none⟩ (.int .i64 W5.bc)).setCell ⟨gr, k * 8 + 2, none⟩ (.int .i64 W5.bt)).setCell ⟨gr, k * 8, none⟩ (.bool false)).setCell ⟨gr, k * 8 + 5, none⟩ (.slice none 0 0))) := ⟨retA_echo hk fm HA.out HU.out FK.out HV.out HX.out (by rw [HW5.out]; unfold Rp.echo; exact (if_pos (by have h9 := hj; rw [HNE.out] at h9; exact h9)).symm) (PV.out.chR hk H10 K10 (EO.nil _ _ _ _ _) (fun g e => by cases e)).sv, BV.out.2.trans (H10.toBlw (PR.geR PV.out hk) BV.out.1)⟩
          clear K10 H10 H9 K9 I9 PV hj
          go_wp2
          go_ret
          exact Q.out
        · obtain rfl : z = false := HZ.out.trans (sB_no hj)
          have Q : Hid (RetA N B b s a (.returned (.int .i64 0)) z1 ∧ Blw N B w z1) := ⟨retA_echo hk fm HA.out HU.out FK.out HV.out HX.out (by rw [HW5.out]; unfold Rp.echo; exact (if_neg (fun z => hj (by rw [HNE.out]; exact z))).symm) (PV.out.chR hk H9.out K9.out I9.out O8.out).sv, BV.out.2.trans (H9.out.toBlw (PR.geR PV.out hk) BV.out.1)⟩
          clear H9 K9 I9 PV hj
          go_wp2
          go_ret
          exact Q.out
end Go.Proofs.Ytdoacpnjggdojaa
