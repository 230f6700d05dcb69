/-
  Texts of the proof, joined: QuDo.
-/
import Derived.Test.YtedncfcmhaaobaaZ46
import Derived.Test.YtedncfcmhaaobaaZ47
import Derived.Deep.Cut
import Derived.Test.YtedncfcmhaaobaaTkH
namespace Go.Proofs.Ytedncfcmhaaobaa
open Go.ChangeShapes Go.WideShapes Go.ChangeAt Go.RowKit
set_option linter.unusedVariables false
def RetSp (N : Nat → Prop) (B b : Nat) (s : Sv) (a : Qa) (e : Ending) (w' : World) : Prop := ∃ s' c, StepS s a s' c ∧ e = .returned (.int .i64 c) ∧ SvX N w' B b s'
theorem SvP.time {N : Nat → Prop} {w : World} {B b : Nat} {s : Sv} {vr vw vq : Value} {VR VW VQ : Nat → Value} (h : SvP N w B b s vr vw vq VR VW VQ) (T : Int) : SvP N (w.setCell ⟨b, 1, none⟩ (.int .i64 T)) B b { s with t := T } vr vw vq VR VW VQ := by
 have kp : ∀ g : Nat, g ≠ b → (w.setCell ⟨b, 1, none⟩ (.int .i64 T)).heap[g]? = w.heap[g]? := fun g e => Below.heap_setCell w ⟨b, 1, none⟩ _ g e
 exact ⟨h.h0, h.x.set1 _, ⟨h.o.r.keep (fun g e => kp g (h.o.r.notBox4 h.x (by decide) g e)), h.o.x.keep (fun g e => kp g (h.o.x.notBox4 h.x (by decide) g e)), h.o.q.keep (fun g e => kp g (h.o.q.notBox4 h.x (by decide) g e)), fun i hi => EO.keep (h.o.e i hi) (fun g e => kp g (EO.notBox4 (h.o.e i hi) h.x (by decide) g e)), fun i hi => EO.keep (h.o.a i hi) (fun g e => kp g (EO.notBox4 (h.o.a i hi) h.x (by decide) g e)), fun i hi => EO.keep (h.o.f i hi) (fun g e => kp g (EO.notBox4 (h.o.f i hi) h.x (by decide) g e))⟩, h.d, ⟨fun g hg => h.n.nw g (by simpa using hg), h.n.b, h.n.r, h.n.x, h.n.q, h.n.e, h.n.a, h.n.f⟩⟩
theorem svx_ask {N : Nat → Prop} {w : World} {B b : Nat} {s : Sv} {vr vw vq : Value} {VR VW VQ : Nat → Value} (hb : B ≤ b) (hx : Box4 w b 28 vr (.int .i64 s.t) vw vq) (h1 : EO w B 43 8 vr s.n (rpF s.R VR)) (h2 : EO w B 37 5 vw s.m (woF s.W VW)) (h3 : EO w B 90 5 vq (s.l + 1) (roF (updE s.Q s.l (roNew s.t)) (updE VQ s.l (.slice none 0 0)))) (h4 : ∀ i, i < s.n → IE w B (VR i) (s.R i).ne (s.R i).E) (h5 : ∀ i, i < s.m → IE w B (VW i) (s.W i).ne (s.W i).E) (h6 : ∀ i, i < s.l → IE w B (VQ i) (s.Q i).ne (s.Q i).E) (hd : SvD s VR VW VQ) {w0 : World} {vq0 : Value} (hn : NbS N w0 b s vr vw vq0 VR VW VQ) (hs : w0.heap.size ≤ w.heap.size) (hv : ∀ g, vq.ownBlock = some g → vq0.ownBlock = some g ∨ w0.heap.size ≤ g) : SvX N w B b { s with l := s.l + 1, Q := updE s.Q s.l (roNew s.t) } := by
 have nn : ∀ g, (updE VQ s.l (.slice none 0 0) s.l).ownBlock ≠ some g := fun g e => by rw [updE_at, if_pos rfl] at e; cases e
 have ne : ∀ i, i < s.l → updE VQ s.l (.slice none 0 0) i = VQ i := fun i hi => by rw [updE_at, if_neg (by omega)]
 have lt : ∀ i g, i < s.l + 1 → (updE VQ s.l (.slice none 0 0) i).ownBlock = some g → i < s.l := fun i g hi e => by
  rcases Nat.lt_or_ge i s.l with q | q
  ·exact q
  ·obtain rfl : i = s.l := by omega
   exact absurd e (nn g)
 refine ⟨vr, vw, vq, VR, VW, updE VQ s.l (.slice none 0 0), hb, hx, ⟨h1, h2, h3, h4, h5, fun i hi => ?_⟩, ⟨hd.1, hd.2.1, fun i j g hi hj e1 e2 => ?_, hd.2.2.2.1, fun i j g hi hj e1 e2 => ?_, fun i j g hi hj e1 e2 => ?_⟩, ⟨fun g hg => hn.nw g (Nat.le_trans hs hg), hn.b, hn.r, hn.x, fun g e => (hv g e).elim (hn.q g) (hn.nw g), hn.e, hn.a, fun i g hi e => by
  have a1 := lt i g hi e
  rw [ne i a1] at e
  exact hn.f i g a1 e⟩⟩
 ·dsimp only at hi ⊢
  rw [updE_at, updE_at]
  split
  ·exact EO.nil _ _ _ _ _
  ·exact h6 i (by omega)
 ·have a1 := lt i g hi e1
  have a2 := lt j g hj e2
  rw [ne i a1] at e1
  rw [ne j a2] at e2
  exact hd.2.2.1 i j g a1 a2 e1 e2
 ·have a2 := lt j g hj e2
  rw [ne j a2] at e2
  exact hd.2.2.2.2.1 i j g hi a2 e1 e2
 ·have a2 := lt j g hj e2
  rw [ne j a2] at e2
  exact hd.2.2.2.2.2 i j g hi a2 e1 e2
set_option maxRecDepth 100000 in
set_option maxHeartbeats 8000000 in
theorem do_v {N : Nat → Prop} (B b : Nat) (s : Sv) (ak ar an : Int) (ok : s.Ok) (w : World) (hB : B ≤ w.heap.size) (h : SvX N w B b s) :
  Calls Try.prog 26 #[.pointer (some ⟨b, 0, none⟩), .agg #[.int .i64 ak, .int .i64 ar, .int .i64 an]] w fun e w' => RetSp N B b s ⟨ak, ar, an⟩ e w' ∧ Blw N B w w' := by
 have hb : Below w.heap.size w (w.alloc (.cells #[.int .i64 ak, .int .i64 ar, .int .i64 an] 41)) := (Below.refl _ _).alloc (Nat.le_refl _) _
 have HX : Hid (SvX N (w.alloc (.cells #[.int .i64 ak, .int .i64 ar, .int .i64 an] 41)) B b s) := h.below hb
 have X : Hid (Box3 (w.alloc (.cells #[.int .i64 ak, .int .i64 ar, .int .i64 an] 41)) w.heap.size 41 (.int .i64 ak) (.int .i64 ar) (.int .i64 an)) := Box3.made _ _ _ _ _
 have BV : Hid (B ≤ (w.alloc (.cells #[.int .i64 ak, .int .i64 ar, .int .i64 an] 41)).heap.size ∧ Blw N B w (w.alloc (.cells #[.int .i64 ak, .int .i64 ar, .int .i64 an] 41))) := ⟨Nat.le_trans hB hb.size, blw_of hb hB⟩
 obtain ⟨_, _, _, _, _, _, P0⟩ := h.p
 have NB : Hid (b ≠ w.heap.size) := by have := P0.x.lt; show _ ≠ _; omega
 have t200 : s.t ≤ 200 := ok.1.2.1.2
 have t0 : 0 ≤ s.t := ok.1.2.1.1
 have NW0 : Hid (∀ g, w.heap.size ≤ g → N g) := P0.n.nw
 have hB0 : Hid (B ≤ w.heap.size) := hB
 clear hb h hB P0
 go_enter Try.func26, Try.ntmps26
 go_upto_region 1 with fail
 generalize (w.alloc (.cells #[.int .i64 ak, .int .i64 ar, .int .i64 an] 41)) = v at *
 obtain ⟨ab, hab⟩ : ∃ x, x = w.heap.size := ⟨_, rfl⟩
 rw [← hab] at X NB ⊢
 clear hab
 obtain ⟨vr, vw, vq, VR, VW, VQ, P⟩ := HX.out.p
 have PV : Hid (SvP N v B b s vr vw vq VR VW VQ) := P
 have c1 := P.x.c1
 clear P
 by_cases ht : 200 ≤ s.t
 ·have Q : Hid (RetSp N B b s ⟨ak, ar, an⟩ (.returned (.int .i64 7)) v ∧ Blw N B w v) := ⟨⟨s, 7, .inl ⟨by omega, rfl, rfl⟩, rfl, HX.out⟩, BV.out.2⟩
  clear PV HX X BV NB ok
  go_wp2
  go_ret
  exact Q.out
 ·have OK : Hid ({ s with t := s.t + 1 } : Sv).Ok := ok.up (by omega)
  have ML : Hid (s.m ≤ 200 ∧ s.l ≤ 200 ∧ s.t < 200) := ⟨ok.1.2.2.1, ok.1.2.2.2, by omega⟩
  obtain ⟨T, hT⟩ : ∃ x, x = s.t + 1 := ⟨_, rfl⟩
  have e1 : s.t + 1 = T := hT.symm
  have w1 : IntKind.i64.wrap T = T := IntWalk.i64_in _ (by omega)
  have HT : Hid (T = s.t + 1) := hT
  rw [← hT] at OK
  have f1 := PV.out.x.fr 1
  have P2 : Hid (SvP N (v.setCell ⟨b, 1, none⟩ (.int .i64 T)) B b { s with t := T } vr vw vq VR VW VQ) := PV.out.time T
  have X2 : Hid (Box3 (v.setCell ⟨b, 1, none⟩ (.int .i64 T)) ab 41 (.int .i64 ak) (.int .i64 ar) (.int .i64 an)) := X.out.other (fun e => NB.out e.symm) _
  have B2 : Hid (B ≤ (v.setCell ⟨b, 1, none⟩ (.int .i64 T)).heap.size ∧ Blw N B w (v.setCell ⟨b, 1, none⟩ (.int .i64 T))) := ⟨by have := BV.out.1; simpa using this, BV.out.2.setCell PV.out.h0 PV.out.n.b _⟩
  clear X HX ok hT t200 t0
  go_upto_region 4 with fail
  clear c1 f1 PV BV e1 w1 ht
  generalize (v.setCell ⟨b, 1, none⟩ (.int .i64 T)) = v2 at *
  have TS : Hid (s.t < 200 ∧ T = s.t + 1) := ⟨ML.out.2.2, HT.out⟩
  have x0 := X2.out.c0
  have x1 := X2.out.c1
  have x2 := X2.out.c2
  have GO : Hid (∀ e w', RetA N B b { s with t := T } ⟨ak, ar, an⟩ e w' → RetSp N B b s ⟨ak, ar, an⟩ e w') := fun e w' ⟨s', c, h1, h2, h3⟩ => ⟨s', c, .inr ⟨TS.out.1, by rw [← TS.out.2]; exact h1⟩, h2, h3⟩
  by_cases k1 : ak = 1
  ·--begin
   subst k1
   have BG : Hid (∀ w : World, B ≤ w.heap.size → SvX N w B b { s with t := T } → Calls Try.prog 52 #[.pointer (some ⟨b, 0, none⟩), .int .i64 an] w fun e w' => RetBg N B b { s with t := T } an e w' ∧ Blw N B w w') := fun w hB h => begin_v B b _ an (by have := OK.out.1.2.2.1; show s.m ≤ 300; have : s.m ≤ 200 := this; omega) w hB h
   have S2 : Hid (SvX N v2 B b { s with t := T }) := P2.out.sv
   clear P2
   go_wp2_with fail
   refine (BG.out _ B2.out.1 S2.out).mono ?_
   rintro e v3 ⟨hr, hb⟩
   have B3 : Hid (Blw N B w v3) := B2.out.2.trans hb
   have RA : Hid (RetBg N B b { s with t := T } an e v3) := hr
   clear hb hr
   rcases RA.out with ⟨h1, rfl, h3⟩ | ⟨h1, rfl, h3⟩
   ·have Q : Hid (RetSp N B b s ⟨1, ar, an⟩ (.returned (.int .i64 9)) v3 ∧ Blw N B w v3) := ⟨GO.out _ _ ⟨_, 9, .twice1 rfl h1.1 h1.2, rfl, h3⟩, B3.out⟩
    clear h1 h3 RA GO BG S2 B2 X2 x0 x1 x2
    go_wp2
    go_ret
    exact Q.out
   ·have Q : Hid (RetSp N B b s ⟨1, ar, an⟩ (.returned (.int .i64 0)) v3 ∧ Blw N B w v3) := ⟨GO.out _ _ ⟨_, 0, .begin rfl h1, rfl, h3⟩, B3.out⟩
    clear h1 h3 RA GO BG S2 B2 X2 x0 x1 x2
    go_wp2
    go_ret
    exact Q.out
  ·have g1 : (ak == 1) = false := by simp; exact k1
   by_cases k3 : ak = 3
   ·subst k3
    have S2 : Hid (SvP N v2 B b { s with t := T } vr vw vq VR VW VQ) := P2.out
    obtain ⟨qa, qc, rfl⟩ := P2.out.o.q.form
    clear P2 X2
    go_upto_region 8 with fail
    clear x0 x1 x2
    have XS : Hid (Box4 v2.drew b 28 vr (.int .i64 T) vw (.slice qa s.l qc)) := S2.out.x.below (Below.refl _ _).drew
    have OO : Hid (SvO v2.drew B { s with t := T } vr vw (.slice qa s.l qc) VR VW VQ) := S2.out.o.below (Below.refl _ _).drew
    have NQ : Hid (NbS N w b { s with t := T } vr vw (.slice qa s.l qc) VR VW VQ) := ⟨NW0.out, S2.out.n.b, S2.out.n.r, S2.out.n.x, S2.out.n.q, S2.out.n.e, S2.out.n.a, S2.out.n.f⟩
    have BB : Hid (Blw N B w v2.drew) := B2.out.2.drew
    have B0 : Hid (B ≤ w.heap.size) := hB0.out
    have H : Blw N B w v2.drew := BB.out
    refine wp_region_noPanic ?_
    refine wp_region_held_drew (S := fun w' => Blw N B w w') (by kernel_rfl) H (fun _ => ?_)
    generalize v2.drew = y0 at *
    refine tkH (i := 0) (v := .pointer (some ⟨b, 0, none⟩)) rfl (by kernel_rfl) (by rfl) ?_ H ?_
    ·intro w' hSw; clear hSw; go_simp
    refine tkH (i := 1) (v := .pointer (some ⟨b, 0, none⟩)) rfl (by kernel_rfl) (by rfl) ?_ H ?_
    ·intro w' hSw; clear hSw; go_simp
    refine tkH (i := 2) (v := .pointer (some ⟨b, 0, none⟩)) rfl (by kernel_rfl) (by rfl) ?_ H ?_
    ·intro w' hSw; clear hSw; go_simp
    refine tkH (i := 3) (v := .pointer (some ⟨b, 3, none⟩)) rfl (by kernel_rfl) (by rfl) ?_ H ?_
    ·intro w' hSw; clear hSw; go_simp
    change wpAnyH _ _ _ _ _ _ _ { tmps := #[_,_,_,_,_,_,_,_,_,_,_,_,_,_,_,_,_,_,_,_,_,_,_,_,_,_,_,_,_,_,_,_,_,_,_,_,_,_,_,_,_,_,_,_,_,_,_,_,_,_,_,_,_,_,_,_,_], defers := _ } _
    refine tkH (i := 5) (v := .pointer (some ⟨b, 0, none⟩)) rfl (by kernel_rfl) (by rfl) ?_ H ?_
    ·intro w' hSw; clear hSw; go_simp
    refine tkH (i := 6) (v := .pointer (some ⟨b, 0, none⟩)) rfl (by kernel_rfl) (by rfl) ?_ H ?_
    ·intro w' hSw; clear hSw; go_simp
    refine tkH (i := 7) (v := .pointer (some ⟨b, 1, none⟩)) rfl (by kernel_rfl) (by rfl) ?_ H ?_
    ·intro w' hSw; clear hSw; go_simp
    change wpAnyH _ _ _ _ _ _ _ { tmps := #[_,_,_,_,_,_,_,_,_,_,_,_,_,_,_,_,_,_,_,_,_,_,_,_,_,_,_,_,_,_,_,_,_,_,_,_,_,_,_,_,_,_,_,_,_,_,_,_,_,_,_,_,_,_,_,_,_], defers := _ } _
    refine wpAnyH_ready (rs := [4, 8]) (by kernel_rfl) (by simp) ?_
    refine (AllReadyH.cons rfl (fun KK hK => ?b2) (AllReadyH.cons rfl (fun KK hK => ?b3) AllReadyH.nil))
    case' b2 =>
     have c3 := XS.out.c3
     go_simp
     refine hK.out _ _ H (fun _ => ?_)
     clear hK KK
     change wpAnyH _ _ _ _ _ _ _ { tmps := #[_,_,_,_,_,_,_,_,_,_,_,_,_,_,_,_,_,_,_,_,_,_,_,_,_,_,_,_,_,_,_,_,_,_,_,_,_,_,_,_,_,_,_,_,_,_,_,_,_,_,_,_,_,_,_,_,_], defers := _ } _
     refine rdH (i := 8) (by kernel_rfl) rfl (fun KK hK => ?_)
     have c1 := XS.out.c1
     go_simp
     refine hK.out _ _ H (fun _ => ?_)
     clear hK KK
     refine tkH (i := 9) (v := .agg #[.slice none 0 0, .int .i64 0, .int .i64 0, .int .i64 T, .int .i64 (-1)]) rfl (by kernel_rfl) (by rfl) ?_ H ?_
     ·intro w' hSw; clear hSw; go_simp
     change wpAnyH _ _ _ _ _ _ _ { tmps := #[_,_,_,_,_,_,_,_,_,_,_,_,_,_,_,_,_,_,_,_,_,_,_,_,_,_,_,_,_,_,_,_,_,_,_,_,_,_,_,_,_,_,_,_,_,_,_,_,_,_,_,_,_,_,_,_,_], defers := _ } _
     refine rdH (i := 10) (by kernel_rfl) rfl (fun KK hK => ?_)
     go_simp
     have hb : Below y0.heap.size y0 (y0.alloc (.cells #[.slice none 0 0, .int .i64 0, .int .i64 0, .int .i64 T, .int .i64 (-1)] 90)) := (Below.refl _ _).alloc (Nat.le_refl _) _
     have LB : Hid (∀ j, j < 5 → (y0.alloc (.cells #[.slice none 0 0, .int .i64 0, .int .i64 0, .int .i64 T, .int .i64 (-1)] 90)).cell? ⟨y0.heap.size, 0 + j, none⟩ = some (roV (roNew T) (.slice none 0 0) j)) := fun j hj => by rw [Nat.zero_add, World.cell?_alloc_at (w := y0) _ _ _ j rfl]; rcases (show j = 0 ∨ j = 1 ∨ j = 2 ∨ j = 3 ∨ j = 4 by omega) with rfl | rfl | rfl | rfl | rfl <;> rfl
     replace XS : Hid (Box4 (y0.alloc (.cells #[.slice none 0 0, .int .i64 0, .int .i64 0, .int .i64 T, .int .i64 (-1)] 90)) b 28 vr (.int .i64 T) vw (.slice qa s.l qc)) := XS.out.below hb
     replace OO : Hid (SvO (y0.alloc (.cells #[.slice none 0 0, .int .i64 0, .int .i64 0, .int .i64 T, .int .i64 (-1)] 90)) B { s with t := T } vr vw (.slice qa s.l qc) VR VW VQ) := OO.out.below hb
     replace H : Blw N B w (y0.alloc (.cells #[.slice none 0 0, .int .i64 0, .int .i64 0, .int .i64 T, .int .i64 (-1)] 90)) := H.trans (blw_of hb (Nat.le_trans B0.out H.size))
     clear hb
     generalize (y0.alloc (.cells #[.slice none 0 0, .int .i64 0, .int .i64 0, .int .i64 T, .int .i64 (-1)] 90)) = y1 at *
     generalize y0.heap.size = lb at *
     refine hK.out _ _ H (fun _ => ?_)
     clear hK KK
     change wpAnyH _ _ _ _ _ _ _ { tmps := #[_,_,_,_,_,_,_,_,_,_,_,_,_,_,_,_,_,_,_,_,_,_,_,_,_,_,_,_,_,_,_,_,_,_,_,_,_,_,_,_,_,_,_,_,_,_,_,_,_,_,_,_,_,_,_,_,_], defers := _ } _
    case' b3 =>
     have c1 := XS.out.c1
     go_simp
     refine hK.out _ _ H (fun _ => ?_)
     clear hK KK
     change wpAnyH _ _ _ _ _ _ _ { tmps := #[_,_,_,_,_,_,_,_,_,_,_,_,_,_,_,_,_,_,_,_,_,_,_,_,_,_,_,_,_,_,_,_,_,_,_,_,_,_,_,_,_,_,_,_,_,_,_,_,_,_,_,_,_,_,_,_,_], defers := _ } _
     refine tkH (i := 9) (v := .agg #[.slice none 0 0, .int .i64 0, .int .i64 0, .int .i64 T, .int .i64 (-1)]) rfl (by kernel_rfl) (by rfl) ?_ H ?_
     ·intro w' hSw; clear hSw; go_simp
     change wpAnyH _ _ _ _ _ _ _ { tmps := #[_,_,_,_,_,_,_,_,_,_,_,_,_,_,_,_,_,_,_,_,_,_,_,_,_,_,_,_,_,_,_,_,_,_,_,_,_,_,_,_,_,_,_,_,_,_,_,_,_,_,_,_,_,_,_,_,_], defers := _ } _
     refine wpAnyH_ready (rs := [4, 10]) (by kernel_rfl) (by simp) ?_
     refine (AllReadyH.cons rfl (fun KK hK => ?b6) (AllReadyH.cons rfl (fun KK hK => ?b7) AllReadyH.nil))
     case' b6 =>
      have c3 := XS.out.c3
      go_simp
      refine hK.out _ _ H (fun _ => ?_)
      clear hK KK
      change wpAnyH _ _ _ _ _ _ _ { tmps := #[_,_,_,_,_,_,_,_,_,_,_,_,_,_,_,_,_,_,_,_,_,_,_,_,_,_,_,_,_,_,_,_,_,_,_,_,_,_,_,_,_,_,_,_,_,_,_,_,_,_,_,_,_,_,_,_,_], defers := _ } _
      refine rdH (i := 10) (by kernel_rfl) rfl (fun KK hK => ?_)
      go_simp
      have hb : Below y0.heap.size y0 (y0.alloc (.cells #[.slice none 0 0, .int .i64 0, .int .i64 0, .int .i64 T, .int .i64 (-1)] 90)) := (Below.refl _ _).alloc (Nat.le_refl _) _
      have LB : Hid (∀ j, j < 5 → (y0.alloc (.cells #[.slice none 0 0, .int .i64 0, .int .i64 0, .int .i64 T, .int .i64 (-1)] 90)).cell? ⟨y0.heap.size, 0 + j, none⟩ = some (roV (roNew T) (.slice none 0 0) j)) := fun j hj => by rw [Nat.zero_add, World.cell?_alloc_at (w := y0) _ _ _ j rfl]; rcases (show j = 0 ∨ j = 1 ∨ j = 2 ∨ j = 3 ∨ j = 4 by omega) with rfl | rfl | rfl | rfl | rfl <;> rfl
      replace XS : Hid (Box4 (y0.alloc (.cells #[.slice none 0 0, .int .i64 0, .int .i64 0, .int .i64 T, .int .i64 (-1)] 90)) b 28 vr (.int .i64 T) vw (.slice qa s.l qc)) := XS.out.below hb
      replace OO : Hid (SvO (y0.alloc (.cells #[.slice none 0 0, .int .i64 0, .int .i64 0, .int .i64 T, .int .i64 (-1)] 90)) B { s with t := T } vr vw (.slice qa s.l qc) VR VW VQ) := OO.out.below hb
      replace H : Blw N B w (y0.alloc (.cells #[.slice none 0 0, .int .i64 0, .int .i64 0, .int .i64 T, .int .i64 (-1)] 90)) := H.trans (blw_of hb (Nat.le_trans B0.out H.size))
      clear hb
      generalize (y0.alloc (.cells #[.slice none 0 0, .int .i64 0, .int .i64 0, .int .i64 T, .int .i64 (-1)] 90)) = y1 at *
      generalize y0.heap.size = lb at *
      refine hK.out _ _ H (fun _ => ?_)
      clear hK KK
      change wpAnyH _ _ _ _ _ _ _ { tmps := #[_,_,_,_,_,_,_,_,_,_,_,_,_,_,_,_,_,_,_,_,_,_,_,_,_,_,_,_,_,_,_,_,_,_,_,_,_,_,_,_,_,_,_,_,_,_,_,_,_,_,_,_,_,_,_,_,_], defers := _ } _
     case' b7 =>
      go_simp
      have hb : Below y0.heap.size y0 (y0.alloc (.cells #[.slice none 0 0, .int .i64 0, .int .i64 0, .int .i64 T, .int .i64 (-1)] 90)) := (Below.refl _ _).alloc (Nat.le_refl _) _
      have LB : Hid (∀ j, j < 5 → (y0.alloc (.cells #[.slice none 0 0, .int .i64 0, .int .i64 0, .int .i64 T, .int .i64 (-1)] 90)).cell? ⟨y0.heap.size, 0 + j, none⟩ = some (roV (roNew T) (.slice none 0 0) j)) := fun j hj => by rw [Nat.zero_add, World.cell?_alloc_at (w := y0) _ _ _ j rfl]; rcases (show j = 0 ∨ j = 1 ∨ j = 2 ∨ j = 3 ∨ j = 4 by omega) with rfl | rfl | rfl | rfl | rfl <;> rfl
      replace XS : Hid (Box4 (y0.alloc (.cells #[.slice none 0 0, .int .i64 0, .int .i64 0, .int .i64 T, .int .i64 (-1)] 90)) b 28 vr (.int .i64 T) vw (.slice qa s.l qc)) := XS.out.below hb
      replace OO : Hid (SvO (y0.alloc (.cells #[.slice none 0 0, .int .i64 0, .int .i64 0, .int .i64 T, .int .i64 (-1)] 90)) B { s with t := T } vr vw (.slice qa s.l qc) VR VW VQ) := OO.out.below hb
      replace H : Blw N B w (y0.alloc (.cells #[.slice none 0 0, .int .i64 0, .int .i64 0, .int .i64 T, .int .i64 (-1)] 90)) := H.trans (blw_of hb (Nat.le_trans B0.out H.size))
      clear hb
      generalize (y0.alloc (.cells #[.slice none 0 0, .int .i64 0, .int .i64 0, .int .i64 T, .int .i64 (-1)] 90)) = y1 at *
      generalize y0.heap.size = lb at *
      refine hK.out _ _ H (fun _ => ?_)
      clear hK KK
      change wpAnyH _ _ _ _ _ _ _ { tmps := #[_,_,_,_,_,_,_,_,_,_,_,_,_,_,_,_,_,_,_,_,_,_,_,_,_,_,_,_,_,_,_,_,_,_,_,_,_,_,_,_,_,_,_,_,_,_,_,_,_,_,_,_,_,_,_,_,_], defers := _ } _
      refine rdH (i := 4) (by kernel_rfl) rfl (fun KK hK => ?_)
      have c3 := XS.out.c3
      go_simp
      refine hK.out _ _ H (fun _ => ?_)
      clear hK KK
      change wpAnyH _ _ _ _ _ _ _ { tmps := #[_,_,_,_,_,_,_,_,_,_,_,_,_,_,_,_,_,_,_,_,_,_,_,_,_,_,_,_,_,_,_,_,_,_,_,_,_,_,_,_,_,_,_,_,_,_,_,_,_,_,_,_,_,_,_,_,_], defers := _ } _
    all_goals
     refine rdH (i := 11) (by kernel_rfl) rfl (fun KK hK => ?_)
     obtain ⟨nv, y2, hr5, hE5, hg5, hl5⟩ := appRo y1 B (.slice qa s.l qc) s.l lb s.Q VQ (roNew T) (.slice none 0 0) rfl (Nat.le_trans B0.out H.size) (by have : s.l ≤ 200 := OK.out.1.2.2.2; omega) OO.out.q LB.out
     obtain ⟨na, nc, rfl⟩ := hE5.form
     have HZ0 : Hid (w.heap.size ≤ y1.heap.size) := H.size
     have BW : Blw N B y1 y2 := Blw.grownBy hg5 (Nat.le_trans B0.out H.size) (fun y hy => ⟨(OO.out.q.ge y hy).1, S2.out.n.q y hy⟩)
     replace H : Blw N B w y2 := H.trans BW
     have nb := OO.out.q.notBox4 XS.out (by decide)
     have O2 : Hid (EO y2 B 43 8 vr s.n (rpF s.R VR) ∧ EO y2 B 37 5 vw s.m (woF s.W VW) ∧ (∀ i, i < s.n → IE y2 B (VR i) (s.R i).ne (s.R i).E) ∧ (∀ i, i < s.m → IE y2 B (VW i) (s.W i).ne (s.W i).E) ∧ (∀ i, i < s.l → IE y2 B (VQ i) (s.Q i).ne (s.Q i).E)) := ⟨OO.out.r.keep (fun g e => hg5.block g (OO.out.r.ge g e).2 (fun z => OO.out.r.apart OO.out.q (by decide) g e z.symm)), OO.out.x.keep (fun g e => hg5.block g (OO.out.x.ge g e).2 (fun z => OO.out.x.apart OO.out.q (by decide) g e z.symm)), fun i hi => EO.keep (OO.out.e i hi) (fun g e => hg5.block g (EO.ge (OO.out.e i hi) g e).2 (fun z => EO.apart (OO.out.e i hi) OO.out.q (by decide) g e z.symm)), fun i hi => EO.keep (OO.out.a i hi) (fun g e => hg5.block g (EO.ge (OO.out.a i hi) g e).2 (fun z => EO.apart (OO.out.a i hi) OO.out.q (by decide) g e z.symm)), fun i hi => EO.keep (OO.out.f i hi) (fun g e => hg5.block g (EO.ge (OO.out.f i hi) g e).2 (fun z => EO.apart (OO.out.f i hi) OO.out.q (by decide) g e z.symm))⟩
     have E5 : Hid (EO y2 B 90 5 (.slice na (s.l + 1) nc) (s.l + 1) (roF (updE s.Q s.l (roNew T)) (updE VQ s.l (.slice none 0 0)))) := hE5
     replace XS : Hid (Box4 y2 b 28 vr (.int .i64 T) vw (.slice qa s.l qc)) := XS.out.ofBlock (hg5.block _ XS.out.lt (fun z => nb _ z.symm rfl))
     have HL5 : Hid (∀ g, (Value.slice na (s.l + 1) nc).ownBlock = some g → (Value.slice qa s.l qc).ownBlock = some g ∨ w.heap.size ≤ g) := fun g e => hl5.elim (fun z => .inl (z ▸ e)) (fun z => .inr (by rw [z] at e; cases e; exact HZ0.out))
     clear hE5 hg5 hl5 nb LB OO BW HZ0
     rw [if_pos (by rfl)]
     refine Lib.wp_append_run _ (.tmp 31) (.tmp 37) 26 26 rfl (.slice qa s.l qc) (.slice (some ⟨lb, 0, none⟩) 1 1) rfl rfl _ _ (hr5 _) ?_
     refine hK.out _ _ H (fun _ => ?_)
     clear hK KK
     refine tkH (i := 12) (v := .pointer (some ⟨b, 0, none⟩)) rfl (by kernel_rfl) (by rfl) ?_ H ?_
     ·intro w' hSw; clear hSw; go_simp
     refine tkH (i := 13) (v := .pointer (some ⟨b, 3, none⟩)) rfl (by kernel_rfl) (by rfl) ?_ H ?_
     ·intro w' hSw; clear hSw; go_simp
     change wpAnyH _ _ _ _ _ _ _ { tmps := #[_,_,_,_,_,_,_,_,_,_,_,_,_,_,_,_,_,_,_,_,_,_,_,_,_,_,_,_,_,_,_,_,_,_,_,_,_,_,_,_,_,_,_,_,_,_,_,_,_,_,_,_,_,_,_,_,_], defers := _ } _
     refine rdH (i := 14) (by kernel_rfl) rfl (fun KK hK => ?_)
     have c3 := XS.out.c3
     have f3 := XS.out.fr 3
     go_simp
     have X3 : Hid (Box4 (y2.setCell ⟨b, 3, none⟩ (.slice na (s.l + 1) nc)) b 28 vr (.int .i64 T) vw (.slice na (s.l + 1) nc)) := XS.out.set3 _
     have kp : ∀ g : Nat, g ≠ b → (y2.setCell ⟨b, 3, none⟩ (.slice na (s.l + 1) nc)).heap[g]? = y2.heap[g]? := fun g e => Below.heap_setCell y2 ⟨b, 3, none⟩ _ g e
     have Y1 := EO.keep O2.out.1 (fun g e => kp g (O2.out.1.notBox4 XS.out (by decide) g e))
     have Y2 := EO.keep O2.out.2.1 (fun g e => kp g (O2.out.2.1.notBox4 XS.out (by decide) g e))
     have Y3 := fun i hi => EO.keep (O2.out.2.2.1 i hi) (fun g e => kp g (EO.notBox4 (O2.out.2.2.1 i hi) XS.out (by decide) g e))
     have Y4 := fun i hi => EO.keep (O2.out.2.2.2.1 i hi) (fun g e => kp g (EO.notBox4 (O2.out.2.2.2.1 i hi) XS.out (by decide) g e))
     have Y5 := fun i hi => EO.keep (O2.out.2.2.2.2 i hi) (fun g e => kp g (EO.notBox4 (O2.out.2.2.2.2 i hi) XS.out (by decide) g e))
     have Y6 := EO.keep E5.out (fun g e => kp g (E5.out.notBox4 XS.out (by decide) g e))
     have Q : Hid (RetSp N B b s ⟨3, ar, an⟩ (.returned (.int .i64 0)) (y2.setCell ⟨b, 3, none⟩ (.slice na (s.l + 1) nc))) := GO.out _ _ ⟨_, 0, .ask rfl, rfl, svx_ask S2.out.h0 X3.out Y1 Y2 Y6 Y3 Y4 Y5 S2.out.d NQ.out (Nat.le_trans H.size (by simp)) HL5.out⟩
     replace H : Blw N B w (y2.setCell ⟨b, 3, none⟩ (.slice na (s.l + 1) nc)) := H.setCell S2.out.h0 S2.out.n.b _
     clear c3 f3 XS X3 kp Y1 Y2 Y3 Y4 Y5 Y6 O2 E5
     generalize (y2.setCell ⟨b, 3, none⟩ (.slice na (s.l + 1) nc)) = y3 at *
     refine hK.out _ _ H (fun _ => ?_)
     clear hK KK
     change wpAnyH _ _ _ _ _ _ _ { tmps := #[_,_,_,_,_,_,_,_,_,_,_,_,_,_,_,_,_,_,_,_,_,_,_,_,_,_,_,_,_,_,_,_,_,_,_,_,_,_,_,_,_,_,_,_,_,_,_,_,_,_,_,_,_,_,_,_,_], defers := _ } _
     refine wpAnyH_done (by kernel_rfl) ?_ _
     refine NoPanic.normal ?_
     have B9 : Hid (Blw N B w y3) := H
     clear H
     go_wp2
     go_ret
     exact ⟨Q.out, B9.out⟩
   ·have g3 : (ak == 3) = false := by simp; exact k3
    by_cases kk : ak = 2 ∨ ak = 4 ∨ ak = 5 ∨ ak = 6 ∨ ak = 7
    ·have KK : Hid (ak = 2 ∨ ak = 4 ∨ ak = 5 ∨ ak = 6 ∨ ak = 7) := kk
     obtain ⟨ra, rc, rfl⟩ := P2.out.o.r.form
     obtain ⟨wa, wc, rfl⟩ := P2.out.o.x.form
     obtain ⟨qa, qc, rfl⟩ := P2.out.o.q.form
     obtain ⟨z, hz⟩ : ∃ z, z = sB (0 ≤ ar ∧ ar < (s.n : Int)) := ⟨_, rfl⟩
     have HZ : Hid (z = sB (0 ≤ ar ∧ ar < (s.n : Int))) := hz
     have HAS : Hid (∀ w : World, Calls Try.prog 53 #[.agg #[.slice ra s.n rc, .int .i64 T, .slice wa s.m wc, .slice qa s.l qc], .int .i64 ar] w fun e w' => e = .returned (.bool z) ∧ Below w.heap.size w w') := fun w => has_v { s with t := T } ⟨ra, wa, qa, fun _ => none, fun _ => none, fun _ => none, fun _ => 0, fun _ => 0, fun _ => 0, rc, wc, qc⟩ ar z HZ.out w
     have DA : Hid (∀ (k : Nat) (w : World), ar = k → k < s.n → B ≤ w.heap.size → SvX N w B b { s with t := T } → Calls Try.prog 54 #[.pointer (some ⟨b, 0, none⟩), .agg #[.int .i64 ak, .int .i64 ar, .int .i64 an]] w fun e w' => RetA N B b { s with t := T } ⟨ak, ar, an⟩ e w' ∧ Blw N B w w') := fun k w h1 h2 hB h => by rw [h1]; exact doAt_v B b { s with t := T } ak an k h2 KK.out OK.out w hB h
     have AW : Hid (¬ (0 ≤ ar ∧ ar < (s.n : Int)) → RetSp N B b s ⟨ak, ar, an⟩ (.returned (.int .i64 4)) v2) := fun q => GO.out _ _ ⟨_, 4, .away KK.out q, rfl, P2.out.sv⟩
     have PX : Hid (SvP N v2 B b { s with t := T } (.slice ra s.n rc) (.slice wa s.m wc) (.slice qa s.l qc) VR VW VQ) := P2.out
     clear hz KK P2
     rcases kk with rfl | rfl | rfl | rfl | rfl
     all_goals (
      clear k1 k3 g1 g3
      go_upto_region 15 with fail
      clear x0 x1 x2
      have H : Below v2.heap.size v2 v2.drew := (Below.refl _ _).drew
      refine wp_region_noPanic ?_
      refine wp_region_held_drew (S := fun w' => Below v2.heap.size v2 w') (by kernel_rfl) H (fun _ => ?_)
      generalize v2.drew = y0 at *
      refine tkH (i := 0) (v := .pointer (some ⟨b, 0, none⟩)) rfl (by kernel_rfl) (by rfl) ?_ H ?_
      ·intro w' hSw; clear hSw; go_simp
      refine tkH (i := 1) (v := .pointer (some ⟨b, 0, none⟩)) rfl (by kernel_rfl) (by rfl) ?_ H ?_
      ·intro w' hSw; clear hSw; go_simp
      change wpAnyH _ _ _ _ _ _ _ { tmps := #[_,_,_,_,_,_,_,_,_,_,_,_,_,_,_,_,_,_,_,_,_,_,_,_,_,_,_,_,_,_,_,_,_,_,_,_,_,_,_,_,_,_,_,_,_,_,_,_,_,_,_,_,_,_,_,_,_], defers := _ } _
      refine tkH (i := 2) (v := .agg #[.slice ra s.n rc, .int .i64 T, .slice wa s.m wc, .slice qa s.l qc]) rfl (by kernel_rfl) (by rfl) ?_ H ?_
      ·intro w' hSw; have XT := (PX.out.x.ofBlock (w' := w') (hSw.block b PX.out.x.lt)); have c0 := XT.c0; have c1 := XT.c1; have c2 := XT.c2; have c3 := XT.c3; clear XT hSw; go_simp
      refine tkH (i := 3) (v := .pointer (some ⟨ab, 1, none⟩)) rfl (by kernel_rfl) (by rfl) ?_ H ?_
      ·intro w' hSw; clear hSw; go_simp
      refine tkH (i := 4) (v := .int .i64 ar) rfl (by kernel_rfl) (by rfl) ?_ H ?_
      ·intro w' hSw; have x1 := (X2.out.ofBlock (w' := w') (hSw.block ab X2.out.lt)).c1; clear hSw; go_simp
      change wpAnyH _ _ _ _ _ _ _ { tmps := #[_,_,_,_,_,_,_,_,_,_,_,_,_,_,_,_,_,_,_,_,_,_,_,_,_,_,_,_,_,_,_,_,_,_,_,_,_,_,_,_,_,_,_,_,_,_,_,_,_,_,_,_,_,_,_,_,_], defers := _ } _
      refine rdH (i := 5) (by kernel_rfl) rfl (fun KK hK => ?_)
      go_simp
      refine (HAS.out y0).mono ?_
      rintro e y1 ⟨rfl, hb⟩
      replace H : Below v2.heap.size v2 y1 := H.trans (hb.mono H.size)
      clear hb
      refine hK.out _ _ H (fun _ => ?_)
      clear hK KK
      refine tkH (i := 6) (v := .bool (!z)) rfl (by kernel_rfl) (by rfl) ?_ H ?_
      ·intro w' hSw; clear hSw; go_simp
      change wpAnyH _ _ _ _ _ _ _ { tmps := #[_,_,_,_,_,_,_,_,_,_,_,_,_,_,_,_,_,_,_,_,_,_,_,_,_,_,_,_,_,_,_,_,_,_,_,_,_,_,_,_,_,_,_,_,_,_,_,_,_,_,_,_,_,_,_,_,_], defers := _ } _
      refine wpAnyH_done (by kernel_rfl) ?_ _
      refine NoPanic.normal ?_
      have HB : Hid (Below v2.heap.size v2 y1) := H
      clear H
      have B3 : Hid (B ≤ y1.heap.size ∧ Blw N B w y1) := ⟨Nat.le_trans B2.out.1 HB.out.size, B2.out.2.trans (blw_of HB.out B2.out.1)⟩
      by_cases hin : 0 ≤ ar ∧ ar < (s.n : Int)
      ·obtain rfl : z = true := HZ.out.trans (sB_yes hin)
       obtain ⟨k, hk⟩ := Int.eq_ofNat_of_zero_le hin.1
       have S3 : Hid (SvX N y1 B b { s with t := T }) := (PX.out.sv).below HB.out
       have HK : Hid (ar = (k : Int) ∧ k < s.n) := ⟨hk, by omega⟩
       have X3 := X2.out.below HB.out
       have x0 := X3.c0
       have x1 := X3.c1
       have x2 := X3.c2
       clear hin hk HAS AW PX HB X3 HZ OK ML HT
       go_wp2_with fail
       refine (DA.out k _ HK.out.1 HK.out.2 B3.out.1 S3.out).mono ?_
       rintro e v4 ⟨⟨s', c, h1, rfl, h3⟩, hb⟩
       have Q := GO.out _ _ ⟨s', c, h1, rfl, h3⟩
       have QH : Hid _ := Q
       have B4 : Hid (Blw N B w v4) := B3.out.2.trans hb
       clear Q h1 h3 hb GO DA HK S3 B3 x0 x1 x2
       go_wp2
       go_ret
       exact ⟨QH.out, B4.out⟩
      ·obtain rfl : z = false := HZ.out.trans (sB_no hin)
       have Q := AW.out hin
       obtain ⟨s', c, h1, h2, h3⟩ := Q
       have QH : Hid (RetSp N B b s _ (.returned (.int .i64 4)) y1) := ⟨s', c, h1, h2, h3.below HB.out⟩
       clear h1 h2 h3 hin DA HAS AW PX HB GO HZ OK ML HT
       go_wp2
       go_ret
       exact ⟨QH.out, B3.out.2⟩)
    ·have g2 : (ak == 2) = false := by simp; omega
     have g4 : (ak == 4) = false := by simp; omega
     have g5 : (ak == 5) = false := by simp; omega
     have g6 : (ak == 6) = false := by simp; omega
     have g7 : (ak == 7) = false := by simp; omega
     have Q : Hid (RetSp N B b s ⟨ak, ar, an⟩ (.returned (.int .i64 3)) v2 ∧ Blw N B w v2) := ⟨GO.out _ _ ⟨_, 3, .form (fun q => by have := q.1; have := q.2; dsimp only at *; omega), rfl, P2.out.sv⟩, B2.out.2⟩
     clear P2 X2 B2 GO OK k1 k3 kk
     go_wp2
     go_ret
     exact Q.out
end Go.Proofs.Ytedncfcmhaaobaa
