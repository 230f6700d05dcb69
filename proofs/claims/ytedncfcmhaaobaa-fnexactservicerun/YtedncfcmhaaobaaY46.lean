/-
  Texts of the proof, joined: QuDo, QuR.
-/
import Derived.Test.YtedncfcmhaaobaaY44
import Derived.Test.YtedncfcmhaaobaaY45
import Derived.Deep.Cut
import Derived.Test.YtedncfcmhaaobaaY33
import Derived.Test.YtedncfcmhaaobaaTkH
namespace Go.Proofs.Ytedncfcmhaaobaa
open Go.ChangeShapes Go.WideShapes Go.ChangeAt Go.RowKit
set_option linter.unusedVariables false
def RetSp (N : Nat → Prop) (B b : Nat) (s : Sv) (a : Qa) (e : Ending) (w' : World) : Prop := ∃ s' c, StepS s a s' c ∧ e = .returned (.int .i64 c) ∧ SvX N w' B b s'
theorem SvP.time {N : Nat → Prop} {w : World} {B b : Nat} {s : Sv} {vr vw vq : Value} {VR VW VQ : Nat → Value} (h : SvP N w B b s vr vw vq VR VW VQ) (T : Int) : SvP N (w.setCell ⟨b, 1, none⟩ (.int .i64 T)) B b { s with t := T } vr vw vq VR VW VQ := by
 have kp : ∀ g : Nat, g ≠ b → (w.setCell ⟨b, 1, none⟩ (.int .i64 T)).heap[g]? = w.heap[g]? := fun g e => Below.heap_setCell w ⟨b, 1, none⟩ _ g e
 exact ⟨h.h0, h.x.set1 _, ⟨h.o.r.keep (fun g e => kp g (h.o.r.notBox4 h.x (by decide) g e)), h.o.x.keep (fun g e => kp g (h.o.x.notBox4 h.x (by decide) g e)), h.o.q.keep (fun g e => kp g (h.o.q.notBox4 h.x (by decide) g e)), fun i hi => EO.keep (h.o.e i hi) (fun g e => kp g (EO.notBox4 (h.o.e i hi) h.x (by decide) g e)), fun i hi => EO.keep (h.o.a i hi) (fun g e => kp g (EO.notBox4 (h.o.a i hi) h.x (by decide) g e)), fun i hi => EO.keep (h.o.f i hi) (fun g e => kp g (EO.notBox4 (h.o.f i hi) h.x (by decide) g e))⟩, h.d, ⟨fun g hg => h.n.nw g (by simpa using hg), h.n.b, h.n.r, h.n.x, h.n.q, h.n.e, h.n.a, h.n.f⟩⟩
theorem svx_ask {N : Nat → Prop} {w : World} {B b : Nat} {s : Sv} {vr vw vq : Value} {VR VW VQ : Nat → Value} (hb : B ≤ b) (hx : Box4 w b 28 vr (.int .i64 s.t) vw vq) (h1 : EO w B 43 8 vr s.n (rpF s.R VR)) (h2 : EO w B 37 5 vw s.m (woF s.W VW)) (h3 : EO w B 90 5 vq (s.l + 1) (roF (updE s.Q s.l (roNew s.t)) (updE VQ s.l (.slice none 0 0)))) (h4 : ∀ i, i < s.n → IE w B (VR i) (s.R i).ne (s.R i).E) (h5 : ∀ i, i < s.m → IE w B (VW i) (s.W i).ne (s.W i).E) (h6 : ∀ i, i < s.l → IE w B (VQ i) (s.Q i).ne (s.Q i).E) (hd : SvD s VR VW VQ) {w0 : World} {vq0 : Value} (hn : NbS N w0 b s vr vw vq0 VR VW VQ) (hs : w0.heap.size ≤ w.heap.size) (hv : ∀ g, vq.ownBlock = some g → vq0.ownBlock = some g ∨ w0.heap.size ≤ g) : SvX N w B b { s with l := s.l + 1, Q := updE s.Q s.l (roNew s.t) } := by
 have nn : ∀ g, (updE VQ s.l (.slice none 0 0) s.l).ownBlock ≠ some g := fun g e => by rw [updE_at, if_pos rfl] at e; cases e
 have ne : ∀ i, i < s.l → updE VQ s.l (.slice none 0 0) i = VQ i := fun i hi => by rw [updE_at, if_neg (by omega)]
 have lt : ∀ i g, i < s.l + 1 → (updE VQ s.l (.slice none 0 0) i).ownBlock = some g → i < s.l := fun i g hi e => by
  rcases Nat.lt_or_ge i s.l with q | q
  ·exact q
  ·obtain rfl : i = s.l := by omega
   exact absurd e (nn g)
 refine ⟨vr, vw, vq, VR, VW, updE VQ s.l (.slice none 0 0), hb, hx, ⟨h1, h2, h3, h4, h5, fun i hi => ?_⟩, ⟨hd.1, hd.2.1, fun i j g hi hj e1 e2 => ?_, hd.2.2.2.1, fun i j g hi hj e1 e2 => ?_, fun i j g hi hj e1 e2 => ?_⟩, ⟨fun g hg => hn.nw g (Nat.le_trans hs hg), hn.b, hn.r, hn.x, fun g e => (hv g e).elim (hn.q g) (hn.nw g), hn.e, hn.a, fun i g hi e => by
  have a1 := lt i g hi e
  rw [ne i a1] at e
  exact hn.f i g a1 e⟩⟩
 ·dsimp only at hi ⊢
  rw [updE_at, updE_at]
  split
  ·exact EO.nil _ _ _ _ _
  ·exact h6 i (by omega)
 ·have a1 := lt i g hi e1
  have a2 := lt j g hj e2
  rw [ne i a1] at e1
  rw [ne j a2] at e2
  exact hd.2.2.1 i j g a1 a2 e1 e2
 ·have a2 := lt j g hj e2
  rw [ne j a2] at e2
  exact hd.2.2.2.2.1 i j g hi a2 e1 e2
 ·have a2 := lt j g hj e2
  rw [ne j a2] at e2
  exact hd.2.2.2.2.2 i j g hi a2 e1 e2
set_option maxRecDepth 100000 in
set_option maxHeartbeats 8000000 in
theorem do_v {N : Nat → Prop} (B b : Nat) (s : Sv) (ak ar an : Int) (ok : s.Ok) (w : World) (hB : B ≤ w.heap.size) (h : SvX N w B b s) :
  Calls Try.prog 26 #[.pointer (some ⟨b, 0, none⟩), .agg #[.int .i64 ak, .int .i64 ar, .int .i64 an]] w fun e w' => RetSp N B b s ⟨ak, ar, an⟩ e w' ∧ Blw N B w w' := by
 have hb : Below w.heap.size w (w.alloc (.cells #[.int .i64 ak, .int .i64 ar, .int .i64 an] 41)) := (Below.refl _ _).alloc (Nat.le_refl _) _
 have HX : Hid (SvX N (w.alloc (.cells #[.int .i64 ak, .int .i64 ar, .int .i64 an] 41)) B b s) := h.below hb
 have X : Hid (Box3 (w.alloc (.cells #[.int .i64 ak, .int .i64 ar, .int .i64 an] 41)) w.heap.size 41 (.int .i64 ak) (.int .i64 ar) (.int .i64 an)) := Box3.made _ _ _ _ _
 have BV : Hid (B ≤ (w.alloc (.cells #[.int .i64 ak, .int .i64 ar, .int .i64 an] 41)).heap.size ∧ Blw N B w (w.alloc (.cells #[.int .i64 ak, .int .i64 ar, .int .i64 an] 41))) := ⟨Nat.le_trans hB hb.size, blw_of hb hB⟩
 obtain ⟨_, _, _, _, _, _, P0⟩ := h.p
 have NB : Hid (b ≠ w.heap.size) := by have := P0.x.lt; show _ ≠ _; omega
 have t200 : s.t ≤ 200 := ok.1.2.1.2
 have t0 : 0 ≤ s.t := ok.1.2.1.1
 have NW0 : Hid (∀ g, w.heap.size ≤ g → N g) := P0.n.nw
 have hB0 : Hid (B ≤ w.heap.size) := hB
 clear hb h hB P0
 go_enter Try.func26, Try.ntmps26
 go_upto_region 1 with fail
 generalize (w.alloc (.cells #[.int .i64 ak, .int .i64 ar, .int .i64 an] 41)) = v at *
 obtain ⟨ab, hab⟩ : ∃ x, x = w.heap.size := ⟨_, rfl⟩
 rw [← hab] at X NB ⊢
 clear hab
 obtain ⟨vr, vw, vq, VR, VW, VQ, P⟩ := HX.out.p
 have PV : Hid (SvP N v B b s vr vw vq VR VW VQ) := P
 have c1 := P.x.c1
 clear P
 by_cases ht : 200 ≤ s.t
 ·have Q : Hid (RetSp N B b s ⟨ak, ar, an⟩ (.returned (.int .i64 7)) v ∧ Blw N B w v) := ⟨⟨s, 7, .inl ⟨by omega, rfl, rfl⟩, rfl, HX.out⟩, BV.out.2⟩
  clear PV HX X BV NB ok
  go_wp2
  go_ret
  exact Q.out
 ·have OK : Hid ({ s with t := s.t + 1 } : Sv).Ok := ok.up (by omega)
  have ML : Hid (s.m ≤ 200 ∧ s.l ≤ 200 ∧ s.t < 200) := ⟨ok.1.2.2.1, ok.1.2.2.2, by omega⟩
  obtain ⟨T, hT⟩ : ∃ x, x = s.t + 1 := ⟨_, rfl⟩
  have e1 : s.t + 1 = T := hT.symm
  have w1 : IntKind.i64.wrap T = T := IntWalk.i64_in _ (by omega)
  have HT : Hid (T = s.t + 1) := hT
  rw [← hT] at OK
  have f1 := PV.out.x.fr 1
  have P2 : Hid (SvP N (v.setCell ⟨b, 1, none⟩ (.int .i64 T)) B b { s with t := T } vr vw vq VR VW VQ) := PV.out.time T
  have X2 : Hid (Box3 (v.setCell ⟨b, 1, none⟩ (.int .i64 T)) ab 41 (.int .i64 ak) (.int .i64 ar) (.int .i64 an)) := X.out.other (fun e => NB.out e.symm) _
  have B2 : Hid (B ≤ (v.setCell ⟨b, 1, none⟩ (.int .i64 T)).heap.size ∧ Blw N B w (v.setCell ⟨b, 1, none⟩ (.int .i64 T))) := ⟨by have := BV.out.1; simpa using this, BV.out.2.setCell PV.out.h0 PV.out.n.b _⟩
  clear X HX ok hT t200 t0
  go_upto_region 4 with fail
  clear c1 f1 PV BV e1 w1 ht
  generalize (v.setCell ⟨b, 1, none⟩ (.int .i64 T)) = v2 at *
  have TS : Hid (s.t < 200 ∧ T = s.t + 1) := ⟨ML.out.2.2, HT.out⟩
  have x0 := X2.out.c0
  have x1 := X2.out.c1
  have x2 := X2.out.c2
  have GO : Hid (∀ e w', RetA N B b { s with t := T } ⟨ak, ar, an⟩ e w' → RetSp N B b s ⟨ak, ar, an⟩ e w') := fun e w' ⟨s', c, h1, h2, h3⟩ => ⟨s', c, .inr ⟨TS.out.1, by rw [← TS.out.2]; exact h1⟩, h2, h3⟩
  by_cases k1 : ak = 1
  ·--begin
   subst k1
   have BG : Hid (∀ w : World, B ≤ w.heap.size → SvX N w B b { s with t := T } → Calls Try.prog 52 #[.pointer (some ⟨b, 0, none⟩), .int .i64 an] w fun e w' => RetBg N B b { s with t := T } an e w' ∧ Blw N B w w') := fun w hB h => begin_v B b _ an (by have := OK.out.1.2.2.1; show s.m ≤ 300; have : s.m ≤ 200 := this; omega) w hB h
   have S2 : Hid (SvX N v2 B b { s with t := T }) := P2.out.sv
   clear P2
   go_wp2_with fail
   refine (BG.out _ B2.out.1 S2.out).mono ?_
   rintro e v3 ⟨hr, hb⟩
   have B3 : Hid (Blw N B w v3) := B2.out.2.trans hb
   have RA : Hid (RetBg N B b { s with t := T } an e v3) := hr
   clear hb hr
   rcases RA.out with ⟨h1, rfl, h3⟩ | ⟨h1, rfl, h3⟩
   ·have Q : Hid (RetSp N B b s ⟨1, ar, an⟩ (.returned (.int .i64 9)) v3 ∧ Blw N B w v3) := ⟨GO.out _ _ ⟨_, 9, .twice1 rfl h1.1 h1.2, rfl, h3⟩, B3.out⟩
    clear h1 h3 RA GO BG S2 B2 X2 x0 x1 x2
    go_wp2
    go_ret
    exact Q.out
   ·have Q : Hid (RetSp N B b s ⟨1, ar, an⟩ (.returned (.int .i64 0)) v3 ∧ Blw N B w v3) := ⟨GO.out _ _ ⟨_, 0, .begin rfl h1, rfl, h3⟩, B3.out⟩
    clear h1 h3 RA GO BG S2 B2 X2 x0 x1 x2
    go_wp2
    go_ret
    exact Q.out
  ·have g1 : (ak == 1) = false := by simp; exact k1
   by_cases k3 : ak = 3
   ·subst k3
    have S2 : Hid (SvP N v2 B b { s with t := T } vr vw vq VR VW VQ) := P2.out
    obtain ⟨qa, qc, rfl⟩ := P2.out.o.q.form
    clear P2 X2
    go_upto_region 8 with fail
    clear x0 x1 x2
    have XS : Hid (Box4 v2.drew b 28 vr (.int .i64 T) vw (.slice qa s.l qc)) := S2.out.x.below (Below.refl _ _).drew
    have OO : Hid (SvO v2.drew B { s with t := T } vr vw (.slice qa s.l qc) VR VW VQ) := S2.out.o.below (Below.refl _ _).drew
    have NQ : Hid (NbS N w b { s with t := T } vr vw (.slice qa s.l qc) VR VW VQ) := ⟨NW0.out, S2.out.n.b, S2.out.n.r, S2.out.n.x, S2.out.n.q, S2.out.n.e, S2.out.n.a, S2.out.n.f⟩
    have BB : Hid (Blw N B w v2.drew) := B2.out.2.drew
    have B0 : Hid (B ≤ w.heap.size) := hB0.out
    have H : Blw N B w v2.drew := BB.out
    refine wp_region_noPanic ?_
    refine wp_region_held_drew (S := fun w' => Blw N B w w') (by kernel_rfl) H (fun _ => ?_)
    generalize v2.drew = y0 at *
    refine tkH (i := 0) (v := .pointer (some ⟨b, 0, none⟩)) rfl (by kernel_rfl) (by rfl) ?_ H ?_
    ·intro w' hSw; clear hSw; go_simp
    change wpAnyH _ _ _ _ _ _ _ { tmps := #[_,_,_,_,_,_,_,_,_,_,_,_,_,_,_,_,_,_,_,_,_,_,_,_,_,_,_,_,_,_,_,_,_,_,_,_,_,_,_,_,_,_,_,_,_,_,_,_,_,_,_,_,_,_,_,_,_], defers := _ } _
    refine tkH (i := 1) (v := .pointer (some ⟨b, 0, none⟩)) rfl (by kernel_rfl) (by rfl) ?_ H ?_
    ·intro w' hSw; clear hSw; go_simp
    change wpAnyH _ _ _ _ _ _ _ { tmps := #[_,_,_,_,_,_,_,_,_,_,_,_,_,_,_,_,_,_,_,_,_,_,_,_,_,_,_,_,_,_,_,_,_,_,_,_,_,_,_,_,_,_,_,_,_,_,_,_,_,_,_,_,_,_,_,_,_], defers := _ } _
    refine tkH (i := 2) (v := .pointer (some ⟨b, 0, none⟩)) rfl (by kernel_rfl) (by rfl) ?_ H ?_
    ·intro w' hSw; clear hSw; go_simp
    change wpAnyH _ _ _ _ _ _ _ { tmps := #[_,_,_,_,_,_,_,_,_,_,_,_,_,_,_,_,_,_,_,_,_,_,_,_,_,_,_,_,_,_,_,_,_,_,_,_,_,_,_,_,_,_,_,_,_,_,_,_,_,_,_,_,_,_,_,_,_], defers := _ } _
    refine tkH (i := 3) (v := .pointer (some ⟨b, 3, none⟩)) rfl (by kernel_rfl) (by rfl) ?_ H ?_
    ·intro w' hSw; clear hSw; go_simp
    change wpAnyH _ _ _ _ _ _ _ { tmps := #[_,_,_,_,_,_,_,_,_,_,_,_,_,_,_,_,_,_,_,_,_,_,_,_,_,_,_,_,_,_,_,_,_,_,_,_,_,_,_,_,_,_,_,_,_,_,_,_,_,_,_,_,_,_,_,_,_], defers := _ } _
    refine tkH (i := 5) (v := .pointer (some ⟨b, 0, none⟩)) rfl (by kernel_rfl) (by rfl) ?_ H ?_
    ·intro w' hSw; clear hSw; go_simp
    change wpAnyH _ _ _ _ _ _ _ { tmps := #[_,_,_,_,_,_,_,_,_,_,_,_,_,_,_,_,_,_,_,_,_,_,_,_,_,_,_,_,_,_,_,_,_,_,_,_,_,_,_,_,_,_,_,_,_,_,_,_,_,_,_,_,_,_,_,_,_], defers := _ } _
    refine tkH (i := 6) (v := .pointer (some ⟨b, 0, none⟩)) rfl (by kernel_rfl) (by rfl) ?_ H ?_
    ·intro w' hSw; clear hSw; go_simp
    change wpAnyH _ _ _ _ _ _ _ { tmps := #[_,_,_,_,_,_,_,_,_,_,_,_,_,_,_,_,_,_,_,_,_,_,_,_,_,_,_,_,_,_,_,_,_,_,_,_,_,_,_,_,_,_,_,_,_,_,_,_,_,_,_,_,_,_,_,_,_], defers := _ } _
    refine tkH (i := 7) (v := .pointer (some ⟨b, 1, none⟩)) rfl (by kernel_rfl) (by rfl) ?_ H ?_
    ·intro w' hSw; clear hSw; go_simp
    change wpAnyH _ _ _ _ _ _ _ { tmps := #[_,_,_,_,_,_,_,_,_,_,_,_,_,_,_,_,_,_,_,_,_,_,_,_,_,_,_,_,_,_,_,_,_,_,_,_,_,_,_,_,_,_,_,_,_,_,_,_,_,_,_,_,_,_,_,_,_], defers := _ } _
    refine wpAnyH_ready (rs := [4, 8]) (by kernel_rfl) (by simp) ?_
    refine (AllReadyH.cons rfl (fun KK hK => ?b2) (AllReadyH.cons rfl (fun KK hK => ?b3) AllReadyH.nil))
    case' b2 =>
     have c3 := XS.out.c3
     go_simp
     refine hK.out _ _ H (fun _ => ?_)
     clear hK KK
     change wpAnyH _ _ _ _ _ _ _ { tmps := #[_,_,_,_,_,_,_,_,_,_,_,_,_,_,_,_,_,_,_,_,_,_,_,_,_,_,_,_,_,_,_,_,_,_,_,_,_,_,_,_,_,_,_,_,_,_,_,_,_,_,_,_,_,_,_,_,_], defers := _ } _
     refine rdH (i := 8) (by kernel_rfl) rfl (fun KK hK => ?_)
     have c1 := XS.out.c1
     go_simp
     refine hK.out _ _ H (fun _ => ?_)
     clear hK KK
     change wpAnyH _ _ _ _ _ _ _ { tmps := #[_,_,_,_,_,_,_,_,_,_,_,_,_,_,_,_,_,_,_,_,_,_,_,_,_,_,_,_,_,_,_,_,_,_,_,_,_,_,_,_,_,_,_,_,_,_,_,_,_,_,_,_,_,_,_,_,_], defers := _ } _
     refine tkH (i := 9) (v := .agg #[.slice none 0 0, .int .i64 0, .int .i64 0, .int .i64 T, .int .i64 (-1)]) rfl (by kernel_rfl) (by rfl) ?_ H ?_
     ·intro w' hSw; clear hSw; go_simp
     change wpAnyH _ _ _ _ _ _ _ { tmps := #[_,_,_,_,_,_,_,_,_,_,_,_,_,_,_,_,_,_,_,_,_,_,_,_,_,_,_,_,_,_,_,_,_,_,_,_,_,_,_,_,_,_,_,_,_,_,_,_,_,_,_,_,_,_,_,_,_], defers := _ } _
     refine rdH (i := 10) (by kernel_rfl) rfl (fun KK hK => ?_)
     go_simp
     have hb : Below y0.heap.size y0 (y0.alloc (.cells #[.slice none 0 0, .int .i64 0, .int .i64 0, .int .i64 T, .int .i64 (-1)] 90)) := (Below.refl _ _).alloc (Nat.le_refl _) _
     have LB : Hid (∀ j, j < 5 → (y0.alloc (.cells #[.slice none 0 0, .int .i64 0, .int .i64 0, .int .i64 T, .int .i64 (-1)] 90)).cell? ⟨y0.heap.size, 0 + j, none⟩ = some (roV (roNew T) (.slice none 0 0) j)) := fun j hj => by rw [Nat.zero_add, World.cell?_alloc_at (w := y0) _ _ _ j rfl]; rcases (show j = 0 ∨ j = 1 ∨ j = 2 ∨ j = 3 ∨ j = 4 by omega) with rfl | rfl | rfl | rfl | rfl <;> rfl
     replace XS : Hid (Box4 (y0.alloc (.cells #[.slice none 0 0, .int .i64 0, .int .i64 0, .int .i64 T, .int .i64 (-1)] 90)) b 28 vr (.int .i64 T) vw (.slice qa s.l qc)) := XS.out.below hb
     replace OO : Hid (SvO (y0.alloc (.cells #[.slice none 0 0, .int .i64 0, .int .i64 0, .int .i64 T, .int .i64 (-1)] 90)) B { s with t := T } vr vw (.slice qa s.l qc) VR VW VQ) := OO.out.below hb
     replace H : Blw N B w (y0.alloc (.cells #[.slice none 0 0, .int .i64 0, .int .i64 0, .int .i64 T, .int .i64 (-1)] 90)) := H.trans (blw_of hb (Nat.le_trans B0.out H.size))
     clear hb
     generalize (y0.alloc (.cells #[.slice none 0 0, .int .i64 0, .int .i64 0, .int .i64 T, .int .i64 (-1)] 90)) = y1 at *
     generalize y0.heap.size = lb at *
     refine hK.out _ _ H (fun _ => ?_)
     clear hK KK
     change wpAnyH _ _ _ _ _ _ _ { tmps := #[_,_,_,_,_,_,_,_,_,_,_,_,_,_,_,_,_,_,_,_,_,_,_,_,_,_,_,_,_,_,_,_,_,_,_,_,_,_,_,_,_,_,_,_,_,_,_,_,_,_,_,_,_,_,_,_,_], defers := _ } _
    case' b3 =>
     have c1 := XS.out.c1
     go_simp
     refine hK.out _ _ H (fun _ => ?_)
     clear hK KK
     change wpAnyH _ _ _ _ _ _ _ { tmps := #[_,_,_,_,_,_,_,_,_,_,_,_,_,_,_,_,_,_,_,_,_,_,_,_,_,_,_,_,_,_,_,_,_,_,_,_,_,_,_,_,_,_,_,_,_,_,_,_,_,_,_,_,_,_,_,_,_], defers := _ } _
     refine tkH (i := 9) (v := .agg #[.slice none 0 0, .int .i64 0, .int .i64 0, .int .i64 T, .int .i64 (-1)]) rfl (by kernel_rfl) (by rfl) ?_ H ?_
     ·intro w' hSw; clear hSw; go_simp
     change wpAnyH _ _ _ _ _ _ _ { tmps := #[_,_,_,_,_,_,_,_,_,_,_,_,_,_,_,_,_,_,_,_,_,_,_,_,_,_,_,_,_,_,_,_,_,_,_,_,_,_,_,_,_,_,_,_,_,_,_,_,_,_,_,_,_,_,_,_,_], defers := _ } _
     refine wpAnyH_ready (rs := [4, 10]) (by kernel_rfl) (by simp) ?_
     refine (AllReadyH.cons rfl (fun KK hK => ?b6) (AllReadyH.cons rfl (fun KK hK => ?b7) AllReadyH.nil))
     case' b6 =>
      have c3 := XS.out.c3
      go_simp
      refine hK.out _ _ H (fun _ => ?_)
      clear hK KK
      change wpAnyH _ _ _ _ _ _ _ { tmps := #[_,_,_,_,_,_,_,_,_,_,_,_,_,_,_,_,_,_,_,_,_,_,_,_,_,_,_,_,_,_,_,_,_,_,_,_,_,_,_,_,_,_,_,_,_,_,_,_,_,_,_,_,_,_,_,_,_], defers := _ } _
      refine rdH (i := 10) (by kernel_rfl) rfl (fun KK hK => ?_)
      go_simp
      have hb : Below y0.heap.size y0 (y0.alloc (.cells #[.slice none 0 0, .int .i64 0, .int .i64 0, .int .i64 T, .int .i64 (-1)] 90)) := (Below.refl _ _).alloc (Nat.le_refl _) _
      have LB : Hid (∀ j, j < 5 → (y0.alloc (.cells #[.slice none 0 0, .int .i64 0, .int .i64 0, .int .i64 T, .int .i64 (-1)] 90)).cell? ⟨y0.heap.size, 0 + j, none⟩ = some (roV (roNew T) (.slice none 0 0) j)) := fun j hj => by rw [Nat.zero_add, World.cell?_alloc_at (w := y0) _ _ _ j rfl]; rcases (show j = 0 ∨ j = 1 ∨ j = 2 ∨ j = 3 ∨ j = 4 by omega) with rfl | rfl | rfl | rfl | rfl <;> rfl
      replace XS : Hid (Box4 (y0.alloc (.cells #[.slice none 0 0, .int .i64 0, .int .i64 0, .int .i64 T, .int .i64 (-1)] 90)) b 28 vr (.int .i64 T) vw (.slice qa s.l qc)) := XS.out.below hb
      replace OO : Hid (SvO (y0.alloc (.cells #[.slice none 0 0, .int .i64 0, .int .i64 0, .int .i64 T, .int .i64 (-1)] 90)) B { s with t := T } vr vw (.slice qa s.l qc) VR VW VQ) := OO.out.below hb
      replace H : Blw N B w (y0.alloc (.cells #[.slice none 0 0, .int .i64 0, .int .i64 0, .int .i64 T, .int .i64 (-1)] 90)) := H.trans (blw_of hb (Nat.le_trans B0.out H.size))
      clear hb
      generalize (y0.alloc (.cells #[.slice none 0 0, .int .i64 0, .int .i64 0, .int .i64 T, .int .i64 (-1)] 90)) = y1 at *
      generalize y0.heap.size = lb at *
      refine hK.out _ _ H (fun _ => ?_)
      clear hK KK
      change wpAnyH _ _ _ _ _ _ _ { tmps := #[_,_,_,_,_,_,_,_,_,_,_,_,_,_,_,_,_,_,_,_,_,_,_,_,_,_,_,_,_,_,_,_,_,_,_,_,_,_,_,_,_,_,_,_,_,_,_,_,_,_,_,_,_,_,_,_,_], defers := _ } _
     case' b7 =>
      go_simp
      have hb : Below y0.heap.size y0 (y0.alloc (.cells #[.slice none 0 0, .int .i64 0, .int .i64 0, .int .i64 T, .int .i64 (-1)] 90)) := (Below.refl _ _).alloc (Nat.le_refl _) _
      have LB : Hid (∀ j, j < 5 → (y0.alloc (.cells #[.slice none 0 0, .int .i64 0, .int .i64 0, .int .i64 T, .int .i64 (-1)] 90)).cell? ⟨y0.heap.size, 0 + j, none⟩ = some (roV (roNew T) (.slice none 0 0) j)) := fun j hj => by rw [Nat.zero_add, World.cell?_alloc_at (w := y0) _ _ _ j rfl]; rcases (show j = 0 ∨ j = 1 ∨ j = 2 ∨ j = 3 ∨ j = 4 by omega) with rfl | rfl | rfl | rfl | rfl <;> rfl
      replace XS : Hid (Box4 (y0.alloc (.cells #[.slice none 0 0, .int .i64 0, .int .i64 0, .int .i64 T, .int .i64 (-1)] 90)) b 28 vr (.int .i64 T) vw (.slice qa s.l qc)) := XS.out.below hb
      replace OO : Hid (SvO (y0.alloc (.cells #[.slice none 0 0, .int .i64 0, .int .i64 0, .int .i64 T, .int .i64 (-1)] 90)) B { s with t := T } vr vw (.slice qa s.l qc) VR VW VQ) := OO.out.below hb
      replace H : Blw N B w (y0.alloc (.cells #[.slice none 0 0, .int .i64 0, .int .i64 0, .int .i64 T, .int .i64 (-1)] 90)) := H.trans (blw_of hb (Nat.le_trans B0.out H.size))
      clear hb
      generalize (y0.alloc (.cells #[.slice none 0 0, .int .i64 0, .int .i64 0, .int .i64 T, .int .i64 (-1)] 90)) = y1 at *
      generalize y0.heap.size = lb at *
      refine hK.out _ _ H (fun _ => ?_)
      clear hK KK
      change wpAnyH _ _ _ _ _ _ _ { tmps := #[_,_,_,_,_,_,_,_,_,_,_,_,_,_,_,_,_,_,_,_,_,_,_,_,_,_,_,_,_,_,_,_,_,_,_,_,_,_,_,_,_,_,_,_,_,_,_,_,_,_,_,_,_,_,_,_,_], defers := _ } _
      refine rdH (i := 4) (by kernel_rfl) rfl (fun KK hK => ?_)
      have c3 := XS.out.c3
      go_simp
      refine hK.out _ _ H (fun _ => ?_)
      clear hK KK
      change wpAnyH _ _ _ _ _ _ _ { tmps := #[_,_,_,_,_,_,_,_,_,_,_,_,_,_,_,_,_,_,_,_,_,_,_,_,_,_,_,_,_,_,_,_,_,_,_,_,_,_,_,_,_,_,_,_,_,_,_,_,_,_,_,_,_,_,_,_,_], defers := _ } _
    all_goals
     refine rdH (i := 11) (by kernel_rfl) rfl (fun KK hK => ?_)
     obtain ⟨nv, y2, hr5, hE5, hg5, hl5⟩ := appRo y1 B (.slice qa s.l qc) s.l lb s.Q VQ (roNew T) (.slice none 0 0) rfl (Nat.le_trans B0.out H.size) (by have : s.l ≤ 200 := OK.out.1.2.2.2; omega) OO.out.q LB.out
     obtain ⟨na, nc, rfl⟩ := hE5.form
     have HZ0 : Hid (w.heap.size ≤ y1.heap.size) := H.size
     have BW : Blw N B y1 y2 := Blw.grownBy hg5 (Nat.le_trans B0.out H.size) (fun y hy => ⟨(OO.out.q.ge y hy).1, S2.out.n.q y hy⟩)
     replace H : Blw N B w y2 := H.trans BW
     have nb := OO.out.q.notBox4 XS.out (by decide)
     have O2 : Hid (EO y2 B 43 8 vr s.n (rpF s.R VR) ∧ EO y2 B 37 5 vw s.m (woF s.W VW) ∧ (∀ i, i < s.n → IE y2 B (VR i) (s.R i).ne (s.R i).E) ∧ (∀ i, i < s.m → IE y2 B (VW i) (s.W i).ne (s.W i).E) ∧ (∀ i, i < s.l → IE y2 B (VQ i) (s.Q i).ne (s.Q i).E)) := ⟨OO.out.r.keep (fun g e => hg5.block g (OO.out.r.ge g e).2 (fun z => OO.out.r.apart OO.out.q (by decide) g e z.symm)), OO.out.x.keep (fun g e => hg5.block g (OO.out.x.ge g e).2 (fun z => OO.out.x.apart OO.out.q (by decide) g e z.symm)), fun i hi => EO.keep (OO.out.e i hi) (fun g e => hg5.block g (EO.ge (OO.out.e i hi) g e).2 (fun z => EO.apart (OO.out.e i hi) OO.out.q (by decide) g e z.symm)), fun i hi => EO.keep (OO.out.a i hi) (fun g e => hg5.block g (EO.ge (OO.out.a i hi) g e).2 (fun z => EO.apart (OO.out.a i hi) OO.out.q (by decide) g e z.symm)), fun i hi => EO.keep (OO.out.f i hi) (fun g e => hg5.block g (EO.ge (OO.out.f i hi) g e).2 (fun z => EO.apart (OO.out.f i hi) OO.out.q (by decide) g e z.symm))⟩
     have E5 : Hid (EO y2 B 90 5 (.slice na (s.l + 1) nc) (s.l + 1) (roF (updE s.Q s.l (roNew T)) (updE VQ s.l (.slice none 0 0)))) := hE5
     replace XS : Hid (Box4 y2 b 28 vr (.int .i64 T) vw (.slice qa s.l qc)) := XS.out.ofBlock (hg5.block _ XS.out.lt (fun z => nb _ z.symm rfl))
     have HL5 : Hid (∀ g, (Value.slice na (s.l + 1) nc).ownBlock = some g → (Value.slice qa s.l qc).ownBlock = some g ∨ w.heap.size ≤ g) := fun g e => hl5.elim (fun z => .inl (z ▸ e)) (fun z => .inr (by rw [z] at e; cases e; exact HZ0.out))
     clear hE5 hg5 hl5 nb LB OO BW HZ0
     rw [if_pos (by rfl)]
     refine Lib.wp_append_run _ (.tmp 31) (.tmp 37) 26 26 rfl (.slice qa s.l qc) (.slice (some ⟨lb, 0, none⟩) 1 1) rfl rfl _ _ (hr5 _) ?_
     refine hK.out _ _ H (fun _ => ?_)
     clear hK KK
     change wpAnyH _ _ _ _ _ _ _ { tmps := #[_,_,_,_,_,_,_,_,_,_,_,_,_,_,_,_,_,_,_,_,_,_,_,_,_,_,_,_,_,_,_,_,_,_,_,_,_,_,_,_,_,_,_,_,_,_,_,_,_,_,_,_,_,_,_,_,_], defers := _ } _
     refine tkH (i := 12) (v := .pointer (some ⟨b, 0, none⟩)) rfl (by kernel_rfl) (by rfl) ?_ H ?_
     ·intro w' hSw; clear hSw; go_simp
     change wpAnyH _ _ _ _ _ _ _ { tmps := #[_,_,_,_,_,_,_,_,_,_,_,_,_,_,_,_,_,_,_,_,_,_,_,_,_,_,_,_,_,_,_,_,_,_,_,_,_,_,_,_,_,_,_,_,_,_,_,_,_,_,_,_,_,_,_,_,_], defers := _ } _
     refine tkH (i := 13) (v := .pointer (some ⟨b, 3, none⟩)) rfl (by kernel_rfl) (by rfl) ?_ H ?_
     ·intro w' hSw; clear hSw; go_simp
     change wpAnyH _ _ _ _ _ _ _ { tmps := #[_,_,_,_,_,_,_,_,_,_,_,_,_,_,_,_,_,_,_,_,_,_,_,_,_,_,_,_,_,_,_,_,_,_,_,_,_,_,_,_,_,_,_,_,_,_,_,_,_,_,_,_,_,_,_,_,_], defers := _ } _
     refine rdH (i := 14) (by kernel_rfl) rfl (fun KK hK => ?_)
     have c3 := XS.out.c3
     have f3 := XS.out.fr 3
     go_simp
     have X3 : Hid (Box4 (y2.setCell ⟨b, 3, none⟩ (.slice na (s.l + 1) nc)) b 28 vr (.int .i64 T) vw (.slice na (s.l + 1) nc)) := XS.out.set3 _
     have kp : ∀ g : Nat, g ≠ b → (y2.setCell ⟨b, 3, none⟩ (.slice na (s.l + 1) nc)).heap[g]? = y2.heap[g]? := fun g e => Below.heap_setCell y2 ⟨b, 3, none⟩ _ g e
     have Y1 := EO.keep O2.out.1 (fun g e => kp g (O2.out.1.notBox4 XS.out (by decide) g e))
     have Y2 := EO.keep O2.out.2.1 (fun g e => kp g (O2.out.2.1.notBox4 XS.out (by decide) g e))
     have Y3 := fun i hi => EO.keep (O2.out.2.2.1 i hi) (fun g e => kp g (EO.notBox4 (O2.out.2.2.1 i hi) XS.out (by decide) g e))
     have Y4 := fun i hi => EO.keep (O2.out.2.2.2.1 i hi) (fun g e => kp g (EO.notBox4 (O2.out.2.2.2.1 i hi) XS.out (by decide) g e))
     have Y5 := fun i hi => EO.keep (O2.out.2.2.2.2 i hi) (fun g e => kp g (EO.notBox4 (O2.out.2.2.2.2 i hi) XS.out (by decide) g e))
     have Y6 := EO.keep E5.out (fun g e => kp g (E5.out.notBox4 XS.out (by decide) g e))
     have Q : Hid (RetSp N B b s ⟨3, ar, an⟩ (.returned (.int .i64 0)) (y2.setCell ⟨b, 3, none⟩ (.slice na (s.l + 1) nc))) := GO.out _ _ ⟨_, 0, .ask rfl, rfl, svx_ask S2.out.h0 X3.out Y1 Y2 Y6 Y3 Y4 Y5 S2.out.d NQ.out (Nat.le_trans H.size (by simp)) HL5.out⟩
     replace H : Blw N B w (y2.setCell ⟨b, 3, none⟩ (.slice na (s.l + 1) nc)) := H.setCell S2.out.h0 S2.out.n.b _
     clear c3 f3 XS X3 kp Y1 Y2 Y3 Y4 Y5 Y6 O2 E5
     generalize (y2.setCell ⟨b, 3, none⟩ (.slice na (s.l + 1) nc)) = y3 at *
     refine hK.out _ _ H (fun _ => ?_)
     clear hK KK
     change wpAnyH _ _ _ _ _ _ _ { tmps := #[_,_,_,_,_,_,_,_,_,_,_,_,_,_,_,_,_,_,_,_,_,_,_,_,_,_,_,_,_,_,_,_,_,_,_,_,_,_,_,_,_,_,_,_,_,_,_,_,_,_,_,_,_,_,_,_,_], defers := _ } _
     refine wpAnyH_done (by kernel_rfl) ?_ _
     refine NoPanic.normal ?_
     have B9 : Hid (Blw N B w y3) := H
     clear H
     go_wp2
     go_ret
     exact ⟨Q.out, B9.out⟩
   ·have g3 : (ak == 3) = false := by simp; exact k3
    by_cases kk : ak = 2 ∨ ak = 4 ∨ ak = 5 ∨ ak = 6 ∨ ak = 7
    ·have KK : Hid (ak = 2 ∨ ak = 4 ∨ ak = 5 ∨ ak = 6 ∨ ak = 7) := kk
     obtain ⟨ra, rc, rfl⟩ := P2.out.o.r.form
     obtain ⟨wa, wc, rfl⟩ := P2.out.o.x.form
     obtain ⟨qa, qc, rfl⟩ := P2.out.o.q.form
     obtain ⟨z, hz⟩ : ∃ z, z = sB (0 ≤ ar ∧ ar < (s.n : Int)) := ⟨_, rfl⟩
     have HZ : Hid (z = sB (0 ≤ ar ∧ ar < (s.n : Int))) := hz
     have HAS : Hid (∀ w : World, Calls Try.prog 53 #[.agg #[.slice ra s.n rc, .int .i64 T, .slice wa s.m wc, .slice qa s.l qc], .int .i64 ar] w fun e w' => e = .returned (.bool z) ∧ Below w.heap.size w w') := fun w => has_v { s with t := T } ⟨ra, wa, qa, fun _ => none, fun _ => none, fun _ => none, fun _ => 0, fun _ => 0, fun _ => 0, rc, wc, qc⟩ ar z HZ.out w
     have DA : Hid (∀ (k : Nat) (w : World), ar = k → k < s.n → B ≤ w.heap.size → SvX N w B b { s with t := T } → Calls Try.prog 54 #[.pointer (some ⟨b, 0, none⟩), .agg #[.int .i64 ak, .int .i64 ar, .int .i64 an]] w fun e w' => RetA N B b { s with t := T } ⟨ak, ar, an⟩ e w' ∧ Blw N B w w') := fun k w h1 h2 hB h => by rw [h1]; exact doAt_v B b { s with t := T } ak an k h2 KK.out OK.out w hB h
     have AW : Hid (¬ (0 ≤ ar ∧ ar < (s.n : Int)) → RetSp N B b s ⟨ak, ar, an⟩ (.returned (.int .i64 4)) v2) := fun q => GO.out _ _ ⟨_, 4, .away KK.out q, rfl, P2.out.sv⟩
     have PX : Hid (SvP N v2 B b { s with t := T } (.slice ra s.n rc) (.slice wa s.m wc) (.slice qa s.l qc) VR VW VQ) := P2.out
     clear hz KK P2
     rcases kk with rfl | rfl | rfl | rfl | rfl
     all_goals (
      clear k1 k3 g1 g3
      go_upto_region 15 with fail
      clear x0 x1 x2
      have H : Below v2.heap.size v2 v2.drew := (Below.refl _ _).drew
      refine wp_region_noPanic ?_
      refine wp_region_held_drew (S := fun w' => Below v2.heap.size v2 w') (by kernel_rfl) H (fun _ => ?_)
      generalize v2.drew = y0 at *
      refine tkH (i := 0) (v := .pointer (some ⟨b, 0, none⟩)) rfl (by kernel_rfl) (by rfl) ?_ H ?_
      ·intro w' hSw; clear hSw; go_simp
      change wpAnyH _ _ _ _ _ _ _ { tmps := #[_,_,_,_,_,_,_,_,_,_,_,_,_,_,_,_,_,_,_,_,_,_,_,_,_,_,_,_,_,_,_,_,_,_,_,_,_,_,_,_,_,_,_,_,_,_,_,_,_,_,_,_,_,_,_,_,_], defers := _ } _
      refine tkH (i := 1) (v := .pointer (some ⟨b, 0, none⟩)) rfl (by kernel_rfl) (by rfl) ?_ H ?_
      ·intro w' hSw; clear hSw; go_simp
      change wpAnyH _ _ _ _ _ _ _ { tmps := #[_,_,_,_,_,_,_,_,_,_,_,_,_,_,_,_,_,_,_,_,_,_,_,_,_,_,_,_,_,_,_,_,_,_,_,_,_,_,_,_,_,_,_,_,_,_,_,_,_,_,_,_,_,_,_,_,_], defers := _ } _
      refine tkH (i := 2) (v := .agg #[.slice ra s.n rc, .int .i64 T, .slice wa s.m wc, .slice qa s.l qc]) rfl (by kernel_rfl) (by rfl) ?_ H ?_
      ·intro w' hSw; have XT := (PX.out.x.ofBlock (w' := w') (hSw.block b PX.out.x.lt)); have c0 := XT.c0; have c1 := XT.c1; have c2 := XT.c2; have c3 := XT.c3; clear XT hSw; go_simp
      change wpAnyH _ _ _ _ _ _ _ { tmps := #[_,_,_,_,_,_,_,_,_,_,_,_,_,_,_,_,_,_,_,_,_,_,_,_,_,_,_,_,_,_,_,_,_,_,_,_,_,_,_,_,_,_,_,_,_,_,_,_,_,_,_,_,_,_,_,_,_], defers := _ } _
      refine tkH (i := 3) (v := .pointer (some ⟨ab, 1, none⟩)) rfl (by kernel_rfl) (by rfl) ?_ H ?_
      ·intro w' hSw; clear hSw; go_simp
      change wpAnyH _ _ _ _ _ _ _ { tmps := #[_,_,_,_,_,_,_,_,_,_,_,_,_,_,_,_,_,_,_,_,_,_,_,_,_,_,_,_,_,_,_,_,_,_,_,_,_,_,_,_,_,_,_,_,_,_,_,_,_,_,_,_,_,_,_,_,_], defers := _ } _
      refine tkH (i := 4) (v := .int .i64 ar) rfl (by kernel_rfl) (by rfl) ?_ H ?_
      ·intro w' hSw; have x1 := (X2.out.ofBlock (w' := w') (hSw.block ab X2.out.lt)).c1; clear hSw; go_simp
      change wpAnyH _ _ _ _ _ _ _ { tmps := #[_,_,_,_,_,_,_,_,_,_,_,_,_,_,_,_,_,_,_,_,_,_,_,_,_,_,_,_,_,_,_,_,_,_,_,_,_,_,_,_,_,_,_,_,_,_,_,_,_,_,_,_,_,_,_,_,_], defers := _ } _
      refine rdH (i := 5) (by kernel_rfl) rfl (fun KK hK => ?_)
      go_simp
      refine (HAS.out y0).mono ?_
      rintro e y1 ⟨rfl, hb⟩
      replace H : Below v2.heap.size v2 y1 := H.trans (hb.mono H.size)
      clear hb
      refine hK.out _ _ H (fun _ => ?_)
      clear hK KK
      change wpAnyH _ _ _ _ _ _ _ { tmps := #[_,_,_,_,_,_,_,_,_,_,_,_,_,_,_,_,_,_,_,_,_,_,_,_,_,_,_,_,_,_,_,_,_,_,_,_,_,_,_,_,_,_,_,_,_,_,_,_,_,_,_,_,_,_,_,_,_], defers := _ } _
      refine tkH (i := 6) (v := .bool (!z)) rfl (by kernel_rfl) (by rfl) ?_ H ?_
      ·intro w' hSw; clear hSw; go_simp
      change wpAnyH _ _ _ _ _ _ _ { tmps := #[_,_,_,_,_,_,_,_,_,_,_,_,_,_,_,_,_,_,_,_,_,_,_,_,_,_,_,_,_,_,_,_,_,_,_,_,_,_,_,_,_,_,_,_,_,_,_,_,_,_,_,_,_,_,_,_,_], defers := _ } _
      refine wpAnyH_done (by kernel_rfl) ?_ _
      refine NoPanic.normal ?_
      have HB : Hid (Below v2.heap.size v2 y1) := H
      clear H
      have B3 : Hid (B ≤ y1.heap.size ∧ Blw N B w y1) := ⟨Nat.le_trans B2.out.1 HB.out.size, B2.out.2.trans (blw_of HB.out B2.out.1)⟩
      by_cases hin : 0 ≤ ar ∧ ar < (s.n : Int)
      ·obtain rfl : z = true := HZ.out.trans (sB_yes hin)
       obtain ⟨k, hk⟩ := Int.eq_ofNat_of_zero_le hin.1
       have S3 : Hid (SvX N y1 B b { s with t := T }) := (PX.out.sv).below HB.out
       have HK : Hid (ar = (k : Int) ∧ k < s.n) := ⟨hk, by omega⟩
       have X3 := X2.out.below HB.out
       have x0 := X3.c0
       have x1 := X3.c1
       have x2 := X3.c2
       clear hin hk HAS AW PX HB X3 HZ OK ML HT
       go_wp2_with fail
       refine (DA.out k _ HK.out.1 HK.out.2 B3.out.1 S3.out).mono ?_
       rintro e v4 ⟨⟨s', c, h1, rfl, h3⟩, hb⟩
       have Q := GO.out _ _ ⟨s', c, h1, rfl, h3⟩
       have QH : Hid _ := Q
       have B4 : Hid (Blw N B w v4) := B3.out.2.trans hb
       clear Q h1 h3 hb GO DA HK S3 B3 x0 x1 x2
       go_wp2
       go_ret
       exact ⟨QH.out, B4.out⟩
      ·obtain rfl : z = false := HZ.out.trans (sB_no hin)
       have Q := AW.out hin
       obtain ⟨s', c, h1, h2, h3⟩ := Q
       have QH : Hid (RetSp N B b s _ (.returned (.int .i64 4)) y1) := ⟨s', c, h1, h2, h3.below HB.out⟩
       clear h1 h2 h3 hin DA HAS AW PX HB GO HZ OK ML HT
       go_wp2
       go_ret
       exact ⟨QH.out, B3.out.2⟩)
    ·have g2 : (ak == 2) = false := by simp; omega
     have g4 : (ak == 4) = false := by simp; omega
     have g5 : (ak == 5) = false := by simp; omega
     have g6 : (ak == 6) = false := by simp; omega
     have g7 : (ak == 7) = false := by simp; omega
     have Q : Hid (RetSp N B b s ⟨ak, ar, an⟩ (.returned (.int .i64 3)) v2 ∧ Blw N B w v2) := ⟨GO.out _ _ ⟨_, 3, .form (fun q => by have := q.1; have := q.2; dsimp only at *; omega), rfl, P2.out.sv⟩, B2.out.2⟩
     clear P2 X2 B2 GO OK k1 k3 kk
     go_wp2
     go_ret
     exact Q.out
end Go.Proofs.Ytedncfcmhaaobaa
namespace Go.Proofs.Ytedncfcmhaaobaa
open Go.ChangeShapes Go.WideShapes Go.ChangeAt Go.RowKit
set_option linter.unusedVariables false
theorem ret_cTTq {P : Program} {fn : Func} {p u u2 : Tmp} {ty : TypeId} {tmps : Array Value} {w : World} {b : Nat} {v x x2 : Value} {Post : Ending → World → Prop} (h : fn.results = #[.cell p ty, .tmp u, .tmp u2]) (hp : tmps.getD p undef = .pointer (some ⟨b, 0, none⟩)) (hu : tmps.getD u undef = x) (hu2 : tmps.getD u2 undef = x2) (hl : (loadVar ty ⟨b, 0, none⟩).run P w = .ok v w) (hq : Post (.returned (.tuple #[v, x, x2])) w) : bodyPost P fn Post .ret { tmps := tmps, defers := [] } w := by
 refine bodyPost_ret (v := .tuple #[v, x, x2]) ?_ rfl hq
 simp only [Array.getD_eq_getD_getElem?] at hp hu hu2
 unfold results
 rw [h]
 simp [hp, hu, hu2, asAddr, hl, Result.andThen]
def NC (v : Value) (g : Nat) : Prop := v.ownBlock ≠ some g
theorem SvO.onlyB {w w' : World} {B q : Nat} {s : Sv} {vr vw vq : Value} {VR VW VQ : Nat → Value} (h : SvO w B s vr vw vq VR VW VQ) (ho : OnlyB q w w') (hq : q < B) : SvO w' B s vr vw vq VR VW VQ :=
 ⟨h.r.onlyB ho hq, h.x.onlyB ho hq, h.q.onlyB ho hq, fun i hi => EO.onlyB (h.e i hi) ho hq, fun i hi => EO.onlyB (h.a i hi) ho hq, fun i hi => EO.onlyB (h.f i hi) ho hq⟩
def RetRn (B n m : Nat) (A : Nat → Qa) (e : Ending) (w : World) : Prop := ∃ (s : Sv) (C : Nat → Int) (vr vw vq : Value) (VR VW VQ : Nat → Value) (ca : Option Addr) (cc sb : Nat), e = .returned (.tuple #[.agg #[vr, .int .i64 s.t, vw, vq], .slice ca m cc, .int .i64 0]) ∧ RunQ A (sNew n) C m s ∧ SvO w B s vr vw vq VR VW VQ ∧ SvD s VR VW VQ ∧ IE w B (.slice ca m cc) m C ∧ NbS (NC (.slice ca m cc)) w sb s vr vw vq VR VW VQ
set_option maxRecDepth 100000 in
set_option maxHeartbeats 8000000 in
theorem implRun_q (n : Nat) (aa : Option Addr) (m ac : Nat) (A : Nat → Qa) (hn : 1 ≤ n ∧ n ≤ 7) (hm : m ≤ 200) (w : World) (h : Els w 3 aa m (quF A)) :
  Calls Try.prog 7 #[.int .i64 (n : Int), .slice aa m ac] w fun e w' => RetRn w.heap.size n m A e w' ∧ Below w.heap.size w w' := by
 have NS : Hid (∀ w : World, Calls Try.prog 25 #[.int .i64 (n : Int)] w fun e w' => RetNo n w.heap.size e w' ∧ Below w.heap.size w w') := fun w => implNs_own n hn w
 have m1 : ¬ (4096 : Int) < (m : Int) := by omega
 have m2 : ¬ (200 : Int) < (m : Int) := by omega
 have HM : Hid (m ≤ 200) := hm
 have HN : Hid (1 ≤ n ∧ n ≤ 7) := hn
 have R0 : Hid (Box4 (w.alloc (.cells #[.slice none 0 0, .int .i64 0, .slice none 0 0, .slice none 0 0] 28)) w.heap.size 28 (.slice none 0 0) (.int .i64 0) (.slice none 0 0) (.slice none 0 0)) := Box4.madeAt rfl _ _ _ _ _
 have B0 : Hid (Below w.heap.size w (w.alloc (.cells #[.slice none 0 0, .int .i64 0, .slice none 0 0, .slice none 0 0] 28))) := (Below.refl _ _).alloc (Nat.le_refl _) _
 have HA : Hid (Els w 3 aa m (quF A)) := h
 clear h hn hm
 go_enter Try.func7, Try.ntmps7
 go_wp2_with fail
 generalize (w.alloc (.cells #[.slice none 0 0, .int .i64 0, .slice none 0 0, .slice none 0 0] 28)) = v at *
 refine (NS.out _).mono ?_
 rintro e v1 ⟨⟨g, rfl, hE⟩, hb⟩
 have mk := mkInE m (by have := HM.out; omega) (v1.alloc (.cells #[.slice (some ⟨g, 0, none⟩) n n, .int .i64 0, .slice none 0 0, .slice none 0 0] 28))
 have b2 : Below v1.heap.size v1 (v1.alloc (.cells #[.slice (some ⟨g, 0, none⟩) n n, .int .i64 0, .slice none 0 0, .slice none 0 0] 28)) := (Below.refl _ _).alloc (Nat.le_refl _) _
 have b3 : Below (v1.alloc (.cells #[.slice (some ⟨g, 0, none⟩) n n, .int .i64 0, .slice none 0 0, .slice none 0 0] 28)).heap.size (v1.alloc (.cells #[.slice (some ⟨g, 0, none⟩) n n, .int .i64 0, .slice none 0 0, .slice none 0 0] 28)) ((v1.alloc (.cells #[.slice (some ⟨g, 0, none⟩) n n, .int .i64 0, .slice none 0 0, .slice none 0 0] 28)).alloc (.cells (madeCells #[.int .i64 0] m) 3)) := (Below.refl _ _).alloc (Nat.le_refl _) _
 have z2 : (v1.alloc (.cells #[.slice (some ⟨g, 0, none⟩) n n, .int .i64 0, .slice none 0 0, .slice none 0 0] 28)).heap.size = v1.heap.size + 1 := by simp
 have z3 : ((v1.alloc (.cells #[.slice (some ⟨g, 0, none⟩) n n, .int .i64 0, .slice none 0 0, .slice none 0 0] 28)).alloc (.cells (madeCells #[.int .i64 0] m) 3)).heap.size = v1.heap.size + 1 + 1 := by simp
 obtain ⟨cg, hcg⟩ : ∃ x, x = v1.heap.size + 1 := ⟨_, rfl⟩
 obtain ⟨sb, hsb⟩ : ∃ x, x = v1.heap.size := ⟨_, rfl⟩
 have gE := hE.ge g rfl
 have S3 : Hid (SvX (NC (.slice (some ⟨cg, 0, none⟩) m m)) ((v1.alloc (.cells #[.slice (some ⟨g, 0, none⟩) n n, .int .i64 0, .slice none 0 0, .slice none 0 0] 28)).alloc (.cells (madeCells #[.int .i64 0] m) 3)) v.heap.size sb (sNew n)) := by
  refine ⟨.slice (some ⟨g, 0, none⟩) n n, .slice none 0 0, .slice none 0 0, fun _ => .slice none 0 0, fun _ => .slice none 0 0, fun _ => .slice none 0 0, by rw [hsb]; exact hb.size, (Box4.madeAt hsb.symm _ _ _ _ _).alloc _, ⟨(hE.below b2).below b3, EO.nil _ _ _ _ _, EO.nil _ _ _ _ _, fun i hi => EO.nil _ _ _ _ _, fun i hi => EO.nil _ _ _ _ _, fun i hi => EO.nil _ _ _ _ _⟩, ⟨fun i j q _ _ e => (by cases e), fun i j q _ _ e => (by cases e), fun i j q _ _ e => (by cases e), fun i j q _ _ e => (by cases e), fun i j q _ _ e => (by cases e), fun i j q _ _ e => (by cases e)⟩, ⟨fun q hq e => ?_, fun e => ?_, fun q e1 e => ?_, fun q e => (by cases e), fun q e => (by cases e), fun i q _ e => (by cases e), fun i q _ e => (by cases e), fun i q _ e => (by cases e)⟩⟩
  ·have e' : cg = q := Option.some.inj e
   omega
  ·have e' : cg = sb := Option.some.inj e
   omega
  ·have e' : cg = q := Option.some.inj e
   have e2 : g = q := Option.some.inj e1
   omega
 have I3 : Hid (IE ((v1.alloc (.cells #[.slice (some ⟨g, 0, none⟩) n n, .int .i64 0, .slice none 0 0, .slice none 0 0] 28)).alloc (.cells (madeCells #[.int .i64 0] m) 3)) v.heap.size (.slice (some ⟨cg, 0, none⟩) m m) m (fun _ => 0)) := by
  have := IE.made (v1.alloc (.cells #[.slice (some ⟨g, 0, none⟩) n n, .int .i64 0, .slice none 0 0, .slice none 0 0] 28)) v.heap.size m (Nat.le_trans hb.size b2.size) (by have := HM.out; omega)
  rw [z2, ← hcg] at this
  exact this
 have BB : Hid (Below v.heap.size v ((v1.alloc (.cells #[.slice (some ⟨g, 0, none⟩) n n, .int .i64 0, .slice none 0 0, .slice none 0 0] 28)).alloc (.cells (madeCells #[.int .i64 0] m) 3))) := (hb.trans (b2.mono hb.size)).trans (b3.mono (Nat.le_trans hb.size b2.size))
 rw [z2, ← hcg] at mk
 have HC : Hid (cg = v1.heap.size + 1 ∧ sb = v1.heap.size) := ⟨hcg, hsb⟩
 clear hE gE b2 b3 NS hb
 go_wp2
 rw [← hsb, show sb + 1 = cg by omega]
 generalize ((v1.alloc (.cells #[.slice (some ⟨g, 0, none⟩) n n, .int .i64 0, .slice none 0 0, .slice none 0 0] 28)).alloc (.cells (madeCells #[.int .i64 0] m) 3)) = v3 at *
 clear z2 z3 hcg hsb HC mk
 go_loopw [34] (fun i wr => ∃ (q : Nat) (s : Sv) (C : Nat → Int), q ≤ m ∧ i = .int .i64 (q : Int) ∧ SvX (NC (.slice (some ⟨cg, 0, none⟩) m m)) wr v.heap.size sb s ∧ RunQ A (sNew n) C q s ∧ IE wr v.heap.size (.slice (some ⟨cg, 0, none⟩) m m) m C ∧ Below v.heap.size v wr) (fun i _ => m - (intOf i).toNat)
 case atStart => exact ⟨0, sNew n, fun _ => 0, by omega, rfl, S3.out, rfl, I3.out, BB.out⟩
 case round =>
  clear S3 I3 BB v3
  obtain ⟨q, s, C, hq, rfl, hsv, hrun, hie, hbw⟩ := hrel
  have BW : Hid (Below v.heap.size v wr) := hbw
  have RU : Hid (RunQ A (sNew n) C q s) := hrun
  have IC : Hid (IE wr v.heap.size (.slice (some ⟨cg, 0, none⟩) m m) m C) := hie
  have SX : Hid (SvX (NC (.slice (some ⟨cg, 0, none⟩) m m)) wr v.heap.size sb s) := hsv
  by_cases hlt : q < m
  ·have hlt' : (q : Int) < (m : Int) := by omega
   obtain ⟨ab, off, rfl, hc⟩ := Els.opened (HA.out.below (B0.out.trans (hbw.mono B0.out.size))) (by omega)
   have d0 : wr.cell? ⟨ab, off + q * 3, none⟩ = some (.int .i64 (A q).k) := hc q hlt 0 (by omega)
   have d1 : wr.cell? ⟨ab, off + q * 3 + 1, none⟩ = some (.int .i64 (A q).r) := hc q hlt 1 (by omega)
   have d2 : wr.cell? ⟨ab, off + q * 3 + 2, none⟩ = some (.int .i64 (A q).n) := hc q hlt 2 (by omega)
   have hbA : Below wr.heap.size wr (wr.alloc (.cells #[.int .i64 (A q).k, .int .i64 (A q).r, .int .i64 (A q).n] 41)) := (Below.refl _ _).alloc (Nat.le_refl _) _
   have HD : Hid (Calls Try.prog 26 #[.pointer (some ⟨sb, 0, none⟩), .agg #[.int .i64 (A q).k, .int .i64 (A q).r, .int .i64 (A q).n]] (wr.alloc (.cells #[.int .i64 (A q).k, .int .i64 (A q).r, .int .i64 (A q).n] 41)) fun e w' => RetSp (NC (.slice (some ⟨cg, 0, none⟩) m m)) v.heap.size sb s ⟨(A q).k, (A q).r, (A q).n⟩ e w' ∧ Blw (NC (.slice (some ⟨cg, 0, none⟩) m m)) v.heap.size (wr.alloc (.cells #[.int .i64 (A q).k, .int .i64 (A q).r, .int .i64 (A q).n] 41)) w') := do_v v.heap.size sb s (A q).k (A q).r (A q).n (RunQ.ok (sNew_ok HN.out) hrun).1 (wr.alloc (.cells #[.int .i64 (A q).k, .int .i64 (A q).r, .int .i64 (A q).n] 41)) (Nat.le_trans hbw.size hbA.size) (hsv.below hbA)
   have IA : Hid (IE (wr.alloc (.cells #[.int .i64 (A q).k, .int .i64 (A q).r, .int .i64 (A q).n] 41)) v.heap.size (.slice (some ⟨cg, 0, none⟩) m m) m C) := EO.below hie hbA
   have BA : Hid (Below v.heap.size v (wr.alloc (.cells #[.int .i64 (A q).k, .int .i64 (A q).r, .int .i64 (A q).n] 41))) := hbw.trans (hbA.mono hbw.size)
   have HLT : Hid (q < m) := hlt
   clear hc hbA hbw hrun hie hsv IC SX BW
   go_wp2_with fail
   generalize (wr.alloc (.cells #[.int .i64 (A q).k, .int .i64 (A q).r, .int .i64 (A q).n] 41)) = wa at *
   refine HD.out.mono ?_
   rintro e w2 ⟨⟨s', c, hst, rfl, hsv⟩, hbl⟩
   have gI := EO.ge IA.out cg rfl
   have I2 : Hid (IE w2 v.heap.size (.slice (some ⟨cg, 0, none⟩) m m) m C) := EO.keep IA.out (fun u e => by cases e; exact hbl.2.block cg gI.2 (fun z => z rfl))
   have t0 := (IE.cell I2.out q HLT.out).1
   have f0 := (IE.cell I2.out q HLT.out).2
   have I4 : Hid (IE (w2.setCell ⟨cg, q, none⟩ (.int .i64 c)) v.heap.size (.slice (some ⟨cg, 0, none⟩) m m) m (updE C q c)) := IE.set I2.out HLT.out c
   have S4 : Hid (SvX (NC (.slice (some ⟨cg, 0, none⟩) m m)) (w2.setCell ⟨cg, q, none⟩ (.int .i64 c)) v.heap.size sb s') := hsv.setOther (fun z => z rfl) (EO.ge I2.out cg rfl).2 _ _
   have R4 : Hid (RunQ A (sNew n) (updE C q c) (q + 1) s') := ⟨s, RU.out.congr (fun i hi => by rw [updE_ne _ _ (by omega)]), by rw [updE_eq]; exact hst⟩
   have B4 : Hid (Below v.heap.size v (w2.setCell ⟨cg, q, none⟩ (.int .i64 c))) := (BA.out.trans hbl.1).setCell gI.1 _
   clear hst hsv hbl gI HD IA I2 BA RU d0 d1 d2
   go_wp2
   go_roundw
   case rel => exact ⟨q + 1, s', updE C q c, by have := HLT.out; omega, by go_num, S4.out, R4.out, I4.out, B4.out⟩
   case measure => have := HLT.out; simp [intOf]; omega
  ·obtain rfl : m = q := by omega
   have hlt' : ¬ (m : Int) < (m : Int) := by omega
   obtain ⟨vr, vw, vq, VR, VW, VQ, P⟩ := hsv.p
   obtain ⟨r1, r2, rfl⟩ := P.o.r.form
   obtain ⟨x1, x2, rfl⟩ := P.o.x.form
   obtain ⟨q1, q2, rfl⟩ := P.o.q.form
   have c0 := P.x.c0
   have c1 := P.x.c1
   have c2 := P.x.c2
   have c3 := P.x.c3
   have RX : Box4 wr w.heap.size 28 (.slice none 0 0) (.int .i64 0) (.slice none 0 0) (.slice none 0 0) := R0.out.below hbw
   have k0 := RX.c0
   have k1 := RX.c1
   have k2 := RX.c2
   have k3 := RX.c3
   have f0 := RX.fr 0
   have f1 := RX.fr 1
   have f2 := RX.fr 2
   have f3 := RX.fr 3
   have lv : w.heap.size < v.heap.size := R0.out.lt
   have O5 : OnlyB w.heap.size wr ((((wr.setCell ⟨w.heap.size, 0, none⟩ (.slice r1 s.n r2)).setCell ⟨w.heap.size, 1, none⟩ (.int .i64 s.t)).setCell ⟨w.heap.size, 2, none⟩ (.slice x1 s.m x2)).setCell ⟨w.heap.size, 3, none⟩ (.slice q1 s.l q2)) := ((((OnlyB.refl _ wr).setCell 0 _).setCell 1 _).setCell 2 _).setCell 3 _
   have X5 : Hid (Box4 ((((wr.setCell ⟨w.heap.size, 0, none⟩ (.slice r1 s.n r2)).setCell ⟨w.heap.size, 1, none⟩ (.int .i64 s.t)).setCell ⟨w.heap.size, 2, none⟩ (.slice x1 s.m x2)).setCell ⟨w.heap.size, 3, none⟩ (.slice q1 s.l q2)) w.heap.size 28 (.slice r1 s.n r2) (.int .i64 s.t) (.slice x1 s.m x2) (.slice q1 s.l q2)) := (((RX.set0 _).set1 _).set2 _).set3 _
   have Q5 : Hid (RetRn w.heap.size n m A (.returned (.tuple #[.agg #[.slice r1 s.n r2, .int .i64 s.t, .slice x1 s.m x2, .slice q1 s.l q2], (.slice (some ⟨cg, 0, none⟩) m m), .int .i64 0])) ((((wr.setCell ⟨w.heap.size, 0, none⟩ (.slice r1 s.n r2)).setCell ⟨w.heap.size, 1, none⟩ (.int .i64 s.t)).setCell ⟨w.heap.size, 2, none⟩ (.slice x1 s.m x2)).setCell ⟨w.heap.size, 3, none⟩ (.slice q1 s.l q2))) := ⟨s, C, _, _, _, VR, VW, VQ, some ⟨cg, 0, none⟩, m, sb, rfl, RU.out, (P.o.onlyB O5 lv).mono B0.out.size, P.d, EO.mono (EO.onlyB hie O5 lv) B0.out.size, P.n.up O5.size⟩
   have B5 : Hid (Below w.heap.size w ((((wr.setCell ⟨w.heap.size, 0, none⟩ (.slice r1 s.n r2)).setCell ⟨w.heap.size, 1, none⟩ (.int .i64 s.t)).setCell ⟨w.heap.size, 2, none⟩ (.slice x1 s.m x2)).setCell ⟨w.heap.size, 3, none⟩ (.slice q1 s.l q2))) := (B0.out.trans (hbw.mono B0.out.size)).trans (O5.toBelow (Nat.le_refl _) (B0.out.trans (hbw.mono B0.out.size)).size)
   clear P RX hsv hrun hie hbw BW RU IC SX O5 lv HA R0 B0
   go_wp2
   exact ret_cTTq (b := w.heap.size) Try.results7 rfl rfl rfl (Box4.loadsv X5.out) ⟨Q5.out, B5.out⟩
end Go.Proofs.Ytedncfcmhaaobaa
