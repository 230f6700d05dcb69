/-
  Texts of the proof, joined: QuB.
-/
import Derived.Test.YtedncfcmhaaobaaY32
import Derived.Test.YtedncfcmhaaobaaY10
import Derived.Test.YtedncfcmhaaobaaTkH
namespace Go.Proofs.Ytedncfcmhaaobaa
open Go.ChangeShapes Go.WideShapes Go.ChangeAt Go.RowKit
set_option linter.unusedVariables false
theorem EO.notBox4 {w : World} {B : Nat} {t : TypeId} {k : Nat} {v : Value} {n : Nat} {F : Nat → Nat → Value} (h : EO w B t k v n F) {b : Nat} {tb : TypeId} {x y z m : Value} (hb : Box4 w b tb x y z m) (ht : tb ≠ t) (g : Nat) (e : v.ownBlock = some g) : g ≠ b := fun e3 => by
 have := EO.notIs h hb ht
 exact this (e3 ▸ e)
theorem tagC (a : Int) : min (max a 0) 1000000 = (if a < 0 then 0 else if 1000000 < a then 1000000 else a) := by
 split
 ·rw [Int.max_eq_right (by omega)]; rfl
 ·split
  ·rw [Int.max_eq_left (by omega), Int.min_eq_right (by omega)]
  ·rw [Int.max_eq_left (by omega), Int.min_eq_left (by omega)]
def RetBg (N : Nat → Prop) (B b : Nat) (s : Sv) (tag : Int) (e : Ending) (w' : World) : Prop := ((0 < s.m ∧ (s.W (s.m - 1)).en = -1) ∧ e = .returned (.int .i64 9) ∧ SvX N w' B b s) ∨ (¬ (0 < s.m ∧ (s.W (s.m - 1)).en = -1) ∧ e = .returned (.int .i64 0) ∧ SvX N w' B b { s with m := s.m + 1, W := updE s.W s.m (woNew s.m tag s.t) })
theorem svx_begin {N : Nat → Prop} {w : World} {B b : Nat} {s : Sv} {a : Int} {vr vw vq : Value} {VR VW VQ : Nat → Value} (hb : B ≤ b) (hx : Box4 w b 28 vr (.int .i64 s.t) vw vq) (h1 : EO w B 43 8 vr s.n (rpF s.R VR)) (h2 : EO w B 37 5 vw (s.m + 1) (woF (updE s.W s.m (woNew s.m a s.t)) (updE VW s.m (.slice none 0 0)))) (h3 : EO w B 90 5 vq s.l (roF s.Q VQ)) (h4 : ∀ i, i < s.n → IE w B (VR i) (s.R i).ne (s.R i).E) (h5 : ∀ i, i < s.m → IE w B (VW i) (s.W i).ne (s.W i).E) (h6 : ∀ i, i < s.l → IE w B (VQ i) (s.Q i).ne (s.Q i).E) (hd : SvD s VR VW VQ) {w0 : World} {vw0 : Value} (hn : NbS N w0 b s vr vw0 vq VR VW VQ) (hs : w0.heap.size ≤ w.heap.size) (hv : ∀ g, vw.ownBlock = some g → vw0.ownBlock = some g ∨ w0.heap.size ≤ g) : SvX N w B b { s with m := s.m + 1, W := updE s.W s.m (woNew s.m a s.t) } := by
 have nn : ∀ g, (updE VW s.m (.slice none 0 0) s.m).ownBlock ≠ some g := fun g e => by rw [updE_at, if_pos rfl] at e; cases e
 have ne : ∀ i, i < s.m → updE VW s.m (.slice none 0 0) i = VW i := fun i hi => by rw [updE_at, if_neg (by omega)]
 have lt : ∀ i g, i < s.m + 1 → (updE VW s.m (.slice none 0 0) i).ownBlock = some g → i < s.m := fun i g hi e => by
  rcases Nat.lt_or_ge i s.m with q | q
  ·exact q
  ·obtain rfl : i = s.m := by omega
   exact absurd e (nn g)
 refine ⟨vr, vw, vq, VR, updE VW s.m (.slice none 0 0), VQ, hb, hx, ⟨h1, h2, h3, h4, fun i hi => ?_, h6⟩, ⟨hd.1, fun i j g hi hj e1 e2 => ?_, hd.2.2.1, fun i j g hi hj e1 e2 => ?_, hd.2.2.2.2.1, fun i j g hi hj e1 => ?_⟩, ⟨fun g hg => hn.nw g (Nat.le_trans hs hg), hn.b, hn.r, fun g e => (hv g e).elim (hn.x g) (hn.nw g), hn.q, hn.e, fun i g hi e => by
  have a1 := lt i g hi e
  rw [ne i a1] at e
  exact hn.a i g a1 e, hn.f⟩⟩
 ·dsimp only at hi ⊢
  rw [updE_at, updE_at]
  split
  ·exact EO.nil _ _ _ _ _
  ·exact h5 i (by omega)
 ·have a1 := lt i g hi e1
  have a2 := lt j g hj e2
  rw [ne i a1] at e1
  rw [ne j a2] at e2
  exact hd.2.1 i j g a1 a2 e1 e2
 ·have a2 := lt j g hj e2
  rw [ne j a2] at e2
  exact hd.2.2.2.1 i j g hi a2 e1 e2
 ·have a1 := lt i g hi e1
  rw [ne i a1] at e1
  exact hd.2.2.2.2.2 i j g a1 hj e1
set_option maxRecDepth 100000 in
set_option maxHeartbeats 4000000 in
theorem begin_v {N : Nat → Prop} (B b : Nat) (s : Sv) (tag : Int) (hs : s.m ≤ 300) (w : World) (hB : B ≤ w.heap.size) (h : SvX N w B b s) :
  Calls Try.prog 52 #[.pointer (some ⟨b, 0, none⟩), .int .i64 tag] w fun e w' => RetBg N B b s tag e w' ∧ Blw N B w w' := by
 obtain ⟨vr, vw, vq, VR, VW, VQ, hBb, hx, ho, hd, hn⟩ := h
 obtain ⟨wa, wc, rfl⟩ := ho.x.form
 by_cases hm : 0 < s.m
 ·have hmI : (0 : Int) < (s.m : Int) := by omega
  obtain ⟨g, hr, _⟩ := ho.x.rowE
  have ga := hr.a hm
  subst ga
  have c2 := hx.c2
  have e4 := hr.c (s.m - 1) (by omega) 4 (by omega)
  have e4' : w.cell? ⟨g, (s.m - 1) * 5 + 4, none⟩ = some (.int .i64 (s.W (s.m - 1)).en) := e4
  obtain ⟨p, hp⟩ : ∃ p, p = s.m - 1 := ⟨_, rfl⟩
  have ep : (s.m : Int) - 1 = (p : Int) := by omega
  have plt : (p : Int) < (s.m : Int) := by omega
  have pw : IntKind.i64.wrap (p : Int) = (p : Int) := IntWalk.i64_in _ (by omega)
  rw [← hp] at e4'
  by_cases he : (s.W p).en = -1
  ·rw [he] at e4'
   have Q : Hid (RetBg N B b s tag (.returned (.int .i64 9)) w) := Or.inl ⟨⟨hm, by rw [← hp]; exact he⟩, rfl, ⟨_, _, _, VR, VW, VQ, hBb, hx, ho, hd, hn⟩⟩
   clear hx ho hd hn hr e4 hm he hp hs
   generalize s.m = M at *
   go_enter Try.func52, Try.ntmps52
   go_wp2
   go_ret
   exact ⟨Q.out, Blw.refl _ _ _⟩
  ·skip
   have NE : Hid (¬ (0 < s.m ∧ (s.W (s.m - 1)).en = -1)) := fun q => he (by rw [hp]; exact q.2)
   have heb : ((s.W p).en == -1) = false := by simp; exact he
   skip
   obtain ⟨M1, hM1⟩ : ∃ x, x = s.m + 1 := ⟨_, rfl⟩
   have e1 : (s.m : Int) + 1 = (M1 : Int) := by omega
   have w1 : IntKind.i64.wrap (M1 : Int) = (M1 : Int) := IntWalk.i64_in _ (by omega)
   obtain ⟨T, hT⟩ : ∃ x, x = (if tag < 0 then 0 else if 1000000 < tag then 1000000 else tag) := ⟨_, rfl⟩
   have tC : min (max tag 0) 1000000 = T := by rw [hT]; exact tagC tag
   have WN : Hid ((woNew s.m tag s.t) = ⟨(M1 : Int), T, 0, fun _ => 0, s.t, -1⟩) := by show _ = _; unfold woNew; rw [hT, ← e1]
   have hb : Below w.heap.size w (w.alloc (.cells #[.int .i64 (M1 : Int), .int .i64 T] 35)) := (Below.refl _ _).alloc (Nat.le_refl _) _
   have XM : Hid (Box2 (w.alloc (.cells #[.int .i64 (M1 : Int), .int .i64 T] 35)) w.heap.size 35 (.int .i64 (M1 : Int)) (.int .i64 T)) := Box2.made _ _ _ _
   have XS : Hid (Box4 (w.alloc (.cells #[.int .i64 (M1 : Int), .int .i64 T] 35)) b 28 vr (.int .i64 s.t) (.slice (some ⟨g, 0, none⟩) s.m wc) vq) := hx.below hb
   have OO : Hid (SvO (w.alloc (.cells #[.int .i64 (M1 : Int), .int .i64 T] 35)) B s vr (.slice (some ⟨g, 0, none⟩) s.m wc) vq VR VW VQ) := ho.below hb
   have BB : Hid (Blw N B w (w.alloc (.cells #[.int .i64 (M1 : Int), .int .i64 T] 35))) := blw_of hb hB
   have HD : Hid (SvD s VR VW VQ) := hd
   have HN : Hid (NbS N w b s vr (.slice (some ⟨g, 0, none⟩) s.m wc) vq VR VW VQ) := hn
   have MS : Hid (s.m ≤ 300 ∧ B ≤ b) := ⟨hs, hBb⟩
   skip
   clear ho hd hn hb hT hM1
   clear hm he hp hr e4
   go_enter Try.func52, Try.ntmps52
   go_wp2_with fail
   generalize (w.alloc (.cells #[.int .i64 (M1 : Int), .int .i64 T] 35)) = v at *
   have hbd : Below v.heap.size v v.drew := (Below.refl _ _).drew
   replace XM : Hid (Box2 v.drew w.heap.size 35 (.int .i64 (M1 : Int)) (.int .i64 T)) := XM.out.below hbd
   replace XS : Hid (Box4 v.drew b 28 vr (.int .i64 s.t) (.slice (some ⟨g, 0, none⟩) s.m wc) vq) := XS.out.below hbd
   replace OO : Hid (SvO v.drew B s vr (.slice (some ⟨g, 0, none⟩) s.m wc) vq VR VW VQ) := OO.out.below hbd
   replace BB : Hid (Blw N B w v.drew) := BB.out.trans (blw_of hbd (Nat.le_trans hB BB.out.size))
   clear hbd
   have H : Blw N B w v.drew := BB.out
   refine wp_region_noPanic ?_
   refine wp_region_held_drew (S := fun w' => Blw N B w w') (by kernel_rfl) H (fun _ => ?_)
   generalize v.drew = y0 at *
   refine tkH (i := 0) (v := .pointer (some ⟨b, 0, none⟩)) rfl (by kernel_rfl) (by rfl) ?_ H ?_
   ·intro w' hSw; clear hSw; go_simp
   change wpAnyH _ _ _ _ _ _ _ { tmps := #[_,_,_,_,_,_,_,_,_,_,_,_,_,_,_,_,_,_,_,_,_,_,_,_,_,_,_,_,_,_,_,_,_,_,_,_,_,_,_,_,_,_,_,_,_,_,_], defers := _ } _
   refine tkH (i := 1) (v := .pointer (some ⟨b, 0, none⟩)) rfl (by kernel_rfl) (by rfl) ?_ H ?_
   ·intro w' hSw; clear hSw; go_simp
   change wpAnyH _ _ _ _ _ _ _ { tmps := #[_,_,_,_,_,_,_,_,_,_,_,_,_,_,_,_,_,_,_,_,_,_,_,_,_,_,_,_,_,_,_,_,_,_,_,_,_,_,_,_,_,_,_,_,_,_,_], defers := _ } _
   refine tkH (i := 2) (v := .pointer (some ⟨b, 0, none⟩)) rfl (by kernel_rfl) (by rfl) ?_ H ?_
   ·intro w' hSw; clear hSw; go_simp
   change wpAnyH _ _ _ _ _ _ _ { tmps := #[_,_,_,_,_,_,_,_,_,_,_,_,_,_,_,_,_,_,_,_,_,_,_,_,_,_,_,_,_,_,_,_,_,_,_,_,_,_,_,_,_,_,_,_,_,_,_], defers := _ } _
   refine tkH (i := 3) (v := .pointer (some ⟨b, 2, none⟩)) rfl (by kernel_rfl) (by rfl) ?_ H ?_
   ·intro w' hSw; clear hSw; go_simp
   change wpAnyH _ _ _ _ _ _ _ { tmps := #[_,_,_,_,_,_,_,_,_,_,_,_,_,_,_,_,_,_,_,_,_,_,_,_,_,_,_,_,_,_,_,_,_,_,_,_,_,_,_,_,_,_,_,_,_,_,_], defers := _ } _
   refine tkH (i := 6) (v := .pointer (some ⟨b, 0, none⟩)) rfl (by kernel_rfl) (by rfl) ?_ H ?_
   ·intro w' hSw; clear hSw; go_simp
   change wpAnyH _ _ _ _ _ _ _ { tmps := #[_,_,_,_,_,_,_,_,_,_,_,_,_,_,_,_,_,_,_,_,_,_,_,_,_,_,_,_,_,_,_,_,_,_,_,_,_,_,_,_,_,_,_,_,_,_,_], defers := _ } _
   refine tkH (i := 7) (v := .pointer (some ⟨b, 0, none⟩)) rfl (by kernel_rfl) (by rfl) ?_ H ?_
   ·intro w' hSw; clear hSw; go_simp
   change wpAnyH _ _ _ _ _ _ _ { tmps := #[_,_,_,_,_,_,_,_,_,_,_,_,_,_,_,_,_,_,_,_,_,_,_,_,_,_,_,_,_,_,_,_,_,_,_,_,_,_,_,_,_,_,_,_,_,_,_], defers := _ } _
   refine tkH (i := 8) (v := .pointer (some ⟨b, 1, none⟩)) rfl (by kernel_rfl) (by rfl) ?_ H ?_
   ·intro w' hSw; clear hSw; go_simp
   change wpAnyH _ _ _ _ _ _ _ { tmps := #[_,_,_,_,_,_,_,_,_,_,_,_,_,_,_,_,_,_,_,_,_,_,_,_,_,_,_,_,_,_,_,_,_,_,_,_,_,_,_,_,_,_,_,_,_,_,_], defers := _ } _
   refine wpAnyH_ready (rs := [4, 5, 9]) (by kernel_rfl) (by simp) ?_
   refine (AllReadyH.cons rfl (fun KK hK => ?b1) (AllReadyH.cons rfl (fun KK hK => ?b2) (AllReadyH.cons rfl (fun KK hK => ?b3) AllReadyH.nil)))
   case' b1 =>
    have c2 := XS.out.c2
    go_simp
    refine hK.out _ _ H (fun _ => ?_)
    clear hK KK
    change wpAnyH _ _ _ _ _ _ _ { tmps := #[_,_,_,_,_,_,_,_,_,_,_,_,_,_,_,_,_,_,_,_,_,_,_,_,_,_,_,_,_,_,_,_,_,_,_,_,_,_,_,_,_,_,_,_,_,_,_], defers := _ } _
    refine wpAnyH_ready (rs := [5, 9]) (by kernel_rfl) (by simp) ?_
    refine (AllReadyH.cons rfl (fun KK hK => ?b4) (AllReadyH.cons rfl (fun KK hK => ?b5) AllReadyH.nil))
    case' b4 =>
     have m0 := XM.out.c0
     have m1 := XM.out.c1
     go_simp
     refine hK.out _ _ H (fun _ => ?_)
     clear hK KK
     change wpAnyH _ _ _ _ _ _ _ { tmps := #[_,_,_,_,_,_,_,_,_,_,_,_,_,_,_,_,_,_,_,_,_,_,_,_,_,_,_,_,_,_,_,_,_,_,_,_,_,_,_,_,_,_,_,_,_,_,_], defers := _ } _
     refine rdH (i := 9) (by kernel_rfl) rfl (fun KK hK => ?_)
     have c1 := XS.out.c1
     go_simp
     refine hK.out _ _ H (fun _ => ?_)
     clear hK KK
     change wpAnyH _ _ _ _ _ _ _ { tmps := #[_,_,_,_,_,_,_,_,_,_,_,_,_,_,_,_,_,_,_,_,_,_,_,_,_,_,_,_,_,_,_,_,_,_,_,_,_,_,_,_,_,_,_,_,_,_,_], defers := _ } _
     refine tkH (i := 10) (v := .agg #[.int .i64 (M1 : Int), .int .i64 T, .slice none 0 0, .int .i64 s.t, .int .i64 (-1)]) rfl (by kernel_rfl) (by rfl) ?_ H ?_
     ·intro w' hSw; clear hSw; go_simp
     change wpAnyH _ _ _ _ _ _ _ { tmps := #[_,_,_,_,_,_,_,_,_,_,_,_,_,_,_,_,_,_,_,_,_,_,_,_,_,_,_,_,_,_,_,_,_,_,_,_,_,_,_,_,_,_,_,_,_,_,_], defers := _ } _
     refine rdH (i := 11) (by kernel_rfl) rfl (fun KK hK => ?_)
     go_simp
     have hb : Below y0.heap.size y0 (y0.alloc (.cells #[.int .i64 (M1 : Int), .int .i64 T, .slice none 0 0, .int .i64 s.t, .int .i64 (-1)] 37)) := (Below.refl _ _).alloc (Nat.le_refl _) _
     have LB : Hid (∀ j, j < 5 → (y0.alloc (.cells #[.int .i64 (M1 : Int), .int .i64 T, .slice none 0 0, .int .i64 s.t, .int .i64 (-1)] 37)).cell? ⟨y0.heap.size, 0 + j, none⟩ = some (woV (woNew s.m tag s.t) (.slice none 0 0) j)) := fun j hj => by rw [WN.out, Nat.zero_add, World.cell?_alloc_at (w := y0) _ _ _ j rfl]; rcases (show j = 0 ∨ j = 1 ∨ j = 2 ∨ j = 3 ∨ j = 4 by omega) with rfl | rfl | rfl | rfl | rfl <;> rfl
     replace XM : Hid (Box2 (y0.alloc (.cells #[.int .i64 (M1 : Int), .int .i64 T, .slice none 0 0, .int .i64 s.t, .int .i64 (-1)] 37)) w.heap.size 35 (.int .i64 (M1 : Int)) (.int .i64 T)) := XM.out.below hb
     replace XS : Hid (Box4 (y0.alloc (.cells #[.int .i64 (M1 : Int), .int .i64 T, .slice none 0 0, .int .i64 s.t, .int .i64 (-1)] 37)) b 28 vr (.int .i64 s.t) (.slice (some ⟨g, 0, none⟩) s.m wc) vq) := XS.out.below hb
     replace OO : Hid (SvO (y0.alloc (.cells #[.int .i64 (M1 : Int), .int .i64 T, .slice none 0 0, .int .i64 s.t, .int .i64 (-1)] 37)) B s vr (.slice (some ⟨g, 0, none⟩) s.m wc) vq VR VW VQ) := OO.out.below hb
     replace H : Blw N B w (y0.alloc (.cells #[.int .i64 (M1 : Int), .int .i64 T, .slice none 0 0, .int .i64 s.t, .int .i64 (-1)] 37)) := H.trans (blw_of hb (Nat.le_trans hB H.size))
     clear hb
     generalize (y0.alloc (.cells #[.int .i64 (M1 : Int), .int .i64 T, .slice none 0 0, .int .i64 s.t, .int .i64 (-1)] 37)) = y1 at *
     generalize y0.heap.size = lb at *
     refine hK.out _ _ H (fun _ => ?_)
     clear hK KK
     change wpAnyH _ _ _ _ _ _ _ { tmps := #[_,_,_,_,_,_,_,_,_,_,_,_,_,_,_,_,_,_,_,_,_,_,_,_,_,_,_,_,_,_,_,_,_,_,_,_,_,_,_,_,_,_,_,_,_,_,_], defers := _ } _
    case' b5 =>
     have c1 := XS.out.c1
     go_simp
     refine hK.out _ _ H (fun _ => ?_)
     clear hK KK
     change wpAnyH _ _ _ _ _ _ _ { tmps := #[_,_,_,_,_,_,_,_,_,_,_,_,_,_,_,_,_,_,_,_,_,_,_,_,_,_,_,_,_,_,_,_,_,_,_,_,_,_,_,_,_,_,_,_,_,_,_], defers := _ } _
     refine rdH (i := 5) (by kernel_rfl) rfl (fun KK hK => ?_)
     have m0 := XM.out.c0
     have m1 := XM.out.c1
     go_simp
     refine hK.out _ _ H (fun _ => ?_)
     clear hK KK
     change wpAnyH _ _ _ _ _ _ _ { tmps := #[_,_,_,_,_,_,_,_,_,_,_,_,_,_,_,_,_,_,_,_,_,_,_,_,_,_,_,_,_,_,_,_,_,_,_,_,_,_,_,_,_,_,_,_,_,_,_], defers := _ } _
     refine tkH (i := 10) (v := .agg #[.int .i64 (M1 : Int), .int .i64 T, .slice none 0 0, .int .i64 s.t, .int .i64 (-1)]) rfl (by kernel_rfl) (by rfl) ?_ H ?_
     ·intro w' hSw; clear hSw; go_simp
     change wpAnyH _ _ _ _ _ _ _ { tmps := #[_,_,_,_,_,_,_,_,_,_,_,_,_,_,_,_,_,_,_,_,_,_,_,_,_,_,_,_,_,_,_,_,_,_,_,_,_,_,_,_,_,_,_,_,_,_,_], defers := _ } _
     refine rdH (i := 11) (by kernel_rfl) rfl (fun KK hK => ?_)
     go_simp
     have hb : Below y0.heap.size y0 (y0.alloc (.cells #[.int .i64 (M1 : Int), .int .i64 T, .slice none 0 0, .int .i64 s.t, .int .i64 (-1)] 37)) := (Below.refl _ _).alloc (Nat.le_refl _) _
     have LB : Hid (∀ j, j < 5 → (y0.alloc (.cells #[.int .i64 (M1 : Int), .int .i64 T, .slice none 0 0, .int .i64 s.t, .int .i64 (-1)] 37)).cell? ⟨y0.heap.size, 0 + j, none⟩ = some (woV (woNew s.m tag s.t) (.slice none 0 0) j)) := fun j hj => by rw [WN.out, Nat.zero_add, World.cell?_alloc_at (w := y0) _ _ _ j rfl]; rcases (show j = 0 ∨ j = 1 ∨ j = 2 ∨ j = 3 ∨ j = 4 by omega) with rfl | rfl | rfl | rfl | rfl <;> rfl
     replace XM : Hid (Box2 (y0.alloc (.cells #[.int .i64 (M1 : Int), .int .i64 T, .slice none 0 0, .int .i64 s.t, .int .i64 (-1)] 37)) w.heap.size 35 (.int .i64 (M1 : Int)) (.int .i64 T)) := XM.out.below hb
     replace XS : Hid (Box4 (y0.alloc (.cells #[.int .i64 (M1 : Int), .int .i64 T, .slice none 0 0, .int .i64 s.t, .int .i64 (-1)] 37)) b 28 vr (.int .i64 s.t) (.slice (some ⟨g, 0, none⟩) s.m wc) vq) := XS.out.below hb
     replace OO : Hid (SvO (y0.alloc (.cells #[.int .i64 (M1 : Int), .int .i64 T, .slice none 0 0, .int .i64 s.t, .int .i64 (-1)] 37)) B s vr (.slice (some ⟨g, 0, none⟩) s.m wc) vq VR VW VQ) := OO.out.below hb
     replace H : Blw N B w (y0.alloc (.cells #[.int .i64 (M1 : Int), .int .i64 T, .slice none 0 0, .int .i64 s.t, .int .i64 (-1)] 37)) := H.trans (blw_of hb (Nat.le_trans hB H.size))
     clear hb
     generalize (y0.alloc (.cells #[.int .i64 (M1 : Int), .int .i64 T, .slice none 0 0, .int .i64 s.t, .int .i64 (-1)] 37)) = y1 at *
     generalize y0.heap.size = lb at *
     refine hK.out _ _ H (fun _ => ?_)
     clear hK KK
     change wpAnyH _ _ _ _ _ _ _ { tmps := #[_,_,_,_,_,_,_,_,_,_,_,_,_,_,_,_,_,_,_,_,_,_,_,_,_,_,_,_,_,_,_,_,_,_,_,_,_,_,_,_,_,_,_,_,_,_,_], defers := _ } _
   case' b2 =>
    have m0 := XM.out.c0
    have m1 := XM.out.c1
    go_simp
    refine hK.out _ _ H (fun _ => ?_)
    clear hK KK
    change wpAnyH _ _ _ _ _ _ _ { tmps := #[_,_,_,_,_,_,_,_,_,_,_,_,_,_,_,_,_,_,_,_,_,_,_,_,_,_,_,_,_,_,_,_,_,_,_,_,_,_,_,_,_,_,_,_,_,_,_], defers := _ } _
    refine wpAnyH_ready (rs := [4, 9]) (by kernel_rfl) (by simp) ?_
    refine (AllReadyH.cons rfl (fun KK hK => ?b10) (AllReadyH.cons rfl (fun KK hK => ?b11) AllReadyH.nil))
    case' b10 =>
     have c2 := XS.out.c2
     go_simp
     refine hK.out _ _ H (fun _ => ?_)
     clear hK KK
     change wpAnyH _ _ _ _ _ _ _ { tmps := #[_,_,_,_,_,_,_,_,_,_,_,_,_,_,_,_,_,_,_,_,_,_,_,_,_,_,_,_,_,_,_,_,_,_,_,_,_,_,_,_,_,_,_,_,_,_,_], defers := _ } _
     refine rdH (i := 9) (by kernel_rfl) rfl (fun KK hK => ?_)
     have c1 := XS.out.c1
     go_simp
     refine hK.out _ _ H (fun _ => ?_)
     clear hK KK
     change wpAnyH _ _ _ _ _ _ _ { tmps := #[_,_,_,_,_,_,_,_,_,_,_,_,_,_,_,_,_,_,_,_,_,_,_,_,_,_,_,_,_,_,_,_,_,_,_,_,_,_,_,_,_,_,_,_,_,_,_], defers := _ } _
     refine tkH (i := 10) (v := .agg #[.int .i64 (M1 : Int), .int .i64 T, .slice none 0 0, .int .i64 s.t, .int .i64 (-1)]) rfl (by kernel_rfl) (by rfl) ?_ H ?_
     ·intro w' hSw; clear hSw; go_simp
     change wpAnyH _ _ _ _ _ _ _ { tmps := #[_,_,_,_,_,_,_,_,_,_,_,_,_,_,_,_,_,_,_,_,_,_,_,_,_,_,_,_,_,_,_,_,_,_,_,_,_,_,_,_,_,_,_,_,_,_,_], defers := _ } _
     refine rdH (i := 11) (by kernel_rfl) rfl (fun KK hK => ?_)
     go_simp
     have hb : Below y0.heap.size y0 (y0.alloc (.cells #[.int .i64 (M1 : Int), .int .i64 T, .slice none 0 0, .int .i64 s.t, .int .i64 (-1)] 37)) := (Below.refl _ _).alloc (Nat.le_refl _) _
     have LB : Hid (∀ j, j < 5 → (y0.alloc (.cells #[.int .i64 (M1 : Int), .int .i64 T, .slice none 0 0, .int .i64 s.t, .int .i64 (-1)] 37)).cell? ⟨y0.heap.size, 0 + j, none⟩ = some (woV (woNew s.m tag s.t) (.slice none 0 0) j)) := fun j hj => by rw [WN.out, Nat.zero_add, World.cell?_alloc_at (w := y0) _ _ _ j rfl]; rcases (show j = 0 ∨ j = 1 ∨ j = 2 ∨ j = 3 ∨ j = 4 by omega) with rfl | rfl | rfl | rfl | rfl <;> rfl
     replace XM : Hid (Box2 (y0.alloc (.cells #[.int .i64 (M1 : Int), .int .i64 T, .slice none 0 0, .int .i64 s.t, .int .i64 (-1)] 37)) w.heap.size 35 (.int .i64 (M1 : Int)) (.int .i64 T)) := XM.out.below hb
     replace XS : Hid (Box4 (y0.alloc (.cells #[.int .i64 (M1 : Int), .int .i64 T, .slice none 0 0, .int .i64 s.t, .int .i64 (-1)] 37)) b 28 vr (.int .i64 s.t) (.slice (some ⟨g, 0, none⟩) s.m wc) vq) := XS.out.below hb
     replace OO : Hid (SvO (y0.alloc (.cells #[.int .i64 (M1 : Int), .int .i64 T, .slice none 0 0, .int .i64 s.t, .int .i64 (-1)] 37)) B s vr (.slice (some ⟨g, 0, none⟩) s.m wc) vq VR VW VQ) := OO.out.below hb
     replace H : Blw N B w (y0.alloc (.cells #[.int .i64 (M1 : Int), .int .i64 T, .slice none 0 0, .int .i64 s.t, .int .i64 (-1)] 37)) := H.trans (blw_of hb (Nat.le_trans hB H.size))
     clear hb
     generalize (y0.alloc (.cells #[.int .i64 (M1 : Int), .int .i64 T, .slice none 0 0, .int .i64 s.t, .int .i64 (-1)] 37)) = y1 at *
     generalize y0.heap.size = lb at *
     refine hK.out _ _ H (fun _ => ?_)
     clear hK KK
     change wpAnyH _ _ _ _ _ _ _ { tmps := #[_,_,_,_,_,_,_,_,_,_,_,_,_,_,_,_,_,_,_,_,_,_,_,_,_,_,_,_,_,_,_,_,_,_,_,_,_,_,_,_,_,_,_,_,_,_,_], defers := _ } _
    case' b11 =>
     have c1 := XS.out.c1
     go_simp
     refine hK.out _ _ H (fun _ => ?_)
     clear hK KK
     change wpAnyH _ _ _ _ _ _ _ { tmps := #[_,_,_,_,_,_,_,_,_,_,_,_,_,_,_,_,_,_,_,_,_,_,_,_,_,_,_,_,_,_,_,_,_,_,_,_,_,_,_,_,_,_,_,_,_,_,_], defers := _ } _
     refine tkH (i := 10) (v := .agg #[.int .i64 (M1 : Int), .int .i64 T, .slice none 0 0, .int .i64 s.t, .int .i64 (-1)]) rfl (by kernel_rfl) (by rfl) ?_ H ?_
     ·intro w' hSw; clear hSw; go_simp
     change wpAnyH _ _ _ _ _ _ _ { tmps := #[_,_,_,_,_,_,_,_,_,_,_,_,_,_,_,_,_,_,_,_,_,_,_,_,_,_,_,_,_,_,_,_,_,_,_,_,_,_,_,_,_,_,_,_,_,_,_], defers := _ } _
     refine wpAnyH_ready (rs := [4, 11]) (by kernel_rfl) (by simp) ?_
     refine (AllReadyH.cons rfl (fun KK hK => ?b14) (AllReadyH.cons rfl (fun KK hK => ?b15) AllReadyH.nil))
     case' b14 =>
      have c2 := XS.out.c2
      go_simp
      refine hK.out _ _ H (fun _ => ?_)
      clear hK KK
      change wpAnyH _ _ _ _ _ _ _ { tmps := #[_,_,_,_,_,_,_,_,_,_,_,_,_,_,_,_,_,_,_,_,_,_,_,_,_,_,_,_,_,_,_,_,_,_,_,_,_,_,_,_,_,_,_,_,_,_,_], defers := _ } _
      refine rdH (i := 11) (by kernel_rfl) rfl (fun KK hK => ?_)
      go_simp
      have hb : Below y0.heap.size y0 (y0.alloc (.cells #[.int .i64 (M1 : Int), .int .i64 T, .slice none 0 0, .int .i64 s.t, .int .i64 (-1)] 37)) := (Below.refl _ _).alloc (Nat.le_refl _) _
      have LB : Hid (∀ j, j < 5 → (y0.alloc (.cells #[.int .i64 (M1 : Int), .int .i64 T, .slice none 0 0, .int .i64 s.t, .int .i64 (-1)] 37)).cell? ⟨y0.heap.size, 0 + j, none⟩ = some (woV (woNew s.m tag s.t) (.slice none 0 0) j)) := fun j hj => by rw [WN.out, Nat.zero_add, World.cell?_alloc_at (w := y0) _ _ _ j rfl]; rcases (show j = 0 ∨ j = 1 ∨ j = 2 ∨ j = 3 ∨ j = 4 by omega) with rfl | rfl | rfl | rfl | rfl <;> rfl
      replace XM : Hid (Box2 (y0.alloc (.cells #[.int .i64 (M1 : Int), .int .i64 T, .slice none 0 0, .int .i64 s.t, .int .i64 (-1)] 37)) w.heap.size 35 (.int .i64 (M1 : Int)) (.int .i64 T)) := XM.out.below hb
      replace XS : Hid (Box4 (y0.alloc (.cells #[.int .i64 (M1 : Int), .int .i64 T, .slice none 0 0, .int .i64 s.t, .int .i64 (-1)] 37)) b 28 vr (.int .i64 s.t) (.slice (some ⟨g, 0, none⟩) s.m wc) vq) := XS.out.below hb
      replace OO : Hid (SvO (y0.alloc (.cells #[.int .i64 (M1 : Int), .int .i64 T, .slice none 0 0, .int .i64 s.t, .int .i64 (-1)] 37)) B s vr (.slice (some ⟨g, 0, none⟩) s.m wc) vq VR VW VQ) := OO.out.below hb
      replace H : Blw N B w (y0.alloc (.cells #[.int .i64 (M1 : Int), .int .i64 T, .slice none 0 0, .int .i64 s.t, .int .i64 (-1)] 37)) := H.trans (blw_of hb (Nat.le_trans hB H.size))
      clear hb
      generalize (y0.alloc (.cells #[.int .i64 (M1 : Int), .int .i64 T, .slice none 0 0, .int .i64 s.t, .int .i64 (-1)] 37)) = y1 at *
      generalize y0.heap.size = lb at *
      refine hK.out _ _ H (fun _ => ?_)
      clear hK KK
      change wpAnyH _ _ _ _ _ _ _ { tmps := #[_,_,_,_,_,_,_,_,_,_,_,_,_,_,_,_,_,_,_,_,_,_,_,_,_,_,_,_,_,_,_,_,_,_,_,_,_,_,_,_,_,_,_,_,_,_,_], defers := _ } _
     case' b15 =>
      go_simp
      have hb : Below y0.heap.size y0 (y0.alloc (.cells #[.int .i64 (M1 : Int), .int .i64 T, .slice none 0 0, .int .i64 s.t, .int .i64 (-1)] 37)) := (Below.refl _ _).alloc (Nat.le_refl _) _
      have LB : Hid (∀ j, j < 5 → (y0.alloc (.cells #[.int .i64 (M1 : Int), .int .i64 T, .slice none 0 0, .int .i64 s.t, .int .i64 (-1)] 37)).cell? ⟨y0.heap.size, 0 + j, none⟩ = some (woV (woNew s.m tag s.t) (.slice none 0 0) j)) := fun j hj => by rw [WN.out, Nat.zero_add, World.cell?_alloc_at (w := y0) _ _ _ j rfl]; rcases (show j = 0 ∨ j = 1 ∨ j = 2 ∨ j = 3 ∨ j = 4 by omega) with rfl | rfl | rfl | rfl | rfl <;> rfl
      replace XM : Hid (Box2 (y0.alloc (.cells #[.int .i64 (M1 : Int), .int .i64 T, .slice none 0 0, .int .i64 s.t, .int .i64 (-1)] 37)) w.heap.size 35 (.int .i64 (M1 : Int)) (.int .i64 T)) := XM.out.below hb
      replace XS : Hid (Box4 (y0.alloc (.cells #[.int .i64 (M1 : Int), .int .i64 T, .slice none 0 0, .int .i64 s.t, .int .i64 (-1)] 37)) b 28 vr (.int .i64 s.t) (.slice (some ⟨g, 0, none⟩) s.m wc) vq) := XS.out.below hb
      replace OO : Hid (SvO (y0.alloc (.cells #[.int .i64 (M1 : Int), .int .i64 T, .slice none 0 0, .int .i64 s.t, .int .i64 (-1)] 37)) B s vr (.slice (some ⟨g, 0, none⟩) s.m wc) vq VR VW VQ) := OO.out.below hb
      replace H : Blw N B w (y0.alloc (.cells #[.int .i64 (M1 : Int), .int .i64 T, .slice none 0 0, .int .i64 s.t, .int .i64 (-1)] 37)) := H.trans (blw_of hb (Nat.le_trans hB H.size))
      clear hb
      generalize (y0.alloc (.cells #[.int .i64 (M1 : Int), .int .i64 T, .slice none 0 0, .int .i64 s.t, .int .i64 (-1)] 37)) = y1 at *
      generalize y0.heap.size = lb at *
      refine hK.out _ _ H (fun _ => ?_)
      clear hK KK
      change wpAnyH _ _ _ _ _ _ _ { tmps := #[_,_,_,_,_,_,_,_,_,_,_,_,_,_,_,_,_,_,_,_,_,_,_,_,_,_,_,_,_,_,_,_,_,_,_,_,_,_,_,_,_,_,_,_,_,_,_], defers := _ } _
      refine rdH (i := 4) (by kernel_rfl) rfl (fun KK hK => ?_)
      have c2 := XS.out.c2
      go_simp
      refine hK.out _ _ H (fun _ => ?_)
      clear hK KK
      change wpAnyH _ _ _ _ _ _ _ { tmps := #[_,_,_,_,_,_,_,_,_,_,_,_,_,_,_,_,_,_,_,_,_,_,_,_,_,_,_,_,_,_,_,_,_,_,_,_,_,_,_,_,_,_,_,_,_,_,_], defers := _ } _
   case' b3 =>
    have c1 := XS.out.c1
    go_simp
    refine hK.out _ _ H (fun _ => ?_)
    clear hK KK
    change wpAnyH _ _ _ _ _ _ _ { tmps := #[_,_,_,_,_,_,_,_,_,_,_,_,_,_,_,_,_,_,_,_,_,_,_,_,_,_,_,_,_,_,_,_,_,_,_,_,_,_,_,_,_,_,_,_,_,_,_], defers := _ } _
    refine wpAnyH_ready (rs := [4, 5]) (by kernel_rfl) (by simp) ?_
    refine (AllReadyH.cons rfl (fun KK hK => ?b18) (AllReadyH.cons rfl (fun KK hK => ?b19) AllReadyH.nil))
    case' b18 =>
     have c2 := XS.out.c2
     go_simp
     refine hK.out _ _ H (fun _ => ?_)
     clear hK KK
     change wpAnyH _ _ _ _ _ _ _ { tmps := #[_,_,_,_,_,_,_,_,_,_,_,_,_,_,_,_,_,_,_,_,_,_,_,_,_,_,_,_,_,_,_,_,_,_,_,_,_,_,_,_,_,_,_,_,_,_,_], defers := _ } _
     refine rdH (i := 5) (by kernel_rfl) rfl (fun KK hK => ?_)
     have m0 := XM.out.c0
     have m1 := XM.out.c1
     go_simp
     refine hK.out _ _ H (fun _ => ?_)
     clear hK KK
     change wpAnyH _ _ _ _ _ _ _ { tmps := #[_,_,_,_,_,_,_,_,_,_,_,_,_,_,_,_,_,_,_,_,_,_,_,_,_,_,_,_,_,_,_,_,_,_,_,_,_,_,_,_,_,_,_,_,_,_,_], defers := _ } _
     refine tkH (i := 10) (v := .agg #[.int .i64 (M1 : Int), .int .i64 T, .slice none 0 0, .int .i64 s.t, .int .i64 (-1)]) rfl (by kernel_rfl) (by rfl) ?_ H ?_
     ·intro w' hSw; clear hSw; go_simp
     change wpAnyH _ _ _ _ _ _ _ { tmps := #[_,_,_,_,_,_,_,_,_,_,_,_,_,_,_,_,_,_,_,_,_,_,_,_,_,_,_,_,_,_,_,_,_,_,_,_,_,_,_,_,_,_,_,_,_,_,_], defers := _ } _
     refine rdH (i := 11) (by kernel_rfl) rfl (fun KK hK => ?_)
     go_simp
     have hb : Below y0.heap.size y0 (y0.alloc (.cells #[.int .i64 (M1 : Int), .int .i64 T, .slice none 0 0, .int .i64 s.t, .int .i64 (-1)] 37)) := (Below.refl _ _).alloc (Nat.le_refl _) _
     have LB : Hid (∀ j, j < 5 → (y0.alloc (.cells #[.int .i64 (M1 : Int), .int .i64 T, .slice none 0 0, .int .i64 s.t, .int .i64 (-1)] 37)).cell? ⟨y0.heap.size, 0 + j, none⟩ = some (woV (woNew s.m tag s.t) (.slice none 0 0) j)) := fun j hj => by rw [WN.out, Nat.zero_add, World.cell?_alloc_at (w := y0) _ _ _ j rfl]; rcases (show j = 0 ∨ j = 1 ∨ j = 2 ∨ j = 3 ∨ j = 4 by omega) with rfl | rfl | rfl | rfl | rfl <;> rfl
     replace XM : Hid (Box2 (y0.alloc (.cells #[.int .i64 (M1 : Int), .int .i64 T, .slice none 0 0, .int .i64 s.t, .int .i64 (-1)] 37)) w.heap.size 35 (.int .i64 (M1 : Int)) (.int .i64 T)) := XM.out.below hb
     replace XS : Hid (Box4 (y0.alloc (.cells #[.int .i64 (M1 : Int), .int .i64 T, .slice none 0 0, .int .i64 s.t, .int .i64 (-1)] 37)) b 28 vr (.int .i64 s.t) (.slice (some ⟨g, 0, none⟩) s.m wc) vq) := XS.out.below hb
     replace OO : Hid (SvO (y0.alloc (.cells #[.int .i64 (M1 : Int), .int .i64 T, .slice none 0 0, .int .i64 s.t, .int .i64 (-1)] 37)) B s vr (.slice (some ⟨g, 0, none⟩) s.m wc) vq VR VW VQ) := OO.out.below hb
     replace H : Blw N B w (y0.alloc (.cells #[.int .i64 (M1 : Int), .int .i64 T, .slice none 0 0, .int .i64 s.t, .int .i64 (-1)] 37)) := H.trans (blw_of hb (Nat.le_trans hB H.size))
     clear hb
     generalize (y0.alloc (.cells #[.int .i64 (M1 : Int), .int .i64 T, .slice none 0 0, .int .i64 s.t, .int .i64 (-1)] 37)) = y1 at *
     generalize y0.heap.size = lb at *
     refine hK.out _ _ H (fun _ => ?_)
     clear hK KK
     change wpAnyH _ _ _ _ _ _ _ { tmps := #[_,_,_,_,_,_,_,_,_,_,_,_,_,_,_,_,_,_,_,_,_,_,_,_,_,_,_,_,_,_,_,_,_,_,_,_,_,_,_,_,_,_,_,_,_,_,_], defers := _ } _
    case' b19 =>
     have m0 := XM.out.c0
     have m1 := XM.out.c1
     go_simp
     refine hK.out _ _ H (fun _ => ?_)
     clear hK KK
     change wpAnyH _ _ _ _ _ _ _ { tmps := #[_,_,_,_,_,_,_,_,_,_,_,_,_,_,_,_,_,_,_,_,_,_,_,_,_,_,_,_,_,_,_,_,_,_,_,_,_,_,_,_,_,_,_,_,_,_,_], defers := _ } _
     refine tkH (i := 10) (v := .agg #[.int .i64 (M1 : Int), .int .i64 T, .slice none 0 0, .int .i64 s.t, .int .i64 (-1)]) rfl (by kernel_rfl) (by rfl) ?_ H ?_
     ·intro w' hSw; clear hSw; go_simp
     change wpAnyH _ _ _ _ _ _ _ { tmps := #[_,_,_,_,_,_,_,_,_,_,_,_,_,_,_,_,_,_,_,_,_,_,_,_,_,_,_,_,_,_,_,_,_,_,_,_,_,_,_,_,_,_,_,_,_,_,_], defers := _ } _
     refine wpAnyH_ready (rs := [4, 11]) (by kernel_rfl) (by simp) ?_
     refine (AllReadyH.cons rfl (fun KK hK => ?b22) (AllReadyH.cons rfl (fun KK hK => ?b23) AllReadyH.nil))
     case' b22 =>
      have c2 := XS.out.c2
      go_simp
      refine hK.out _ _ H (fun _ => ?_)
      clear hK KK
      change wpAnyH _ _ _ _ _ _ _ { tmps := #[_,_,_,_,_,_,_,_,_,_,_,_,_,_,_,_,_,_,_,_,_,_,_,_,_,_,_,_,_,_,_,_,_,_,_,_,_,_,_,_,_,_,_,_,_,_,_], defers := _ } _
      refine rdH (i := 11) (by kernel_rfl) rfl (fun KK hK => ?_)
      go_simp
      have hb : Below y0.heap.size y0 (y0.alloc (.cells #[.int .i64 (M1 : Int), .int .i64 T, .slice none 0 0, .int .i64 s.t, .int .i64 (-1)] 37)) := (Below.refl _ _).alloc (Nat.le_refl _) _
      have LB : Hid (∀ j, j < 5 → (y0.alloc (.cells #[.int .i64 (M1 : Int), .int .i64 T, .slice none 0 0, .int .i64 s.t, .int .i64 (-1)] 37)).cell? ⟨y0.heap.size, 0 + j, none⟩ = some (woV (woNew s.m tag s.t) (.slice none 0 0) j)) := fun j hj => by rw [WN.out, Nat.zero_add, World.cell?_alloc_at (w := y0) _ _ _ j rfl]; rcases (show j = 0 ∨ j = 1 ∨ j = 2 ∨ j = 3 ∨ j = 4 by omega) with rfl | rfl | rfl | rfl | rfl <;> rfl
      replace XM : Hid (Box2 (y0.alloc (.cells #[.int .i64 (M1 : Int), .int .i64 T, .slice none 0 0, .int .i64 s.t, .int .i64 (-1)] 37)) w.heap.size 35 (.int .i64 (M1 : Int)) (.int .i64 T)) := XM.out.below hb
      replace XS : Hid (Box4 (y0.alloc (.cells #[.int .i64 (M1 : Int), .int .i64 T, .slice none 0 0, .int .i64 s.t, .int .i64 (-1)] 37)) b 28 vr (.int .i64 s.t) (.slice (some ⟨g, 0, none⟩) s.m wc) vq) := XS.out.below hb
      replace OO : Hid (SvO (y0.alloc (.cells #[.int .i64 (M1 : Int), .int .i64 T, .slice none 0 0, .int .i64 s.t, .int .i64 (-1)] 37)) B s vr (.slice (some ⟨g, 0, none⟩) s.m wc) vq VR VW VQ) := OO.out.below hb
      replace H : Blw N B w (y0.alloc (.cells #[.int .i64 (M1 : Int), .int .i64 T, .slice none 0 0, .int .i64 s.t, .int .i64 (-1)] 37)) := H.trans (blw_of hb (Nat.le_trans hB H.size))
      clear hb
      generalize (y0.alloc (.cells #[.int .i64 (M1 : Int), .int .i64 T, .slice none 0 0, .int .i64 s.t, .int .i64 (-1)] 37)) = y1 at *
      generalize y0.heap.size = lb at *
      refine hK.out _ _ H (fun _ => ?_)
      clear hK KK
      change wpAnyH _ _ _ _ _ _ _ { tmps := #[_,_,_,_,_,_,_,_,_,_,_,_,_,_,_,_,_,_,_,_,_,_,_,_,_,_,_,_,_,_,_,_,_,_,_,_,_,_,_,_,_,_,_,_,_,_,_], defers := _ } _
     case' b23 =>
      go_simp
      have hb : Below y0.heap.size y0 (y0.alloc (.cells #[.int .i64 (M1 : Int), .int .i64 T, .slice none 0 0, .int .i64 s.t, .int .i64 (-1)] 37)) := (Below.refl _ _).alloc (Nat.le_refl _) _
      have LB : Hid (∀ j, j < 5 → (y0.alloc (.cells #[.int .i64 (M1 : Int), .int .i64 T, .slice none 0 0, .int .i64 s.t, .int .i64 (-1)] 37)).cell? ⟨y0.heap.size, 0 + j, none⟩ = some (woV (woNew s.m tag s.t) (.slice none 0 0) j)) := fun j hj => by rw [WN.out, Nat.zero_add, World.cell?_alloc_at (w := y0) _ _ _ j rfl]; rcases (show j = 0 ∨ j = 1 ∨ j = 2 ∨ j = 3 ∨ j = 4 by omega) with rfl | rfl | rfl | rfl | rfl <;> rfl
      replace XM : Hid (Box2 (y0.alloc (.cells #[.int .i64 (M1 : Int), .int .i64 T, .slice none 0 0, .int .i64 s.t, .int .i64 (-1)] 37)) w.heap.size 35 (.int .i64 (M1 : Int)) (.int .i64 T)) := XM.out.below hb
      replace XS : Hid (Box4 (y0.alloc (.cells #[.int .i64 (M1 : Int), .int .i64 T, .slice none 0 0, .int .i64 s.t, .int .i64 (-1)] 37)) b 28 vr (.int .i64 s.t) (.slice (some ⟨g, 0, none⟩) s.m wc) vq) := XS.out.below hb
      replace OO : Hid (SvO (y0.alloc (.cells #[.int .i64 (M1 : Int), .int .i64 T, .slice none 0 0, .int .i64 s.t, .int .i64 (-1)] 37)) B s vr (.slice (some ⟨g, 0, none⟩) s.m wc) vq VR VW VQ) := OO.out.below hb
      replace H : Blw N B w (y0.alloc (.cells #[.int .i64 (M1 : Int), .int .i64 T, .slice none 0 0, .int .i64 s.t, .int .i64 (-1)] 37)) := H.trans (blw_of hb (Nat.le_trans hB H.size))
      clear hb
      generalize (y0.alloc (.cells #[.int .i64 (M1 : Int), .int .i64 T, .slice none 0 0, .int .i64 s.t, .int .i64 (-1)] 37)) = y1 at *
      generalize y0.heap.size = lb at *
      refine hK.out _ _ H (fun _ => ?_)
      clear hK KK
      change wpAnyH _ _ _ _ _ _ _ { tmps := #[_,_,_,_,_,_,_,_,_,_,_,_,_,_,_,_,_,_,_,_,_,_,_,_,_,_,_,_,_,_,_,_,_,_,_,_,_,_,_,_,_,_,_,_,_,_,_], defers := _ } _
      refine rdH (i := 4) (by kernel_rfl) rfl (fun KK hK => ?_)
      have c2 := XS.out.c2
      go_simp
      refine hK.out _ _ H (fun _ => ?_)
      clear hK KK
      change wpAnyH _ _ _ _ _ _ _ { tmps := #[_,_,_,_,_,_,_,_,_,_,_,_,_,_,_,_,_,_,_,_,_,_,_,_,_,_,_,_,_,_,_,_,_,_,_,_,_,_,_,_,_,_,_,_,_,_,_], defers := _ } _
   all_goals
    refine rdH (i := 12) (by kernel_rfl) rfl (fun KK hK => ?_)
    obtain ⟨nv, y2, hr5, hE5, hg5, hl5⟩ := appWo y1 B (.slice (some ⟨g, 0, none⟩) s.m wc) s.m lb s.W VW (woNew s.m tag s.t) (.slice none 0 0) rfl (Nat.le_trans hB H.size) (by have := MS.out.1; omega) OO.out.x LB.out
    obtain ⟨na, nc, rfl⟩ := hE5.form
    have HZ0 : Hid (w.heap.size ≤ y1.heap.size) := H.size
    have BW : Blw N B y1 y2 := Blw.grownBy hg5 (Nat.le_trans hB H.size) (fun y hy => ⟨(OO.out.x.ge y hy).1, HN.out.x y hy⟩)
    replace H : Blw N B w y2 := H.trans BW
    have nb := OO.out.x.notBox4 XS.out (by decide)
    have O2 : Hid (EO y2 B 43 8 vr s.n (rpF s.R VR) ∧ EO y2 B 90 5 vq s.l (roF s.Q VQ) ∧ (∀ i, i < s.n → IE y2 B (VR i) (s.R i).ne (s.R i).E) ∧ (∀ i, i < s.m → IE y2 B (VW i) (s.W i).ne (s.W i).E) ∧ (∀ i, i < s.l → IE y2 B (VQ i) (s.Q i).ne (s.Q i).E)) := ⟨OO.out.r.keep (fun g e => hg5.block g (OO.out.r.ge g e).2 (fun z => OO.out.r.apart OO.out.x (by decide) g e z.symm)), OO.out.q.keep (fun g e => hg5.block g (OO.out.q.ge g e).2 (fun z => OO.out.q.apart OO.out.x (by decide) g e z.symm)), fun i hi => EO.keep (OO.out.e i hi) (fun g e => hg5.block g (EO.ge (OO.out.e i hi) g e).2 (fun z => EO.apart (OO.out.e i hi) OO.out.x (by decide) g e z.symm)), fun i hi => EO.keep (OO.out.a i hi) (fun g e => hg5.block g (EO.ge (OO.out.a i hi) g e).2 (fun z => EO.apart (OO.out.a i hi) OO.out.x (by decide) g e z.symm)), fun i hi => EO.keep (OO.out.f i hi) (fun g e => hg5.block g (EO.ge (OO.out.f i hi) g e).2 (fun z => EO.apart (OO.out.f i hi) OO.out.x (by decide) g e z.symm))⟩
    have E5 : Hid (EO y2 B 37 5 (.slice na (s.m + 1) nc) (s.m + 1) (woF (updE s.W s.m (woNew s.m tag s.t)) (updE VW s.m (.slice none 0 0)))) := hE5
    replace XS : Hid (Box4 y2 b 28 vr (.int .i64 s.t) (.slice (some ⟨g, 0, none⟩) s.m wc) vq) := XS.out.ofBlock (hg5.block _ XS.out.lt (fun z => nb _ z.symm rfl))
    have HL5 : Hid (∀ u, (Value.slice na (s.m + 1) nc).ownBlock = some u → (Value.slice (some ⟨g, 0, none⟩) s.m wc).ownBlock = some u ∨ w.heap.size ≤ u) := fun g e => hl5.elim (fun z => .inl (z ▸ e)) (fun z => .inr (by rw [z] at e; cases e; exact HZ0.out))
    clear hE5 hg5 hl5 nb LB OO BW HZ0
    rw [if_pos (by rfl)]
    refine Lib.wp_append_run _ (.tmp 36) (.tmp 43) 25 25 rfl (.slice (some ⟨g, 0, none⟩) s.m wc) (.slice (some ⟨lb, 0, none⟩) 1 1) rfl rfl _ _ (hr5 _) ?_
    refine hK.out _ _ H (fun _ => ?_)
    clear hK KK
    change wpAnyH _ _ _ _ _ _ _ { tmps := #[_,_,_,_,_,_,_,_,_,_,_,_,_,_,_,_,_,_,_,_,_,_,_,_,_,_,_,_,_,_,_,_,_,_,_,_,_,_,_,_,_,_,_,_,_,_,_], defers := _ } _
    refine tkH (i := 13) (v := .pointer (some ⟨b, 0, none⟩)) rfl (by kernel_rfl) (by rfl) ?_ H ?_
    ·intro w' hSw; clear hSw; go_simp
    change wpAnyH _ _ _ _ _ _ _ { tmps := #[_,_,_,_,_,_,_,_,_,_,_,_,_,_,_,_,_,_,_,_,_,_,_,_,_,_,_,_,_,_,_,_,_,_,_,_,_,_,_,_,_,_,_,_,_,_,_], defers := _ } _
    refine tkH (i := 14) (v := .pointer (some ⟨b, 2, none⟩)) rfl (by kernel_rfl) (by rfl) ?_ H ?_
    ·intro w' hSw; clear hSw; go_simp
    change wpAnyH _ _ _ _ _ _ _ { tmps := #[_,_,_,_,_,_,_,_,_,_,_,_,_,_,_,_,_,_,_,_,_,_,_,_,_,_,_,_,_,_,_,_,_,_,_,_,_,_,_,_,_,_,_,_,_,_,_], defers := _ } _
    refine rdH (i := 15) (by kernel_rfl) rfl (fun KK hK => ?_)
    have c2 := XS.out.c2
    have f2 := XS.out.fr 2
    go_simp
    have X2 : Hid (Box4 (y2.setCell ⟨b, 2, none⟩ (.slice na (s.m + 1) nc)) b 28 vr (.int .i64 s.t) (.slice na (s.m + 1) nc) vq) := XS.out.set2 _
    have kp : ∀ g : Nat, g ≠ b → (y2.setCell ⟨b, 2, none⟩ (.slice na (s.m + 1) nc)).heap[g]? = y2.heap[g]? := fun g e => Below.heap_setCell y2 ⟨b, 2, none⟩ _ g e
    have Y1 := EO.keep O2.out.1 (fun g e => kp g (O2.out.1.notBox4 XS.out (by decide) g e))
    have Y2 := EO.keep O2.out.2.1 (fun g e => kp g (O2.out.2.1.notBox4 XS.out (by decide) g e))
    have Y3 := fun i hi => EO.keep (O2.out.2.2.1 i hi) (fun g e => kp g (EO.notBox4 (O2.out.2.2.1 i hi) XS.out (by decide) g e))
    have Y4 := fun i hi => EO.keep (O2.out.2.2.2.1 i hi) (fun g e => kp g (EO.notBox4 (O2.out.2.2.2.1 i hi) XS.out (by decide) g e))
    have Y5 := fun i hi => EO.keep (O2.out.2.2.2.2 i hi) (fun g e => kp g (EO.notBox4 (O2.out.2.2.2.2 i hi) XS.out (by decide) g e))
    have Y6 := EO.keep E5.out (fun g e => kp g (E5.out.notBox4 XS.out (by decide) g e))
    have Q : Hid (RetBg N B b s tag (.returned (.int .i64 0)) (y2.setCell ⟨b, 2, none⟩ (.slice na (s.m + 1) nc))) := Or.inr ⟨NE.out, rfl, svx_begin MS.out.2 X2.out Y1 Y6 Y2 Y3 Y4 Y5 HD.out HN.out (Nat.le_trans H.size (by simp)) HL5.out⟩
    replace H : Blw N B w (y2.setCell ⟨b, 2, none⟩ (.slice na (s.m + 1) nc)) := H.setCell MS.out.2 HN.out.b _
    clear c2 f2 XS X2 kp Y1 Y2 Y3 Y4 Y5 Y6 O2 E5
    generalize (y2.setCell ⟨b, 2, none⟩ (.slice na (s.m + 1) nc)) = y3 at *
    refine hK.out _ _ H (fun _ => ?_)
    clear hK KK
    change wpAnyH _ _ _ _ _ _ _ { tmps := #[_,_,_,_,_,_,_,_,_,_,_,_,_,_,_,_,_,_,_,_,_,_,_,_,_,_,_,_,_,_,_,_,_,_,_,_,_,_,_,_,_,_,_,_,_,_,_], defers := _ } _
    refine wpAnyH_done (by kernel_rfl) ?_ _
    refine NoPanic.normal ?_
    have B9 : Hid (Blw N B w y3) := H
    clear H
    go_wp2
    go_ret
    exact ⟨Q.out, B9.out⟩
 ·skip
  have hm0 : ¬ (0 : Int) < (s.m : Int) := by omega
  have NE : Hid (¬ (0 < s.m ∧ (s.W (s.m - 1)).en = -1)) := fun q => hm q.1
  have c2 := hx.c2
  obtain ⟨M1, hM1⟩ : ∃ x, x = s.m + 1 := ⟨_, rfl⟩
  have e1 : (s.m : Int) + 1 = (M1 : Int) := by omega
  have w1 : IntKind.i64.wrap (M1 : Int) = (M1 : Int) := IntWalk.i64_in _ (by omega)
  obtain ⟨T, hT⟩ : ∃ x, x = (if tag < 0 then 0 else if 1000000 < tag then 1000000 else tag) := ⟨_, rfl⟩
  have tC : min (max tag 0) 1000000 = T := by rw [hT]; exact tagC tag
  have WN : Hid ((woNew s.m tag s.t) = ⟨(M1 : Int), T, 0, fun _ => 0, s.t, -1⟩) := by show _ = _; unfold woNew; rw [hT, ← e1]
  have hb : Below w.heap.size w (w.alloc (.cells #[.int .i64 (M1 : Int), .int .i64 T] 35)) := (Below.refl _ _).alloc (Nat.le_refl _) _
  have XM : Hid (Box2 (w.alloc (.cells #[.int .i64 (M1 : Int), .int .i64 T] 35)) w.heap.size 35 (.int .i64 (M1 : Int)) (.int .i64 T)) := Box2.made _ _ _ _
  have XS : Hid (Box4 (w.alloc (.cells #[.int .i64 (M1 : Int), .int .i64 T] 35)) b 28 vr (.int .i64 s.t) (.slice wa s.m wc) vq) := hx.below hb
  have OO : Hid (SvO (w.alloc (.cells #[.int .i64 (M1 : Int), .int .i64 T] 35)) B s vr (.slice wa s.m wc) vq VR VW VQ) := ho.below hb
  have BB : Hid (Blw N B w (w.alloc (.cells #[.int .i64 (M1 : Int), .int .i64 T] 35))) := blw_of hb hB
  have HD : Hid (SvD s VR VW VQ) := hd
  have HN : Hid (NbS N w b s vr (.slice wa s.m wc) vq VR VW VQ) := hn
  have MS : Hid (s.m ≤ 300 ∧ B ≤ b) := ⟨hs, hBb⟩
  skip
  clear ho hd hn hb hT hM1
  clear hm
  go_enter Try.func52, Try.ntmps52
  go_wp2_with fail
  generalize (w.alloc (.cells #[.int .i64 (M1 : Int), .int .i64 T] 35)) = v at *
  have hbd : Below v.heap.size v v.drew := (Below.refl _ _).drew
  replace XM : Hid (Box2 v.drew w.heap.size 35 (.int .i64 (M1 : Int)) (.int .i64 T)) := XM.out.below hbd
  replace XS : Hid (Box4 v.drew b 28 vr (.int .i64 s.t) (.slice wa s.m wc) vq) := XS.out.below hbd
  replace OO : Hid (SvO v.drew B s vr (.slice wa s.m wc) vq VR VW VQ) := OO.out.below hbd
  replace BB : Hid (Blw N B w v.drew) := BB.out.trans (blw_of hbd (Nat.le_trans hB BB.out.size))
  clear hbd
  have H : Blw N B w v.drew := BB.out
  refine wp_region_noPanic ?_
  refine wp_region_held_drew (S := fun w' => Blw N B w w') (by kernel_rfl) H (fun _ => ?_)
  generalize v.drew = y0 at *
  refine tkH (i := 0) (v := .pointer (some ⟨b, 0, none⟩)) rfl (by kernel_rfl) (by rfl) ?_ H ?_
  ·intro w' hSw; clear hSw; go_simp
  change wpAnyH _ _ _ _ _ _ _ { tmps := #[_,_,_,_,_,_,_,_,_,_,_,_,_,_,_,_,_,_,_,_,_,_,_,_,_,_,_,_,_,_,_,_,_,_,_,_,_,_,_,_,_,_,_,_,_,_,_], defers := _ } _
  refine tkH (i := 1) (v := .pointer (some ⟨b, 0, none⟩)) rfl (by kernel_rfl) (by rfl) ?_ H ?_
  ·intro w' hSw; clear hSw; go_simp
  change wpAnyH _ _ _ _ _ _ _ { tmps := #[_,_,_,_,_,_,_,_,_,_,_,_,_,_,_,_,_,_,_,_,_,_,_,_,_,_,_,_,_,_,_,_,_,_,_,_,_,_,_,_,_,_,_,_,_,_,_], defers := _ } _
  refine tkH (i := 2) (v := .pointer (some ⟨b, 0, none⟩)) rfl (by kernel_rfl) (by rfl) ?_ H ?_
  ·intro w' hSw; clear hSw; go_simp
  change wpAnyH _ _ _ _ _ _ _ { tmps := #[_,_,_,_,_,_,_,_,_,_,_,_,_,_,_,_,_,_,_,_,_,_,_,_,_,_,_,_,_,_,_,_,_,_,_,_,_,_,_,_,_,_,_,_,_,_,_], defers := _ } _
  refine tkH (i := 3) (v := .pointer (some ⟨b, 2, none⟩)) rfl (by kernel_rfl) (by rfl) ?_ H ?_
  ·intro w' hSw; clear hSw; go_simp
  change wpAnyH _ _ _ _ _ _ _ { tmps := #[_,_,_,_,_,_,_,_,_,_,_,_,_,_,_,_,_,_,_,_,_,_,_,_,_,_,_,_,_,_,_,_,_,_,_,_,_,_,_,_,_,_,_,_,_,_,_], defers := _ } _
  refine tkH (i := 6) (v := .pointer (some ⟨b, 0, none⟩)) rfl (by kernel_rfl) (by rfl) ?_ H ?_
  ·intro w' hSw; clear hSw; go_simp
  change wpAnyH _ _ _ _ _ _ _ { tmps := #[_,_,_,_,_,_,_,_,_,_,_,_,_,_,_,_,_,_,_,_,_,_,_,_,_,_,_,_,_,_,_,_,_,_,_,_,_,_,_,_,_,_,_,_,_,_,_], defers := _ } _
  refine tkH (i := 7) (v := .pointer (some ⟨b, 0, none⟩)) rfl (by kernel_rfl) (by rfl) ?_ H ?_
  ·intro w' hSw; clear hSw; go_simp
  change wpAnyH _ _ _ _ _ _ _ { tmps := #[_,_,_,_,_,_,_,_,_,_,_,_,_,_,_,_,_,_,_,_,_,_,_,_,_,_,_,_,_,_,_,_,_,_,_,_,_,_,_,_,_,_,_,_,_,_,_], defers := _ } _
  refine tkH (i := 8) (v := .pointer (some ⟨b, 1, none⟩)) rfl (by kernel_rfl) (by rfl) ?_ H ?_
  ·intro w' hSw; clear hSw; go_simp
  change wpAnyH _ _ _ _ _ _ _ { tmps := #[_,_,_,_,_,_,_,_,_,_,_,_,_,_,_,_,_,_,_,_,_,_,_,_,_,_,_,_,_,_,_,_,_,_,_,_,_,_,_,_,_,_,_,_,_,_,_], defers := _ } _
  refine wpAnyH_ready (rs := [4, 5, 9]) (by kernel_rfl) (by simp) ?_
  refine (AllReadyH.cons rfl (fun KK hK => ?b28) (AllReadyH.cons rfl (fun KK hK => ?b29) (AllReadyH.cons rfl (fun KK hK => ?b30) AllReadyH.nil)))
  case' b28 =>
   have c2 := XS.out.c2
   go_simp
   refine hK.out _ _ H (fun _ => ?_)
   clear hK KK
   change wpAnyH _ _ _ _ _ _ _ { tmps := #[_,_,_,_,_,_,_,_,_,_,_,_,_,_,_,_,_,_,_,_,_,_,_,_,_,_,_,_,_,_,_,_,_,_,_,_,_,_,_,_,_,_,_,_,_,_,_], defers := _ } _
   refine wpAnyH_ready (rs := [5, 9]) (by kernel_rfl) (by simp) ?_
   refine (AllReadyH.cons rfl (fun KK hK => ?b31) (AllReadyH.cons rfl (fun KK hK => ?b32) AllReadyH.nil))
   case' b31 =>
    have m0 := XM.out.c0
    have m1 := XM.out.c1
    go_simp
    refine hK.out _ _ H (fun _ => ?_)
    clear hK KK
    change wpAnyH _ _ _ _ _ _ _ { tmps := #[_,_,_,_,_,_,_,_,_,_,_,_,_,_,_,_,_,_,_,_,_,_,_,_,_,_,_,_,_,_,_,_,_,_,_,_,_,_,_,_,_,_,_,_,_,_,_], defers := _ } _
    refine rdH (i := 9) (by kernel_rfl) rfl (fun KK hK => ?_)
    have c1 := XS.out.c1
    go_simp
    refine hK.out _ _ H (fun _ => ?_)
    clear hK KK
    change wpAnyH _ _ _ _ _ _ _ { tmps := #[_,_,_,_,_,_,_,_,_,_,_,_,_,_,_,_,_,_,_,_,_,_,_,_,_,_,_,_,_,_,_,_,_,_,_,_,_,_,_,_,_,_,_,_,_,_,_], defers := _ } _
    refine tkH (i := 10) (v := .agg #[.int .i64 (M1 : Int), .int .i64 T, .slice none 0 0, .int .i64 s.t, .int .i64 (-1)]) rfl (by kernel_rfl) (by rfl) ?_ H ?_
    ·intro w' hSw; clear hSw; go_simp
    change wpAnyH _ _ _ _ _ _ _ { tmps := #[_,_,_,_,_,_,_,_,_,_,_,_,_,_,_,_,_,_,_,_,_,_,_,_,_,_,_,_,_,_,_,_,_,_,_,_,_,_,_,_,_,_,_,_,_,_,_], defers := _ } _
    refine rdH (i := 11) (by kernel_rfl) rfl (fun KK hK => ?_)
    go_simp
    have hb : Below y0.heap.size y0 (y0.alloc (.cells #[.int .i64 (M1 : Int), .int .i64 T, .slice none 0 0, .int .i64 s.t, .int .i64 (-1)] 37)) := (Below.refl _ _).alloc (Nat.le_refl _) _
    have LB : Hid (∀ j, j < 5 → (y0.alloc (.cells #[.int .i64 (M1 : Int), .int .i64 T, .slice none 0 0, .int .i64 s.t, .int .i64 (-1)] 37)).cell? ⟨y0.heap.size, 0 + j, none⟩ = some (woV (woNew s.m tag s.t) (.slice none 0 0) j)) := fun j hj => by rw [WN.out, Nat.zero_add, World.cell?_alloc_at (w := y0) _ _ _ j rfl]; rcases (show j = 0 ∨ j = 1 ∨ j = 2 ∨ j = 3 ∨ j = 4 by omega) with rfl | rfl | rfl | rfl | rfl <;> rfl
    replace XM : Hid (Box2 (y0.alloc (.cells #[.int .i64 (M1 : Int), .int .i64 T, .slice none 0 0, .int .i64 s.t, .int .i64 (-1)] 37)) w.heap.size 35 (.int .i64 (M1 : Int)) (.int .i64 T)) := XM.out.below hb
    replace XS : Hid (Box4 (y0.alloc (.cells #[.int .i64 (M1 : Int), .int .i64 T, .slice none 0 0, .int .i64 s.t, .int .i64 (-1)] 37)) b 28 vr (.int .i64 s.t) (.slice wa s.m wc) vq) := XS.out.below hb
    replace OO : Hid (SvO (y0.alloc (.cells #[.int .i64 (M1 : Int), .int .i64 T, .slice none 0 0, .int .i64 s.t, .int .i64 (-1)] 37)) B s vr (.slice wa s.m wc) vq VR VW VQ) := OO.out.below hb
    replace H : Blw N B w (y0.alloc (.cells #[.int .i64 (M1 : Int), .int .i64 T, .slice none 0 0, .int .i64 s.t, .int .i64 (-1)] 37)) := H.trans (blw_of hb (Nat.le_trans hB H.size))
    clear hb
    generalize (y0.alloc (.cells #[.int .i64 (M1 : Int), .int .i64 T, .slice none 0 0, .int .i64 s.t, .int .i64 (-1)] 37)) = y1 at *
    generalize y0.heap.size = lb at *
    refine hK.out _ _ H (fun _ => ?_)
    clear hK KK
    change wpAnyH _ _ _ _ _ _ _ { tmps := #[_,_,_,_,_,_,_,_,_,_,_,_,_,_,_,_,_,_,_,_,_,_,_,_,_,_,_,_,_,_,_,_,_,_,_,_,_,_,_,_,_,_,_,_,_,_,_], defers := _ } _
   case' b32 =>
    have c1 := XS.out.c1
    go_simp
    refine hK.out _ _ H (fun _ => ?_)
    clear hK KK
    change wpAnyH _ _ _ _ _ _ _ { tmps := #[_,_,_,_,_,_,_,_,_,_,_,_,_,_,_,_,_,_,_,_,_,_,_,_,_,_,_,_,_,_,_,_,_,_,_,_,_,_,_,_,_,_,_,_,_,_,_], defers := _ } _
    refine rdH (i := 5) (by kernel_rfl) rfl (fun KK hK => ?_)
    have m0 := XM.out.c0
    have m1 := XM.out.c1
    go_simp
    refine hK.out _ _ H (fun _ => ?_)
    clear hK KK
    change wpAnyH _ _ _ _ _ _ _ { tmps := #[_,_,_,_,_,_,_,_,_,_,_,_,_,_,_,_,_,_,_,_,_,_,_,_,_,_,_,_,_,_,_,_,_,_,_,_,_,_,_,_,_,_,_,_,_,_,_], defers := _ } _
    refine tkH (i := 10) (v := .agg #[.int .i64 (M1 : Int), .int .i64 T, .slice none 0 0, .int .i64 s.t, .int .i64 (-1)]) rfl (by kernel_rfl) (by rfl) ?_ H ?_
    ·intro w' hSw; clear hSw; go_simp
    change wpAnyH _ _ _ _ _ _ _ { tmps := #[_,_,_,_,_,_,_,_,_,_,_,_,_,_,_,_,_,_,_,_,_,_,_,_,_,_,_,_,_,_,_,_,_,_,_,_,_,_,_,_,_,_,_,_,_,_,_], defers := _ } _
    refine rdH (i := 11) (by kernel_rfl) rfl (fun KK hK => ?_)
    go_simp
    have hb : Below y0.heap.size y0 (y0.alloc (.cells #[.int .i64 (M1 : Int), .int .i64 T, .slice none 0 0, .int .i64 s.t, .int .i64 (-1)] 37)) := (Below.refl _ _).alloc (Nat.le_refl _) _
    have LB : Hid (∀ j, j < 5 → (y0.alloc (.cells #[.int .i64 (M1 : Int), .int .i64 T, .slice none 0 0, .int .i64 s.t, .int .i64 (-1)] 37)).cell? ⟨y0.heap.size, 0 + j, none⟩ = some (woV (woNew s.m tag s.t) (.slice none 0 0) j)) := fun j hj => by rw [WN.out, Nat.zero_add, World.cell?_alloc_at (w := y0) _ _ _ j rfl]; rcases (show j = 0 ∨ j = 1 ∨ j = 2 ∨ j = 3 ∨ j = 4 by omega) with rfl | rfl | rfl | rfl | rfl <;> rfl
    replace XM : Hid (Box2 (y0.alloc (.cells #[.int .i64 (M1 : Int), .int .i64 T, .slice none 0 0, .int .i64 s.t, .int .i64 (-1)] 37)) w.heap.size 35 (.int .i64 (M1 : Int)) (.int .i64 T)) := XM.out.below hb
    replace XS : Hid (Box4 (y0.alloc (.cells #[.int .i64 (M1 : Int), .int .i64 T, .slice none 0 0, .int .i64 s.t, .int .i64 (-1)] 37)) b 28 vr (.int .i64 s.t) (.slice wa s.m wc) vq) := XS.out.below hb
    replace OO : Hid (SvO (y0.alloc (.cells #[.int .i64 (M1 : Int), .int .i64 T, .slice none 0 0, .int .i64 s.t, .int .i64 (-1)] 37)) B s vr (.slice wa s.m wc) vq VR VW VQ) := OO.out.below hb
    replace H : Blw N B w (y0.alloc (.cells #[.int .i64 (M1 : Int), .int .i64 T, .slice none 0 0, .int .i64 s.t, .int .i64 (-1)] 37)) := H.trans (blw_of hb (Nat.le_trans hB H.size))
    clear hb
    generalize (y0.alloc (.cells #[.int .i64 (M1 : Int), .int .i64 T, .slice none 0 0, .int .i64 s.t, .int .i64 (-1)] 37)) = y1 at *
    generalize y0.heap.size = lb at *
    refine hK.out _ _ H (fun _ => ?_)
    clear hK KK
    change wpAnyH _ _ _ _ _ _ _ { tmps := #[_,_,_,_,_,_,_,_,_,_,_,_,_,_,_,_,_,_,_,_,_,_,_,_,_,_,_,_,_,_,_,_,_,_,_,_,_,_,_,_,_,_,_,_,_,_,_], defers := _ } _
  case' b29 =>
   have m0 := XM.out.c0
   have m1 := XM.out.c1
   go_simp
   refine hK.out _ _ H (fun _ => ?_)
   clear hK KK
   change wpAnyH _ _ _ _ _ _ _ { tmps := #[_,_,_,_,_,_,_,_,_,_,_,_,_,_,_,_,_,_,_,_,_,_,_,_,_,_,_,_,_,_,_,_,_,_,_,_,_,_,_,_,_,_,_,_,_,_,_], defers := _ } _
   refine wpAnyH_ready (rs := [4, 9]) (by kernel_rfl) (by simp) ?_
   refine (AllReadyH.cons rfl (fun KK hK => ?b37) (AllReadyH.cons rfl (fun KK hK => ?b38) AllReadyH.nil))
   case' b37 =>
    have c2 := XS.out.c2
    go_simp
    refine hK.out _ _ H (fun _ => ?_)
    clear hK KK
    change wpAnyH _ _ _ _ _ _ _ { tmps := #[_,_,_,_,_,_,_,_,_,_,_,_,_,_,_,_,_,_,_,_,_,_,_,_,_,_,_,_,_,_,_,_,_,_,_,_,_,_,_,_,_,_,_,_,_,_,_], defers := _ } _
    refine rdH (i := 9) (by kernel_rfl) rfl (fun KK hK => ?_)
    have c1 := XS.out.c1
    go_simp
    refine hK.out _ _ H (fun _ => ?_)
    clear hK KK
    change wpAnyH _ _ _ _ _ _ _ { tmps := #[_,_,_,_,_,_,_,_,_,_,_,_,_,_,_,_,_,_,_,_,_,_,_,_,_,_,_,_,_,_,_,_,_,_,_,_,_,_,_,_,_,_,_,_,_,_,_], defers := _ } _
    refine tkH (i := 10) (v := .agg #[.int .i64 (M1 : Int), .int .i64 T, .slice none 0 0, .int .i64 s.t, .int .i64 (-1)]) rfl (by kernel_rfl) (by rfl) ?_ H ?_
    ·intro w' hSw; clear hSw; go_simp
    change wpAnyH _ _ _ _ _ _ _ { tmps := #[_,_,_,_,_,_,_,_,_,_,_,_,_,_,_,_,_,_,_,_,_,_,_,_,_,_,_,_,_,_,_,_,_,_,_,_,_,_,_,_,_,_,_,_,_,_,_], defers := _ } _
    refine rdH (i := 11) (by kernel_rfl) rfl (fun KK hK => ?_)
    go_simp
    have hb : Below y0.heap.size y0 (y0.alloc (.cells #[.int .i64 (M1 : Int), .int .i64 T, .slice none 0 0, .int .i64 s.t, .int .i64 (-1)] 37)) := (Below.refl _ _).alloc (Nat.le_refl _) _
    have LB : Hid (∀ j, j < 5 → (y0.alloc (.cells #[.int .i64 (M1 : Int), .int .i64 T, .slice none 0 0, .int .i64 s.t, .int .i64 (-1)] 37)).cell? ⟨y0.heap.size, 0 + j, none⟩ = some (woV (woNew s.m tag s.t) (.slice none 0 0) j)) := fun j hj => by rw [WN.out, Nat.zero_add, World.cell?_alloc_at (w := y0) _ _ _ j rfl]; rcases (show j = 0 ∨ j = 1 ∨ j = 2 ∨ j = 3 ∨ j = 4 by omega) with rfl | rfl | rfl | rfl | rfl <;> rfl
    replace XM : Hid (Box2 (y0.alloc (.cells #[.int .i64 (M1 : Int), .int .i64 T, .slice none 0 0, .int .i64 s.t, .int .i64 (-1)] 37)) w.heap.size 35 (.int .i64 (M1 : Int)) (.int .i64 T)) := XM.out.below hb
    replace XS : Hid (Box4 (y0.alloc (.cells #[.int .i64 (M1 : Int), .int .i64 T, .slice none 0 0, .int .i64 s.t, .int .i64 (-1)] 37)) b 28 vr (.int .i64 s.t) (.slice wa s.m wc) vq) := XS.out.below hb
    replace OO : Hid (SvO (y0.alloc (.cells #[.int .i64 (M1 : Int), .int .i64 T, .slice none 0 0, .int .i64 s.t, .int .i64 (-1)] 37)) B s vr (.slice wa s.m wc) vq VR VW VQ) := OO.out.below hb
    replace H : Blw N B w (y0.alloc (.cells #[.int .i64 (M1 : Int), .int .i64 T, .slice none 0 0, .int .i64 s.t, .int .i64 (-1)] 37)) := H.trans (blw_of hb (Nat.le_trans hB H.size))
    clear hb
    generalize (y0.alloc (.cells #[.int .i64 (M1 : Int), .int .i64 T, .slice none 0 0, .int .i64 s.t, .int .i64 (-1)] 37)) = y1 at *
    generalize y0.heap.size = lb at *
    refine hK.out _ _ H (fun _ => ?_)
    clear hK KK
    change wpAnyH _ _ _ _ _ _ _ { tmps := #[_,_,_,_,_,_,_,_,_,_,_,_,_,_,_,_,_,_,_,_,_,_,_,_,_,_,_,_,_,_,_,_,_,_,_,_,_,_,_,_,_,_,_,_,_,_,_], defers := _ } _
   case' b38 =>
    have c1 := XS.out.c1
    go_simp
    refine hK.out _ _ H (fun _ => ?_)
    clear hK KK
    change wpAnyH _ _ _ _ _ _ _ { tmps := #[_,_,_,_,_,_,_,_,_,_,_,_,_,_,_,_,_,_,_,_,_,_,_,_,_,_,_,_,_,_,_,_,_,_,_,_,_,_,_,_,_,_,_,_,_,_,_], defers := _ } _
    refine tkH (i := 10) (v := .agg #[.int .i64 (M1 : Int), .int .i64 T, .slice none 0 0, .int .i64 s.t, .int .i64 (-1)]) rfl (by kernel_rfl) (by rfl) ?_ H ?_
    ·intro w' hSw; clear hSw; go_simp
    change wpAnyH _ _ _ _ _ _ _ { tmps := #[_,_,_,_,_,_,_,_,_,_,_,_,_,_,_,_,_,_,_,_,_,_,_,_,_,_,_,_,_,_,_,_,_,_,_,_,_,_,_,_,_,_,_,_,_,_,_], defers := _ } _
    refine wpAnyH_ready (rs := [4, 11]) (by kernel_rfl) (by simp) ?_
    refine (AllReadyH.cons rfl (fun KK hK => ?b41) (AllReadyH.cons rfl (fun KK hK => ?b42) AllReadyH.nil))
    case' b41 =>
     have c2 := XS.out.c2
     go_simp
     refine hK.out _ _ H (fun _ => ?_)
     clear hK KK
     change wpAnyH _ _ _ _ _ _ _ { tmps := #[_,_,_,_,_,_,_,_,_,_,_,_,_,_,_,_,_,_,_,_,_,_,_,_,_,_,_,_,_,_,_,_,_,_,_,_,_,_,_,_,_,_,_,_,_,_,_], defers := _ } _
     refine rdH (i := 11) (by kernel_rfl) rfl (fun KK hK => ?_)
     go_simp
     have hb : Below y0.heap.size y0 (y0.alloc (.cells #[.int .i64 (M1 : Int), .int .i64 T, .slice none 0 0, .int .i64 s.t, .int .i64 (-1)] 37)) := (Below.refl _ _).alloc (Nat.le_refl _) _
     have LB : Hid (∀ j, j < 5 → (y0.alloc (.cells #[.int .i64 (M1 : Int), .int .i64 T, .slice none 0 0, .int .i64 s.t, .int .i64 (-1)] 37)).cell? ⟨y0.heap.size, 0 + j, none⟩ = some (woV (woNew s.m tag s.t) (.slice none 0 0) j)) := fun j hj => by rw [WN.out, Nat.zero_add, World.cell?_alloc_at (w := y0) _ _ _ j rfl]; rcases (show j = 0 ∨ j = 1 ∨ j = 2 ∨ j = 3 ∨ j = 4 by omega) with rfl | rfl | rfl | rfl | rfl <;> rfl
     replace XM : Hid (Box2 (y0.alloc (.cells #[.int .i64 (M1 : Int), .int .i64 T, .slice none 0 0, .int .i64 s.t, .int .i64 (-1)] 37)) w.heap.size 35 (.int .i64 (M1 : Int)) (.int .i64 T)) := XM.out.below hb
     replace XS : Hid (Box4 (y0.alloc (.cells #[.int .i64 (M1 : Int), .int .i64 T, .slice none 0 0, .int .i64 s.t, .int .i64 (-1)] 37)) b 28 vr (.int .i64 s.t) (.slice wa s.m wc) vq) := XS.out.below hb
     replace OO : Hid (SvO (y0.alloc (.cells #[.int .i64 (M1 : Int), .int .i64 T, .slice none 0 0, .int .i64 s.t, .int .i64 (-1)] 37)) B s vr (.slice wa s.m wc) vq VR VW VQ) := OO.out.below hb
     replace H : Blw N B w (y0.alloc (.cells #[.int .i64 (M1 : Int), .int .i64 T, .slice none 0 0, .int .i64 s.t, .int .i64 (-1)] 37)) := H.trans (blw_of hb (Nat.le_trans hB H.size))
     clear hb
     generalize (y0.alloc (.cells #[.int .i64 (M1 : Int), .int .i64 T, .slice none 0 0, .int .i64 s.t, .int .i64 (-1)] 37)) = y1 at *
     generalize y0.heap.size = lb at *
     refine hK.out _ _ H (fun _ => ?_)
     clear hK KK
     change wpAnyH _ _ _ _ _ _ _ { tmps := #[_,_,_,_,_,_,_,_,_,_,_,_,_,_,_,_,_,_,_,_,_,_,_,_,_,_,_,_,_,_,_,_,_,_,_,_,_,_,_,_,_,_,_,_,_,_,_], defers := _ } _
    case' b42 =>
     go_simp
     have hb : Below y0.heap.size y0 (y0.alloc (.cells #[.int .i64 (M1 : Int), .int .i64 T, .slice none 0 0, .int .i64 s.t, .int .i64 (-1)] 37)) := (Below.refl _ _).alloc (Nat.le_refl _) _
     have LB : Hid (∀ j, j < 5 → (y0.alloc (.cells #[.int .i64 (M1 : Int), .int .i64 T, .slice none 0 0, .int .i64 s.t, .int .i64 (-1)] 37)).cell? ⟨y0.heap.size, 0 + j, none⟩ = some (woV (woNew s.m tag s.t) (.slice none 0 0) j)) := fun j hj => by rw [WN.out, Nat.zero_add, World.cell?_alloc_at (w := y0) _ _ _ j rfl]; rcases (show j = 0 ∨ j = 1 ∨ j = 2 ∨ j = 3 ∨ j = 4 by omega) with rfl | rfl | rfl | rfl | rfl <;> rfl
     replace XM : Hid (Box2 (y0.alloc (.cells #[.int .i64 (M1 : Int), .int .i64 T, .slice none 0 0, .int .i64 s.t, .int .i64 (-1)] 37)) w.heap.size 35 (.int .i64 (M1 : Int)) (.int .i64 T)) := XM.out.below hb
     replace XS : Hid (Box4 (y0.alloc (.cells #[.int .i64 (M1 : Int), .int .i64 T, .slice none 0 0, .int .i64 s.t, .int .i64 (-1)] 37)) b 28 vr (.int .i64 s.t) (.slice wa s.m wc) vq) := XS.out.below hb
     replace OO : Hid (SvO (y0.alloc (.cells #[.int .i64 (M1 : Int), .int .i64 T, .slice none 0 0, .int .i64 s.t, .int .i64 (-1)] 37)) B s vr (.slice wa s.m wc) vq VR VW VQ) := OO.out.below hb
     replace H : Blw N B w (y0.alloc (.cells #[.int .i64 (M1 : Int), .int .i64 T, .slice none 0 0, .int .i64 s.t, .int .i64 (-1)] 37)) := H.trans (blw_of hb (Nat.le_trans hB H.size))
     clear hb
     generalize (y0.alloc (.cells #[.int .i64 (M1 : Int), .int .i64 T, .slice none 0 0, .int .i64 s.t, .int .i64 (-1)] 37)) = y1 at *
     generalize y0.heap.size = lb at *
     refine hK.out _ _ H (fun _ => ?_)
     clear hK KK
     change wpAnyH _ _ _ _ _ _ _ { tmps := #[_,_,_,_,_,_,_,_,_,_,_,_,_,_,_,_,_,_,_,_,_,_,_,_,_,_,_,_,_,_,_,_,_,_,_,_,_,_,_,_,_,_,_,_,_,_,_], defers := _ } _
     refine rdH (i := 4) (by kernel_rfl) rfl (fun KK hK => ?_)
     have c2 := XS.out.c2
     go_simp
     refine hK.out _ _ H (fun _ => ?_)
     clear hK KK
     change wpAnyH _ _ _ _ _ _ _ { tmps := #[_,_,_,_,_,_,_,_,_,_,_,_,_,_,_,_,_,_,_,_,_,_,_,_,_,_,_,_,_,_,_,_,_,_,_,_,_,_,_,_,_,_,_,_,_,_,_], defers := _ } _
  case' b30 =>
   have c1 := XS.out.c1
   go_simp
   refine hK.out _ _ H (fun _ => ?_)
   clear hK KK
   change wpAnyH _ _ _ _ _ _ _ { tmps := #[_,_,_,_,_,_,_,_,_,_,_,_,_,_,_,_,_,_,_,_,_,_,_,_,_,_,_,_,_,_,_,_,_,_,_,_,_,_,_,_,_,_,_,_,_,_,_], defers := _ } _
   refine wpAnyH_ready (rs := [4, 5]) (by kernel_rfl) (by simp) ?_
   refine (AllReadyH.cons rfl (fun KK hK => ?b45) (AllReadyH.cons rfl (fun KK hK => ?b46) AllReadyH.nil))
   case' b45 =>
    have c2 := XS.out.c2
    go_simp
    refine hK.out _ _ H (fun _ => ?_)
    clear hK KK
    change wpAnyH _ _ _ _ _ _ _ { tmps := #[_,_,_,_,_,_,_,_,_,_,_,_,_,_,_,_,_,_,_,_,_,_,_,_,_,_,_,_,_,_,_,_,_,_,_,_,_,_,_,_,_,_,_,_,_,_,_], defers := _ } _
    refine rdH (i := 5) (by kernel_rfl) rfl (fun KK hK => ?_)
    have m0 := XM.out.c0
    have m1 := XM.out.c1
    go_simp
    refine hK.out _ _ H (fun _ => ?_)
    clear hK KK
    change wpAnyH _ _ _ _ _ _ _ { tmps := #[_,_,_,_,_,_,_,_,_,_,_,_,_,_,_,_,_,_,_,_,_,_,_,_,_,_,_,_,_,_,_,_,_,_,_,_,_,_,_,_,_,_,_,_,_,_,_], defers := _ } _
    refine tkH (i := 10) (v := .agg #[.int .i64 (M1 : Int), .int .i64 T, .slice none 0 0, .int .i64 s.t, .int .i64 (-1)]) rfl (by kernel_rfl) (by rfl) ?_ H ?_
    ·intro w' hSw; clear hSw; go_simp
    change wpAnyH _ _ _ _ _ _ _ { tmps := #[_,_,_,_,_,_,_,_,_,_,_,_,_,_,_,_,_,_,_,_,_,_,_,_,_,_,_,_,_,_,_,_,_,_,_,_,_,_,_,_,_,_,_,_,_,_,_], defers := _ } _
    refine rdH (i := 11) (by kernel_rfl) rfl (fun KK hK => ?_)
    go_simp
    have hb : Below y0.heap.size y0 (y0.alloc (.cells #[.int .i64 (M1 : Int), .int .i64 T, .slice none 0 0, .int .i64 s.t, .int .i64 (-1)] 37)) := (Below.refl _ _).alloc (Nat.le_refl _) _
    have LB : Hid (∀ j, j < 5 → (y0.alloc (.cells #[.int .i64 (M1 : Int), .int .i64 T, .slice none 0 0, .int .i64 s.t, .int .i64 (-1)] 37)).cell? ⟨y0.heap.size, 0 + j, none⟩ = some (woV (woNew s.m tag s.t) (.slice none 0 0) j)) := fun j hj => by rw [WN.out, Nat.zero_add, World.cell?_alloc_at (w := y0) _ _ _ j rfl]; rcases (show j = 0 ∨ j = 1 ∨ j = 2 ∨ j = 3 ∨ j = 4 by omega) with rfl | rfl | rfl | rfl | rfl <;> rfl
    replace XM : Hid (Box2 (y0.alloc (.cells #[.int .i64 (M1 : Int), .int .i64 T, .slice none 0 0, .int .i64 s.t, .int .i64 (-1)] 37)) w.heap.size 35 (.int .i64 (M1 : Int)) (.int .i64 T)) := XM.out.below hb
    replace XS : Hid (Box4 (y0.alloc (.cells #[.int .i64 (M1 : Int), .int .i64 T, .slice none 0 0, .int .i64 s.t, .int .i64 (-1)] 37)) b 28 vr (.int .i64 s.t) (.slice wa s.m wc) vq) := XS.out.below hb
    replace OO : Hid (SvO (y0.alloc (.cells #[.int .i64 (M1 : Int), .int .i64 T, .slice none 0 0, .int .i64 s.t, .int .i64 (-1)] 37)) B s vr (.slice wa s.m wc) vq VR VW VQ) := OO.out.below hb
    replace H : Blw N B w (y0.alloc (.cells #[.int .i64 (M1 : Int), .int .i64 T, .slice none 0 0, .int .i64 s.t, .int .i64 (-1)] 37)) := H.trans (blw_of hb (Nat.le_trans hB H.size))
    clear hb
    generalize (y0.alloc (.cells #[.int .i64 (M1 : Int), .int .i64 T, .slice none 0 0, .int .i64 s.t, .int .i64 (-1)] 37)) = y1 at *
    generalize y0.heap.size = lb at *
    refine hK.out _ _ H (fun _ => ?_)
    clear hK KK
    change wpAnyH _ _ _ _ _ _ _ { tmps := #[_,_,_,_,_,_,_,_,_,_,_,_,_,_,_,_,_,_,_,_,_,_,_,_,_,_,_,_,_,_,_,_,_,_,_,_,_,_,_,_,_,_,_,_,_,_,_], defers := _ } _
   case' b46 =>
    have m0 := XM.out.c0
    have m1 := XM.out.c1
    go_simp
    refine hK.out _ _ H (fun _ => ?_)
    clear hK KK
    change wpAnyH _ _ _ _ _ _ _ { tmps := #[_,_,_,_,_,_,_,_,_,_,_,_,_,_,_,_,_,_,_,_,_,_,_,_,_,_,_,_,_,_,_,_,_,_,_,_,_,_,_,_,_,_,_,_,_,_,_], defers := _ } _
    refine tkH (i := 10) (v := .agg #[.int .i64 (M1 : Int), .int .i64 T, .slice none 0 0, .int .i64 s.t, .int .i64 (-1)]) rfl (by kernel_rfl) (by rfl) ?_ H ?_
    ·intro w' hSw; clear hSw; go_simp
    change wpAnyH _ _ _ _ _ _ _ { tmps := #[_,_,_,_,_,_,_,_,_,_,_,_,_,_,_,_,_,_,_,_,_,_,_,_,_,_,_,_,_,_,_,_,_,_,_,_,_,_,_,_,_,_,_,_,_,_,_], defers := _ } _
    refine wpAnyH_ready (rs := [4, 11]) (by kernel_rfl) (by simp) ?_
    refine (AllReadyH.cons rfl (fun KK hK => ?b49) (AllReadyH.cons rfl (fun KK hK => ?b50) AllReadyH.nil))
    case' b49 =>
     have c2 := XS.out.c2
     go_simp
     refine hK.out _ _ H (fun _ => ?_)
     clear hK KK
     change wpAnyH _ _ _ _ _ _ _ { tmps := #[_,_,_,_,_,_,_,_,_,_,_,_,_,_,_,_,_,_,_,_,_,_,_,_,_,_,_,_,_,_,_,_,_,_,_,_,_,_,_,_,_,_,_,_,_,_,_], defers := _ } _
     refine rdH (i := 11) (by kernel_rfl) rfl (fun KK hK => ?_)
     go_simp
     have hb : Below y0.heap.size y0 (y0.alloc (.cells #[.int .i64 (M1 : Int), .int .i64 T, .slice none 0 0, .int .i64 s.t, .int .i64 (-1)] 37)) := (Below.refl _ _).alloc (Nat.le_refl _) _
     have LB : Hid (∀ j, j < 5 → (y0.alloc (.cells #[.int .i64 (M1 : Int), .int .i64 T, .slice none 0 0, .int .i64 s.t, .int .i64 (-1)] 37)).cell? ⟨y0.heap.size, 0 + j, none⟩ = some (woV (woNew s.m tag s.t) (.slice none 0 0) j)) := fun j hj => by rw [WN.out, Nat.zero_add, World.cell?_alloc_at (w := y0) _ _ _ j rfl]; rcases (show j = 0 ∨ j = 1 ∨ j = 2 ∨ j = 3 ∨ j = 4 by omega) with rfl | rfl | rfl | rfl | rfl <;> rfl
     replace XM : Hid (Box2 (y0.alloc (.cells #[.int .i64 (M1 : Int), .int .i64 T, .slice none 0 0, .int .i64 s.t, .int .i64 (-1)] 37)) w.heap.size 35 (.int .i64 (M1 : Int)) (.int .i64 T)) := XM.out.below hb
     replace XS : Hid (Box4 (y0.alloc (.cells #[.int .i64 (M1 : Int), .int .i64 T, .slice none 0 0, .int .i64 s.t, .int .i64 (-1)] 37)) b 28 vr (.int .i64 s.t) (.slice wa s.m wc) vq) := XS.out.below hb
     replace OO : Hid (SvO (y0.alloc (.cells #[.int .i64 (M1 : Int), .int .i64 T, .slice none 0 0, .int .i64 s.t, .int .i64 (-1)] 37)) B s vr (.slice wa s.m wc) vq VR VW VQ) := OO.out.below hb
     replace H : Blw N B w (y0.alloc (.cells #[.int .i64 (M1 : Int), .int .i64 T, .slice none 0 0, .int .i64 s.t, .int .i64 (-1)] 37)) := H.trans (blw_of hb (Nat.le_trans hB H.size))
     clear hb
     generalize (y0.alloc (.cells #[.int .i64 (M1 : Int), .int .i64 T, .slice none 0 0, .int .i64 s.t, .int .i64 (-1)] 37)) = y1 at *
     generalize y0.heap.size = lb at *
     refine hK.out _ _ H (fun _ => ?_)
     clear hK KK
     change wpAnyH _ _ _ _ _ _ _ { tmps := #[_,_,_,_,_,_,_,_,_,_,_,_,_,_,_,_,_,_,_,_,_,_,_,_,_,_,_,_,_,_,_,_,_,_,_,_,_,_,_,_,_,_,_,_,_,_,_], defers := _ } _
    case' b50 =>
     go_simp
     have hb : Below y0.heap.size y0 (y0.alloc (.cells #[.int .i64 (M1 : Int), .int .i64 T, .slice none 0 0, .int .i64 s.t, .int .i64 (-1)] 37)) := (Below.refl _ _).alloc (Nat.le_refl _) _
     have LB : Hid (∀ j, j < 5 → (y0.alloc (.cells #[.int .i64 (M1 : Int), .int .i64 T, .slice none 0 0, .int .i64 s.t, .int .i64 (-1)] 37)).cell? ⟨y0.heap.size, 0 + j, none⟩ = some (woV (woNew s.m tag s.t) (.slice none 0 0) j)) := fun j hj => by rw [WN.out, Nat.zero_add, World.cell?_alloc_at (w := y0) _ _ _ j rfl]; rcases (show j = 0 ∨ j = 1 ∨ j = 2 ∨ j = 3 ∨ j = 4 by omega) with rfl | rfl | rfl | rfl | rfl <;> rfl
     replace XM : Hid (Box2 (y0.alloc (.cells #[.int .i64 (M1 : Int), .int .i64 T, .slice none 0 0, .int .i64 s.t, .int .i64 (-1)] 37)) w.heap.size 35 (.int .i64 (M1 : Int)) (.int .i64 T)) := XM.out.below hb
     replace XS : Hid (Box4 (y0.alloc (.cells #[.int .i64 (M1 : Int), .int .i64 T, .slice none 0 0, .int .i64 s.t, .int .i64 (-1)] 37)) b 28 vr (.int .i64 s.t) (.slice wa s.m wc) vq) := XS.out.below hb
     replace OO : Hid (SvO (y0.alloc (.cells #[.int .i64 (M1 : Int), .int .i64 T, .slice none 0 0, .int .i64 s.t, .int .i64 (-1)] 37)) B s vr (.slice wa s.m wc) vq VR VW VQ) := OO.out.below hb
     replace H : Blw N B w (y0.alloc (.cells #[.int .i64 (M1 : Int), .int .i64 T, .slice none 0 0, .int .i64 s.t, .int .i64 (-1)] 37)) := H.trans (blw_of hb (Nat.le_trans hB H.size))
     clear hb
     generalize (y0.alloc (.cells #[.int .i64 (M1 : Int), .int .i64 T, .slice none 0 0, .int .i64 s.t, .int .i64 (-1)] 37)) = y1 at *
     generalize y0.heap.size = lb at *
     refine hK.out _ _ H (fun _ => ?_)
     clear hK KK
     change wpAnyH _ _ _ _ _ _ _ { tmps := #[_,_,_,_,_,_,_,_,_,_,_,_,_,_,_,_,_,_,_,_,_,_,_,_,_,_,_,_,_,_,_,_,_,_,_,_,_,_,_,_,_,_,_,_,_,_,_], defers := _ } _
     refine rdH (i := 4) (by kernel_rfl) rfl (fun KK hK => ?_)
     have c2 := XS.out.c2
     go_simp
     refine hK.out _ _ H (fun _ => ?_)
     clear hK KK
     change wpAnyH _ _ _ _ _ _ _ { tmps := #[_,_,_,_,_,_,_,_,_,_,_,_,_,_,_,_,_,_,_,_,_,_,_,_,_,_,_,_,_,_,_,_,_,_,_,_,_,_,_,_,_,_,_,_,_,_,_], defers := _ } _
  all_goals
   refine rdH (i := 12) (by kernel_rfl) rfl (fun KK hK => ?_)
   obtain ⟨nv, y2, hr5, hE5, hg5, hl5⟩ := appWo y1 B (.slice wa s.m wc) s.m lb s.W VW (woNew s.m tag s.t) (.slice none 0 0) rfl (Nat.le_trans hB H.size) (by have := MS.out.1; omega) OO.out.x LB.out
   obtain ⟨na, nc, rfl⟩ := hE5.form
   have HZ0 : Hid (w.heap.size ≤ y1.heap.size) := H.size
   have BW : Blw N B y1 y2 := Blw.grownBy hg5 (Nat.le_trans hB H.size) (fun y hy => ⟨(OO.out.x.ge y hy).1, HN.out.x y hy⟩)
   replace H : Blw N B w y2 := H.trans BW
   have nb := OO.out.x.notBox4 XS.out (by decide)
   have O2 : Hid (EO y2 B 43 8 vr s.n (rpF s.R VR) ∧ EO y2 B 90 5 vq s.l (roF s.Q VQ) ∧ (∀ i, i < s.n → IE y2 B (VR i) (s.R i).ne (s.R i).E) ∧ (∀ i, i < s.m → IE y2 B (VW i) (s.W i).ne (s.W i).E) ∧ (∀ i, i < s.l → IE y2 B (VQ i) (s.Q i).ne (s.Q i).E)) := ⟨OO.out.r.keep (fun g e => hg5.block g (OO.out.r.ge g e).2 (fun z => OO.out.r.apart OO.out.x (by decide) g e z.symm)), OO.out.q.keep (fun g e => hg5.block g (OO.out.q.ge g e).2 (fun z => OO.out.q.apart OO.out.x (by decide) g e z.symm)), fun i hi => EO.keep (OO.out.e i hi) (fun g e => hg5.block g (EO.ge (OO.out.e i hi) g e).2 (fun z => EO.apart (OO.out.e i hi) OO.out.x (by decide) g e z.symm)), fun i hi => EO.keep (OO.out.a i hi) (fun g e => hg5.block g (EO.ge (OO.out.a i hi) g e).2 (fun z => EO.apart (OO.out.a i hi) OO.out.x (by decide) g e z.symm)), fun i hi => EO.keep (OO.out.f i hi) (fun g e => hg5.block g (EO.ge (OO.out.f i hi) g e).2 (fun z => EO.apart (OO.out.f i hi) OO.out.x (by decide) g e z.symm))⟩
   have E5 : Hid (EO y2 B 37 5 (.slice na (s.m + 1) nc) (s.m + 1) (woF (updE s.W s.m (woNew s.m tag s.t)) (updE VW s.m (.slice none 0 0)))) := hE5
   replace XS : Hid (Box4 y2 b 28 vr (.int .i64 s.t) (.slice wa s.m wc) vq) := XS.out.ofBlock (hg5.block _ XS.out.lt (fun z => nb _ z.symm rfl))
   have HL5 : Hid (∀ u, (Value.slice na (s.m + 1) nc).ownBlock = some u → (Value.slice wa s.m wc).ownBlock = some u ∨ w.heap.size ≤ u) := fun g e => hl5.elim (fun z => .inl (z ▸ e)) (fun z => .inr (by rw [z] at e; cases e; exact HZ0.out))
   clear hE5 hg5 hl5 nb LB OO BW HZ0
   rw [if_pos (by rfl)]
   refine Lib.wp_append_run _ (.tmp 36) (.tmp 43) 25 25 rfl (.slice wa s.m wc) (.slice (some ⟨lb, 0, none⟩) 1 1) rfl rfl _ _ (hr5 _) ?_
   refine hK.out _ _ H (fun _ => ?_)
   clear hK KK
   change wpAnyH _ _ _ _ _ _ _ { tmps := #[_,_,_,_,_,_,_,_,_,_,_,_,_,_,_,_,_,_,_,_,_,_,_,_,_,_,_,_,_,_,_,_,_,_,_,_,_,_,_,_,_,_,_,_,_,_,_], defers := _ } _
   refine tkH (i := 13) (v := .pointer (some ⟨b, 0, none⟩)) rfl (by kernel_rfl) (by rfl) ?_ H ?_
   ·intro w' hSw; clear hSw; go_simp
   change wpAnyH _ _ _ _ _ _ _ { tmps := #[_,_,_,_,_,_,_,_,_,_,_,_,_,_,_,_,_,_,_,_,_,_,_,_,_,_,_,_,_,_,_,_,_,_,_,_,_,_,_,_,_,_,_,_,_,_,_], defers := _ } _
   refine tkH (i := 14) (v := .pointer (some ⟨b, 2, none⟩)) rfl (by kernel_rfl) (by rfl) ?_ H ?_
   ·intro w' hSw; clear hSw; go_simp
   change wpAnyH _ _ _ _ _ _ _ { tmps := #[_,_,_,_,_,_,_,_,_,_,_,_,_,_,_,_,_,_,_,_,_,_,_,_,_,_,_,_,_,_,_,_,_,_,_,_,_,_,_,_,_,_,_,_,_,_,_], defers := _ } _
   refine rdH (i := 15) (by kernel_rfl) rfl (fun KK hK => ?_)
   have c2 := XS.out.c2
   have f2 := XS.out.fr 2
   go_simp
   have X2 : Hid (Box4 (y2.setCell ⟨b, 2, none⟩ (.slice na (s.m + 1) nc)) b 28 vr (.int .i64 s.t) (.slice na (s.m + 1) nc) vq) := XS.out.set2 _
   have kp : ∀ g : Nat, g ≠ b → (y2.setCell ⟨b, 2, none⟩ (.slice na (s.m + 1) nc)).heap[g]? = y2.heap[g]? := fun g e => Below.heap_setCell y2 ⟨b, 2, none⟩ _ g e
   have Y1 := EO.keep O2.out.1 (fun g e => kp g (O2.out.1.notBox4 XS.out (by decide) g e))
   have Y2 := EO.keep O2.out.2.1 (fun g e => kp g (O2.out.2.1.notBox4 XS.out (by decide) g e))
   have Y3 := fun i hi => EO.keep (O2.out.2.2.1 i hi) (fun g e => kp g (EO.notBox4 (O2.out.2.2.1 i hi) XS.out (by decide) g e))
   have Y4 := fun i hi => EO.keep (O2.out.2.2.2.1 i hi) (fun g e => kp g (EO.notBox4 (O2.out.2.2.2.1 i hi) XS.out (by decide) g e))
   have Y5 := fun i hi => EO.keep (O2.out.2.2.2.2 i hi) (fun g e => kp g (EO.notBox4 (O2.out.2.2.2.2 i hi) XS.out (by decide) g e))
   have Y6 := EO.keep E5.out (fun g e => kp g (E5.out.notBox4 XS.out (by decide) g e))
   have Q : Hid (RetBg N B b s tag (.returned (.int .i64 0)) (y2.setCell ⟨b, 2, none⟩ (.slice na (s.m + 1) nc))) := Or.inr ⟨NE.out, rfl, svx_begin MS.out.2 X2.out Y1 Y6 Y2 Y3 Y4 Y5 HD.out HN.out (Nat.le_trans H.size (by simp)) HL5.out⟩
   replace H : Blw N B w (y2.setCell ⟨b, 2, none⟩ (.slice na (s.m + 1) nc)) := H.setCell MS.out.2 HN.out.b _
   clear c2 f2 XS X2 kp Y1 Y2 Y3 Y4 Y5 Y6 O2 E5
   generalize (y2.setCell ⟨b, 2, none⟩ (.slice na (s.m + 1) nc)) = y3 at *
   refine hK.out _ _ H (fun _ => ?_)
   clear hK KK
   change wpAnyH _ _ _ _ _ _ _ { tmps := #[_,_,_,_,_,_,_,_,_,_,_,_,_,_,_,_,_,_,_,_,_,_,_,_,_,_,_,_,_,_,_,_,_,_,_,_,_,_,_,_,_,_,_,_,_,_,_], defers := _ } _
   refine wpAnyH_done (by kernel_rfl) ?_ _
   refine NoPanic.normal ?_
   have B9 : Hid (Blw N B w y3) := H
   clear H
   go_wp2
   go_ret
   exact ⟨Q.out, B9.out⟩
end Go.Proofs.Ytedncfcmhaaobaa
