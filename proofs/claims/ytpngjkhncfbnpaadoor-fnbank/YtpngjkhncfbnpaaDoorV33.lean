/-
  Texts of the proof, joined: BankOw.
-/
import Derived.Test.YtpngjkhncfbnpaaDoorV28
import Derived.Test.YtpngjkhncfbnpaaDoorV32
import Derived.Test.YtpngjkhncfbnpaaDoorV06
import Derived.Test.YtpngjkhncfbnpaaDoorV20
import Derived.Test.YtpngjkhncfbnpaaDoorV14
namespace Go.Proofs.YtpngjkhncfbnpaaDoor
open Go.ChangeShapes Go.WideShapes Go.ChangeAt Go.RowKit
set_option linter.unusedVariables false
structure BankE (w : World) (B : Nat) (m0 m1 : Nat) (b : Bk) (r0 r1 : Value) : Prop where
  e0 : EO w B 54 3 r0 m0 (rgF b.R)
  e1 : EO w B 100 4 r1 m1 (seF b.S)
  n01 : ∀ g, r0.ownBlock = some g → r1.ownBlock ≠ some g
structure OwnJ (w u : World) (v0 v1 : Value) (b : Bk) (m0 m1 : Nat) (r0 r1 : Value) : Prop where
  rows : BankE u (w.heap.size + 2) m0 m1 b r0 r1
  b : Below w.heap.size w u
  h : u.cell? ⟨w.heap.size, 0, none⟩ = some v0 ∧ u.cell? ⟨w.heap.size, 1, none⟩ = some v1
  x : Box2 u (w.heap.size + 1) 46 (.slice none 0 0) (.slice none 0 0)
  g : w.heap.size + 2 ≤ u.heap.size
theorem OwnJ.go {w u u' : World} {v0 v1 : Value} {b : Bk} {m0 m1 k0 k1 : Nat} {r0 r1 s0 s1 : Value} (h : OwnJ w u v0 v1 b m0 m1 r0 r1) (hb : Below (w.heap.size + 2) u u') (hr : BankE u' (w.heap.size + 2) k0 k1 b s0 s1) : OwnJ w u' v0 v1 b k0 k1 s0 s1 :=
  ⟨hr, h.b.trans (hb.mono (by omega)), ⟨(hb.cell (by show w.heap.size < _; omega)).trans h.h.1, (hb.cell (by show w.heap.size < _; omega)).trans h.h.2⟩, h.x.ofBlock (hb.block _ (by omega)), Nat.le_trans h.g hb.size⟩
theorem OwnJ.lit0 {w u : World} {v0 v1 : Value} {b : Bk} {m1 : Nat} {r0 r1 : Value} (h : OwnJ w u v0 v1 b 0 m1 r0 r1) : OwnJ w (u.alloc (.cells #[] 54)) v0 v1 b 0 m1 (.slice (some ⟨u.heap.size, 0, none⟩) 0 0) r1 := by
  have hb : Below u.heap.size u (u.alloc (.cells #[] 54)) := (Below.refl _ _).alloc (Nat.le_refl _) _
  exact h.go (hb.mono h.g) ⟨EO.lit u _ _ _ h.g _, h.rows.e1.below hb, fun g e e2 => by cases e; exact absurd (h.rows.e1.ge _ e2).2 (Nat.lt_irrefl _)⟩
theorem OwnJ.lit1 {w u : World} {v0 v1 : Value} {b : Bk} {m0 : Nat} {r0 r1 : Value} (h : OwnJ w u v0 v1 b m0 0 r0 r1) : OwnJ w (u.alloc (.cells #[] 100)) v0 v1 b m0 0 r0 (.slice (some ⟨u.heap.size, 0, none⟩) 0 0) := by
  have hb : Below u.heap.size u (u.alloc (.cells #[] 100)) := (Below.refl _ _).alloc (Nat.le_refl _) _
  exact h.go (hb.mono h.g) ⟨h.rows.e0.below hb, EO.lit u _ _ _ h.g _, fun g e e2 => by cases e2; exact absurd (h.rows.e0.ge _ e).2 (Nat.lt_irrefl _)⟩
theorem OwnJ.app0 {w u : World} {v0 v1 : Value} {b : Bk} {m1 : Nat} {r0 r1 : Value} (h : OwnJ w u v0 v1 b 0 m1 r0 r1) (a : Option Addr) (c : Nat) (hs : Els w 3 a b.nr (rgF b.R)) (hn : b.nr ≤ 100000) (ha : a = none → c = 0) :
    ∃ i k u', (∀ ty, (Builtin.append_ #[43, 43] ty #[r0, .slice a b.nr c]).run Tryd.prog u = .ok (.slice i b.nr k) u') ∧ OwnJ w u' v0 v1 b b.nr m1 (.slice i b.nr k) r1 := by
  obtain ⟨v, u', hr, ho, hg, hloc⟩ := allRg u (w.heap.size + 2) r0 0 b.R a b.nr c b.R h.g (by omega) h.rows.e0 (hs.below h.b) ha
  rw [Nat.zero_add, catE_zero] at ho
  obtain ⟨i, k, rfl⟩ := ho.form
  have keep : ∀ g, g < u.heap.size → r0.ownBlock ≠ some g → u'.heap[g]? = u.heap[g]? := fun g h1 h2 => hg.block g h1 (fun e => h2 e.symm)
  have hb : Below (w.heap.size + 2) u u' := ⟨hg.os, hg.tape, hg.output, hg.size, fun g hg' => keep g (by have := h.g; omega) (fun e => by have := (h.rows.e0.ge g e).1; omega)⟩
  refine ⟨i, k, u', hr, h.go hb ⟨ho, h.rows.e1.keep (fun g e => keep g (h.rows.e1.ge g e).2 (fun e2 => h.rows.n01 g e2 e)), fun g e e2 => ?_⟩⟩
  rcases hloc with q | q
  · exact h.rows.n01 g (q ▸ e) e2
  · have := (h.rows.e1.ge g e2).2
    have := Option.some.inj (q.symm.trans e)
    omega
theorem OwnJ.app1 {w u : World} {v0 v1 : Value} {b : Bk} {m0 : Nat} {r0 r1 : Value} (h : OwnJ w u v0 v1 b m0 0 r0 r1) (a : Option Addr) (c : Nat) (hs : Els w 4 a b.ns (seF b.S)) (hn : b.ns ≤ 100000) (ha : a = none → c = 0) :
    ∃ i k u', (∀ ty, (Builtin.append_ #[44, 44] ty #[r1, .slice a b.ns c]).run Tryd.prog u = .ok (.slice i b.ns k) u') ∧ OwnJ w u' v0 v1 b m0 b.ns r0 (.slice i b.ns k) := by
  obtain ⟨v, u', hr, ho, hg, hloc⟩ := allSe u (w.heap.size + 2) r1 0 b.S a b.ns c b.S h.g (by omega) h.rows.e1 (hs.below h.b) ha
  rw [Nat.zero_add, catE_zero] at ho
  obtain ⟨i, k, rfl⟩ := ho.form
  have keep : ∀ g, g < u.heap.size → r1.ownBlock ≠ some g → u'.heap[g]? = u.heap[g]? := fun g h1 h2 => hg.block g h1 (fun e => h2 e.symm)
  have hb : Below (w.heap.size + 2) u u' := ⟨hg.os, hg.tape, hg.output, hg.size, fun g hg' => keep g (by have := h.g; omega) (fun e => by have := (h.rows.e1.ge g e).1; omega)⟩
  refine ⟨i, k, u', hr, h.go hb ⟨h.rows.e0.keep (fun g e => keep g (h.rows.e0.ge g e).2 (fun e2 => h.rows.n01 g e e2)), ho, fun g e e2 => ?_⟩⟩
  rcases hloc with q | q
  · exact h.rows.n01 g e (q ▸ e2)
  · have := (h.rows.e0.ge g e).2
    have := Option.some.inj (q.symm.trans e2)
    omega
def RetOwn (b : Bk) (B : Nat) (e : Ending) (w : World) : Prop := ∃ a0 c0 a1 c1, e = .returned (.agg #[.slice a0 b.nr c0, .slice a1 b.ns c1]) ∧ BankE w B b.nr b.ns b (.slice a0 b.nr c0) (.slice a1 b.ns c1)
set_option maxRecDepth 100000 in
set_option maxHeartbeats 40000000 in
theorem l08Own_any (b : Bk) (a0 a1 : Option Addr) (c0 c1 : Nat) (h0 : b.nr ≤ 100000) (h1 : b.ns ≤ 100000) (z0 : a0 = none → c0 = 0) (z1 : a1 = none → c1 = 0) (w : World) (h : BankV w b a0 a1) :
    Calls Tryd.prog 54 #[.agg #[.slice a0 b.nr c0, .slice a1 b.ns c1]] w fun e w' => RetOwn b w.heap.size e w' ∧ Below w.heap.size w w' := by
  have DV : Hid (BankV w b a0 a1) := h
  clear h
  go_enter Tryd.func54, Tryd.ntmps54
  go_wp2_with fail
  have A0 : Below w.heap.size w ((w.alloc (.cells #[.slice a0 b.nr c0, .slice a1 b.ns c1] 46)).alloc (.cells #[.slice none 0 0, .slice none 0 0] 46)) := ((Below.refl _ _).alloc (Nat.le_refl _) _).alloc (by simp) _
  have I0 : Hid (OwnJ w ((w.alloc (.cells #[.slice a0 b.nr c0, .slice a1 b.ns c1] 46)).alloc (.cells #[.slice none 0 0, .slice none 0 0] 46)).drew (.slice a0 b.nr c0) (.slice a1 b.ns c1) b 0 0 (.slice none 0 0) (.slice none 0 0)) :=
    ⟨⟨EO.nil _ _ _ _ _, EO.nil _ _ _ _ _, fun g e => (by cases e)⟩, A0.drew, by refine ⟨?_, ?_⟩ <;> simp, (Box2.madeAt (w := w.alloc (.cells #[.slice a0 b.nr c0, .slice a1 b.ns c1] 46)) (by simp) _ _ _).below (Below.refl _ _).drew, by simp⟩
  have H := I0.out.h
  clear A0
  refine wp_region_noPanic ?_
  refine wp_region_held_drew (S := fun w' => w'.cell? ⟨w.heap.size, 0, none⟩ = some (.slice a0 b.nr c0) ∧ w'.cell? ⟨w.heap.size, 1, none⟩ = some (.slice a1 b.ns c1)) (by kernel_rfl) H (fun _ => ?_)
  generalize ((w.alloc (.cells #[.slice a0 b.nr c0, .slice a1 b.ns c1] 46)).alloc (.cells #[.slice none 0 0, .slice none 0 0] 46)).drew = u0 at *
  refine wpAnyH_take (i := 1) (v := .pointer (some ⟨w.heap.size, 0, none⟩)) rfl (by kernel_rfl) (by kernel_rfl) (by kernel_rfl) (fun _ _ _ h => h) (Or.inl ⟨by rfl, ?_⟩) H ?_
  · intro w' hSw; go_simp
  change wpAnyH _ _ _ _ _ _ _ { tmps := #[_,_,_,_,_,_,_,_,_,_,_,_], defers := _ } _
  refine wpAnyH_take (i := 2) (v := .slice a0 b.nr c0) rfl (by kernel_rfl) (by kernel_rfl) (by kernel_rfl) (fun _ _ _ h => h) (Or.inl ⟨by rfl, ?_⟩) H ?_
  · intro w' hSw; have t0 := hSw.1; have t1 := hSw.2; clear hSw; go_simp
  change wpAnyH _ _ _ _ _ _ _ { tmps := #[_,_,_,_,_,_,_,_,_,_,_,_], defers := _ } _
  refine wpAnyH_take (i := 5) (v := .pointer (some ⟨w.heap.size, 1, none⟩)) rfl (by kernel_rfl) (by kernel_rfl) (by kernel_rfl) (fun _ _ _ h => h) (Or.inl ⟨by rfl, ?_⟩) H ?_
  · intro w' hSw; go_simp
  change wpAnyH _ _ _ _ _ _ _ { tmps := #[_,_,_,_,_,_,_,_,_,_,_,_], defers := _ } _
  refine wpAnyH_take (i := 6) (v := .slice a1 b.ns c1) rfl (by kernel_rfl) (by kernel_rfl) (by kernel_rfl) (fun _ _ _ h => h) (Or.inl ⟨by rfl, ?_⟩) H ?_
  · intro w' hSw; have t0 := hSw.1; have t1 := hSw.2; clear hSw; go_simp
  change wpAnyH _ _ _ _ _ _ _ { tmps := #[_,_,_,_,_,_,_,_,_,_,_,_], defers := _ } _
  refine wpAnyH_ready (rs := [0, 4]) (by kernel_rfl) (by simp) ?_
  refine (AllReadyH.cons rfl (fun KK hK => ?_) (AllReadyH.cons rfl (fun KK hK => ?_) AllReadyH.nil))
  · skip
    have I1 : Hid (OwnJ w (u0.alloc (.cells #[] 54)) (.slice a0 b.nr c0) (.slice a1 b.ns c1) b 0 0 (.slice (some ⟨u0.heap.size, 0, none⟩) 0 0) (.slice none 0 0)) := I0.out.lit0
    go_simp
    replace H := I1.out.h
    refine hK.out _ _ H (fun _ => ?_)
    clear hK KK I0
    generalize (u0.alloc (.cells #[] 54)) = u1 at *
    generalize u0.heap.size = y0 at *
    change wpAnyH _ _ _ _ _ _ _ { tmps := #[_,_,_,_,_,_,_,_,_,_,_,_], defers := _ } _
    refine wpAnyH_ready (rs := [3, 4]) (by kernel_rfl) (by simp) ?_
    refine (AllReadyH.cons rfl (fun KK hK => ?_) (AllReadyH.cons rfl (fun KK hK => ?_) AllReadyH.nil))
    · skip
      obtain ⟨i0, k0, u2, hr, hI⟩ := I1.out.app0 a0 c0 DV.out.1 h0 z0
      have I2 : Hid (OwnJ w u2 (.slice a0 b.nr c0) (.slice a1 b.ns c1) b b.nr 0 (.slice i0 b.nr k0) (.slice none 0 0)) := hI
      rw [if_pos (by rfl)]
      refine Lib.wp_append_run _ (.tmp 3) (.tmp 5) 43 43 rfl (.slice (some ⟨y0, 0, none⟩) 0 0) (.slice a0 b.nr c0) rfl rfl _ _ (hr _) ?_
      replace H := I2.out.h
      refine hK.out _ _ H (fun _ => ?_)
      clear hK KK I1 hr hI
      change wpAnyH _ _ _ _ _ _ _ { tmps := #[_,_,_,_,_,_,_,_,_,_,_,_], defers := _ } _
      refine wpAnyH_ready (rs := [4]) (by kernel_rfl) (by simp) ?_
      refine (AllReadyH.cons rfl (fun KK hK => ?_) AllReadyH.nil)
      have I3 : Hid (OwnJ w (u2.alloc (.cells #[] 100)) (.slice a0 b.nr c0) (.slice a1 b.ns c1) b b.nr 0 (.slice i0 b.nr k0) (.slice (some ⟨u2.heap.size, 0, none⟩) 0 0)) := I2.out.lit1
      go_simp
      replace H := I3.out.h
      refine hK.out _ _ H (fun _ => ?_)
      clear hK KK I2
      generalize (u2.alloc (.cells #[] 100)) = u3 at *
      generalize u2.heap.size = y2 at *
      change wpAnyH _ _ _ _ _ _ _ { tmps := #[_,_,_,_,_,_,_,_,_,_,_,_], defers := _ } _
      refine wpAnyH_ready (rs := [7]) (by kernel_rfl) (by simp) ?_
      refine (AllReadyH.cons rfl (fun KK hK => ?_) AllReadyH.nil)
      obtain ⟨i1, k1, u4, hr, hI⟩ := I3.out.app1 a1 c1 DV.out.2 h1 z1
      have I4 : Hid (OwnJ w u4 (.slice a0 b.nr c0) (.slice a1 b.ns c1) b b.nr b.ns (.slice i0 b.nr k0) (.slice i1 b.ns k1)) := hI
      rw [if_pos (by rfl)]
      refine Lib.wp_append_run _ (.tmp 7) (.tmp 9) 44 44 rfl (.slice (some ⟨y2, 0, none⟩) 0 0) (.slice a1 b.ns c1) rfl rfl _ _ (hr _) ?_
      replace H := I4.out.h
      refine hK.out _ _ H (fun _ => ?_)
      clear hK KK I3 hr hI
      change wpAnyH _ _ _ _ _ _ _ { tmps := #[_,_,_,_,_,_,_,_,_,_,_,_], defers := _ } _
      refine wpAnyH_take (i := 8) (v := .agg #[.slice i0 b.nr k0, .slice i1 b.ns k1]) rfl (by kernel_rfl) (by kernel_rfl) (by kernel_rfl) (fun _ _ _ h => h) (Or.inl ⟨by rfl, ?_⟩) H ?_
      · intro w' hSw; go_simp
      change wpAnyH _ _ _ _ _ _ _ { tmps := #[_,_,_,_,_,_,_,_,_,_,_,_], defers := _ } _
      refine wpAnyH_ready (rs := [9]) (by kernel_rfl) (by simp) ?_
      refine AllReadyH.cons rfl (fun KK hK => ?_) AllReadyH.nil
      obtain ⟨R3, B3, H, X3, G3⟩ := I4.out
      have x0 := X3.c0
      have x1 := X3.c1
      have f0 := X3.fr 0
      have f1 := X3.fr 1
      have O5 : OnlyB (w.heap.size + 1) u4 ((u4.setCell ⟨w.heap.size + 1, 0, none⟩ (.slice i0 b.nr k0)).setCell ⟨w.heap.size + 1, 1, none⟩ (.slice i1 b.ns k1)) := ((OnlyB.refl _ u4).setCell 0 _).setCell 1 _
      have X5 : Box2 ((u4.setCell ⟨w.heap.size + 1, 0, none⟩ (.slice i0 b.nr k0)).setCell ⟨w.heap.size + 1, 1, none⟩ (.slice i1 b.ns k1)) (w.heap.size + 1) 46 (.slice i0 b.nr k0) (.slice i1 b.ns k1) := (X3.set0 _).set1 _
      have R5 : Hid (BankE ((u4.setCell ⟨w.heap.size + 1, 0, none⟩ (.slice i0 b.nr k0)).setCell ⟨w.heap.size + 1, 1, none⟩ (.slice i1 b.ns k1)) w.heap.size b.nr b.ns b (.slice i0 b.nr k0) (.slice i1 b.ns k1)) := ⟨(R3.e0.onlyB O5 (by omega)).mono (by omega), (R3.e1.onlyB O5 (by omega)).mono (by omega), R3.n01⟩
      have B5 : Hid (Below w.heap.size w ((u4.setCell ⟨w.heap.size + 1, 0, none⟩ (.slice i0 b.nr k0)).setCell ⟨w.heap.size + 1, 1, none⟩ (.slice i1 b.ns k1))) := B3.trans (O5.toBelow (by omega) B3.size)
      have H' : ((u4.setCell ⟨w.heap.size + 1, 0, none⟩ (.slice i0 b.nr k0)).setCell ⟨w.heap.size + 1, 1, none⟩ (.slice i1 b.ns k1)).cell? ⟨w.heap.size, 0, none⟩ = some (.slice a0 b.nr c0) ∧ ((u4.setCell ⟨w.heap.size + 1, 0, none⟩ (.slice i0 b.nr k0)).setCell ⟨w.heap.size + 1, 1, none⟩ (.slice i1 b.ns k1)).cell? ⟨w.heap.size, 1, none⟩ = some (.slice a1 b.ns c1) := ⟨(cellE (O5.block w.heap.size (strBlock H.1) (by omega))).trans H.1, (cellE (O5.block w.heap.size (strBlock H.2) (by omega))).trans H.2⟩
      replace H := H'
      clear H' O5 R3 B3 I4
      go_simp
      refine hK.out _ _ H (fun _ => ?_)
      clear hK KK x0 x1 f0 f1 X3 H
      generalize ((u4.setCell ⟨w.heap.size + 1, 0, none⟩ (.slice i0 b.nr k0)).setCell ⟨w.heap.size + 1, 1, none⟩ (.slice i1 b.ns k1)) = u9 at *
      refine wpAnyH_done (by kernel_rfl) ?_ _
      refine NoPanic.normal ?_
      have y0 := X5.c0
      have y1 := X5.c1
      clear X5
      go_wp2
      exact ret_cell (b := w.heap.size + 1) (v := .agg #[.slice i0 b.nr k0, .slice i1 b.ns k1]) Tryd.results54 rfl (by go_simp) ⟨⟨_, _, _, _, rfl, R5.out⟩, B5.out⟩
    · skip
      have I2 : Hid (OwnJ w (u1.alloc (.cells #[] 100)) (.slice a0 b.nr c0) (.slice a1 b.ns c1) b 0 0 (.slice (some ⟨y0, 0, none⟩) 0 0) (.slice (some ⟨u1.heap.size, 0, none⟩) 0 0)) := I1.out.lit1
      go_simp
      replace H := I2.out.h
      refine hK.out _ _ H (fun _ => ?_)
      clear hK KK I1
      generalize (u1.alloc (.cells #[] 100)) = u2 at *
      generalize u1.heap.size = y1 at *
      change wpAnyH _ _ _ _ _ _ _ { tmps := #[_,_,_,_,_,_,_,_,_,_,_,_], defers := _ } _
      refine wpAnyH_ready (rs := [3]) (by kernel_rfl) (by simp) ?_
      refine (AllReadyH.cons rfl (fun KK hK => ?_) AllReadyH.nil)
      obtain ⟨i0, k0, u3, hr, hI⟩ := I2.out.app0 a0 c0 DV.out.1 h0 z0
      have I3 : Hid (OwnJ w u3 (.slice a0 b.nr c0) (.slice a1 b.ns c1) b b.nr 0 (.slice i0 b.nr k0) (.slice (some ⟨y1, 0, none⟩) 0 0)) := hI
      rw [if_pos (by rfl)]
      refine Lib.wp_append_run _ (.tmp 3) (.tmp 5) 43 43 rfl (.slice (some ⟨y0, 0, none⟩) 0 0) (.slice a0 b.nr c0) rfl rfl _ _ (hr _) ?_
      replace H := I3.out.h
      refine hK.out _ _ H (fun _ => ?_)
      clear hK KK I2 hr hI
      change wpAnyH _ _ _ _ _ _ _ { tmps := #[_,_,_,_,_,_,_,_,_,_,_,_], defers := _ } _
      refine wpAnyH_ready (rs := [7]) (by kernel_rfl) (by simp) ?_
      refine (AllReadyH.cons rfl (fun KK hK => ?_) AllReadyH.nil)
      obtain ⟨i1, k1, u4, hr, hI⟩ := I3.out.app1 a1 c1 DV.out.2 h1 z1
      have I4 : Hid (OwnJ w u4 (.slice a0 b.nr c0) (.slice a1 b.ns c1) b b.nr b.ns (.slice i0 b.nr k0) (.slice i1 b.ns k1)) := hI
      rw [if_pos (by rfl)]
      refine Lib.wp_append_run _ (.tmp 7) (.tmp 9) 44 44 rfl (.slice (some ⟨y1, 0, none⟩) 0 0) (.slice a1 b.ns c1) rfl rfl _ _ (hr _) ?_
      replace H := I4.out.h
      refine hK.out _ _ H (fun _ => ?_)
      clear hK KK I3 hr hI
      change wpAnyH _ _ _ _ _ _ _ { tmps := #[_,_,_,_,_,_,_,_,_,_,_,_], defers := _ } _
      refine wpAnyH_take (i := 8) (v := .agg #[.slice i0 b.nr k0, .slice i1 b.ns k1]) rfl (by kernel_rfl) (by kernel_rfl) (by kernel_rfl) (fun _ _ _ h => h) (Or.inl ⟨by rfl, ?_⟩) H ?_
      · intro w' hSw; go_simp
      change wpAnyH _ _ _ _ _ _ _ { tmps := #[_,_,_,_,_,_,_,_,_,_,_,_], defers := _ } _
      refine wpAnyH_ready (rs := [9]) (by kernel_rfl) (by simp) ?_
      refine AllReadyH.cons rfl (fun KK hK => ?_) AllReadyH.nil
      obtain ⟨R3, B3, H, X3, G3⟩ := I4.out
      have x0 := X3.c0
      have x1 := X3.c1
      have f0 := X3.fr 0
      have f1 := X3.fr 1
      have O5 : OnlyB (w.heap.size + 1) u4 ((u4.setCell ⟨w.heap.size + 1, 0, none⟩ (.slice i0 b.nr k0)).setCell ⟨w.heap.size + 1, 1, none⟩ (.slice i1 b.ns k1)) := ((OnlyB.refl _ u4).setCell 0 _).setCell 1 _
      have X5 : Box2 ((u4.setCell ⟨w.heap.size + 1, 0, none⟩ (.slice i0 b.nr k0)).setCell ⟨w.heap.size + 1, 1, none⟩ (.slice i1 b.ns k1)) (w.heap.size + 1) 46 (.slice i0 b.nr k0) (.slice i1 b.ns k1) := (X3.set0 _).set1 _
      have R5 : Hid (BankE ((u4.setCell ⟨w.heap.size + 1, 0, none⟩ (.slice i0 b.nr k0)).setCell ⟨w.heap.size + 1, 1, none⟩ (.slice i1 b.ns k1)) w.heap.size b.nr b.ns b (.slice i0 b.nr k0) (.slice i1 b.ns k1)) := ⟨(R3.e0.onlyB O5 (by omega)).mono (by omega), (R3.e1.onlyB O5 (by omega)).mono (by omega), R3.n01⟩
      have B5 : Hid (Below w.heap.size w ((u4.setCell ⟨w.heap.size + 1, 0, none⟩ (.slice i0 b.nr k0)).setCell ⟨w.heap.size + 1, 1, none⟩ (.slice i1 b.ns k1))) := B3.trans (O5.toBelow (by omega) B3.size)
      have H' : ((u4.setCell ⟨w.heap.size + 1, 0, none⟩ (.slice i0 b.nr k0)).setCell ⟨w.heap.size + 1, 1, none⟩ (.slice i1 b.ns k1)).cell? ⟨w.heap.size, 0, none⟩ = some (.slice a0 b.nr c0) ∧ ((u4.setCell ⟨w.heap.size + 1, 0, none⟩ (.slice i0 b.nr k0)).setCell ⟨w.heap.size + 1, 1, none⟩ (.slice i1 b.ns k1)).cell? ⟨w.heap.size, 1, none⟩ = some (.slice a1 b.ns c1) := ⟨(cellE (O5.block w.heap.size (strBlock H.1) (by omega))).trans H.1, (cellE (O5.block w.heap.size (strBlock H.2) (by omega))).trans H.2⟩
      replace H := H'
      clear H' O5 R3 B3 I4
      go_simp
      refine hK.out _ _ H (fun _ => ?_)
      clear hK KK x0 x1 f0 f1 X3 H
      generalize ((u4.setCell ⟨w.heap.size + 1, 0, none⟩ (.slice i0 b.nr k0)).setCell ⟨w.heap.size + 1, 1, none⟩ (.slice i1 b.ns k1)) = u9 at *
      refine wpAnyH_done (by kernel_rfl) ?_ _
      refine NoPanic.normal ?_
      have y0 := X5.c0
      have y1 := X5.c1
      clear X5
      go_wp2
      exact ret_cell (b := w.heap.size + 1) (v := .agg #[.slice i0 b.nr k0, .slice i1 b.ns k1]) Tryd.results54 rfl (by go_simp) ⟨⟨_, _, _, _, rfl, R5.out⟩, B5.out⟩
  · skip
    have I1 : Hid (OwnJ w (u0.alloc (.cells #[] 100)) (.slice a0 b.nr c0) (.slice a1 b.ns c1) b 0 0 (.slice none 0 0) (.slice (some ⟨u0.heap.size, 0, none⟩) 0 0)) := I0.out.lit1
    go_simp
    replace H := I1.out.h
    refine hK.out _ _ H (fun _ => ?_)
    clear hK KK I0
    generalize (u0.alloc (.cells #[] 100)) = u1 at *
    generalize u0.heap.size = y0 at *
    change wpAnyH _ _ _ _ _ _ _ { tmps := #[_,_,_,_,_,_,_,_,_,_,_,_], defers := _ } _
    refine wpAnyH_ready (rs := [0]) (by kernel_rfl) (by simp) ?_
    refine (AllReadyH.cons rfl (fun KK hK => ?_) AllReadyH.nil)
    have I2 : Hid (OwnJ w (u1.alloc (.cells #[] 54)) (.slice a0 b.nr c0) (.slice a1 b.ns c1) b 0 0 (.slice (some ⟨u1.heap.size, 0, none⟩) 0 0) (.slice (some ⟨y0, 0, none⟩) 0 0)) := I1.out.lit0
    go_simp
    replace H := I2.out.h
    refine hK.out _ _ H (fun _ => ?_)
    clear hK KK I1
    generalize (u1.alloc (.cells #[] 54)) = u2 at *
    generalize u1.heap.size = y1 at *
    change wpAnyH _ _ _ _ _ _ _ { tmps := #[_,_,_,_,_,_,_,_,_,_,_,_], defers := _ } _
    refine wpAnyH_ready (rs := [3]) (by kernel_rfl) (by simp) ?_
    refine (AllReadyH.cons rfl (fun KK hK => ?_) AllReadyH.nil)
    obtain ⟨i0, k0, u3, hr, hI⟩ := I2.out.app0 a0 c0 DV.out.1 h0 z0
    have I3 : Hid (OwnJ w u3 (.slice a0 b.nr c0) (.slice a1 b.ns c1) b b.nr 0 (.slice i0 b.nr k0) (.slice (some ⟨y0, 0, none⟩) 0 0)) := hI
    rw [if_pos (by rfl)]
    refine Lib.wp_append_run _ (.tmp 3) (.tmp 5) 43 43 rfl (.slice (some ⟨y1, 0, none⟩) 0 0) (.slice a0 b.nr c0) rfl rfl _ _ (hr _) ?_
    replace H := I3.out.h
    refine hK.out _ _ H (fun _ => ?_)
    clear hK KK I2 hr hI
    change wpAnyH _ _ _ _ _ _ _ { tmps := #[_,_,_,_,_,_,_,_,_,_,_,_], defers := _ } _
    refine wpAnyH_ready (rs := [7]) (by kernel_rfl) (by simp) ?_
    refine (AllReadyH.cons rfl (fun KK hK => ?_) AllReadyH.nil)
    obtain ⟨i1, k1, u4, hr, hI⟩ := I3.out.app1 a1 c1 DV.out.2 h1 z1
    have I4 : Hid (OwnJ w u4 (.slice a0 b.nr c0) (.slice a1 b.ns c1) b b.nr b.ns (.slice i0 b.nr k0) (.slice i1 b.ns k1)) := hI
    rw [if_pos (by rfl)]
    refine Lib.wp_append_run _ (.tmp 7) (.tmp 9) 44 44 rfl (.slice (some ⟨y0, 0, none⟩) 0 0) (.slice a1 b.ns c1) rfl rfl _ _ (hr _) ?_
    replace H := I4.out.h
    refine hK.out _ _ H (fun _ => ?_)
    clear hK KK I3 hr hI
    change wpAnyH _ _ _ _ _ _ _ { tmps := #[_,_,_,_,_,_,_,_,_,_,_,_], defers := _ } _
    refine wpAnyH_take (i := 8) (v := .agg #[.slice i0 b.nr k0, .slice i1 b.ns k1]) rfl (by kernel_rfl) (by kernel_rfl) (by kernel_rfl) (fun _ _ _ h => h) (Or.inl ⟨by rfl, ?_⟩) H ?_
    · intro w' hSw; go_simp
    change wpAnyH _ _ _ _ _ _ _ { tmps := #[_,_,_,_,_,_,_,_,_,_,_,_], defers := _ } _
    refine wpAnyH_ready (rs := [9]) (by kernel_rfl) (by simp) ?_
    refine AllReadyH.cons rfl (fun KK hK => ?_) AllReadyH.nil
    obtain ⟨R3, B3, H, X3, G3⟩ := I4.out
    have x0 := X3.c0
    have x1 := X3.c1
    have f0 := X3.fr 0
    have f1 := X3.fr 1
    have O5 : OnlyB (w.heap.size + 1) u4 ((u4.setCell ⟨w.heap.size + 1, 0, none⟩ (.slice i0 b.nr k0)).setCell ⟨w.heap.size + 1, 1, none⟩ (.slice i1 b.ns k1)) := ((OnlyB.refl _ u4).setCell 0 _).setCell 1 _
    have X5 : Box2 ((u4.setCell ⟨w.heap.size + 1, 0, none⟩ (.slice i0 b.nr k0)).setCell ⟨w.heap.size + 1, 1, none⟩ (.slice i1 b.ns k1)) (w.heap.size + 1) 46 (.slice i0 b.nr k0) (.slice i1 b.ns k1) := (X3.set0 _).set1 _
    have R5 : Hid (BankE ((u4.setCell ⟨w.heap.size + 1, 0, none⟩ (.slice i0 b.nr k0)).setCell ⟨w.heap.size + 1, 1, none⟩ (.slice i1 b.ns k1)) w.heap.size b.nr b.ns b (.slice i0 b.nr k0) (.slice i1 b.ns k1)) := ⟨(R3.e0.onlyB O5 (by omega)).mono (by omega), (R3.e1.onlyB O5 (by omega)).mono (by omega), R3.n01⟩
    have B5 : Hid (Below w.heap.size w ((u4.setCell ⟨w.heap.size + 1, 0, none⟩ (.slice i0 b.nr k0)).setCell ⟨w.heap.size + 1, 1, none⟩ (.slice i1 b.ns k1))) := B3.trans (O5.toBelow (by omega) B3.size)
    have H' : ((u4.setCell ⟨w.heap.size + 1, 0, none⟩ (.slice i0 b.nr k0)).setCell ⟨w.heap.size + 1, 1, none⟩ (.slice i1 b.ns k1)).cell? ⟨w.heap.size, 0, none⟩ = some (.slice a0 b.nr c0) ∧ ((u4.setCell ⟨w.heap.size + 1, 0, none⟩ (.slice i0 b.nr k0)).setCell ⟨w.heap.size + 1, 1, none⟩ (.slice i1 b.ns k1)).cell? ⟨w.heap.size, 1, none⟩ = some (.slice a1 b.ns c1) := ⟨(cellE (O5.block w.heap.size (strBlock H.1) (by omega))).trans H.1, (cellE (O5.block w.heap.size (strBlock H.2) (by omega))).trans H.2⟩
    replace H := H'
    clear H' O5 R3 B3 I4
    go_simp
    refine hK.out _ _ H (fun _ => ?_)
    clear hK KK x0 x1 f0 f1 X3 H
    generalize ((u4.setCell ⟨w.heap.size + 1, 0, none⟩ (.slice i0 b.nr k0)).setCell ⟨w.heap.size + 1, 1, none⟩ (.slice i1 b.ns k1)) = u9 at *
    refine wpAnyH_done (by kernel_rfl) ?_ _
    refine NoPanic.normal ?_
    have y0 := X5.c0
    have y1 := X5.c1
    clear X5
    go_wp2
    exact ret_cell (b := w.heap.size + 1) (v := .agg #[.slice i0 b.nr k0, .slice i1 b.ns k1]) Tryd.results54 rfl (by go_simp) ⟨⟨_, _, _, _, rfl, R5.out⟩, B5.out⟩
end Go.Proofs.YtpngjkhncfbnpaaDoor
