/-
  The model's copy of a disk.
-/
import Derived.Test.YtgdfhgepbamhmaaDoorDiskCp
namespace Go.Proofs.YtgdfhgepbamhmaaDoor
open Go.ChangeShapes Go.WideShapes Go.ChangeAt Go.RowKit
set_option linter.unusedVariables false
/-- d cut to its first rows. -/
def Dk.part (d : Dk) (m0 m1 m2 : Nat) : Dk := ⟨m0, d.B, m1, d.A, d.D, m2, d.S⟩
/-- On the way: the argument's box, the answer's box, and the rows so far. -/
structure OwnI (w u : World) (v0 v1 v2 : Value) (d : Dk) (r0 r1 r2 : Value) : Prop where
  rows : Rows3 u (w.heap.size + 2) d r0 r1 r2
  b : Below w.heap.size w u
  h : u.cell? ⟨w.heap.size, 0, none⟩ = some v0 ∧ u.cell? ⟨w.heap.size, 1, none⟩ = some v1 ∧ u.cell? ⟨w.heap.size, 2, none⟩ = some v2
  x : Box3 u (w.heap.size + 1) 27 (.slice none 0 0) (.slice none 0 0) (.slice none 0 0)
  g : w.heap.size + 2 ≤ u.heap.size
theorem OwnI.go {w u u' : World} {v0 v1 v2 : Value} {d d' : Dk} {r0 r1 r2 s0 s1 s2 : Value} (h : OwnI w u v0 v1 v2 d r0 r1 r2) (hb : Below (w.heap.size + 2) u u') (hr : Rows3 u' (w.heap.size + 2) d' s0 s1 s2) : OwnI w u' v0 v1 v2 d' s0 s1 s2 :=
  ⟨hr, h.b.trans (hb.mono (by omega)), ⟨(hb.cell (by show w.heap.size < _; omega)).trans h.h.1, (hb.cell (by show w.heap.size < _; omega)).trans h.h.2.1, (hb.cell (by show w.heap.size < _; omega)).trans h.h.2.2⟩, h.x.ofBlock (hb.block _ (by omega)), Nat.le_trans h.g hb.size⟩
theorem OwnI.lit0 {w u : World} {v0 v1 v2 : Value} {d : Dk} {m1 m2 : Nat} {r0 r1 r2 : Value} (h : OwnI w u v0 v1 v2 (d.part 0 m1 m2) r0 r1 r2) : OwnI w (u.alloc (.cells #[] 9)) v0 v1 v2 (d.part 0 m1 m2) (.slice (some ⟨u.heap.size, 0, none⟩) 0 0) r1 r2 := by
  have hb : Below u.heap.size u (u.alloc (.cells #[] 9)) := (Below.refl _ _).alloc (Nat.le_refl _) _
  have R := h.rows.below hb
  exact h.go (hb.mono h.g) ⟨TxR.lit u _ h.g _, R.t1, R.t2, fun g e e2 => by cases e; exact absurd (World.ownsRow.lt h.rows.t1 _ e2).2 (Nat.lt_irrefl _), fun g e e2 => by cases e; exact absurd (World.ownsRow.lt h.rows.t2 _ e2).2 (Nat.lt_irrefl _), R.n12⟩
theorem OwnI.lit1 {w u : World} {v0 v1 v2 : Value} {d : Dk} {m0 m2 : Nat} {r0 r1 r2 : Value} (h : OwnI w u v0 v1 v2 (d.part m0 0 m2) r0 r1 r2) : OwnI w (u.alloc (.cells #[] 68)) v0 v1 v2 (d.part m0 0 m2) r0 (.slice (some ⟨u.heap.size, 0, none⟩) 0 0) r2 := by
  have hb : Below u.heap.size u (u.alloc (.cells #[] 68)) := (Below.refl _ _).alloc (Nat.le_refl _) _
  have R := h.rows.below hb
  exact h.go (hb.mono h.g) ⟨R.t0, PnR.lit u _ h.g _ _, R.t2, fun g e e2 => by cases e2; exact absurd (World.ownsRow.lt h.rows.t0 _ e).2 (Nat.lt_irrefl _), R.n02, fun g e e2 => by cases e; exact absurd (World.ownsRow.lt h.rows.t2 _ e2).2 (Nat.lt_irrefl _)⟩
theorem OwnI.lit2 {w u : World} {v0 v1 v2 : Value} {d : Dk} {m0 m1 : Nat} {r0 r1 r2 : Value} (h : OwnI w u v0 v1 v2 (d.part m0 m1 0) r0 r1 r2) : OwnI w (u.alloc (.cells #[] 9)) v0 v1 v2 (d.part m0 m1 0) r0 r1 (.slice (some ⟨u.heap.size, 0, none⟩) 0 0) := by
  have hb : Below u.heap.size u (u.alloc (.cells #[] 9)) := (Below.refl _ _).alloc (Nat.le_refl _) _
  have R := h.rows.below hb
  exact h.go (hb.mono h.g) ⟨R.t0, R.t1, TxR.lit u _ h.g _, R.n01, fun g e e2 => by cases e2; exact absurd (World.ownsRow.lt h.rows.t0 _ e).2 (Nat.lt_irrefl _), fun g e e2 => by cases e2; exact absurd (World.ownsRow.lt h.rows.t1 _ e).2 (Nat.lt_irrefl _)⟩
theorem catT0 (f g : Nat → ByteArray) (i : Nat) : catT 0 f g i = g i := by unfold catT; rw [if_neg (by omega)]; rfl
theorem catI0 (f g : Nat → Int) (i : Nat) : catI 0 f g i = g i := by unfold catI; rw [if_neg (by omega)]; rfl
theorem OwnI.app0 {w u : World} {v0 v1 v2 : Value} {d : Dk} {m1 m2 : Nat} {r0 r1 r2 : Value} (h : OwnI w u v0 v1 v2 (d.part 0 m1 m2) r0 r1 r2) (a : Option Addr) (c : Nat) (hs : Strs w a d.nb d.B) (hn : d.nb ≤ 1048576) (ha : a = none → c = 0) :
    ∃ i k u', (Builtin.append_ #[24, 24] 24 #[r0, .slice a d.nb c]).run Tryd.prog u = .ok (.slice i d.nb k) u' ∧ OwnI w u' v0 v1 v2 (d.part d.nb m1 m2) (.slice i d.nb k) r1 r2 := by
  obtain ⟨v, u', hr, ho, hg, hloc⟩ := appTx u (w.heap.size + 2) r0 0 d.B a d.nb c d.B 24 h.g (by omega) h.rows.t0 (hs.below h.b) ha
  rw [Nat.zero_add] at ho
  have ho' := ho.congr (fun i _ => catT0 d.B d.B i)
  obtain ⟨i, k, rfl, -⟩ := ho'.form
  have keep : ∀ g, g < u.heap.size → r0.ownBlock ≠ some g → u'.heap[g]? = u.heap[g]? := fun g h1 h2 => hg.block g h1 (fun e => h2 e.symm)
  have hb : Below (w.heap.size + 2) u u' := ⟨hg.os, hg.tape, hg.output, hg.size, fun g hg' => keep g (by have := h.g; omega) (fun e => by have := (World.ownsRow.lt h.rows.t0 g e).1; omega)⟩
  refine ⟨i, k, u', hr, h.go hb ⟨ho', ownsRow_block h.rows.t1 (fun g e => keep g (World.ownsRow.lt h.rows.t1 g e).2 (fun e2 => h.rows.n01 g e2 e)), ownsRow_block h.rows.t2 (fun g e => keep g (World.ownsRow.lt h.rows.t2 g e).2 (fun e2 => h.rows.n02 g e2 e)), fun g e e2 => ?_, fun g e e2 => ?_, h.rows.n12⟩⟩
  · rcases hloc with q | q
    · exact h.rows.n01 g (q ▸ e) e2
    · have := (World.ownsRow.lt h.rows.t1 g e2).2
      have := Option.some.inj (q.symm.trans e)
      omega
  · rcases hloc with q | q
    · exact h.rows.n02 g (q ▸ e) e2
    · have := (World.ownsRow.lt h.rows.t2 g e2).2
      have := Option.some.inj (q.symm.trans e)
      omega
theorem OwnI.app1 {w u : World} {v0 v1 v2 : Value} {d : Dk} {m0 m2 : Nat} {r0 r1 r2 : Value} (h : OwnI w u v0 v1 v2 (d.part m0 0 m2) r0 r1 r2) (a : Option Addr) (c : Nat) (hs : Pens w a d.nc d.A d.D) (hn : d.nc ≤ 1048576) (ha : a = none → c = 0) :
    ∃ i k u', (Builtin.append_ #[25, 25] 25 #[r1, .slice a d.nc c]).run Tryd.prog u = .ok (.slice i d.nc k) u' ∧ OwnI w u' v0 v1 v2 (d.part m0 d.nc m2) r0 (.slice i d.nc k) r2 := by
  obtain ⟨v, u', hr, ho, hg, hloc⟩ := appPn u (w.heap.size + 2) r1 0 d.A d.D a d.nc c d.A d.D 25 h.g (by omega) h.rows.t1 (hs.below h.b) ha
  rw [Nat.zero_add] at ho
  have ho' := ho.congr (fun i _ => ⟨catI0 d.A d.A i, catT0 d.D d.D i⟩)
  obtain ⟨i, k, rfl, -⟩ := ho'.form
  have keep : ∀ g, g < u.heap.size → r1.ownBlock ≠ some g → u'.heap[g]? = u.heap[g]? := fun g h1 h2 => hg.block g h1 (fun e => h2 e.symm)
  have hb : Below (w.heap.size + 2) u u' := ⟨hg.os, hg.tape, hg.output, hg.size, fun g hg' => keep g (by have := h.g; omega) (fun e => by have := (World.ownsRow.lt h.rows.t1 g e).1; omega)⟩
  refine ⟨i, k, u', hr, h.go hb ⟨ownsRow_block h.rows.t0 (fun g e => keep g (World.ownsRow.lt h.rows.t0 g e).2 (fun e2 => h.rows.n01 g e e2)), ho', ownsRow_block h.rows.t2 (fun g e => keep g (World.ownsRow.lt h.rows.t2 g e).2 (fun e2 => h.rows.n12 g e2 e)), fun g e e2 => ?_, h.rows.n02, fun g e e2 => ?_⟩⟩
  · rcases hloc with q | q
    · exact h.rows.n01 g e (q ▸ e2)
    · have := (World.ownsRow.lt h.rows.t0 g e).2
      have := Option.some.inj (q.symm.trans e2)
      omega
  · rcases hloc with q | q
    · exact h.rows.n12 g (q ▸ e) e2
    · have := (World.ownsRow.lt h.rows.t2 g e2).2
      have := Option.some.inj (q.symm.trans e)
      omega
theorem OwnI.app2 {w u : World} {v0 v1 v2 : Value} {d : Dk} {m0 m1 : Nat} {r0 r1 r2 : Value} (h : OwnI w u v0 v1 v2 (d.part m0 m1 0) r0 r1 r2) (a : Option Addr) (c : Nat) (hs : Strs w a d.ns d.S) (hn : d.ns ≤ 1048576) (ha : a = none → c = 0) :
    ∃ i k u', (Builtin.append_ #[24, 24] 24 #[r2, .slice a d.ns c]).run Tryd.prog u = .ok (.slice i d.ns k) u' ∧ OwnI w u' v0 v1 v2 (d.part m0 m1 d.ns) r0 r1 (.slice i d.ns k) := by
  obtain ⟨v, u', hr, ho, hg, hloc⟩ := appTx u (w.heap.size + 2) r2 0 d.S a d.ns c d.S 24 h.g (by omega) h.rows.t2 (hs.below h.b) ha
  rw [Nat.zero_add] at ho
  have ho' := ho.congr (fun i _ => catT0 d.S d.S i)
  obtain ⟨i, k, rfl, -⟩ := ho'.form
  have keep : ∀ g, g < u.heap.size → r2.ownBlock ≠ some g → u'.heap[g]? = u.heap[g]? := fun g h1 h2 => hg.block g h1 (fun e => h2 e.symm)
  have hb : Below (w.heap.size + 2) u u' := ⟨hg.os, hg.tape, hg.output, hg.size, fun g hg' => keep g (by have := h.g; omega) (fun e => by have := (World.ownsRow.lt h.rows.t2 g e).1; omega)⟩
  refine ⟨i, k, u', hr, h.go hb ⟨ownsRow_block h.rows.t0 (fun g e => keep g (World.ownsRow.lt h.rows.t0 g e).2 (fun e2 => h.rows.n02 g e e2)), ownsRow_block h.rows.t1 (fun g e => keep g (World.ownsRow.lt h.rows.t1 g e).2 (fun e2 => h.rows.n12 g e e2)), ho', h.rows.n01, fun g e e2 => ?_, fun g e e2 => ?_⟩⟩
  · rcases hloc with q | q
    · exact h.rows.n02 g e (q ▸ e2)
    · have := (World.ownsRow.lt h.rows.t0 g e).2
      have := Option.some.inj (q.symm.trans e2)
      omega
  · rcases hloc with q | q
    · exact h.rows.n12 g e (q ▸ e2)
    · have := (World.ownsRow.lt h.rows.t1 g e).2
      have := Option.some.inj (q.symm.trans e2)
      omega
set_option maxRecDepth 100000 in
set_option maxHeartbeats 40000000 in
theorem l05Own_any (d : Dk) (a0 a1 a2 : Option Addr) (c0 c1 c2 : Nat) (h0 : d.nb ≤ 1048576) (h1 : d.nc ≤ 1048576) (h2 : d.ns ≤ 1048576) (z0 : a0 = none → c0 = 0) (z1 : a1 = none → c1 = 0) (z2 : a2 = none → c2 = 0) (w : World) (h : DiskV w d a0 a1 a2) :
    Calls Tryd.prog 19 #[.agg #[.slice a0 d.nb c0, .slice a1 d.nc c1, .slice a2 d.ns c2]] w fun e w' => (∃ v0 v1 v2, e = .returned (.agg #[v0, v1, v2]) ∧ Rows3 w' w.heap.size d v0 v1 v2) ∧ Below w.heap.size w w' := by
  have DV : Hid (DiskV w d a0 a1 a2) := h
  clear h
  go_enter Tryd.func19, Tryd.ntmps19
  go_wp2_with fail
  have A0 : Below w.heap.size w ((w.alloc (.cells #[.slice a0 d.nb c0, .slice a1 d.nc c1, .slice a2 d.ns c2] 27)).alloc (.cells #[.slice none 0 0, .slice none 0 0, .slice none 0 0] 27)) := ((Below.refl _ _).alloc (Nat.le_refl _) _).alloc (by simp) _
  have I0 : Hid (OwnI w ((w.alloc (.cells #[.slice a0 d.nb c0, .slice a1 d.nc c1, .slice a2 d.ns c2] 27)).alloc (.cells #[.slice none 0 0, .slice none 0 0, .slice none 0 0] 27)).drew (.slice a0 d.nb c0) (.slice a1 d.nc c1) (.slice a2 d.ns c2) (d.part 0 0 0) (.slice none 0 0) (.slice none 0 0) (.slice none 0 0)) :=
    ⟨⟨TxR.nil _ _ _, PnR.nil _ _ _ _, TxR.nil _ _ _, fun g e => (by cases e), fun g e => (by cases e), fun g e => (by cases e)⟩, A0.drew, by refine ⟨?_, ?_, ?_⟩ <;> simp, (Box3.madeAt (w := w.alloc (.cells #[.slice a0 d.nb c0, .slice a1 d.nc c1, .slice a2 d.ns c2] 27)) (by simp) _ _ _ _).below (Below.refl _ _).drew, by simp⟩
  have H := I0.out.h
  clear A0
  refine wp_region_noPanic ?_
  refine wp_region_held_drew (S := fun w' => w'.cell? ⟨w.heap.size, 0, none⟩ = some (.slice a0 d.nb c0) ∧ w'.cell? ⟨w.heap.size, 1, none⟩ = some (.slice a1 d.nc c1) ∧ w'.cell? ⟨w.heap.size, 2, none⟩ = some (.slice a2 d.ns c2)) (by kernel_rfl) H (fun _ => ?_)
  generalize ((w.alloc (.cells #[.slice a0 d.nb c0, .slice a1 d.nc c1, .slice a2 d.ns c2] 27)).alloc (.cells #[.slice none 0 0, .slice none 0 0, .slice none 0 0] 27)).drew = u0 at *
  refine wpAnyH_take (i := 1) (v := .pointer (some ⟨w.heap.size, 0, none⟩)) rfl (by kernel_rfl) (by kernel_rfl) (by kernel_rfl) (fun _ _ _ h => h) (Or.inl ⟨by rfl, ?_⟩) H ?_
  · intro w' hSw; go_simp
  change wpAnyH _ _ _ _ _ _ _ { tmps := #[_, _, _, _, _, _, _, _, _, _, _, _, _, _, _, _], defers := _ } _
  refine wpAnyH_take (i := 2) (v := .slice a0 d.nb c0) rfl (by kernel_rfl) (by kernel_rfl) (by kernel_rfl) (fun _ _ _ h => h) (Or.inl ⟨by rfl, ?_⟩) H ?_
  · intro w' hSw; have t0 := hSw.1; have t1 := hSw.2.1; have t2 := hSw.2.2; clear hSw; go_simp
  change wpAnyH _ _ _ _ _ _ _ { tmps := #[_, _, _, _, _, _, _, _, _, _, _, _, _, _, _, _], defers := _ } _
  refine wpAnyH_take (i := 5) (v := .pointer (some ⟨w.heap.size, 1, none⟩)) rfl (by kernel_rfl) (by kernel_rfl) (by kernel_rfl) (fun _ _ _ h => h) (Or.inl ⟨by rfl, ?_⟩) H ?_
  · intro w' hSw; go_simp
  change wpAnyH _ _ _ _ _ _ _ { tmps := #[_, _, _, _, _, _, _, _, _, _, _, _, _, _, _, _], defers := _ } _
  refine wpAnyH_take (i := 6) (v := .slice a1 d.nc c1) rfl (by kernel_rfl) (by kernel_rfl) (by kernel_rfl) (fun _ _ _ h => h) (Or.inl ⟨by rfl, ?_⟩) H ?_
  · intro w' hSw; have t0 := hSw.1; have t1 := hSw.2.1; have t2 := hSw.2.2; clear hSw; go_simp
  change wpAnyH _ _ _ _ _ _ _ { tmps := #[_, _, _, _, _, _, _, _, _, _, _, _, _, _, _, _], defers := _ } _
  refine wpAnyH_take (i := 9) (v := .pointer (some ⟨w.heap.size, 2, none⟩)) rfl (by kernel_rfl) (by kernel_rfl) (by kernel_rfl) (fun _ _ _ h => h) (Or.inl ⟨by rfl, ?_⟩) H ?_
  · intro w' hSw; go_simp
  change wpAnyH _ _ _ _ _ _ _ { tmps := #[_, _, _, _, _, _, _, _, _, _, _, _, _, _, _, _], defers := _ } _
  refine wpAnyH_take (i := 10) (v := .slice a2 d.ns c2) rfl (by kernel_rfl) (by kernel_rfl) (by kernel_rfl) (fun _ _ _ h => h) (Or.inl ⟨by rfl, ?_⟩) H ?_
  · intro w' hSw; have t0 := hSw.1; have t1 := hSw.2.1; have t2 := hSw.2.2; clear hSw; go_simp
  change wpAnyH _ _ _ _ _ _ _ { tmps := #[_, _, _, _, _, _, _, _, _, _, _, _, _, _, _, _], defers := _ } _
  refine wpAnyH_ready (rs := [0, 4, 8]) (by kernel_rfl) (by simp) ?_
  refine (AllReadyH.cons rfl (fun KK hK => ?_) (AllReadyH.cons rfl (fun KK hK => ?_) (AllReadyH.cons rfl (fun KK hK => ?_) AllReadyH.nil)))
  · skip
    have I1 : Hid (OwnI w (u0.alloc (.cells #[] 9)) (.slice a0 d.nb c0) (.slice a1 d.nc c1) (.slice a2 d.ns c2) (d.part 0 0 0) (.slice (some ⟨u0.heap.size, 0, none⟩) 0 0) (.slice none 0 0) (.slice none 0 0)) := I0.out.lit0
    go_simp
    replace H := I1.out.h
    refine hK.out _ _ H (fun _ => ?_)
    clear hK KK I0
    generalize (u0.alloc (.cells #[] 9)) = u1 at *
    generalize u0.heap.size = y0 at *
    change wpAnyH _ _ _ _ _ _ _ { tmps := #[_, _, _, _, _, _, _, _, _, _, _, _, _, _, _, _], defers := _ } _
    refine wpAnyH_ready (rs := [3, 4, 8]) (by kernel_rfl) (by simp) ?_
    refine (AllReadyH.cons rfl (fun KK hK => ?_) (AllReadyH.cons rfl (fun KK hK => ?_) (AllReadyH.cons rfl (fun KK hK => ?_) AllReadyH.nil)))
    · skip
      obtain ⟨i0, k0, u2, hr, hI⟩ := I1.out.app0 a0 c0 DV.out.1 h0 z0
      have I2 : Hid (OwnI w u2 (.slice a0 d.nb c0) (.slice a1 d.nc c1) (.slice a2 d.ns c2) (d.part d.nb 0 0) (.slice i0 d.nb k0) (.slice none 0 0) (.slice none 0 0)) := hI
      rw [if_pos (by rfl)]
      refine Lib.wp_append_run _ (.tmp 3) (.tmp 5) 24 24 rfl (.slice (some ⟨y0, 0, none⟩) 0 0) (.slice a0 d.nb c0) rfl rfl _ _ hr ?_
      replace H := I2.out.h
      refine hK.out _ _ H (fun _ => ?_)
      clear hK KK I1 hr hI
      change wpAnyH _ _ _ _ _ _ _ { tmps := #[_, _, _, _, _, _, _, _, _, _, _, _, _, _, _, _], defers := _ } _
      refine wpAnyH_ready (rs := [4, 8]) (by kernel_rfl) (by simp) ?_
      refine (AllReadyH.cons rfl (fun KK hK => ?_) (AllReadyH.cons rfl (fun KK hK => ?_) AllReadyH.nil))
      · skip
        have I3 : Hid (OwnI w (u2.alloc (.cells #[] 68)) (.slice a0 d.nb c0) (.slice a1 d.nc c1) (.slice a2 d.ns c2) (d.part d.nb 0 0) (.slice i0 d.nb k0) (.slice (some ⟨u2.heap.size, 0, none⟩) 0 0) (.slice none 0 0)) := I2.out.lit1
        go_simp
        replace H := I3.out.h
        refine hK.out _ _ H (fun _ => ?_)
        clear hK KK I2
        generalize (u2.alloc (.cells #[] 68)) = u3 at *
        generalize u2.heap.size = y2 at *
        change wpAnyH _ _ _ _ _ _ _ { tmps := #[_, _, _, _, _, _, _, _, _, _, _, _, _, _, _, _], defers := _ } _
        refine wpAnyH_ready (rs := [7, 8]) (by kernel_rfl) (by simp) ?_
        refine (AllReadyH.cons rfl (fun KK hK => ?_) (AllReadyH.cons rfl (fun KK hK => ?_) AllReadyH.nil))
        · skip
          obtain ⟨i1, k1, u4, hr, hI⟩ := I3.out.app1 a1 c1 DV.out.2.1 h1 z1
          have I4 : Hid (OwnI w u4 (.slice a0 d.nb c0) (.slice a1 d.nc c1) (.slice a2 d.ns c2) (d.part d.nb d.nc 0) (.slice i0 d.nb k0) (.slice i1 d.nc k1) (.slice none 0 0)) := hI
          rw [if_pos (by rfl)]
          refine Lib.wp_append_run _ (.tmp 7) (.tmp 9) 25 25 rfl (.slice (some ⟨y2, 0, none⟩) 0 0) (.slice a1 d.nc c1) rfl rfl _ _ hr ?_
          replace H := I4.out.h
          refine hK.out _ _ H (fun _ => ?_)
          clear hK KK I3 hr hI
          change wpAnyH _ _ _ _ _ _ _ { tmps := #[_, _, _, _, _, _, _, _, _, _, _, _, _, _, _, _], defers := _ } _
          refine wpAnyH_ready (rs := [8]) (by kernel_rfl) (by simp) ?_
          refine (AllReadyH.cons rfl (fun KK hK => ?_) AllReadyH.nil)
          have I5 : Hid (OwnI w (u4.alloc (.cells #[] 9)) (.slice a0 d.nb c0) (.slice a1 d.nc c1) (.slice a2 d.ns c2) (d.part d.nb d.nc 0) (.slice i0 d.nb k0) (.slice i1 d.nc k1) (.slice (some ⟨u4.heap.size, 0, none⟩) 0 0)) := I4.out.lit2
          go_simp
          replace H := I5.out.h
          refine hK.out _ _ H (fun _ => ?_)
          clear hK KK I4
          generalize (u4.alloc (.cells #[] 9)) = u5 at *
          generalize u4.heap.size = y4 at *
          change wpAnyH _ _ _ _ _ _ _ { tmps := #[_, _, _, _, _, _, _, _, _, _, _, _, _, _, _, _], defers := _ } _
          refine wpAnyH_ready (rs := [11]) (by kernel_rfl) (by simp) ?_
          refine (AllReadyH.cons rfl (fun KK hK => ?_) AllReadyH.nil)
          obtain ⟨i2, k2, u6, hr, hI⟩ := I5.out.app2 a2 c2 DV.out.2.2 h2 z2
          have I6 : Hid (OwnI w u6 (.slice a0 d.nb c0) (.slice a1 d.nc c1) (.slice a2 d.ns c2) (d.part d.nb d.nc d.ns) (.slice i0 d.nb k0) (.slice i1 d.nc k1) (.slice i2 d.ns k2)) := hI
          rw [if_pos (by rfl)]
          refine Lib.wp_append_run _ (.tmp 11) (.tmp 13) 24 24 rfl (.slice (some ⟨y4, 0, none⟩) 0 0) (.slice a2 d.ns c2) rfl rfl _ _ hr ?_
          replace H := I6.out.h
          refine hK.out _ _ H (fun _ => ?_)
          clear hK KK I5 hr hI
          change wpAnyH _ _ _ _ _ _ _ { tmps := #[_, _, _, _, _, _, _, _, _, _, _, _, _, _, _, _], defers := _ } _
          refine wpAnyH_take (i := 12) (v := .agg #[.slice i0 d.nb k0, .slice i1 d.nc k1, .slice i2 d.ns k2]) rfl (by kernel_rfl) (by kernel_rfl) (by kernel_rfl) (fun _ _ _ h => h) (Or.inl ⟨by rfl, ?_⟩) H ?_
          · intro w' hSw; go_simp
          change wpAnyH _ _ _ _ _ _ _ { tmps := #[_, _, _, _, _, _, _, _, _, _, _, _, _, _, _, _], defers := _ } _
          refine wpAnyH_ready (rs := [13]) (by kernel_rfl) (by simp) ?_
          refine AllReadyH.cons rfl (fun KK hK => ?_) AllReadyH.nil
          obtain ⟨R3, B3, H, X3, G3⟩ := I6.out
          have x0 := X3.c0
          have x1 := X3.c1
          have x2 := X3.c2
          have f0 := X3.fr 0
          have f1 := X3.fr 1
          have f2 := X3.fr 2
          have O5 : OnlyB (w.heap.size + 1) u6 (((u6.setCell ⟨w.heap.size + 1, 0, none⟩ (.slice i0 d.nb k0)).setCell ⟨w.heap.size + 1, 1, none⟩ (.slice i1 d.nc k1)).setCell ⟨w.heap.size + 1, 2, none⟩ (.slice i2 d.ns k2)) := (((OnlyB.refl _ u6).setCell 0 _).setCell 1 _).setCell 2 _
          have X5 : Box3 (((u6.setCell ⟨w.heap.size + 1, 0, none⟩ (.slice i0 d.nb k0)).setCell ⟨w.heap.size + 1, 1, none⟩ (.slice i1 d.nc k1)).setCell ⟨w.heap.size + 1, 2, none⟩ (.slice i2 d.ns k2)) (w.heap.size + 1) 27 (.slice i0 d.nb k0) (.slice i1 d.nc k1) (.slice i2 d.ns k2) := ((X3.set0 _).set1 _).set2 _
          have R5 : Hid (Rows3 (((u6.setCell ⟨w.heap.size + 1, 0, none⟩ (.slice i0 d.nb k0)).setCell ⟨w.heap.size + 1, 1, none⟩ (.slice i1 d.nc k1)).setCell ⟨w.heap.size + 1, 2, none⟩ (.slice i2 d.ns k2)) w.heap.size d (.slice i0 d.nb k0) (.slice i1 d.nc k1) (.slice i2 d.ns k2)) := ⟨own_mono (R3.t0.onlyB O5 (fun e => by have := (World.ownsRow.lt R3.t0 _ e).1; omega)) (by omega), own_mono (R3.t1.onlyB O5 (fun e => by have := (World.ownsRow.lt R3.t1 _ e).1; omega)) (by omega), own_mono (R3.t2.onlyB O5 (fun e => by have := (World.ownsRow.lt R3.t2 _ e).1; omega)) (by omega), R3.n01, R3.n02, R3.n12⟩
          have B5 : Hid (Below w.heap.size w (((u6.setCell ⟨w.heap.size + 1, 0, none⟩ (.slice i0 d.nb k0)).setCell ⟨w.heap.size + 1, 1, none⟩ (.slice i1 d.nc k1)).setCell ⟨w.heap.size + 1, 2, none⟩ (.slice i2 d.ns k2))) := B3.trans (O5.toBelow (by omega) B3.size)
          have H' : (((u6.setCell ⟨w.heap.size + 1, 0, none⟩ (.slice i0 d.nb k0)).setCell ⟨w.heap.size + 1, 1, none⟩ (.slice i1 d.nc k1)).setCell ⟨w.heap.size + 1, 2, none⟩ (.slice i2 d.ns k2)).cell? ⟨w.heap.size, 0, none⟩ = some (.slice a0 d.nb c0) ∧ (((u6.setCell ⟨w.heap.size + 1, 0, none⟩ (.slice i0 d.nb k0)).setCell ⟨w.heap.size + 1, 1, none⟩ (.slice i1 d.nc k1)).setCell ⟨w.heap.size + 1, 2, none⟩ (.slice i2 d.ns k2)).cell? ⟨w.heap.size, 1, none⟩ = some (.slice a1 d.nc c1) ∧ (((u6.setCell ⟨w.heap.size + 1, 0, none⟩ (.slice i0 d.nb k0)).setCell ⟨w.heap.size + 1, 1, none⟩ (.slice i1 d.nc k1)).setCell ⟨w.heap.size + 1, 2, none⟩ (.slice i2 d.ns k2)).cell? ⟨w.heap.size, 2, none⟩ = some (.slice a2 d.ns c2) := ⟨(cellOf (O5.block w.heap.size (strBlock H.1) (by omega))).trans H.1, (cellOf (O5.block w.heap.size (strBlock H.2.1) (by omega))).trans H.2.1, (cellOf (O5.block w.heap.size (strBlock H.2.2) (by omega))).trans H.2.2⟩
          replace H := H'
          clear H' O5 R3 B3 I6
          go_simp
          refine hK.out _ _ H (fun _ => ?_)
          clear hK KK x0 x1 x2 f0 f1 f2 X3 H
          generalize (((u6.setCell ⟨w.heap.size + 1, 0, none⟩ (.slice i0 d.nb k0)).setCell ⟨w.heap.size + 1, 1, none⟩ (.slice i1 d.nc k1)).setCell ⟨w.heap.size + 1, 2, none⟩ (.slice i2 d.ns k2)) = u9 at *
          refine wpAnyH_done (by kernel_rfl) ?_ _
          refine NoPanic.normal ?_
          have y0 := X5.c0
          have y1 := X5.c1
          have y2 := X5.c2
          clear X5
          go_wp2
          exact ret_cell (b := w.heap.size + 1) (v := .agg #[.slice i0 d.nb k0, .slice i1 d.nc k1, .slice i2 d.ns k2]) Tryd.results19 rfl (by go_simp) ⟨⟨_, _, _, rfl, R5.out⟩, B5.out⟩
        · skip
          have I4 : Hid (OwnI w (u3.alloc (.cells #[] 9)) (.slice a0 d.nb c0) (.slice a1 d.nc c1) (.slice a2 d.ns c2) (d.part d.nb 0 0) (.slice i0 d.nb k0) (.slice (some ⟨y2, 0, none⟩) 0 0) (.slice (some ⟨u3.heap.size, 0, none⟩) 0 0)) := I3.out.lit2
          go_simp
          replace H := I4.out.h
          refine hK.out _ _ H (fun _ => ?_)
          clear hK KK I3
          generalize (u3.alloc (.cells #[] 9)) = u4 at *
          generalize u3.heap.size = y3 at *
          change wpAnyH _ _ _ _ _ _ _ { tmps := #[_, _, _, _, _, _, _, _, _, _, _, _, _, _, _, _], defers := _ } _
          refine wpAnyH_ready (rs := [7]) (by kernel_rfl) (by simp) ?_
          refine (AllReadyH.cons rfl (fun KK hK => ?_) AllReadyH.nil)
          obtain ⟨i1, k1, u5, hr, hI⟩ := I4.out.app1 a1 c1 DV.out.2.1 h1 z1
          have I5 : Hid (OwnI w u5 (.slice a0 d.nb c0) (.slice a1 d.nc c1) (.slice a2 d.ns c2) (d.part d.nb d.nc 0) (.slice i0 d.nb k0) (.slice i1 d.nc k1) (.slice (some ⟨y3, 0, none⟩) 0 0)) := hI
          rw [if_pos (by rfl)]
          refine Lib.wp_append_run _ (.tmp 7) (.tmp 9) 25 25 rfl (.slice (some ⟨y2, 0, none⟩) 0 0) (.slice a1 d.nc c1) rfl rfl _ _ hr ?_
          replace H := I5.out.h
          refine hK.out _ _ H (fun _ => ?_)
          clear hK KK I4 hr hI
          change wpAnyH _ _ _ _ _ _ _ { tmps := #[_, _, _, _, _, _, _, _, _, _, _, _, _, _, _, _], defers := _ } _
          refine wpAnyH_ready (rs := [11]) (by kernel_rfl) (by simp) ?_
          refine (AllReadyH.cons rfl (fun KK hK => ?_) AllReadyH.nil)
          obtain ⟨i2, k2, u6, hr, hI⟩ := I5.out.app2 a2 c2 DV.out.2.2 h2 z2
          have I6 : Hid (OwnI w u6 (.slice a0 d.nb c0) (.slice a1 d.nc c1) (.slice a2 d.ns c2) (d.part d.nb d.nc d.ns) (.slice i0 d.nb k0) (.slice i1 d.nc k1) (.slice i2 d.ns k2)) := hI
          rw [if_pos (by rfl)]
          refine Lib.wp_append_run _ (.tmp 11) (.tmp 13) 24 24 rfl (.slice (some ⟨y3, 0, none⟩) 0 0) (.slice a2 d.ns c2) rfl rfl _ _ hr ?_
          replace H := I6.out.h
          refine hK.out _ _ H (fun _ => ?_)
          clear hK KK I5 hr hI
          change wpAnyH _ _ _ _ _ _ _ { tmps := #[_, _, _, _, _, _, _, _, _, _, _, _, _, _, _, _], defers := _ } _
          refine wpAnyH_take (i := 12) (v := .agg #[.slice i0 d.nb k0, .slice i1 d.nc k1, .slice i2 d.ns k2]) rfl (by kernel_rfl) (by kernel_rfl) (by kernel_rfl) (fun _ _ _ h => h) (Or.inl ⟨by rfl, ?_⟩) H ?_
          · intro w' hSw; go_simp
          change wpAnyH _ _ _ _ _ _ _ { tmps := #[_, _, _, _, _, _, _, _, _, _, _, _, _, _, _, _], defers := _ } _
          refine wpAnyH_ready (rs := [13]) (by kernel_rfl) (by simp) ?_
          refine AllReadyH.cons rfl (fun KK hK => ?_) AllReadyH.nil
          obtain ⟨R3, B3, H, X3, G3⟩ := I6.out
          have x0 := X3.c0
          have x1 := X3.c1
          have x2 := X3.c2
          have f0 := X3.fr 0
          have f1 := X3.fr 1
          have f2 := X3.fr 2
          have O5 : OnlyB (w.heap.size + 1) u6 (((u6.setCell ⟨w.heap.size + 1, 0, none⟩ (.slice i0 d.nb k0)).setCell ⟨w.heap.size + 1, 1, none⟩ (.slice i1 d.nc k1)).setCell ⟨w.heap.size + 1, 2, none⟩ (.slice i2 d.ns k2)) := (((OnlyB.refl _ u6).setCell 0 _).setCell 1 _).setCell 2 _
          have X5 : Box3 (((u6.setCell ⟨w.heap.size + 1, 0, none⟩ (.slice i0 d.nb k0)).setCell ⟨w.heap.size + 1, 1, none⟩ (.slice i1 d.nc k1)).setCell ⟨w.heap.size + 1, 2, none⟩ (.slice i2 d.ns k2)) (w.heap.size + 1) 27 (.slice i0 d.nb k0) (.slice i1 d.nc k1) (.slice i2 d.ns k2) := ((X3.set0 _).set1 _).set2 _
          have R5 : Hid (Rows3 (((u6.setCell ⟨w.heap.size + 1, 0, none⟩ (.slice i0 d.nb k0)).setCell ⟨w.heap.size + 1, 1, none⟩ (.slice i1 d.nc k1)).setCell ⟨w.heap.size + 1, 2, none⟩ (.slice i2 d.ns k2)) w.heap.size d (.slice i0 d.nb k0) (.slice i1 d.nc k1) (.slice i2 d.ns k2)) := ⟨own_mono (R3.t0.onlyB O5 (fun e => by have := (World.ownsRow.lt R3.t0 _ e).1; omega)) (by omega), own_mono (R3.t1.onlyB O5 (fun e => by have := (World.ownsRow.lt R3.t1 _ e).1; omega)) (by omega), own_mono (R3.t2.onlyB O5 (fun e => by have := (World.ownsRow.lt R3.t2 _ e).1; omega)) (by omega), R3.n01, R3.n02, R3.n12⟩
          have B5 : Hid (Below w.heap.size w (((u6.setCell ⟨w.heap.size + 1, 0, none⟩ (.slice i0 d.nb k0)).setCell ⟨w.heap.size + 1, 1, none⟩ (.slice i1 d.nc k1)).setCell ⟨w.heap.size + 1, 2, none⟩ (.slice i2 d.ns k2))) := B3.trans (O5.toBelow (by omega) B3.size)
          have H' : (((u6.setCell ⟨w.heap.size + 1, 0, none⟩ (.slice i0 d.nb k0)).setCell ⟨w.heap.size + 1, 1, none⟩ (.slice i1 d.nc k1)).setCell ⟨w.heap.size + 1, 2, none⟩ (.slice i2 d.ns k2)).cell? ⟨w.heap.size, 0, none⟩ = some (.slice a0 d.nb c0) ∧ (((u6.setCell ⟨w.heap.size + 1, 0, none⟩ (.slice i0 d.nb k0)).setCell ⟨w.heap.size + 1, 1, none⟩ (.slice i1 d.nc k1)).setCell ⟨w.heap.size + 1, 2, none⟩ (.slice i2 d.ns k2)).cell? ⟨w.heap.size, 1, none⟩ = some (.slice a1 d.nc c1) ∧ (((u6.setCell ⟨w.heap.size + 1, 0, none⟩ (.slice i0 d.nb k0)).setCell ⟨w.heap.size + 1, 1, none⟩ (.slice i1 d.nc k1)).setCell ⟨w.heap.size + 1, 2, none⟩ (.slice i2 d.ns k2)).cell? ⟨w.heap.size, 2, none⟩ = some (.slice a2 d.ns c2) := ⟨(cellOf (O5.block w.heap.size (strBlock H.1) (by omega))).trans H.1, (cellOf (O5.block w.heap.size (strBlock H.2.1) (by omega))).trans H.2.1, (cellOf (O5.block w.heap.size (strBlock H.2.2) (by omega))).trans H.2.2⟩
          replace H := H'
          clear H' O5 R3 B3 I6
          go_simp
          refine hK.out _ _ H (fun _ => ?_)
          clear hK KK x0 x1 x2 f0 f1 f2 X3 H
          generalize (((u6.setCell ⟨w.heap.size + 1, 0, none⟩ (.slice i0 d.nb k0)).setCell ⟨w.heap.size + 1, 1, none⟩ (.slice i1 d.nc k1)).setCell ⟨w.heap.size + 1, 2, none⟩ (.slice i2 d.ns k2)) = u9 at *
          refine wpAnyH_done (by kernel_rfl) ?_ _
          refine NoPanic.normal ?_
          have y0 := X5.c0
          have y1 := X5.c1
          have y2 := X5.c2
          clear X5
          go_wp2
          exact ret_cell (b := w.heap.size + 1) (v := .agg #[.slice i0 d.nb k0, .slice i1 d.nc k1, .slice i2 d.ns k2]) Tryd.results19 rfl (by go_simp) ⟨⟨_, _, _, rfl, R5.out⟩, B5.out⟩
      · skip
        have I3 : Hid (OwnI w (u2.alloc (.cells #[] 9)) (.slice a0 d.nb c0) (.slice a1 d.nc c1) (.slice a2 d.ns c2) (d.part d.nb 0 0) (.slice i0 d.nb k0) (.slice none 0 0) (.slice (some ⟨u2.heap.size, 0, none⟩) 0 0)) := I2.out.lit2
        go_simp
        replace H := I3.out.h
        refine hK.out _ _ H (fun _ => ?_)
        clear hK KK I2
        generalize (u2.alloc (.cells #[] 9)) = u3 at *
        generalize u2.heap.size = y2 at *
        change wpAnyH _ _ _ _ _ _ _ { tmps := #[_, _, _, _, _, _, _, _, _, _, _, _, _, _, _, _], defers := _ } _
        refine wpAnyH_ready (rs := [4]) (by kernel_rfl) (by simp) ?_
        refine (AllReadyH.cons rfl (fun KK hK => ?_) AllReadyH.nil)
        have I4 : Hid (OwnI w (u3.alloc (.cells #[] 68)) (.slice a0 d.nb c0) (.slice a1 d.nc c1) (.slice a2 d.ns c2) (d.part d.nb 0 0) (.slice i0 d.nb k0) (.slice (some ⟨u3.heap.size, 0, none⟩) 0 0) (.slice (some ⟨y2, 0, none⟩) 0 0)) := I3.out.lit1
        go_simp
        replace H := I4.out.h
        refine hK.out _ _ H (fun _ => ?_)
        clear hK KK I3
        generalize (u3.alloc (.cells #[] 68)) = u4 at *
        generalize u3.heap.size = y3 at *
        change wpAnyH _ _ _ _ _ _ _ { tmps := #[_, _, _, _, _, _, _, _, _, _, _, _, _, _, _, _], defers := _ } _
        refine wpAnyH_ready (rs := [7]) (by kernel_rfl) (by simp) ?_
        refine (AllReadyH.cons rfl (fun KK hK => ?_) AllReadyH.nil)
        obtain ⟨i1, k1, u5, hr, hI⟩ := I4.out.app1 a1 c1 DV.out.2.1 h1 z1
        have I5 : Hid (OwnI w u5 (.slice a0 d.nb c0) (.slice a1 d.nc c1) (.slice a2 d.ns c2) (d.part d.nb d.nc 0) (.slice i0 d.nb k0) (.slice i1 d.nc k1) (.slice (some ⟨y2, 0, none⟩) 0 0)) := hI
        rw [if_pos (by rfl)]
        refine Lib.wp_append_run _ (.tmp 7) (.tmp 9) 25 25 rfl (.slice (some ⟨y3, 0, none⟩) 0 0) (.slice a1 d.nc c1) rfl rfl _ _ hr ?_
        replace H := I5.out.h
        refine hK.out _ _ H (fun _ => ?_)
        clear hK KK I4 hr hI
        change wpAnyH _ _ _ _ _ _ _ { tmps := #[_, _, _, _, _, _, _, _, _, _, _, _, _, _, _, _], defers := _ } _
        refine wpAnyH_ready (rs := [11]) (by kernel_rfl) (by simp) ?_
        refine (AllReadyH.cons rfl (fun KK hK => ?_) AllReadyH.nil)
        obtain ⟨i2, k2, u6, hr, hI⟩ := I5.out.app2 a2 c2 DV.out.2.2 h2 z2
        have I6 : Hid (OwnI w u6 (.slice a0 d.nb c0) (.slice a1 d.nc c1) (.slice a2 d.ns c2) (d.part d.nb d.nc d.ns) (.slice i0 d.nb k0) (.slice i1 d.nc k1) (.slice i2 d.ns k2)) := hI
        rw [if_pos (by rfl)]
        refine Lib.wp_append_run _ (.tmp 11) (.tmp 13) 24 24 rfl (.slice (some ⟨y2, 0, none⟩) 0 0) (.slice a2 d.ns c2) rfl rfl _ _ hr ?_
        replace H := I6.out.h
        refine hK.out _ _ H (fun _ => ?_)
        clear hK KK I5 hr hI
        change wpAnyH _ _ _ _ _ _ _ { tmps := #[_, _, _, _, _, _, _, _, _, _, _, _, _, _, _, _], defers := _ } _
        refine wpAnyH_take (i := 12) (v := .agg #[.slice i0 d.nb k0, .slice i1 d.nc k1, .slice i2 d.ns k2]) rfl (by kernel_rfl) (by kernel_rfl) (by kernel_rfl) (fun _ _ _ h => h) (Or.inl ⟨by rfl, ?_⟩) H ?_
        · intro w' hSw; go_simp
        change wpAnyH _ _ _ _ _ _ _ { tmps := #[_, _, _, _, _, _, _, _, _, _, _, _, _, _, _, _], defers := _ } _
        refine wpAnyH_ready (rs := [13]) (by kernel_rfl) (by simp) ?_
        refine AllReadyH.cons rfl (fun KK hK => ?_) AllReadyH.nil
        obtain ⟨R3, B3, H, X3, G3⟩ := I6.out
        have x0 := X3.c0
        have x1 := X3.c1
        have x2 := X3.c2
        have f0 := X3.fr 0
        have f1 := X3.fr 1
        have f2 := X3.fr 2
        have O5 : OnlyB (w.heap.size + 1) u6 (((u6.setCell ⟨w.heap.size + 1, 0, none⟩ (.slice i0 d.nb k0)).setCell ⟨w.heap.size + 1, 1, none⟩ (.slice i1 d.nc k1)).setCell ⟨w.heap.size + 1, 2, none⟩ (.slice i2 d.ns k2)) := (((OnlyB.refl _ u6).setCell 0 _).setCell 1 _).setCell 2 _
        have X5 : Box3 (((u6.setCell ⟨w.heap.size + 1, 0, none⟩ (.slice i0 d.nb k0)).setCell ⟨w.heap.size + 1, 1, none⟩ (.slice i1 d.nc k1)).setCell ⟨w.heap.size + 1, 2, none⟩ (.slice i2 d.ns k2)) (w.heap.size + 1) 27 (.slice i0 d.nb k0) (.slice i1 d.nc k1) (.slice i2 d.ns k2) := ((X3.set0 _).set1 _).set2 _
        have R5 : Hid (Rows3 (((u6.setCell ⟨w.heap.size + 1, 0, none⟩ (.slice i0 d.nb k0)).setCell ⟨w.heap.size + 1, 1, none⟩ (.slice i1 d.nc k1)).setCell ⟨w.heap.size + 1, 2, none⟩ (.slice i2 d.ns k2)) w.heap.size d (.slice i0 d.nb k0) (.slice i1 d.nc k1) (.slice i2 d.ns k2)) := ⟨own_mono (R3.t0.onlyB O5 (fun e => by have := (World.ownsRow.lt R3.t0 _ e).1; omega)) (by omega), own_mono (R3.t1.onlyB O5 (fun e => by have := (World.ownsRow.lt R3.t1 _ e).1; omega)) (by omega), own_mono (R3.t2.onlyB O5 (fun e => by have := (World.ownsRow.lt R3.t2 _ e).1; omega)) (by omega), R3.n01, R3.n02, R3.n12⟩
        have B5 : Hid (Below w.heap.size w (((u6.setCell ⟨w.heap.size + 1, 0, none⟩ (.slice i0 d.nb k0)).setCell ⟨w.heap.size + 1, 1, none⟩ (.slice i1 d.nc k1)).setCell ⟨w.heap.size + 1, 2, none⟩ (.slice i2 d.ns k2))) := B3.trans (O5.toBelow (by omega) B3.size)
        have H' : (((u6.setCell ⟨w.heap.size + 1, 0, none⟩ (.slice i0 d.nb k0)).setCell ⟨w.heap.size + 1, 1, none⟩ (.slice i1 d.nc k1)).setCell ⟨w.heap.size + 1, 2, none⟩ (.slice i2 d.ns k2)).cell? ⟨w.heap.size, 0, none⟩ = some (.slice a0 d.nb c0) ∧ (((u6.setCell ⟨w.heap.size + 1, 0, none⟩ (.slice i0 d.nb k0)).setCell ⟨w.heap.size + 1, 1, none⟩ (.slice i1 d.nc k1)).setCell ⟨w.heap.size + 1, 2, none⟩ (.slice i2 d.ns k2)).cell? ⟨w.heap.size, 1, none⟩ = some (.slice a1 d.nc c1) ∧ (((u6.setCell ⟨w.heap.size + 1, 0, none⟩ (.slice i0 d.nb k0)).setCell ⟨w.heap.size + 1, 1, none⟩ (.slice i1 d.nc k1)).setCell ⟨w.heap.size + 1, 2, none⟩ (.slice i2 d.ns k2)).cell? ⟨w.heap.size, 2, none⟩ = some (.slice a2 d.ns c2) := ⟨(cellOf (O5.block w.heap.size (strBlock H.1) (by omega))).trans H.1, (cellOf (O5.block w.heap.size (strBlock H.2.1) (by omega))).trans H.2.1, (cellOf (O5.block w.heap.size (strBlock H.2.2) (by omega))).trans H.2.2⟩
        replace H := H'
        clear H' O5 R3 B3 I6
        go_simp
        refine hK.out _ _ H (fun _ => ?_)
        clear hK KK x0 x1 x2 f0 f1 f2 X3 H
        generalize (((u6.setCell ⟨w.heap.size + 1, 0, none⟩ (.slice i0 d.nb k0)).setCell ⟨w.heap.size + 1, 1, none⟩ (.slice i1 d.nc k1)).setCell ⟨w.heap.size + 1, 2, none⟩ (.slice i2 d.ns k2)) = u9 at *
        refine wpAnyH_done (by kernel_rfl) ?_ _
        refine NoPanic.normal ?_
        have y0 := X5.c0
        have y1 := X5.c1
        have y2 := X5.c2
        clear X5
        go_wp2
        exact ret_cell (b := w.heap.size + 1) (v := .agg #[.slice i0 d.nb k0, .slice i1 d.nc k1, .slice i2 d.ns k2]) Tryd.results19 rfl (by go_simp) ⟨⟨_, _, _, rfl, R5.out⟩, B5.out⟩
    · skip
      have I2 : Hid (OwnI w (u1.alloc (.cells #[] 68)) (.slice a0 d.nb c0) (.slice a1 d.nc c1) (.slice a2 d.ns c2) (d.part 0 0 0) (.slice (some ⟨y0, 0, none⟩) 0 0) (.slice (some ⟨u1.heap.size, 0, none⟩) 0 0) (.slice none 0 0)) := I1.out.lit1
      go_simp
      replace H := I2.out.h
      refine hK.out _ _ H (fun _ => ?_)
      clear hK KK I1
      generalize (u1.alloc (.cells #[] 68)) = u2 at *
      generalize u1.heap.size = y1 at *
      change wpAnyH _ _ _ _ _ _ _ { tmps := #[_, _, _, _, _, _, _, _, _, _, _, _, _, _, _, _], defers := _ } _
      refine wpAnyH_ready (rs := [3, 8]) (by kernel_rfl) (by simp) ?_
      refine (AllReadyH.cons rfl (fun KK hK => ?_) (AllReadyH.cons rfl (fun KK hK => ?_) AllReadyH.nil))
      · skip
        obtain ⟨i0, k0, u3, hr, hI⟩ := I2.out.app0 a0 c0 DV.out.1 h0 z0
        have I3 : Hid (OwnI w u3 (.slice a0 d.nb c0) (.slice a1 d.nc c1) (.slice a2 d.ns c2) (d.part d.nb 0 0) (.slice i0 d.nb k0) (.slice (some ⟨y1, 0, none⟩) 0 0) (.slice none 0 0)) := hI
        rw [if_pos (by rfl)]
        refine Lib.wp_append_run _ (.tmp 3) (.tmp 5) 24 24 rfl (.slice (some ⟨y0, 0, none⟩) 0 0) (.slice a0 d.nb c0) rfl rfl _ _ hr ?_
        replace H := I3.out.h
        refine hK.out _ _ H (fun _ => ?_)
        clear hK KK I2 hr hI
        change wpAnyH _ _ _ _ _ _ _ { tmps := #[_, _, _, _, _, _, _, _, _, _, _, _, _, _, _, _], defers := _ } _
        refine wpAnyH_ready (rs := [7, 8]) (by kernel_rfl) (by simp) ?_
        refine (AllReadyH.cons rfl (fun KK hK => ?_) (AllReadyH.cons rfl (fun KK hK => ?_) AllReadyH.nil))
        · skip
          obtain ⟨i1, k1, u4, hr, hI⟩ := I3.out.app1 a1 c1 DV.out.2.1 h1 z1
          have I4 : Hid (OwnI w u4 (.slice a0 d.nb c0) (.slice a1 d.nc c1) (.slice a2 d.ns c2) (d.part d.nb d.nc 0) (.slice i0 d.nb k0) (.slice i1 d.nc k1) (.slice none 0 0)) := hI
          rw [if_pos (by rfl)]
          refine Lib.wp_append_run _ (.tmp 7) (.tmp 9) 25 25 rfl (.slice (some ⟨y1, 0, none⟩) 0 0) (.slice a1 d.nc c1) rfl rfl _ _ hr ?_
          replace H := I4.out.h
          refine hK.out _ _ H (fun _ => ?_)
          clear hK KK I3 hr hI
          change wpAnyH _ _ _ _ _ _ _ { tmps := #[_, _, _, _, _, _, _, _, _, _, _, _, _, _, _, _], defers := _ } _
          refine wpAnyH_ready (rs := [8]) (by kernel_rfl) (by simp) ?_
          refine (AllReadyH.cons rfl (fun KK hK => ?_) AllReadyH.nil)
          have I5 : Hid (OwnI w (u4.alloc (.cells #[] 9)) (.slice a0 d.nb c0) (.slice a1 d.nc c1) (.slice a2 d.ns c2) (d.part d.nb d.nc 0) (.slice i0 d.nb k0) (.slice i1 d.nc k1) (.slice (some ⟨u4.heap.size, 0, none⟩) 0 0)) := I4.out.lit2
          go_simp
          replace H := I5.out.h
          refine hK.out _ _ H (fun _ => ?_)
          clear hK KK I4
          generalize (u4.alloc (.cells #[] 9)) = u5 at *
          generalize u4.heap.size = y4 at *
          change wpAnyH _ _ _ _ _ _ _ { tmps := #[_, _, _, _, _, _, _, _, _, _, _, _, _, _, _, _], defers := _ } _
          refine wpAnyH_ready (rs := [11]) (by kernel_rfl) (by simp) ?_
          refine (AllReadyH.cons rfl (fun KK hK => ?_) AllReadyH.nil)
          obtain ⟨i2, k2, u6, hr, hI⟩ := I5.out.app2 a2 c2 DV.out.2.2 h2 z2
          have I6 : Hid (OwnI w u6 (.slice a0 d.nb c0) (.slice a1 d.nc c1) (.slice a2 d.ns c2) (d.part d.nb d.nc d.ns) (.slice i0 d.nb k0) (.slice i1 d.nc k1) (.slice i2 d.ns k2)) := hI
          rw [if_pos (by rfl)]
          refine Lib.wp_append_run _ (.tmp 11) (.tmp 13) 24 24 rfl (.slice (some ⟨y4, 0, none⟩) 0 0) (.slice a2 d.ns c2) rfl rfl _ _ hr ?_
          replace H := I6.out.h
          refine hK.out _ _ H (fun _ => ?_)
          clear hK KK I5 hr hI
          change wpAnyH _ _ _ _ _ _ _ { tmps := #[_, _, _, _, _, _, _, _, _, _, _, _, _, _, _, _], defers := _ } _
          refine wpAnyH_take (i := 12) (v := .agg #[.slice i0 d.nb k0, .slice i1 d.nc k1, .slice i2 d.ns k2]) rfl (by kernel_rfl) (by kernel_rfl) (by kernel_rfl) (fun _ _ _ h => h) (Or.inl ⟨by rfl, ?_⟩) H ?_
          · intro w' hSw; go_simp
          change wpAnyH _ _ _ _ _ _ _ { tmps := #[_, _, _, _, _, _, _, _, _, _, _, _, _, _, _, _], defers := _ } _
          refine wpAnyH_ready (rs := [13]) (by kernel_rfl) (by simp) ?_
          refine AllReadyH.cons rfl (fun KK hK => ?_) AllReadyH.nil
          obtain ⟨R3, B3, H, X3, G3⟩ := I6.out
          have x0 := X3.c0
          have x1 := X3.c1
          have x2 := X3.c2
          have f0 := X3.fr 0
          have f1 := X3.fr 1
          have f2 := X3.fr 2
          have O5 : OnlyB (w.heap.size + 1) u6 (((u6.setCell ⟨w.heap.size + 1, 0, none⟩ (.slice i0 d.nb k0)).setCell ⟨w.heap.size + 1, 1, none⟩ (.slice i1 d.nc k1)).setCell ⟨w.heap.size + 1, 2, none⟩ (.slice i2 d.ns k2)) := (((OnlyB.refl _ u6).setCell 0 _).setCell 1 _).setCell 2 _
          have X5 : Box3 (((u6.setCell ⟨w.heap.size + 1, 0, none⟩ (.slice i0 d.nb k0)).setCell ⟨w.heap.size + 1, 1, none⟩ (.slice i1 d.nc k1)).setCell ⟨w.heap.size + 1, 2, none⟩ (.slice i2 d.ns k2)) (w.heap.size + 1) 27 (.slice i0 d.nb k0) (.slice i1 d.nc k1) (.slice i2 d.ns k2) := ((X3.set0 _).set1 _).set2 _
          have R5 : Hid (Rows3 (((u6.setCell ⟨w.heap.size + 1, 0, none⟩ (.slice i0 d.nb k0)).setCell ⟨w.heap.size + 1, 1, none⟩ (.slice i1 d.nc k1)).setCell ⟨w.heap.size + 1, 2, none⟩ (.slice i2 d.ns k2)) w.heap.size d (.slice i0 d.nb k0) (.slice i1 d.nc k1) (.slice i2 d.ns k2)) := ⟨own_mono (R3.t0.onlyB O5 (fun e => by have := (World.ownsRow.lt R3.t0 _ e).1; omega)) (by omega), own_mono (R3.t1.onlyB O5 (fun e => by have := (World.ownsRow.lt R3.t1 _ e).1; omega)) (by omega), own_mono (R3.t2.onlyB O5 (fun e => by have := (World.ownsRow.lt R3.t2 _ e).1; omega)) (by omega), R3.n01, R3.n02, R3.n12⟩
          have B5 : Hid (Below w.heap.size w (((u6.setCell ⟨w.heap.size + 1, 0, none⟩ (.slice i0 d.nb k0)).setCell ⟨w.heap.size + 1, 1, none⟩ (.slice i1 d.nc k1)).setCell ⟨w.heap.size + 1, 2, none⟩ (.slice i2 d.ns k2))) := B3.trans (O5.toBelow (by omega) B3.size)
          have H' : (((u6.setCell ⟨w.heap.size + 1, 0, none⟩ (.slice i0 d.nb k0)).setCell ⟨w.heap.size + 1, 1, none⟩ (.slice i1 d.nc k1)).setCell ⟨w.heap.size + 1, 2, none⟩ (.slice i2 d.ns k2)).cell? ⟨w.heap.size, 0, none⟩ = some (.slice a0 d.nb c0) ∧ (((u6.setCell ⟨w.heap.size + 1, 0, none⟩ (.slice i0 d.nb k0)).setCell ⟨w.heap.size + 1, 1, none⟩ (.slice i1 d.nc k1)).setCell ⟨w.heap.size + 1, 2, none⟩ (.slice i2 d.ns k2)).cell? ⟨w.heap.size, 1, none⟩ = some (.slice a1 d.nc c1) ∧ (((u6.setCell ⟨w.heap.size + 1, 0, none⟩ (.slice i0 d.nb k0)).setCell ⟨w.heap.size + 1, 1, none⟩ (.slice i1 d.nc k1)).setCell ⟨w.heap.size + 1, 2, none⟩ (.slice i2 d.ns k2)).cell? ⟨w.heap.size, 2, none⟩ = some (.slice a2 d.ns c2) := ⟨(cellOf (O5.block w.heap.size (strBlock H.1) (by omega))).trans H.1, (cellOf (O5.block w.heap.size (strBlock H.2.1) (by omega))).trans H.2.1, (cellOf (O5.block w.heap.size (strBlock H.2.2) (by omega))).trans H.2.2⟩
          replace H := H'
          clear H' O5 R3 B3 I6
          go_simp
          refine hK.out _ _ H (fun _ => ?_)
          clear hK KK x0 x1 x2 f0 f1 f2 X3 H
          generalize (((u6.setCell ⟨w.heap.size + 1, 0, none⟩ (.slice i0 d.nb k0)).setCell ⟨w.heap.size + 1, 1, none⟩ (.slice i1 d.nc k1)).setCell ⟨w.heap.size + 1, 2, none⟩ (.slice i2 d.ns k2)) = u9 at *
          refine wpAnyH_done (by kernel_rfl) ?_ _
          refine NoPanic.normal ?_
          have y0 := X5.c0
          have y1 := X5.c1
          have y2 := X5.c2
          clear X5
          go_wp2
          exact ret_cell (b := w.heap.size + 1) (v := .agg #[.slice i0 d.nb k0, .slice i1 d.nc k1, .slice i2 d.ns k2]) Tryd.results19 rfl (by go_simp) ⟨⟨_, _, _, rfl, R5.out⟩, B5.out⟩
        · skip
          have I4 : Hid (OwnI w (u3.alloc (.cells #[] 9)) (.slice a0 d.nb c0) (.slice a1 d.nc c1) (.slice a2 d.ns c2) (d.part d.nb 0 0) (.slice i0 d.nb k0) (.slice (some ⟨y1, 0, none⟩) 0 0) (.slice (some ⟨u3.heap.size, 0, none⟩) 0 0)) := I3.out.lit2
          go_simp
          replace H := I4.out.h
          refine hK.out _ _ H (fun _ => ?_)
          clear hK KK I3
          generalize (u3.alloc (.cells #[] 9)) = u4 at *
          generalize u3.heap.size = y3 at *
          change wpAnyH _ _ _ _ _ _ _ { tmps := #[_, _, _, _, _, _, _, _, _, _, _, _, _, _, _, _], defers := _ } _
          refine wpAnyH_ready (rs := [7]) (by kernel_rfl) (by simp) ?_
          refine (AllReadyH.cons rfl (fun KK hK => ?_) AllReadyH.nil)
          obtain ⟨i1, k1, u5, hr, hI⟩ := I4.out.app1 a1 c1 DV.out.2.1 h1 z1
          have I5 : Hid (OwnI w u5 (.slice a0 d.nb c0) (.slice a1 d.nc c1) (.slice a2 d.ns c2) (d.part d.nb d.nc 0) (.slice i0 d.nb k0) (.slice i1 d.nc k1) (.slice (some ⟨y3, 0, none⟩) 0 0)) := hI
          rw [if_pos (by rfl)]
          refine Lib.wp_append_run _ (.tmp 7) (.tmp 9) 25 25 rfl (.slice (some ⟨y1, 0, none⟩) 0 0) (.slice a1 d.nc c1) rfl rfl _ _ hr ?_
          replace H := I5.out.h
          refine hK.out _ _ H (fun _ => ?_)
          clear hK KK I4 hr hI
          change wpAnyH _ _ _ _ _ _ _ { tmps := #[_, _, _, _, _, _, _, _, _, _, _, _, _, _, _, _], defers := _ } _
          refine wpAnyH_ready (rs := [11]) (by kernel_rfl) (by simp) ?_
          refine (AllReadyH.cons rfl (fun KK hK => ?_) AllReadyH.nil)
          obtain ⟨i2, k2, u6, hr, hI⟩ := I5.out.app2 a2 c2 DV.out.2.2 h2 z2
          have I6 : Hid (OwnI w u6 (.slice a0 d.nb c0) (.slice a1 d.nc c1) (.slice a2 d.ns c2) (d.part d.nb d.nc d.ns) (.slice i0 d.nb k0) (.slice i1 d.nc k1) (.slice i2 d.ns k2)) := hI
          rw [if_pos (by rfl)]
          refine Lib.wp_append_run _ (.tmp 11) (.tmp 13) 24 24 rfl (.slice (some ⟨y3, 0, none⟩) 0 0) (.slice a2 d.ns c2) rfl rfl _ _ hr ?_
          replace H := I6.out.h
          refine hK.out _ _ H (fun _ => ?_)
          clear hK KK I5 hr hI
          change wpAnyH _ _ _ _ _ _ _ { tmps := #[_, _, _, _, _, _, _, _, _, _, _, _, _, _, _, _], defers := _ } _
          refine wpAnyH_take (i := 12) (v := .agg #[.slice i0 d.nb k0, .slice i1 d.nc k1, .slice i2 d.ns k2]) rfl (by kernel_rfl) (by kernel_rfl) (by kernel_rfl) (fun _ _ _ h => h) (Or.inl ⟨by rfl, ?_⟩) H ?_
          · intro w' hSw; go_simp
          change wpAnyH _ _ _ _ _ _ _ { tmps := #[_, _, _, _, _, _, _, _, _, _, _, _, _, _, _, _], defers := _ } _
          refine wpAnyH_ready (rs := [13]) (by kernel_rfl) (by simp) ?_
          refine AllReadyH.cons rfl (fun KK hK => ?_) AllReadyH.nil
          obtain ⟨R3, B3, H, X3, G3⟩ := I6.out
          have x0 := X3.c0
          have x1 := X3.c1
          have x2 := X3.c2
          have f0 := X3.fr 0
          have f1 := X3.fr 1
          have f2 := X3.fr 2
          have O5 : OnlyB (w.heap.size + 1) u6 (((u6.setCell ⟨w.heap.size + 1, 0, none⟩ (.slice i0 d.nb k0)).setCell ⟨w.heap.size + 1, 1, none⟩ (.slice i1 d.nc k1)).setCell ⟨w.heap.size + 1, 2, none⟩ (.slice i2 d.ns k2)) := (((OnlyB.refl _ u6).setCell 0 _).setCell 1 _).setCell 2 _
          have X5 : Box3 (((u6.setCell ⟨w.heap.size + 1, 0, none⟩ (.slice i0 d.nb k0)).setCell ⟨w.heap.size + 1, 1, none⟩ (.slice i1 d.nc k1)).setCell ⟨w.heap.size + 1, 2, none⟩ (.slice i2 d.ns k2)) (w.heap.size + 1) 27 (.slice i0 d.nb k0) (.slice i1 d.nc k1) (.slice i2 d.ns k2) := ((X3.set0 _).set1 _).set2 _
          have R5 : Hid (Rows3 (((u6.setCell ⟨w.heap.size + 1, 0, none⟩ (.slice i0 d.nb k0)).setCell ⟨w.heap.size + 1, 1, none⟩ (.slice i1 d.nc k1)).setCell ⟨w.heap.size + 1, 2, none⟩ (.slice i2 d.ns k2)) w.heap.size d (.slice i0 d.nb k0) (.slice i1 d.nc k1) (.slice i2 d.ns k2)) := ⟨own_mono (R3.t0.onlyB O5 (fun e => by have := (World.ownsRow.lt R3.t0 _ e).1; omega)) (by omega), own_mono (R3.t1.onlyB O5 (fun e => by have := (World.ownsRow.lt R3.t1 _ e).1; omega)) (by omega), own_mono (R3.t2.onlyB O5 (fun e => by have := (World.ownsRow.lt R3.t2 _ e).1; omega)) (by omega), R3.n01, R3.n02, R3.n12⟩
          have B5 : Hid (Below w.heap.size w (((u6.setCell ⟨w.heap.size + 1, 0, none⟩ (.slice i0 d.nb k0)).setCell ⟨w.heap.size + 1, 1, none⟩ (.slice i1 d.nc k1)).setCell ⟨w.heap.size + 1, 2, none⟩ (.slice i2 d.ns k2))) := B3.trans (O5.toBelow (by omega) B3.size)
          have H' : (((u6.setCell ⟨w.heap.size + 1, 0, none⟩ (.slice i0 d.nb k0)).setCell ⟨w.heap.size + 1, 1, none⟩ (.slice i1 d.nc k1)).setCell ⟨w.heap.size + 1, 2, none⟩ (.slice i2 d.ns k2)).cell? ⟨w.heap.size, 0, none⟩ = some (.slice a0 d.nb c0) ∧ (((u6.setCell ⟨w.heap.size + 1, 0, none⟩ (.slice i0 d.nb k0)).setCell ⟨w.heap.size + 1, 1, none⟩ (.slice i1 d.nc k1)).setCell ⟨w.heap.size + 1, 2, none⟩ (.slice i2 d.ns k2)).cell? ⟨w.heap.size, 1, none⟩ = some (.slice a1 d.nc c1) ∧ (((u6.setCell ⟨w.heap.size + 1, 0, none⟩ (.slice i0 d.nb k0)).setCell ⟨w.heap.size + 1, 1, none⟩ (.slice i1 d.nc k1)).setCell ⟨w.heap.size + 1, 2, none⟩ (.slice i2 d.ns k2)).cell? ⟨w.heap.size, 2, none⟩ = some (.slice a2 d.ns c2) := ⟨(cellOf (O5.block w.heap.size (strBlock H.1) (by omega))).trans H.1, (cellOf (O5.block w.heap.size (strBlock H.2.1) (by omega))).trans H.2.1, (cellOf (O5.block w.heap.size (strBlock H.2.2) (by omega))).trans H.2.2⟩
          replace H := H'
          clear H' O5 R3 B3 I6
          go_simp
          refine hK.out _ _ H (fun _ => ?_)
          clear hK KK x0 x1 x2 f0 f1 f2 X3 H
          generalize (((u6.setCell ⟨w.heap.size + 1, 0, none⟩ (.slice i0 d.nb k0)).setCell ⟨w.heap.size + 1, 1, none⟩ (.slice i1 d.nc k1)).setCell ⟨w.heap.size + 1, 2, none⟩ (.slice i2 d.ns k2)) = u9 at *
          refine wpAnyH_done (by kernel_rfl) ?_ _
          refine NoPanic.normal ?_
          have y0 := X5.c0
          have y1 := X5.c1
          have y2 := X5.c2
          clear X5
          go_wp2
          exact ret_cell (b := w.heap.size + 1) (v := .agg #[.slice i0 d.nb k0, .slice i1 d.nc k1, .slice i2 d.ns k2]) Tryd.results19 rfl (by go_simp) ⟨⟨_, _, _, rfl, R5.out⟩, B5.out⟩
      · skip
        have I3 : Hid (OwnI w (u2.alloc (.cells #[] 9)) (.slice a0 d.nb c0) (.slice a1 d.nc c1) (.slice a2 d.ns c2) (d.part 0 0 0) (.slice (some ⟨y0, 0, none⟩) 0 0) (.slice (some ⟨y1, 0, none⟩) 0 0) (.slice (some ⟨u2.heap.size, 0, none⟩) 0 0)) := I2.out.lit2
        go_simp
        replace H := I3.out.h
        refine hK.out _ _ H (fun _ => ?_)
        clear hK KK I2
        generalize (u2.alloc (.cells #[] 9)) = u3 at *
        generalize u2.heap.size = y2 at *
        change wpAnyH _ _ _ _ _ _ _ { tmps := #[_, _, _, _, _, _, _, _, _, _, _, _, _, _, _, _], defers := _ } _
        refine wpAnyH_ready (rs := [3]) (by kernel_rfl) (by simp) ?_
        refine (AllReadyH.cons rfl (fun KK hK => ?_) AllReadyH.nil)
        obtain ⟨i0, k0, u4, hr, hI⟩ := I3.out.app0 a0 c0 DV.out.1 h0 z0
        have I4 : Hid (OwnI w u4 (.slice a0 d.nb c0) (.slice a1 d.nc c1) (.slice a2 d.ns c2) (d.part d.nb 0 0) (.slice i0 d.nb k0) (.slice (some ⟨y1, 0, none⟩) 0 0) (.slice (some ⟨y2, 0, none⟩) 0 0)) := hI
        rw [if_pos (by rfl)]
        refine Lib.wp_append_run _ (.tmp 3) (.tmp 5) 24 24 rfl (.slice (some ⟨y0, 0, none⟩) 0 0) (.slice a0 d.nb c0) rfl rfl _ _ hr ?_
        replace H := I4.out.h
        refine hK.out _ _ H (fun _ => ?_)
        clear hK KK I3 hr hI
        change wpAnyH _ _ _ _ _ _ _ { tmps := #[_, _, _, _, _, _, _, _, _, _, _, _, _, _, _, _], defers := _ } _
        refine wpAnyH_ready (rs := [7]) (by kernel_rfl) (by simp) ?_
        refine (AllReadyH.cons rfl (fun KK hK => ?_) AllReadyH.nil)
        obtain ⟨i1, k1, u5, hr, hI⟩ := I4.out.app1 a1 c1 DV.out.2.1 h1 z1
        have I5 : Hid (OwnI w u5 (.slice a0 d.nb c0) (.slice a1 d.nc c1) (.slice a2 d.ns c2) (d.part d.nb d.nc 0) (.slice i0 d.nb k0) (.slice i1 d.nc k1) (.slice (some ⟨y2, 0, none⟩) 0 0)) := hI
        rw [if_pos (by rfl)]
        refine Lib.wp_append_run _ (.tmp 7) (.tmp 9) 25 25 rfl (.slice (some ⟨y1, 0, none⟩) 0 0) (.slice a1 d.nc c1) rfl rfl _ _ hr ?_
        replace H := I5.out.h
        refine hK.out _ _ H (fun _ => ?_)
        clear hK KK I4 hr hI
        change wpAnyH _ _ _ _ _ _ _ { tmps := #[_, _, _, _, _, _, _, _, _, _, _, _, _, _, _, _], defers := _ } _
        refine wpAnyH_ready (rs := [11]) (by kernel_rfl) (by simp) ?_
        refine (AllReadyH.cons rfl (fun KK hK => ?_) AllReadyH.nil)
        obtain ⟨i2, k2, u6, hr, hI⟩ := I5.out.app2 a2 c2 DV.out.2.2 h2 z2
        have I6 : Hid (OwnI w u6 (.slice a0 d.nb c0) (.slice a1 d.nc c1) (.slice a2 d.ns c2) (d.part d.nb d.nc d.ns) (.slice i0 d.nb k0) (.slice i1 d.nc k1) (.slice i2 d.ns k2)) := hI
        rw [if_pos (by rfl)]
        refine Lib.wp_append_run _ (.tmp 11) (.tmp 13) 24 24 rfl (.slice (some ⟨y2, 0, none⟩) 0 0) (.slice a2 d.ns c2) rfl rfl _ _ hr ?_
        replace H := I6.out.h
        refine hK.out _ _ H (fun _ => ?_)
        clear hK KK I5 hr hI
        change wpAnyH _ _ _ _ _ _ _ { tmps := #[_, _, _, _, _, _, _, _, _, _, _, _, _, _, _, _], defers := _ } _
        refine wpAnyH_take (i := 12) (v := .agg #[.slice i0 d.nb k0, .slice i1 d.nc k1, .slice i2 d.ns k2]) rfl (by kernel_rfl) (by kernel_rfl) (by kernel_rfl) (fun _ _ _ h => h) (Or.inl ⟨by rfl, ?_⟩) H ?_
        · intro w' hSw; go_simp
        change wpAnyH _ _ _ _ _ _ _ { tmps := #[_, _, _, _, _, _, _, _, _, _, _, _, _, _, _, _], defers := _ } _
        refine wpAnyH_ready (rs := [13]) (by kernel_rfl) (by simp) ?_
        refine AllReadyH.cons rfl (fun KK hK => ?_) AllReadyH.nil
        obtain ⟨R3, B3, H, X3, G3⟩ := I6.out
        have x0 := X3.c0
        have x1 := X3.c1
        have x2 := X3.c2
        have f0 := X3.fr 0
        have f1 := X3.fr 1
        have f2 := X3.fr 2
        have O5 : OnlyB (w.heap.size + 1) u6 (((u6.setCell ⟨w.heap.size + 1, 0, none⟩ (.slice i0 d.nb k0)).setCell ⟨w.heap.size + 1, 1, none⟩ (.slice i1 d.nc k1)).setCell ⟨w.heap.size + 1, 2, none⟩ (.slice i2 d.ns k2)) := (((OnlyB.refl _ u6).setCell 0 _).setCell 1 _).setCell 2 _
        have X5 : Box3 (((u6.setCell ⟨w.heap.size + 1, 0, none⟩ (.slice i0 d.nb k0)).setCell ⟨w.heap.size + 1, 1, none⟩ (.slice i1 d.nc k1)).setCell ⟨w.heap.size + 1, 2, none⟩ (.slice i2 d.ns k2)) (w.heap.size + 1) 27 (.slice i0 d.nb k0) (.slice i1 d.nc k1) (.slice i2 d.ns k2) := ((X3.set0 _).set1 _).set2 _
        have R5 : Hid (Rows3 (((u6.setCell ⟨w.heap.size + 1, 0, none⟩ (.slice i0 d.nb k0)).setCell ⟨w.heap.size + 1, 1, none⟩ (.slice i1 d.nc k1)).setCell ⟨w.heap.size + 1, 2, none⟩ (.slice i2 d.ns k2)) w.heap.size d (.slice i0 d.nb k0) (.slice i1 d.nc k1) (.slice i2 d.ns k2)) := ⟨own_mono (R3.t0.onlyB O5 (fun e => by have := (World.ownsRow.lt R3.t0 _ e).1; omega)) (by omega), own_mono (R3.t1.onlyB O5 (fun e => by have := (World.ownsRow.lt R3.t1 _ e).1; omega)) (by omega), own_mono (R3.t2.onlyB O5 (fun e => by have := (World.ownsRow.lt R3.t2 _ e).1; omega)) (by omega), R3.n01, R3.n02, R3.n12⟩
        have B5 : Hid (Below w.heap.size w (((u6.setCell ⟨w.heap.size + 1, 0, none⟩ (.slice i0 d.nb k0)).setCell ⟨w.heap.size + 1, 1, none⟩ (.slice i1 d.nc k1)).setCell ⟨w.heap.size + 1, 2, none⟩ (.slice i2 d.ns k2))) := B3.trans (O5.toBelow (by omega) B3.size)
        have H' : (((u6.setCell ⟨w.heap.size + 1, 0, none⟩ (.slice i0 d.nb k0)).setCell ⟨w.heap.size + 1, 1, none⟩ (.slice i1 d.nc k1)).setCell ⟨w.heap.size + 1, 2, none⟩ (.slice i2 d.ns k2)).cell? ⟨w.heap.size, 0, none⟩ = some (.slice a0 d.nb c0) ∧ (((u6.setCell ⟨w.heap.size + 1, 0, none⟩ (.slice i0 d.nb k0)).setCell ⟨w.heap.size + 1, 1, none⟩ (.slice i1 d.nc k1)).setCell ⟨w.heap.size + 1, 2, none⟩ (.slice i2 d.ns k2)).cell? ⟨w.heap.size, 1, none⟩ = some (.slice a1 d.nc c1) ∧ (((u6.setCell ⟨w.heap.size + 1, 0, none⟩ (.slice i0 d.nb k0)).setCell ⟨w.heap.size + 1, 1, none⟩ (.slice i1 d.nc k1)).setCell ⟨w.heap.size + 1, 2, none⟩ (.slice i2 d.ns k2)).cell? ⟨w.heap.size, 2, none⟩ = some (.slice a2 d.ns c2) := ⟨(cellOf (O5.block w.heap.size (strBlock H.1) (by omega))).trans H.1, (cellOf (O5.block w.heap.size (strBlock H.2.1) (by omega))).trans H.2.1, (cellOf (O5.block w.heap.size (strBlock H.2.2) (by omega))).trans H.2.2⟩
        replace H := H'
        clear H' O5 R3 B3 I6
        go_simp
        refine hK.out _ _ H (fun _ => ?_)
        clear hK KK x0 x1 x2 f0 f1 f2 X3 H
        generalize (((u6.setCell ⟨w.heap.size + 1, 0, none⟩ (.slice i0 d.nb k0)).setCell ⟨w.heap.size + 1, 1, none⟩ (.slice i1 d.nc k1)).setCell ⟨w.heap.size + 1, 2, none⟩ (.slice i2 d.ns k2)) = u9 at *
        refine wpAnyH_done (by kernel_rfl) ?_ _
        refine NoPanic.normal ?_
        have y0 := X5.c0
        have y1 := X5.c1
        have y2 := X5.c2
        clear X5
        go_wp2
        exact ret_cell (b := w.heap.size + 1) (v := .agg #[.slice i0 d.nb k0, .slice i1 d.nc k1, .slice i2 d.ns k2]) Tryd.results19 rfl (by go_simp) ⟨⟨_, _, _, rfl, R5.out⟩, B5.out⟩
    · skip
      have I2 : Hid (OwnI w (u1.alloc (.cells #[] 9)) (.slice a0 d.nb c0) (.slice a1 d.nc c1) (.slice a2 d.ns c2) (d.part 0 0 0) (.slice (some ⟨y0, 0, none⟩) 0 0) (.slice none 0 0) (.slice (some ⟨u1.heap.size, 0, none⟩) 0 0)) := I1.out.lit2
      go_simp
      replace H := I2.out.h
      refine hK.out _ _ H (fun _ => ?_)
      clear hK KK I1
      generalize (u1.alloc (.cells #[] 9)) = u2 at *
      generalize u1.heap.size = y1 at *
      change wpAnyH _ _ _ _ _ _ _ { tmps := #[_, _, _, _, _, _, _, _, _, _, _, _, _, _, _, _], defers := _ } _
      refine wpAnyH_ready (rs := [3, 4]) (by kernel_rfl) (by simp) ?_
      refine (AllReadyH.cons rfl (fun KK hK => ?_) (AllReadyH.cons rfl (fun KK hK => ?_) AllReadyH.nil))
      · skip
        obtain ⟨i0, k0, u3, hr, hI⟩ := I2.out.app0 a0 c0 DV.out.1 h0 z0
        have I3 : Hid (OwnI w u3 (.slice a0 d.nb c0) (.slice a1 d.nc c1) (.slice a2 d.ns c2) (d.part d.nb 0 0) (.slice i0 d.nb k0) (.slice none 0 0) (.slice (some ⟨y1, 0, none⟩) 0 0)) := hI
        rw [if_pos (by rfl)]
        refine Lib.wp_append_run _ (.tmp 3) (.tmp 5) 24 24 rfl (.slice (some ⟨y0, 0, none⟩) 0 0) (.slice a0 d.nb c0) rfl rfl _ _ hr ?_
        replace H := I3.out.h
        refine hK.out _ _ H (fun _ => ?_)
        clear hK KK I2 hr hI
        change wpAnyH _ _ _ _ _ _ _ { tmps := #[_, _, _, _, _, _, _, _, _, _, _, _, _, _, _, _], defers := _ } _
        refine wpAnyH_ready (rs := [4]) (by kernel_rfl) (by simp) ?_
        refine (AllReadyH.cons rfl (fun KK hK => ?_) AllReadyH.nil)
        have I4 : Hid (OwnI w (u3.alloc (.cells #[] 68)) (.slice a0 d.nb c0) (.slice a1 d.nc c1) (.slice a2 d.ns c2) (d.part d.nb 0 0) (.slice i0 d.nb k0) (.slice (some ⟨u3.heap.size, 0, none⟩) 0 0) (.slice (some ⟨y1, 0, none⟩) 0 0)) := I3.out.lit1
        go_simp
        replace H := I4.out.h
        refine hK.out _ _ H (fun _ => ?_)
        clear hK KK I3
        generalize (u3.alloc (.cells #[] 68)) = u4 at *
        generalize u3.heap.size = y3 at *
        change wpAnyH _ _ _ _ _ _ _ { tmps := #[_, _, _, _, _, _, _, _, _, _, _, _, _, _, _, _], defers := _ } _
        refine wpAnyH_ready (rs := [7]) (by kernel_rfl) (by simp) ?_
        refine (AllReadyH.cons rfl (fun KK hK => ?_) AllReadyH.nil)
        obtain ⟨i1, k1, u5, hr, hI⟩ := I4.out.app1 a1 c1 DV.out.2.1 h1 z1
        have I5 : Hid (OwnI w u5 (.slice a0 d.nb c0) (.slice a1 d.nc c1) (.slice a2 d.ns c2) (d.part d.nb d.nc 0) (.slice i0 d.nb k0) (.slice i1 d.nc k1) (.slice (some ⟨y1, 0, none⟩) 0 0)) := hI
        rw [if_pos (by rfl)]
        refine Lib.wp_append_run _ (.tmp 7) (.tmp 9) 25 25 rfl (.slice (some ⟨y3, 0, none⟩) 0 0) (.slice a1 d.nc c1) rfl rfl _ _ hr ?_
        replace H := I5.out.h
        refine hK.out _ _ H (fun _ => ?_)
        clear hK KK I4 hr hI
        change wpAnyH _ _ _ _ _ _ _ { tmps := #[_, _, _, _, _, _, _, _, _, _, _, _, _, _, _, _], defers := _ } _
        refine wpAnyH_ready (rs := [11]) (by kernel_rfl) (by simp) ?_
        refine (AllReadyH.cons rfl (fun KK hK => ?_) AllReadyH.nil)
        obtain ⟨i2, k2, u6, hr, hI⟩ := I5.out.app2 a2 c2 DV.out.2.2 h2 z2
        have I6 : Hid (OwnI w u6 (.slice a0 d.nb c0) (.slice a1 d.nc c1) (.slice a2 d.ns c2) (d.part d.nb d.nc d.ns) (.slice i0 d.nb k0) (.slice i1 d.nc k1) (.slice i2 d.ns k2)) := hI
        rw [if_pos (by rfl)]
        refine Lib.wp_append_run _ (.tmp 11) (.tmp 13) 24 24 rfl (.slice (some ⟨y1, 0, none⟩) 0 0) (.slice a2 d.ns c2) rfl rfl _ _ hr ?_
        replace H := I6.out.h
        refine hK.out _ _ H (fun _ => ?_)
        clear hK KK I5 hr hI
        change wpAnyH _ _ _ _ _ _ _ { tmps := #[_, _, _, _, _, _, _, _, _, _, _, _, _, _, _, _], defers := _ } _
        refine wpAnyH_take (i := 12) (v := .agg #[.slice i0 d.nb k0, .slice i1 d.nc k1, .slice i2 d.ns k2]) rfl (by kernel_rfl) (by kernel_rfl) (by kernel_rfl) (fun _ _ _ h => h) (Or.inl ⟨by rfl, ?_⟩) H ?_
        · intro w' hSw; go_simp
        change wpAnyH _ _ _ _ _ _ _ { tmps := #[_, _, _, _, _, _, _, _, _, _, _, _, _, _, _, _], defers := _ } _
        refine wpAnyH_ready (rs := [13]) (by kernel_rfl) (by simp) ?_
        refine AllReadyH.cons rfl (fun KK hK => ?_) AllReadyH.nil
        obtain ⟨R3, B3, H, X3, G3⟩ := I6.out
        have x0 := X3.c0
        have x1 := X3.c1
        have x2 := X3.c2
        have f0 := X3.fr 0
        have f1 := X3.fr 1
        have f2 := X3.fr 2
        have O5 : OnlyB (w.heap.size + 1) u6 (((u6.setCell ⟨w.heap.size + 1, 0, none⟩ (.slice i0 d.nb k0)).setCell ⟨w.heap.size + 1, 1, none⟩ (.slice i1 d.nc k1)).setCell ⟨w.heap.size + 1, 2, none⟩ (.slice i2 d.ns k2)) := (((OnlyB.refl _ u6).setCell 0 _).setCell 1 _).setCell 2 _
        have X5 : Box3 (((u6.setCell ⟨w.heap.size + 1, 0, none⟩ (.slice i0 d.nb k0)).setCell ⟨w.heap.size + 1, 1, none⟩ (.slice i1 d.nc k1)).setCell ⟨w.heap.size + 1, 2, none⟩ (.slice i2 d.ns k2)) (w.heap.size + 1) 27 (.slice i0 d.nb k0) (.slice i1 d.nc k1) (.slice i2 d.ns k2) := ((X3.set0 _).set1 _).set2 _
        have R5 : Hid (Rows3 (((u6.setCell ⟨w.heap.size + 1, 0, none⟩ (.slice i0 d.nb k0)).setCell ⟨w.heap.size + 1, 1, none⟩ (.slice i1 d.nc k1)).setCell ⟨w.heap.size + 1, 2, none⟩ (.slice i2 d.ns k2)) w.heap.size d (.slice i0 d.nb k0) (.slice i1 d.nc k1) (.slice i2 d.ns k2)) := ⟨own_mono (R3.t0.onlyB O5 (fun e => by have := (World.ownsRow.lt R3.t0 _ e).1; omega)) (by omega), own_mono (R3.t1.onlyB O5 (fun e => by have := (World.ownsRow.lt R3.t1 _ e).1; omega)) (by omega), own_mono (R3.t2.onlyB O5 (fun e => by have := (World.ownsRow.lt R3.t2 _ e).1; omega)) (by omega), R3.n01, R3.n02, R3.n12⟩
        have B5 : Hid (Below w.heap.size w (((u6.setCell ⟨w.heap.size + 1, 0, none⟩ (.slice i0 d.nb k0)).setCell ⟨w.heap.size + 1, 1, none⟩ (.slice i1 d.nc k1)).setCell ⟨w.heap.size + 1, 2, none⟩ (.slice i2 d.ns k2))) := B3.trans (O5.toBelow (by omega) B3.size)
        have H' : (((u6.setCell ⟨w.heap.size + 1, 0, none⟩ (.slice i0 d.nb k0)).setCell ⟨w.heap.size + 1, 1, none⟩ (.slice i1 d.nc k1)).setCell ⟨w.heap.size + 1, 2, none⟩ (.slice i2 d.ns k2)).cell? ⟨w.heap.size, 0, none⟩ = some (.slice a0 d.nb c0) ∧ (((u6.setCell ⟨w.heap.size + 1, 0, none⟩ (.slice i0 d.nb k0)).setCell ⟨w.heap.size + 1, 1, none⟩ (.slice i1 d.nc k1)).setCell ⟨w.heap.size + 1, 2, none⟩ (.slice i2 d.ns k2)).cell? ⟨w.heap.size, 1, none⟩ = some (.slice a1 d.nc c1) ∧ (((u6.setCell ⟨w.heap.size + 1, 0, none⟩ (.slice i0 d.nb k0)).setCell ⟨w.heap.size + 1, 1, none⟩ (.slice i1 d.nc k1)).setCell ⟨w.heap.size + 1, 2, none⟩ (.slice i2 d.ns k2)).cell? ⟨w.heap.size, 2, none⟩ = some (.slice a2 d.ns c2) := ⟨(cellOf (O5.block w.heap.size (strBlock H.1) (by omega))).trans H.1, (cellOf (O5.block w.heap.size (strBlock H.2.1) (by omega))).trans H.2.1, (cellOf (O5.block w.heap.size (strBlock H.2.2) (by omega))).trans H.2.2⟩
        replace H := H'
        clear H' O5 R3 B3 I6
        go_simp
        refine hK.out _ _ H (fun _ => ?_)
        clear hK KK x0 x1 x2 f0 f1 f2 X3 H
        generalize (((u6.setCell ⟨w.heap.size + 1, 0, none⟩ (.slice i0 d.nb k0)).setCell ⟨w.heap.size + 1, 1, none⟩ (.slice i1 d.nc k1)).setCell ⟨w.heap.size + 1, 2, none⟩ (.slice i2 d.ns k2)) = u9 at *
        refine wpAnyH_done (by kernel_rfl) ?_ _
        refine NoPanic.normal ?_
        have y0 := X5.c0
        have y1 := X5.c1
        have y2 := X5.c2
        clear X5
        go_wp2
        exact ret_cell (b := w.heap.size + 1) (v := .agg #[.slice i0 d.nb k0, .slice i1 d.nc k1, .slice i2 d.ns k2]) Tryd.results19 rfl (by go_simp) ⟨⟨_, _, _, rfl, R5.out⟩, B5.out⟩
      · skip
        have I3 : Hid (OwnI w (u2.alloc (.cells #[] 68)) (.slice a0 d.nb c0) (.slice a1 d.nc c1) (.slice a2 d.ns c2) (d.part 0 0 0) (.slice (some ⟨y0, 0, none⟩) 0 0) (.slice (some ⟨u2.heap.size, 0, none⟩) 0 0) (.slice (some ⟨y1, 0, none⟩) 0 0)) := I2.out.lit1
        go_simp
        replace H := I3.out.h
        refine hK.out _ _ H (fun _ => ?_)
        clear hK KK I2
        generalize (u2.alloc (.cells #[] 68)) = u3 at *
        generalize u2.heap.size = y2 at *
        change wpAnyH _ _ _ _ _ _ _ { tmps := #[_, _, _, _, _, _, _, _, _, _, _, _, _, _, _, _], defers := _ } _
        refine wpAnyH_ready (rs := [3]) (by kernel_rfl) (by simp) ?_
        refine (AllReadyH.cons rfl (fun KK hK => ?_) AllReadyH.nil)
        obtain ⟨i0, k0, u4, hr, hI⟩ := I3.out.app0 a0 c0 DV.out.1 h0 z0
        have I4 : Hid (OwnI w u4 (.slice a0 d.nb c0) (.slice a1 d.nc c1) (.slice a2 d.ns c2) (d.part d.nb 0 0) (.slice i0 d.nb k0) (.slice (some ⟨y2, 0, none⟩) 0 0) (.slice (some ⟨y1, 0, none⟩) 0 0)) := hI
        rw [if_pos (by rfl)]
        refine Lib.wp_append_run _ (.tmp 3) (.tmp 5) 24 24 rfl (.slice (some ⟨y0, 0, none⟩) 0 0) (.slice a0 d.nb c0) rfl rfl _ _ hr ?_
        replace H := I4.out.h
        refine hK.out _ _ H (fun _ => ?_)
        clear hK KK I3 hr hI
        change wpAnyH _ _ _ _ _ _ _ { tmps := #[_, _, _, _, _, _, _, _, _, _, _, _, _, _, _, _], defers := _ } _
        refine wpAnyH_ready (rs := [7]) (by kernel_rfl) (by simp) ?_
        refine (AllReadyH.cons rfl (fun KK hK => ?_) AllReadyH.nil)
        obtain ⟨i1, k1, u5, hr, hI⟩ := I4.out.app1 a1 c1 DV.out.2.1 h1 z1
        have I5 : Hid (OwnI w u5 (.slice a0 d.nb c0) (.slice a1 d.nc c1) (.slice a2 d.ns c2) (d.part d.nb d.nc 0) (.slice i0 d.nb k0) (.slice i1 d.nc k1) (.slice (some ⟨y1, 0, none⟩) 0 0)) := hI
        rw [if_pos (by rfl)]
        refine Lib.wp_append_run _ (.tmp 7) (.tmp 9) 25 25 rfl (.slice (some ⟨y2, 0, none⟩) 0 0) (.slice a1 d.nc c1) rfl rfl _ _ hr ?_
        replace H := I5.out.h
        refine hK.out _ _ H (fun _ => ?_)
        clear hK KK I4 hr hI
        change wpAnyH _ _ _ _ _ _ _ { tmps := #[_, _, _, _, _, _, _, _, _, _, _, _, _, _, _, _], defers := _ } _
        refine wpAnyH_ready (rs := [11]) (by kernel_rfl) (by simp) ?_
        refine (AllReadyH.cons rfl (fun KK hK => ?_) AllReadyH.nil)
        obtain ⟨i2, k2, u6, hr, hI⟩ := I5.out.app2 a2 c2 DV.out.2.2 h2 z2
        have I6 : Hid (OwnI w u6 (.slice a0 d.nb c0) (.slice a1 d.nc c1) (.slice a2 d.ns c2) (d.part d.nb d.nc d.ns) (.slice i0 d.nb k0) (.slice i1 d.nc k1) (.slice i2 d.ns k2)) := hI
        rw [if_pos (by rfl)]
        refine Lib.wp_append_run _ (.tmp 11) (.tmp 13) 24 24 rfl (.slice (some ⟨y1, 0, none⟩) 0 0) (.slice a2 d.ns c2) rfl rfl _ _ hr ?_
        replace H := I6.out.h
        refine hK.out _ _ H (fun _ => ?_)
        clear hK KK I5 hr hI
        change wpAnyH _ _ _ _ _ _ _ { tmps := #[_, _, _, _, _, _, _, _, _, _, _, _, _, _, _, _], defers := _ } _
        refine wpAnyH_take (i := 12) (v := .agg #[.slice i0 d.nb k0, .slice i1 d.nc k1, .slice i2 d.ns k2]) rfl (by kernel_rfl) (by kernel_rfl) (by kernel_rfl) (fun _ _ _ h => h) (Or.inl ⟨by rfl, ?_⟩) H ?_
        · intro w' hSw; go_simp
        change wpAnyH _ _ _ _ _ _ _ { tmps := #[_, _, _, _, _, _, _, _, _, _, _, _, _, _, _, _], defers := _ } _
        refine wpAnyH_ready (rs := [13]) (by kernel_rfl) (by simp) ?_
        refine AllReadyH.cons rfl (fun KK hK => ?_) AllReadyH.nil
        obtain ⟨R3, B3, H, X3, G3⟩ := I6.out
        have x0 := X3.c0
        have x1 := X3.c1
        have x2 := X3.c2
        have f0 := X3.fr 0
        have f1 := X3.fr 1
        have f2 := X3.fr 2
        have O5 : OnlyB (w.heap.size + 1) u6 (((u6.setCell ⟨w.heap.size + 1, 0, none⟩ (.slice i0 d.nb k0)).setCell ⟨w.heap.size + 1, 1, none⟩ (.slice i1 d.nc k1)).setCell ⟨w.heap.size + 1, 2, none⟩ (.slice i2 d.ns k2)) := (((OnlyB.refl _ u6).setCell 0 _).setCell 1 _).setCell 2 _
        have X5 : Box3 (((u6.setCell ⟨w.heap.size + 1, 0, none⟩ (.slice i0 d.nb k0)).setCell ⟨w.heap.size + 1, 1, none⟩ (.slice i1 d.nc k1)).setCell ⟨w.heap.size + 1, 2, none⟩ (.slice i2 d.ns k2)) (w.heap.size + 1) 27 (.slice i0 d.nb k0) (.slice i1 d.nc k1) (.slice i2 d.ns k2) := ((X3.set0 _).set1 _).set2 _
        have R5 : Hid (Rows3 (((u6.setCell ⟨w.heap.size + 1, 0, none⟩ (.slice i0 d.nb k0)).setCell ⟨w.heap.size + 1, 1, none⟩ (.slice i1 d.nc k1)).setCell ⟨w.heap.size + 1, 2, none⟩ (.slice i2 d.ns k2)) w.heap.size d (.slice i0 d.nb k0) (.slice i1 d.nc k1) (.slice i2 d.ns k2)) := ⟨own_mono (R3.t0.onlyB O5 (fun e => by have := (World.ownsRow.lt R3.t0 _ e).1; omega)) (by omega), own_mono (R3.t1.onlyB O5 (fun e => by have := (World.ownsRow.lt R3.t1 _ e).1; omega)) (by omega), own_mono (R3.t2.onlyB O5 (fun e => by have := (World.ownsRow.lt R3.t2 _ e).1; omega)) (by omega), R3.n01, R3.n02, R3.n12⟩
        have B5 : Hid (Below w.heap.size w (((u6.setCell ⟨w.heap.size + 1, 0, none⟩ (.slice i0 d.nb k0)).setCell ⟨w.heap.size + 1, 1, none⟩ (.slice i1 d.nc k1)).setCell ⟨w.heap.size + 1, 2, none⟩ (.slice i2 d.ns k2))) := B3.trans (O5.toBelow (by omega) B3.size)
        have H' : (((u6.setCell ⟨w.heap.size + 1, 0, none⟩ (.slice i0 d.nb k0)).setCell ⟨w.heap.size + 1, 1, none⟩ (.slice i1 d.nc k1)).setCell ⟨w.heap.size + 1, 2, none⟩ (.slice i2 d.ns k2)).cell? ⟨w.heap.size, 0, none⟩ = some (.slice a0 d.nb c0) ∧ (((u6.setCell ⟨w.heap.size + 1, 0, none⟩ (.slice i0 d.nb k0)).setCell ⟨w.heap.size + 1, 1, none⟩ (.slice i1 d.nc k1)).setCell ⟨w.heap.size + 1, 2, none⟩ (.slice i2 d.ns k2)).cell? ⟨w.heap.size, 1, none⟩ = some (.slice a1 d.nc c1) ∧ (((u6.setCell ⟨w.heap.size + 1, 0, none⟩ (.slice i0 d.nb k0)).setCell ⟨w.heap.size + 1, 1, none⟩ (.slice i1 d.nc k1)).setCell ⟨w.heap.size + 1, 2, none⟩ (.slice i2 d.ns k2)).cell? ⟨w.heap.size, 2, none⟩ = some (.slice a2 d.ns c2) := ⟨(cellOf (O5.block w.heap.size (strBlock H.1) (by omega))).trans H.1, (cellOf (O5.block w.heap.size (strBlock H.2.1) (by omega))).trans H.2.1, (cellOf (O5.block w.heap.size (strBlock H.2.2) (by omega))).trans H.2.2⟩
        replace H := H'
        clear H' O5 R3 B3 I6
        go_simp
        refine hK.out _ _ H (fun _ => ?_)
        clear hK KK x0 x1 x2 f0 f1 f2 X3 H
        generalize (((u6.setCell ⟨w.heap.size + 1, 0, none⟩ (.slice i0 d.nb k0)).setCell ⟨w.heap.size + 1, 1, none⟩ (.slice i1 d.nc k1)).setCell ⟨w.heap.size + 1, 2, none⟩ (.slice i2 d.ns k2)) = u9 at *
        refine wpAnyH_done (by kernel_rfl) ?_ _
        refine NoPanic.normal ?_
        have y0 := X5.c0
        have y1 := X5.c1
        have y2 := X5.c2
        clear X5
        go_wp2
        exact ret_cell (b := w.heap.size + 1) (v := .agg #[.slice i0 d.nb k0, .slice i1 d.nc k1, .slice i2 d.ns k2]) Tryd.results19 rfl (by go_simp) ⟨⟨_, _, _, rfl, R5.out⟩, B5.out⟩
  · skip
    have I1 : Hid (OwnI w (u0.alloc (.cells #[] 68)) (.slice a0 d.nb c0) (.slice a1 d.nc c1) (.slice a2 d.ns c2) (d.part 0 0 0) (.slice none 0 0) (.slice (some ⟨u0.heap.size, 0, none⟩) 0 0) (.slice none 0 0)) := I0.out.lit1
    go_simp
    replace H := I1.out.h
    refine hK.out _ _ H (fun _ => ?_)
    clear hK KK I0
    generalize (u0.alloc (.cells #[] 68)) = u1 at *
    generalize u0.heap.size = y0 at *
    change wpAnyH _ _ _ _ _ _ _ { tmps := #[_, _, _, _, _, _, _, _, _, _, _, _, _, _, _, _], defers := _ } _
    refine wpAnyH_ready (rs := [0, 8]) (by kernel_rfl) (by simp) ?_
    refine (AllReadyH.cons rfl (fun KK hK => ?_) (AllReadyH.cons rfl (fun KK hK => ?_) AllReadyH.nil))
    · skip
      have I2 : Hid (OwnI w (u1.alloc (.cells #[] 9)) (.slice a0 d.nb c0) (.slice a1 d.nc c1) (.slice a2 d.ns c2) (d.part 0 0 0) (.slice (some ⟨u1.heap.size, 0, none⟩) 0 0) (.slice (some ⟨y0, 0, none⟩) 0 0) (.slice none 0 0)) := I1.out.lit0
      go_simp
      replace H := I2.out.h
      refine hK.out _ _ H (fun _ => ?_)
      clear hK KK I1
      generalize (u1.alloc (.cells #[] 9)) = u2 at *
      generalize u1.heap.size = y1 at *
      change wpAnyH _ _ _ _ _ _ _ { tmps := #[_, _, _, _, _, _, _, _, _, _, _, _, _, _, _, _], defers := _ } _
      refine wpAnyH_ready (rs := [3, 8]) (by kernel_rfl) (by simp) ?_
      refine (AllReadyH.cons rfl (fun KK hK => ?_) (AllReadyH.cons rfl (fun KK hK => ?_) AllReadyH.nil))
      · skip
        obtain ⟨i0, k0, u3, hr, hI⟩ := I2.out.app0 a0 c0 DV.out.1 h0 z0
        have I3 : Hid (OwnI w u3 (.slice a0 d.nb c0) (.slice a1 d.nc c1) (.slice a2 d.ns c2) (d.part d.nb 0 0) (.slice i0 d.nb k0) (.slice (some ⟨y0, 0, none⟩) 0 0) (.slice none 0 0)) := hI
        rw [if_pos (by rfl)]
        refine Lib.wp_append_run _ (.tmp 3) (.tmp 5) 24 24 rfl (.slice (some ⟨y1, 0, none⟩) 0 0) (.slice a0 d.nb c0) rfl rfl _ _ hr ?_
        replace H := I3.out.h
        refine hK.out _ _ H (fun _ => ?_)
        clear hK KK I2 hr hI
        change wpAnyH _ _ _ _ _ _ _ { tmps := #[_, _, _, _, _, _, _, _, _, _, _, _, _, _, _, _], defers := _ } _
        refine wpAnyH_ready (rs := [7, 8]) (by kernel_rfl) (by simp) ?_
        refine (AllReadyH.cons rfl (fun KK hK => ?_) (AllReadyH.cons rfl (fun KK hK => ?_) AllReadyH.nil))
        · skip
          obtain ⟨i1, k1, u4, hr, hI⟩ := I3.out.app1 a1 c1 DV.out.2.1 h1 z1
          have I4 : Hid (OwnI w u4 (.slice a0 d.nb c0) (.slice a1 d.nc c1) (.slice a2 d.ns c2) (d.part d.nb d.nc 0) (.slice i0 d.nb k0) (.slice i1 d.nc k1) (.slice none 0 0)) := hI
          rw [if_pos (by rfl)]
          refine Lib.wp_append_run _ (.tmp 7) (.tmp 9) 25 25 rfl (.slice (some ⟨y0, 0, none⟩) 0 0) (.slice a1 d.nc c1) rfl rfl _ _ hr ?_
          replace H := I4.out.h
          refine hK.out _ _ H (fun _ => ?_)
          clear hK KK I3 hr hI
          change wpAnyH _ _ _ _ _ _ _ { tmps := #[_, _, _, _, _, _, _, _, _, _, _, _, _, _, _, _], defers := _ } _
          refine wpAnyH_ready (rs := [8]) (by kernel_rfl) (by simp) ?_
          refine (AllReadyH.cons rfl (fun KK hK => ?_) AllReadyH.nil)
          have I5 : Hid (OwnI w (u4.alloc (.cells #[] 9)) (.slice a0 d.nb c0) (.slice a1 d.nc c1) (.slice a2 d.ns c2) (d.part d.nb d.nc 0) (.slice i0 d.nb k0) (.slice i1 d.nc k1) (.slice (some ⟨u4.heap.size, 0, none⟩) 0 0)) := I4.out.lit2
          go_simp
          replace H := I5.out.h
          refine hK.out _ _ H (fun _ => ?_)
          clear hK KK I4
          generalize (u4.alloc (.cells #[] 9)) = u5 at *
          generalize u4.heap.size = y4 at *
          change wpAnyH _ _ _ _ _ _ _ { tmps := #[_, _, _, _, _, _, _, _, _, _, _, _, _, _, _, _], defers := _ } _
          refine wpAnyH_ready (rs := [11]) (by kernel_rfl) (by simp) ?_
          refine (AllReadyH.cons rfl (fun KK hK => ?_) AllReadyH.nil)
          obtain ⟨i2, k2, u6, hr, hI⟩ := I5.out.app2 a2 c2 DV.out.2.2 h2 z2
          have I6 : Hid (OwnI w u6 (.slice a0 d.nb c0) (.slice a1 d.nc c1) (.slice a2 d.ns c2) (d.part d.nb d.nc d.ns) (.slice i0 d.nb k0) (.slice i1 d.nc k1) (.slice i2 d.ns k2)) := hI
          rw [if_pos (by rfl)]
          refine Lib.wp_append_run _ (.tmp 11) (.tmp 13) 24 24 rfl (.slice (some ⟨y4, 0, none⟩) 0 0) (.slice a2 d.ns c2) rfl rfl _ _ hr ?_
          replace H := I6.out.h
          refine hK.out _ _ H (fun _ => ?_)
          clear hK KK I5 hr hI
          change wpAnyH _ _ _ _ _ _ _ { tmps := #[_, _, _, _, _, _, _, _, _, _, _, _, _, _, _, _], defers := _ } _
          refine wpAnyH_take (i := 12) (v := .agg #[.slice i0 d.nb k0, .slice i1 d.nc k1, .slice i2 d.ns k2]) rfl (by kernel_rfl) (by kernel_rfl) (by kernel_rfl) (fun _ _ _ h => h) (Or.inl ⟨by rfl, ?_⟩) H ?_
          · intro w' hSw; go_simp
          change wpAnyH _ _ _ _ _ _ _ { tmps := #[_, _, _, _, _, _, _, _, _, _, _, _, _, _, _, _], defers := _ } _
          refine wpAnyH_ready (rs := [13]) (by kernel_rfl) (by simp) ?_
          refine AllReadyH.cons rfl (fun KK hK => ?_) AllReadyH.nil
          obtain ⟨R3, B3, H, X3, G3⟩ := I6.out
          have x0 := X3.c0
          have x1 := X3.c1
          have x2 := X3.c2
          have f0 := X3.fr 0
          have f1 := X3.fr 1
          have f2 := X3.fr 2
          have O5 : OnlyB (w.heap.size + 1) u6 (((u6.setCell ⟨w.heap.size + 1, 0, none⟩ (.slice i0 d.nb k0)).setCell ⟨w.heap.size + 1, 1, none⟩ (.slice i1 d.nc k1)).setCell ⟨w.heap.size + 1, 2, none⟩ (.slice i2 d.ns k2)) := (((OnlyB.refl _ u6).setCell 0 _).setCell 1 _).setCell 2 _
          have X5 : Box3 (((u6.setCell ⟨w.heap.size + 1, 0, none⟩ (.slice i0 d.nb k0)).setCell ⟨w.heap.size + 1, 1, none⟩ (.slice i1 d.nc k1)).setCell ⟨w.heap.size + 1, 2, none⟩ (.slice i2 d.ns k2)) (w.heap.size + 1) 27 (.slice i0 d.nb k0) (.slice i1 d.nc k1) (.slice i2 d.ns k2) := ((X3.set0 _).set1 _).set2 _
          have R5 : Hid (Rows3 (((u6.setCell ⟨w.heap.size + 1, 0, none⟩ (.slice i0 d.nb k0)).setCell ⟨w.heap.size + 1, 1, none⟩ (.slice i1 d.nc k1)).setCell ⟨w.heap.size + 1, 2, none⟩ (.slice i2 d.ns k2)) w.heap.size d (.slice i0 d.nb k0) (.slice i1 d.nc k1) (.slice i2 d.ns k2)) := ⟨own_mono (R3.t0.onlyB O5 (fun e => by have := (World.ownsRow.lt R3.t0 _ e).1; omega)) (by omega), own_mono (R3.t1.onlyB O5 (fun e => by have := (World.ownsRow.lt R3.t1 _ e).1; omega)) (by omega), own_mono (R3.t2.onlyB O5 (fun e => by have := (World.ownsRow.lt R3.t2 _ e).1; omega)) (by omega), R3.n01, R3.n02, R3.n12⟩
          have B5 : Hid (Below w.heap.size w (((u6.setCell ⟨w.heap.size + 1, 0, none⟩ (.slice i0 d.nb k0)).setCell ⟨w.heap.size + 1, 1, none⟩ (.slice i1 d.nc k1)).setCell ⟨w.heap.size + 1, 2, none⟩ (.slice i2 d.ns k2))) := B3.trans (O5.toBelow (by omega) B3.size)
          have H' : (((u6.setCell ⟨w.heap.size + 1, 0, none⟩ (.slice i0 d.nb k0)).setCell ⟨w.heap.size + 1, 1, none⟩ (.slice i1 d.nc k1)).setCell ⟨w.heap.size + 1, 2, none⟩ (.slice i2 d.ns k2)).cell? ⟨w.heap.size, 0, none⟩ = some (.slice a0 d.nb c0) ∧ (((u6.setCell ⟨w.heap.size + 1, 0, none⟩ (.slice i0 d.nb k0)).setCell ⟨w.heap.size + 1, 1, none⟩ (.slice i1 d.nc k1)).setCell ⟨w.heap.size + 1, 2, none⟩ (.slice i2 d.ns k2)).cell? ⟨w.heap.size, 1, none⟩ = some (.slice a1 d.nc c1) ∧ (((u6.setCell ⟨w.heap.size + 1, 0, none⟩ (.slice i0 d.nb k0)).setCell ⟨w.heap.size + 1, 1, none⟩ (.slice i1 d.nc k1)).setCell ⟨w.heap.size + 1, 2, none⟩ (.slice i2 d.ns k2)).cell? ⟨w.heap.size, 2, none⟩ = some (.slice a2 d.ns c2) := ⟨(cellOf (O5.block w.heap.size (strBlock H.1) (by omega))).trans H.1, (cellOf (O5.block w.heap.size (strBlock H.2.1) (by omega))).trans H.2.1, (cellOf (O5.block w.heap.size (strBlock H.2.2) (by omega))).trans H.2.2⟩
          replace H := H'
          clear H' O5 R3 B3 I6
          go_simp
          refine hK.out _ _ H (fun _ => ?_)
          clear hK KK x0 x1 x2 f0 f1 f2 X3 H
          generalize (((u6.setCell ⟨w.heap.size + 1, 0, none⟩ (.slice i0 d.nb k0)).setCell ⟨w.heap.size + 1, 1, none⟩ (.slice i1 d.nc k1)).setCell ⟨w.heap.size + 1, 2, none⟩ (.slice i2 d.ns k2)) = u9 at *
          refine wpAnyH_done (by kernel_rfl) ?_ _
          refine NoPanic.normal ?_
          have y0 := X5.c0
          have y1 := X5.c1
          have y2 := X5.c2
          clear X5
          go_wp2
          exact ret_cell (b := w.heap.size + 1) (v := .agg #[.slice i0 d.nb k0, .slice i1 d.nc k1, .slice i2 d.ns k2]) Tryd.results19 rfl (by go_simp) ⟨⟨_, _, _, rfl, R5.out⟩, B5.out⟩
        · skip
          have I4 : Hid (OwnI w (u3.alloc (.cells #[] 9)) (.slice a0 d.nb c0) (.slice a1 d.nc c1) (.slice a2 d.ns c2) (d.part d.nb 0 0) (.slice i0 d.nb k0) (.slice (some ⟨y0, 0, none⟩) 0 0) (.slice (some ⟨u3.heap.size, 0, none⟩) 0 0)) := I3.out.lit2
          go_simp
          replace H := I4.out.h
          refine hK.out _ _ H (fun _ => ?_)
          clear hK KK I3
          generalize (u3.alloc (.cells #[] 9)) = u4 at *
          generalize u3.heap.size = y3 at *
          change wpAnyH _ _ _ _ _ _ _ { tmps := #[_, _, _, _, _, _, _, _, _, _, _, _, _, _, _, _], defers := _ } _
          refine wpAnyH_ready (rs := [7]) (by kernel_rfl) (by simp) ?_
          refine (AllReadyH.cons rfl (fun KK hK => ?_) AllReadyH.nil)
          obtain ⟨i1, k1, u5, hr, hI⟩ := I4.out.app1 a1 c1 DV.out.2.1 h1 z1
          have I5 : Hid (OwnI w u5 (.slice a0 d.nb c0) (.slice a1 d.nc c1) (.slice a2 d.ns c2) (d.part d.nb d.nc 0) (.slice i0 d.nb k0) (.slice i1 d.nc k1) (.slice (some ⟨y3, 0, none⟩) 0 0)) := hI
          rw [if_pos (by rfl)]
          refine Lib.wp_append_run _ (.tmp 7) (.tmp 9) 25 25 rfl (.slice (some ⟨y0, 0, none⟩) 0 0) (.slice a1 d.nc c1) rfl rfl _ _ hr ?_
          replace H := I5.out.h
          refine hK.out _ _ H (fun _ => ?_)
          clear hK KK I4 hr hI
          change wpAnyH _ _ _ _ _ _ _ { tmps := #[_, _, _, _, _, _, _, _, _, _, _, _, _, _, _, _], defers := _ } _
          refine wpAnyH_ready (rs := [11]) (by kernel_rfl) (by simp) ?_
          refine (AllReadyH.cons rfl (fun KK hK => ?_) AllReadyH.nil)
          obtain ⟨i2, k2, u6, hr, hI⟩ := I5.out.app2 a2 c2 DV.out.2.2 h2 z2
          have I6 : Hid (OwnI w u6 (.slice a0 d.nb c0) (.slice a1 d.nc c1) (.slice a2 d.ns c2) (d.part d.nb d.nc d.ns) (.slice i0 d.nb k0) (.slice i1 d.nc k1) (.slice i2 d.ns k2)) := hI
          rw [if_pos (by rfl)]
          refine Lib.wp_append_run _ (.tmp 11) (.tmp 13) 24 24 rfl (.slice (some ⟨y3, 0, none⟩) 0 0) (.slice a2 d.ns c2) rfl rfl _ _ hr ?_
          replace H := I6.out.h
          refine hK.out _ _ H (fun _ => ?_)
          clear hK KK I5 hr hI
          change wpAnyH _ _ _ _ _ _ _ { tmps := #[_, _, _, _, _, _, _, _, _, _, _, _, _, _, _, _], defers := _ } _
          refine wpAnyH_take (i := 12) (v := .agg #[.slice i0 d.nb k0, .slice i1 d.nc k1, .slice i2 d.ns k2]) rfl (by kernel_rfl) (by kernel_rfl) (by kernel_rfl) (fun _ _ _ h => h) (Or.inl ⟨by rfl, ?_⟩) H ?_
          · intro w' hSw; go_simp
          change wpAnyH _ _ _ _ _ _ _ { tmps := #[_, _, _, _, _, _, _, _, _, _, _, _, _, _, _, _], defers := _ } _
          refine wpAnyH_ready (rs := [13]) (by kernel_rfl) (by simp) ?_
          refine AllReadyH.cons rfl (fun KK hK => ?_) AllReadyH.nil
          obtain ⟨R3, B3, H, X3, G3⟩ := I6.out
          have x0 := X3.c0
          have x1 := X3.c1
          have x2 := X3.c2
          have f0 := X3.fr 0
          have f1 := X3.fr 1
          have f2 := X3.fr 2
          have O5 : OnlyB (w.heap.size + 1) u6 (((u6.setCell ⟨w.heap.size + 1, 0, none⟩ (.slice i0 d.nb k0)).setCell ⟨w.heap.size + 1, 1, none⟩ (.slice i1 d.nc k1)).setCell ⟨w.heap.size + 1, 2, none⟩ (.slice i2 d.ns k2)) := (((OnlyB.refl _ u6).setCell 0 _).setCell 1 _).setCell 2 _
          have X5 : Box3 (((u6.setCell ⟨w.heap.size + 1, 0, none⟩ (.slice i0 d.nb k0)).setCell ⟨w.heap.size + 1, 1, none⟩ (.slice i1 d.nc k1)).setCell ⟨w.heap.size + 1, 2, none⟩ (.slice i2 d.ns k2)) (w.heap.size + 1) 27 (.slice i0 d.nb k0) (.slice i1 d.nc k1) (.slice i2 d.ns k2) := ((X3.set0 _).set1 _).set2 _
          have R5 : Hid (Rows3 (((u6.setCell ⟨w.heap.size + 1, 0, none⟩ (.slice i0 d.nb k0)).setCell ⟨w.heap.size + 1, 1, none⟩ (.slice i1 d.nc k1)).setCell ⟨w.heap.size + 1, 2, none⟩ (.slice i2 d.ns k2)) w.heap.size d (.slice i0 d.nb k0) (.slice i1 d.nc k1) (.slice i2 d.ns k2)) := ⟨own_mono (R3.t0.onlyB O5 (fun e => by have := (World.ownsRow.lt R3.t0 _ e).1; omega)) (by omega), own_mono (R3.t1.onlyB O5 (fun e => by have := (World.ownsRow.lt R3.t1 _ e).1; omega)) (by omega), own_mono (R3.t2.onlyB O5 (fun e => by have := (World.ownsRow.lt R3.t2 _ e).1; omega)) (by omega), R3.n01, R3.n02, R3.n12⟩
          have B5 : Hid (Below w.heap.size w (((u6.setCell ⟨w.heap.size + 1, 0, none⟩ (.slice i0 d.nb k0)).setCell ⟨w.heap.size + 1, 1, none⟩ (.slice i1 d.nc k1)).setCell ⟨w.heap.size + 1, 2, none⟩ (.slice i2 d.ns k2))) := B3.trans (O5.toBelow (by omega) B3.size)
          have H' : (((u6.setCell ⟨w.heap.size + 1, 0, none⟩ (.slice i0 d.nb k0)).setCell ⟨w.heap.size + 1, 1, none⟩ (.slice i1 d.nc k1)).setCell ⟨w.heap.size + 1, 2, none⟩ (.slice i2 d.ns k2)).cell? ⟨w.heap.size, 0, none⟩ = some (.slice a0 d.nb c0) ∧ (((u6.setCell ⟨w.heap.size + 1, 0, none⟩ (.slice i0 d.nb k0)).setCell ⟨w.heap.size + 1, 1, none⟩ (.slice i1 d.nc k1)).setCell ⟨w.heap.size + 1, 2, none⟩ (.slice i2 d.ns k2)).cell? ⟨w.heap.size, 1, none⟩ = some (.slice a1 d.nc c1) ∧ (((u6.setCell ⟨w.heap.size + 1, 0, none⟩ (.slice i0 d.nb k0)).setCell ⟨w.heap.size + 1, 1, none⟩ (.slice i1 d.nc k1)).setCell ⟨w.heap.size + 1, 2, none⟩ (.slice i2 d.ns k2)).cell? ⟨w.heap.size, 2, none⟩ = some (.slice a2 d.ns c2) := ⟨(cellOf (O5.block w.heap.size (strBlock H.1) (by omega))).trans H.1, (cellOf (O5.block w.heap.size (strBlock H.2.1) (by omega))).trans H.2.1, (cellOf (O5.block w.heap.size (strBlock H.2.2) (by omega))).trans H.2.2⟩
          replace H := H'
          clear H' O5 R3 B3 I6
          go_simp
          refine hK.out _ _ H (fun _ => ?_)
          clear hK KK x0 x1 x2 f0 f1 f2 X3 H
          generalize (((u6.setCell ⟨w.heap.size + 1, 0, none⟩ (.slice i0 d.nb k0)).setCell ⟨w.heap.size + 1, 1, none⟩ (.slice i1 d.nc k1)).setCell ⟨w.heap.size + 1, 2, none⟩ (.slice i2 d.ns k2)) = u9 at *
          refine wpAnyH_done (by kernel_rfl) ?_ _
          refine NoPanic.normal ?_
          have y0 := X5.c0
          have y1 := X5.c1
          have y2 := X5.c2
          clear X5
          go_wp2
          exact ret_cell (b := w.heap.size + 1) (v := .agg #[.slice i0 d.nb k0, .slice i1 d.nc k1, .slice i2 d.ns k2]) Tryd.results19 rfl (by go_simp) ⟨⟨_, _, _, rfl, R5.out⟩, B5.out⟩
      · skip
        have I3 : Hid (OwnI w (u2.alloc (.cells #[] 9)) (.slice a0 d.nb c0) (.slice a1 d.nc c1) (.slice a2 d.ns c2) (d.part 0 0 0) (.slice (some ⟨y1, 0, none⟩) 0 0) (.slice (some ⟨y0, 0, none⟩) 0 0) (.slice (some ⟨u2.heap.size, 0, none⟩) 0 0)) := I2.out.lit2
        go_simp
        replace H := I3.out.h
        refine hK.out _ _ H (fun _ => ?_)
        clear hK KK I2
        generalize (u2.alloc (.cells #[] 9)) = u3 at *
        generalize u2.heap.size = y2 at *
        change wpAnyH _ _ _ _ _ _ _ { tmps := #[_, _, _, _, _, _, _, _, _, _, _, _, _, _, _, _], defers := _ } _
        refine wpAnyH_ready (rs := [3]) (by kernel_rfl) (by simp) ?_
        refine (AllReadyH.cons rfl (fun KK hK => ?_) AllReadyH.nil)
        obtain ⟨i0, k0, u4, hr, hI⟩ := I3.out.app0 a0 c0 DV.out.1 h0 z0
        have I4 : Hid (OwnI w u4 (.slice a0 d.nb c0) (.slice a1 d.nc c1) (.slice a2 d.ns c2) (d.part d.nb 0 0) (.slice i0 d.nb k0) (.slice (some ⟨y0, 0, none⟩) 0 0) (.slice (some ⟨y2, 0, none⟩) 0 0)) := hI
        rw [if_pos (by rfl)]
        refine Lib.wp_append_run _ (.tmp 3) (.tmp 5) 24 24 rfl (.slice (some ⟨y1, 0, none⟩) 0 0) (.slice a0 d.nb c0) rfl rfl _ _ hr ?_
        replace H := I4.out.h
        refine hK.out _ _ H (fun _ => ?_)
        clear hK KK I3 hr hI
        change wpAnyH _ _ _ _ _ _ _ { tmps := #[_, _, _, _, _, _, _, _, _, _, _, _, _, _, _, _], defers := _ } _
        refine wpAnyH_ready (rs := [7]) (by kernel_rfl) (by simp) ?_
        refine (AllReadyH.cons rfl (fun KK hK => ?_) AllReadyH.nil)
        obtain ⟨i1, k1, u5, hr, hI⟩ := I4.out.app1 a1 c1 DV.out.2.1 h1 z1
        have I5 : Hid (OwnI w u5 (.slice a0 d.nb c0) (.slice a1 d.nc c1) (.slice a2 d.ns c2) (d.part d.nb d.nc 0) (.slice i0 d.nb k0) (.slice i1 d.nc k1) (.slice (some ⟨y2, 0, none⟩) 0 0)) := hI
        rw [if_pos (by rfl)]
        refine Lib.wp_append_run _ (.tmp 7) (.tmp 9) 25 25 rfl (.slice (some ⟨y0, 0, none⟩) 0 0) (.slice a1 d.nc c1) rfl rfl _ _ hr ?_
        replace H := I5.out.h
        refine hK.out _ _ H (fun _ => ?_)
        clear hK KK I4 hr hI
        change wpAnyH _ _ _ _ _ _ _ { tmps := #[_, _, _, _, _, _, _, _, _, _, _, _, _, _, _, _], defers := _ } _
        refine wpAnyH_ready (rs := [11]) (by kernel_rfl) (by simp) ?_
        refine (AllReadyH.cons rfl (fun KK hK => ?_) AllReadyH.nil)
        obtain ⟨i2, k2, u6, hr, hI⟩ := I5.out.app2 a2 c2 DV.out.2.2 h2 z2
        have I6 : Hid (OwnI w u6 (.slice a0 d.nb c0) (.slice a1 d.nc c1) (.slice a2 d.ns c2) (d.part d.nb d.nc d.ns) (.slice i0 d.nb k0) (.slice i1 d.nc k1) (.slice i2 d.ns k2)) := hI
        rw [if_pos (by rfl)]
        refine Lib.wp_append_run _ (.tmp 11) (.tmp 13) 24 24 rfl (.slice (some ⟨y2, 0, none⟩) 0 0) (.slice a2 d.ns c2) rfl rfl _ _ hr ?_
        replace H := I6.out.h
        refine hK.out _ _ H (fun _ => ?_)
        clear hK KK I5 hr hI
        change wpAnyH _ _ _ _ _ _ _ { tmps := #[_, _, _, _, _, _, _, _, _, _, _, _, _, _, _, _], defers := _ } _
        refine wpAnyH_take (i := 12) (v := .agg #[.slice i0 d.nb k0, .slice i1 d.nc k1, .slice i2 d.ns k2]) rfl (by kernel_rfl) (by kernel_rfl) (by kernel_rfl) (fun _ _ _ h => h) (Or.inl ⟨by rfl, ?_⟩) H ?_
        · intro w' hSw; go_simp
        change wpAnyH _ _ _ _ _ _ _ { tmps := #[_, _, _, _, _, _, _, _, _, _, _, _, _, _, _, _], defers := _ } _
        refine wpAnyH_ready (rs := [13]) (by kernel_rfl) (by simp) ?_
        refine AllReadyH.cons rfl (fun KK hK => ?_) AllReadyH.nil
        obtain ⟨R3, B3, H, X3, G3⟩ := I6.out
        have x0 := X3.c0
        have x1 := X3.c1
        have x2 := X3.c2
        have f0 := X3.fr 0
        have f1 := X3.fr 1
        have f2 := X3.fr 2
        have O5 : OnlyB (w.heap.size + 1) u6 (((u6.setCell ⟨w.heap.size + 1, 0, none⟩ (.slice i0 d.nb k0)).setCell ⟨w.heap.size + 1, 1, none⟩ (.slice i1 d.nc k1)).setCell ⟨w.heap.size + 1, 2, none⟩ (.slice i2 d.ns k2)) := (((OnlyB.refl _ u6).setCell 0 _).setCell 1 _).setCell 2 _
        have X5 : Box3 (((u6.setCell ⟨w.heap.size + 1, 0, none⟩ (.slice i0 d.nb k0)).setCell ⟨w.heap.size + 1, 1, none⟩ (.slice i1 d.nc k1)).setCell ⟨w.heap.size + 1, 2, none⟩ (.slice i2 d.ns k2)) (w.heap.size + 1) 27 (.slice i0 d.nb k0) (.slice i1 d.nc k1) (.slice i2 d.ns k2) := ((X3.set0 _).set1 _).set2 _
        have R5 : Hid (Rows3 (((u6.setCell ⟨w.heap.size + 1, 0, none⟩ (.slice i0 d.nb k0)).setCell ⟨w.heap.size + 1, 1, none⟩ (.slice i1 d.nc k1)).setCell ⟨w.heap.size + 1, 2, none⟩ (.slice i2 d.ns k2)) w.heap.size d (.slice i0 d.nb k0) (.slice i1 d.nc k1) (.slice i2 d.ns k2)) := ⟨own_mono (R3.t0.onlyB O5 (fun e => by have := (World.ownsRow.lt R3.t0 _ e).1; omega)) (by omega), own_mono (R3.t1.onlyB O5 (fun e => by have := (World.ownsRow.lt R3.t1 _ e).1; omega)) (by omega), own_mono (R3.t2.onlyB O5 (fun e => by have := (World.ownsRow.lt R3.t2 _ e).1; omega)) (by omega), R3.n01, R3.n02, R3.n12⟩
        have B5 : Hid (Below w.heap.size w (((u6.setCell ⟨w.heap.size + 1, 0, none⟩ (.slice i0 d.nb k0)).setCell ⟨w.heap.size + 1, 1, none⟩ (.slice i1 d.nc k1)).setCell ⟨w.heap.size + 1, 2, none⟩ (.slice i2 d.ns k2))) := B3.trans (O5.toBelow (by omega) B3.size)
        have H' : (((u6.setCell ⟨w.heap.size + 1, 0, none⟩ (.slice i0 d.nb k0)).setCell ⟨w.heap.size + 1, 1, none⟩ (.slice i1 d.nc k1)).setCell ⟨w.heap.size + 1, 2, none⟩ (.slice i2 d.ns k2)).cell? ⟨w.heap.size, 0, none⟩ = some (.slice a0 d.nb c0) ∧ (((u6.setCell ⟨w.heap.size + 1, 0, none⟩ (.slice i0 d.nb k0)).setCell ⟨w.heap.size + 1, 1, none⟩ (.slice i1 d.nc k1)).setCell ⟨w.heap.size + 1, 2, none⟩ (.slice i2 d.ns k2)).cell? ⟨w.heap.size, 1, none⟩ = some (.slice a1 d.nc c1) ∧ (((u6.setCell ⟨w.heap.size + 1, 0, none⟩ (.slice i0 d.nb k0)).setCell ⟨w.heap.size + 1, 1, none⟩ (.slice i1 d.nc k1)).setCell ⟨w.heap.size + 1, 2, none⟩ (.slice i2 d.ns k2)).cell? ⟨w.heap.size, 2, none⟩ = some (.slice a2 d.ns c2) := ⟨(cellOf (O5.block w.heap.size (strBlock H.1) (by omega))).trans H.1, (cellOf (O5.block w.heap.size (strBlock H.2.1) (by omega))).trans H.2.1, (cellOf (O5.block w.heap.size (strBlock H.2.2) (by omega))).trans H.2.2⟩
        replace H := H'
        clear H' O5 R3 B3 I6
        go_simp
        refine hK.out _ _ H (fun _ => ?_)
        clear hK KK x0 x1 x2 f0 f1 f2 X3 H
        generalize (((u6.setCell ⟨w.heap.size + 1, 0, none⟩ (.slice i0 d.nb k0)).setCell ⟨w.heap.size + 1, 1, none⟩ (.slice i1 d.nc k1)).setCell ⟨w.heap.size + 1, 2, none⟩ (.slice i2 d.ns k2)) = u9 at *
        refine wpAnyH_done (by kernel_rfl) ?_ _
        refine NoPanic.normal ?_
        have y0 := X5.c0
        have y1 := X5.c1
        have y2 := X5.c2
        clear X5
        go_wp2
        exact ret_cell (b := w.heap.size + 1) (v := .agg #[.slice i0 d.nb k0, .slice i1 d.nc k1, .slice i2 d.ns k2]) Tryd.results19 rfl (by go_simp) ⟨⟨_, _, _, rfl, R5.out⟩, B5.out⟩
    · skip
      have I2 : Hid (OwnI w (u1.alloc (.cells #[] 9)) (.slice a0 d.nb c0) (.slice a1 d.nc c1) (.slice a2 d.ns c2) (d.part 0 0 0) (.slice none 0 0) (.slice (some ⟨y0, 0, none⟩) 0 0) (.slice (some ⟨u1.heap.size, 0, none⟩) 0 0)) := I1.out.lit2
      go_simp
      replace H := I2.out.h
      refine hK.out _ _ H (fun _ => ?_)
      clear hK KK I1
      generalize (u1.alloc (.cells #[] 9)) = u2 at *
      generalize u1.heap.size = y1 at *
      change wpAnyH _ _ _ _ _ _ _ { tmps := #[_, _, _, _, _, _, _, _, _, _, _, _, _, _, _, _], defers := _ } _
      refine wpAnyH_ready (rs := [0]) (by kernel_rfl) (by simp) ?_
      refine (AllReadyH.cons rfl (fun KK hK => ?_) AllReadyH.nil)
      have I3 : Hid (OwnI w (u2.alloc (.cells #[] 9)) (.slice a0 d.nb c0) (.slice a1 d.nc c1) (.slice a2 d.ns c2) (d.part 0 0 0) (.slice (some ⟨u2.heap.size, 0, none⟩) 0 0) (.slice (some ⟨y0, 0, none⟩) 0 0) (.slice (some ⟨y1, 0, none⟩) 0 0)) := I2.out.lit0
      go_simp
      replace H := I3.out.h
      refine hK.out _ _ H (fun _ => ?_)
      clear hK KK I2
      generalize (u2.alloc (.cells #[] 9)) = u3 at *
      generalize u2.heap.size = y2 at *
      change wpAnyH _ _ _ _ _ _ _ { tmps := #[_, _, _, _, _, _, _, _, _, _, _, _, _, _, _, _], defers := _ } _
      refine wpAnyH_ready (rs := [3]) (by kernel_rfl) (by simp) ?_
      refine (AllReadyH.cons rfl (fun KK hK => ?_) AllReadyH.nil)
      obtain ⟨i0, k0, u4, hr, hI⟩ := I3.out.app0 a0 c0 DV.out.1 h0 z0
      have I4 : Hid (OwnI w u4 (.slice a0 d.nb c0) (.slice a1 d.nc c1) (.slice a2 d.ns c2) (d.part d.nb 0 0) (.slice i0 d.nb k0) (.slice (some ⟨y0, 0, none⟩) 0 0) (.slice (some ⟨y1, 0, none⟩) 0 0)) := hI
      rw [if_pos (by rfl)]
      refine Lib.wp_append_run _ (.tmp 3) (.tmp 5) 24 24 rfl (.slice (some ⟨y2, 0, none⟩) 0 0) (.slice a0 d.nb c0) rfl rfl _ _ hr ?_
      replace H := I4.out.h
      refine hK.out _ _ H (fun _ => ?_)
      clear hK KK I3 hr hI
      change wpAnyH _ _ _ _ _ _ _ { tmps := #[_, _, _, _, _, _, _, _, _, _, _, _, _, _, _, _], defers := _ } _
      refine wpAnyH_ready (rs := [7]) (by kernel_rfl) (by simp) ?_
      refine (AllReadyH.cons rfl (fun KK hK => ?_) AllReadyH.nil)
      obtain ⟨i1, k1, u5, hr, hI⟩ := I4.out.app1 a1 c1 DV.out.2.1 h1 z1
      have I5 : Hid (OwnI w u5 (.slice a0 d.nb c0) (.slice a1 d.nc c1) (.slice a2 d.ns c2) (d.part d.nb d.nc 0) (.slice i0 d.nb k0) (.slice i1 d.nc k1) (.slice (some ⟨y1, 0, none⟩) 0 0)) := hI
      rw [if_pos (by rfl)]
      refine Lib.wp_append_run _ (.tmp 7) (.tmp 9) 25 25 rfl (.slice (some ⟨y0, 0, none⟩) 0 0) (.slice a1 d.nc c1) rfl rfl _ _ hr ?_
      replace H := I5.out.h
      refine hK.out _ _ H (fun _ => ?_)
      clear hK KK I4 hr hI
      change wpAnyH _ _ _ _ _ _ _ { tmps := #[_, _, _, _, _, _, _, _, _, _, _, _, _, _, _, _], defers := _ } _
      refine wpAnyH_ready (rs := [11]) (by kernel_rfl) (by simp) ?_
      refine (AllReadyH.cons rfl (fun KK hK => ?_) AllReadyH.nil)
      obtain ⟨i2, k2, u6, hr, hI⟩ := I5.out.app2 a2 c2 DV.out.2.2 h2 z2
      have I6 : Hid (OwnI w u6 (.slice a0 d.nb c0) (.slice a1 d.nc c1) (.slice a2 d.ns c2) (d.part d.nb d.nc d.ns) (.slice i0 d.nb k0) (.slice i1 d.nc k1) (.slice i2 d.ns k2)) := hI
      rw [if_pos (by rfl)]
      refine Lib.wp_append_run _ (.tmp 11) (.tmp 13) 24 24 rfl (.slice (some ⟨y1, 0, none⟩) 0 0) (.slice a2 d.ns c2) rfl rfl _ _ hr ?_
      replace H := I6.out.h
      refine hK.out _ _ H (fun _ => ?_)
      clear hK KK I5 hr hI
      change wpAnyH _ _ _ _ _ _ _ { tmps := #[_, _, _, _, _, _, _, _, _, _, _, _, _, _, _, _], defers := _ } _
      refine wpAnyH_take (i := 12) (v := .agg #[.slice i0 d.nb k0, .slice i1 d.nc k1, .slice i2 d.ns k2]) rfl (by kernel_rfl) (by kernel_rfl) (by kernel_rfl) (fun _ _ _ h => h) (Or.inl ⟨by rfl, ?_⟩) H ?_
      · intro w' hSw; go_simp
      change wpAnyH _ _ _ _ _ _ _ { tmps := #[_, _, _, _, _, _, _, _, _, _, _, _, _, _, _, _], defers := _ } _
      refine wpAnyH_ready (rs := [13]) (by kernel_rfl) (by simp) ?_
      refine AllReadyH.cons rfl (fun KK hK => ?_) AllReadyH.nil
      obtain ⟨R3, B3, H, X3, G3⟩ := I6.out
      have x0 := X3.c0
      have x1 := X3.c1
      have x2 := X3.c2
      have f0 := X3.fr 0
      have f1 := X3.fr 1
      have f2 := X3.fr 2
      have O5 : OnlyB (w.heap.size + 1) u6 (((u6.setCell ⟨w.heap.size + 1, 0, none⟩ (.slice i0 d.nb k0)).setCell ⟨w.heap.size + 1, 1, none⟩ (.slice i1 d.nc k1)).setCell ⟨w.heap.size + 1, 2, none⟩ (.slice i2 d.ns k2)) := (((OnlyB.refl _ u6).setCell 0 _).setCell 1 _).setCell 2 _
      have X5 : Box3 (((u6.setCell ⟨w.heap.size + 1, 0, none⟩ (.slice i0 d.nb k0)).setCell ⟨w.heap.size + 1, 1, none⟩ (.slice i1 d.nc k1)).setCell ⟨w.heap.size + 1, 2, none⟩ (.slice i2 d.ns k2)) (w.heap.size + 1) 27 (.slice i0 d.nb k0) (.slice i1 d.nc k1) (.slice i2 d.ns k2) := ((X3.set0 _).set1 _).set2 _
      have R5 : Hid (Rows3 (((u6.setCell ⟨w.heap.size + 1, 0, none⟩ (.slice i0 d.nb k0)).setCell ⟨w.heap.size + 1, 1, none⟩ (.slice i1 d.nc k1)).setCell ⟨w.heap.size + 1, 2, none⟩ (.slice i2 d.ns k2)) w.heap.size d (.slice i0 d.nb k0) (.slice i1 d.nc k1) (.slice i2 d.ns k2)) := ⟨own_mono (R3.t0.onlyB O5 (fun e => by have := (World.ownsRow.lt R3.t0 _ e).1; omega)) (by omega), own_mono (R3.t1.onlyB O5 (fun e => by have := (World.ownsRow.lt R3.t1 _ e).1; omega)) (by omega), own_mono (R3.t2.onlyB O5 (fun e => by have := (World.ownsRow.lt R3.t2 _ e).1; omega)) (by omega), R3.n01, R3.n02, R3.n12⟩
      have B5 : Hid (Below w.heap.size w (((u6.setCell ⟨w.heap.size + 1, 0, none⟩ (.slice i0 d.nb k0)).setCell ⟨w.heap.size + 1, 1, none⟩ (.slice i1 d.nc k1)).setCell ⟨w.heap.size + 1, 2, none⟩ (.slice i2 d.ns k2))) := B3.trans (O5.toBelow (by omega) B3.size)
      have H' : (((u6.setCell ⟨w.heap.size + 1, 0, none⟩ (.slice i0 d.nb k0)).setCell ⟨w.heap.size + 1, 1, none⟩ (.slice i1 d.nc k1)).setCell ⟨w.heap.size + 1, 2, none⟩ (.slice i2 d.ns k2)).cell? ⟨w.heap.size, 0, none⟩ = some (.slice a0 d.nb c0) ∧ (((u6.setCell ⟨w.heap.size + 1, 0, none⟩ (.slice i0 d.nb k0)).setCell ⟨w.heap.size + 1, 1, none⟩ (.slice i1 d.nc k1)).setCell ⟨w.heap.size + 1, 2, none⟩ (.slice i2 d.ns k2)).cell? ⟨w.heap.size, 1, none⟩ = some (.slice a1 d.nc c1) ∧ (((u6.setCell ⟨w.heap.size + 1, 0, none⟩ (.slice i0 d.nb k0)).setCell ⟨w.heap.size + 1, 1, none⟩ (.slice i1 d.nc k1)).setCell ⟨w.heap.size + 1, 2, none⟩ (.slice i2 d.ns k2)).cell? ⟨w.heap.size, 2, none⟩ = some (.slice a2 d.ns c2) := ⟨(cellOf (O5.block w.heap.size (strBlock H.1) (by omega))).trans H.1, (cellOf (O5.block w.heap.size (strBlock H.2.1) (by omega))).trans H.2.1, (cellOf (O5.block w.heap.size (strBlock H.2.2) (by omega))).trans H.2.2⟩
      replace H := H'
      clear H' O5 R3 B3 I6
      go_simp
      refine hK.out _ _ H (fun _ => ?_)
      clear hK KK x0 x1 x2 f0 f1 f2 X3 H
      generalize (((u6.setCell ⟨w.heap.size + 1, 0, none⟩ (.slice i0 d.nb k0)).setCell ⟨w.heap.size + 1, 1, none⟩ (.slice i1 d.nc k1)).setCell ⟨w.heap.size + 1, 2, none⟩ (.slice i2 d.ns k2)) = u9 at *
      refine wpAnyH_done (by kernel_rfl) ?_ _
      refine NoPanic.normal ?_
      have y0 := X5.c0
      have y1 := X5.c1
      have y2 := X5.c2
      clear X5
      go_wp2
      exact ret_cell (b := w.heap.size + 1) (v := .agg #[.slice i0 d.nb k0, .slice i1 d.nc k1, .slice i2 d.ns k2]) Tryd.results19 rfl (by go_simp) ⟨⟨_, _, _, rfl, R5.out⟩, B5.out⟩
  · skip
    have I1 : Hid (OwnI w (u0.alloc (.cells #[] 9)) (.slice a0 d.nb c0) (.slice a1 d.nc c1) (.slice a2 d.ns c2) (d.part 0 0 0) (.slice none 0 0) (.slice none 0 0) (.slice (some ⟨u0.heap.size, 0, none⟩) 0 0)) := I0.out.lit2
    go_simp
    replace H := I1.out.h
    refine hK.out _ _ H (fun _ => ?_)
    clear hK KK I0
    generalize (u0.alloc (.cells #[] 9)) = u1 at *
    generalize u0.heap.size = y0 at *
    change wpAnyH _ _ _ _ _ _ _ { tmps := #[_, _, _, _, _, _, _, _, _, _, _, _, _, _, _, _], defers := _ } _
    refine wpAnyH_ready (rs := [0, 4]) (by kernel_rfl) (by simp) ?_
    refine (AllReadyH.cons rfl (fun KK hK => ?_) (AllReadyH.cons rfl (fun KK hK => ?_) AllReadyH.nil))
    · skip
      have I2 : Hid (OwnI w (u1.alloc (.cells #[] 9)) (.slice a0 d.nb c0) (.slice a1 d.nc c1) (.slice a2 d.ns c2) (d.part 0 0 0) (.slice (some ⟨u1.heap.size, 0, none⟩) 0 0) (.slice none 0 0) (.slice (some ⟨y0, 0, none⟩) 0 0)) := I1.out.lit0
      go_simp
      replace H := I2.out.h
      refine hK.out _ _ H (fun _ => ?_)
      clear hK KK I1
      generalize (u1.alloc (.cells #[] 9)) = u2 at *
      generalize u1.heap.size = y1 at *
      change wpAnyH _ _ _ _ _ _ _ { tmps := #[_, _, _, _, _, _, _, _, _, _, _, _, _, _, _, _], defers := _ } _
      refine wpAnyH_ready (rs := [3, 4]) (by kernel_rfl) (by simp) ?_
      refine (AllReadyH.cons rfl (fun KK hK => ?_) (AllReadyH.cons rfl (fun KK hK => ?_) AllReadyH.nil))
      · skip
        obtain ⟨i0, k0, u3, hr, hI⟩ := I2.out.app0 a0 c0 DV.out.1 h0 z0
        have I3 : Hid (OwnI w u3 (.slice a0 d.nb c0) (.slice a1 d.nc c1) (.slice a2 d.ns c2) (d.part d.nb 0 0) (.slice i0 d.nb k0) (.slice none 0 0) (.slice (some ⟨y0, 0, none⟩) 0 0)) := hI
        rw [if_pos (by rfl)]
        refine Lib.wp_append_run _ (.tmp 3) (.tmp 5) 24 24 rfl (.slice (some ⟨y1, 0, none⟩) 0 0) (.slice a0 d.nb c0) rfl rfl _ _ hr ?_
        replace H := I3.out.h
        refine hK.out _ _ H (fun _ => ?_)
        clear hK KK I2 hr hI
        change wpAnyH _ _ _ _ _ _ _ { tmps := #[_, _, _, _, _, _, _, _, _, _, _, _, _, _, _, _], defers := _ } _
        refine wpAnyH_ready (rs := [4]) (by kernel_rfl) (by simp) ?_
        refine (AllReadyH.cons rfl (fun KK hK => ?_) AllReadyH.nil)
        have I4 : Hid (OwnI w (u3.alloc (.cells #[] 68)) (.slice a0 d.nb c0) (.slice a1 d.nc c1) (.slice a2 d.ns c2) (d.part d.nb 0 0) (.slice i0 d.nb k0) (.slice (some ⟨u3.heap.size, 0, none⟩) 0 0) (.slice (some ⟨y0, 0, none⟩) 0 0)) := I3.out.lit1
        go_simp
        replace H := I4.out.h
        refine hK.out _ _ H (fun _ => ?_)
        clear hK KK I3
        generalize (u3.alloc (.cells #[] 68)) = u4 at *
        generalize u3.heap.size = y3 at *
        change wpAnyH _ _ _ _ _ _ _ { tmps := #[_, _, _, _, _, _, _, _, _, _, _, _, _, _, _, _], defers := _ } _
        refine wpAnyH_ready (rs := [7]) (by kernel_rfl) (by simp) ?_
        refine (AllReadyH.cons rfl (fun KK hK => ?_) AllReadyH.nil)
        obtain ⟨i1, k1, u5, hr, hI⟩ := I4.out.app1 a1 c1 DV.out.2.1 h1 z1
        have I5 : Hid (OwnI w u5 (.slice a0 d.nb c0) (.slice a1 d.nc c1) (.slice a2 d.ns c2) (d.part d.nb d.nc 0) (.slice i0 d.nb k0) (.slice i1 d.nc k1) (.slice (some ⟨y0, 0, none⟩) 0 0)) := hI
        rw [if_pos (by rfl)]
        refine Lib.wp_append_run _ (.tmp 7) (.tmp 9) 25 25 rfl (.slice (some ⟨y3, 0, none⟩) 0 0) (.slice a1 d.nc c1) rfl rfl _ _ hr ?_
        replace H := I5.out.h
        refine hK.out _ _ H (fun _ => ?_)
        clear hK KK I4 hr hI
        change wpAnyH _ _ _ _ _ _ _ { tmps := #[_, _, _, _, _, _, _, _, _, _, _, _, _, _, _, _], defers := _ } _
        refine wpAnyH_ready (rs := [11]) (by kernel_rfl) (by simp) ?_
        refine (AllReadyH.cons rfl (fun KK hK => ?_) AllReadyH.nil)
        obtain ⟨i2, k2, u6, hr, hI⟩ := I5.out.app2 a2 c2 DV.out.2.2 h2 z2
        have I6 : Hid (OwnI w u6 (.slice a0 d.nb c0) (.slice a1 d.nc c1) (.slice a2 d.ns c2) (d.part d.nb d.nc d.ns) (.slice i0 d.nb k0) (.slice i1 d.nc k1) (.slice i2 d.ns k2)) := hI
        rw [if_pos (by rfl)]
        refine Lib.wp_append_run _ (.tmp 11) (.tmp 13) 24 24 rfl (.slice (some ⟨y0, 0, none⟩) 0 0) (.slice a2 d.ns c2) rfl rfl _ _ hr ?_
        replace H := I6.out.h
        refine hK.out _ _ H (fun _ => ?_)
        clear hK KK I5 hr hI
        change wpAnyH _ _ _ _ _ _ _ { tmps := #[_, _, _, _, _, _, _, _, _, _, _, _, _, _, _, _], defers := _ } _
        refine wpAnyH_take (i := 12) (v := .agg #[.slice i0 d.nb k0, .slice i1 d.nc k1, .slice i2 d.ns k2]) rfl (by kernel_rfl) (by kernel_rfl) (by kernel_rfl) (fun _ _ _ h => h) (Or.inl ⟨by rfl, ?_⟩) H ?_
        · intro w' hSw; go_simp
        change wpAnyH _ _ _ _ _ _ _ { tmps := #[_, _, _, _, _, _, _, _, _, _, _, _, _, _, _, _], defers := _ } _
        refine wpAnyH_ready (rs := [13]) (by kernel_rfl) (by simp) ?_
        refine AllReadyH.cons rfl (fun KK hK => ?_) AllReadyH.nil
        obtain ⟨R3, B3, H, X3, G3⟩ := I6.out
        have x0 := X3.c0
        have x1 := X3.c1
        have x2 := X3.c2
        have f0 := X3.fr 0
        have f1 := X3.fr 1
        have f2 := X3.fr 2
        have O5 : OnlyB (w.heap.size + 1) u6 (((u6.setCell ⟨w.heap.size + 1, 0, none⟩ (.slice i0 d.nb k0)).setCell ⟨w.heap.size + 1, 1, none⟩ (.slice i1 d.nc k1)).setCell ⟨w.heap.size + 1, 2, none⟩ (.slice i2 d.ns k2)) := (((OnlyB.refl _ u6).setCell 0 _).setCell 1 _).setCell 2 _
        have X5 : Box3 (((u6.setCell ⟨w.heap.size + 1, 0, none⟩ (.slice i0 d.nb k0)).setCell ⟨w.heap.size + 1, 1, none⟩ (.slice i1 d.nc k1)).setCell ⟨w.heap.size + 1, 2, none⟩ (.slice i2 d.ns k2)) (w.heap.size + 1) 27 (.slice i0 d.nb k0) (.slice i1 d.nc k1) (.slice i2 d.ns k2) := ((X3.set0 _).set1 _).set2 _
        have R5 : Hid (Rows3 (((u6.setCell ⟨w.heap.size + 1, 0, none⟩ (.slice i0 d.nb k0)).setCell ⟨w.heap.size + 1, 1, none⟩ (.slice i1 d.nc k1)).setCell ⟨w.heap.size + 1, 2, none⟩ (.slice i2 d.ns k2)) w.heap.size d (.slice i0 d.nb k0) (.slice i1 d.nc k1) (.slice i2 d.ns k2)) := ⟨own_mono (R3.t0.onlyB O5 (fun e => by have := (World.ownsRow.lt R3.t0 _ e).1; omega)) (by omega), own_mono (R3.t1.onlyB O5 (fun e => by have := (World.ownsRow.lt R3.t1 _ e).1; omega)) (by omega), own_mono (R3.t2.onlyB O5 (fun e => by have := (World.ownsRow.lt R3.t2 _ e).1; omega)) (by omega), R3.n01, R3.n02, R3.n12⟩
        have B5 : Hid (Below w.heap.size w (((u6.setCell ⟨w.heap.size + 1, 0, none⟩ (.slice i0 d.nb k0)).setCell ⟨w.heap.size + 1, 1, none⟩ (.slice i1 d.nc k1)).setCell ⟨w.heap.size + 1, 2, none⟩ (.slice i2 d.ns k2))) := B3.trans (O5.toBelow (by omega) B3.size)
        have H' : (((u6.setCell ⟨w.heap.size + 1, 0, none⟩ (.slice i0 d.nb k0)).setCell ⟨w.heap.size + 1, 1, none⟩ (.slice i1 d.nc k1)).setCell ⟨w.heap.size + 1, 2, none⟩ (.slice i2 d.ns k2)).cell? ⟨w.heap.size, 0, none⟩ = some (.slice a0 d.nb c0) ∧ (((u6.setCell ⟨w.heap.size + 1, 0, none⟩ (.slice i0 d.nb k0)).setCell ⟨w.heap.size + 1, 1, none⟩ (.slice i1 d.nc k1)).setCell ⟨w.heap.size + 1, 2, none⟩ (.slice i2 d.ns k2)).cell? ⟨w.heap.size, 1, none⟩ = some (.slice a1 d.nc c1) ∧ (((u6.setCell ⟨w.heap.size + 1, 0, none⟩ (.slice i0 d.nb k0)).setCell ⟨w.heap.size + 1, 1, none⟩ (.slice i1 d.nc k1)).setCell ⟨w.heap.size + 1, 2, none⟩ (.slice i2 d.ns k2)).cell? ⟨w.heap.size, 2, none⟩ = some (.slice a2 d.ns c2) := ⟨(cellOf (O5.block w.heap.size (strBlock H.1) (by omega))).trans H.1, (cellOf (O5.block w.heap.size (strBlock H.2.1) (by omega))).trans H.2.1, (cellOf (O5.block w.heap.size (strBlock H.2.2) (by omega))).trans H.2.2⟩
        replace H := H'
        clear H' O5 R3 B3 I6
        go_simp
        refine hK.out _ _ H (fun _ => ?_)
        clear hK KK x0 x1 x2 f0 f1 f2 X3 H
        generalize (((u6.setCell ⟨w.heap.size + 1, 0, none⟩ (.slice i0 d.nb k0)).setCell ⟨w.heap.size + 1, 1, none⟩ (.slice i1 d.nc k1)).setCell ⟨w.heap.size + 1, 2, none⟩ (.slice i2 d.ns k2)) = u9 at *
        refine wpAnyH_done (by kernel_rfl) ?_ _
        refine NoPanic.normal ?_
        have y0 := X5.c0
        have y1 := X5.c1
        have y2 := X5.c2
        clear X5
        go_wp2
        exact ret_cell (b := w.heap.size + 1) (v := .agg #[.slice i0 d.nb k0, .slice i1 d.nc k1, .slice i2 d.ns k2]) Tryd.results19 rfl (by go_simp) ⟨⟨_, _, _, rfl, R5.out⟩, B5.out⟩
      · skip
        have I3 : Hid (OwnI w (u2.alloc (.cells #[] 68)) (.slice a0 d.nb c0) (.slice a1 d.nc c1) (.slice a2 d.ns c2) (d.part 0 0 0) (.slice (some ⟨y1, 0, none⟩) 0 0) (.slice (some ⟨u2.heap.size, 0, none⟩) 0 0) (.slice (some ⟨y0, 0, none⟩) 0 0)) := I2.out.lit1
        go_simp
        replace H := I3.out.h
        refine hK.out _ _ H (fun _ => ?_)
        clear hK KK I2
        generalize (u2.alloc (.cells #[] 68)) = u3 at *
        generalize u2.heap.size = y2 at *
        change wpAnyH _ _ _ _ _ _ _ { tmps := #[_, _, _, _, _, _, _, _, _, _, _, _, _, _, _, _], defers := _ } _
        refine wpAnyH_ready (rs := [3]) (by kernel_rfl) (by simp) ?_
        refine (AllReadyH.cons rfl (fun KK hK => ?_) AllReadyH.nil)
        obtain ⟨i0, k0, u4, hr, hI⟩ := I3.out.app0 a0 c0 DV.out.1 h0 z0
        have I4 : Hid (OwnI w u4 (.slice a0 d.nb c0) (.slice a1 d.nc c1) (.slice a2 d.ns c2) (d.part d.nb 0 0) (.slice i0 d.nb k0) (.slice (some ⟨y2, 0, none⟩) 0 0) (.slice (some ⟨y0, 0, none⟩) 0 0)) := hI
        rw [if_pos (by rfl)]
        refine Lib.wp_append_run _ (.tmp 3) (.tmp 5) 24 24 rfl (.slice (some ⟨y1, 0, none⟩) 0 0) (.slice a0 d.nb c0) rfl rfl _ _ hr ?_
        replace H := I4.out.h
        refine hK.out _ _ H (fun _ => ?_)
        clear hK KK I3 hr hI
        change wpAnyH _ _ _ _ _ _ _ { tmps := #[_, _, _, _, _, _, _, _, _, _, _, _, _, _, _, _], defers := _ } _
        refine wpAnyH_ready (rs := [7]) (by kernel_rfl) (by simp) ?_
        refine (AllReadyH.cons rfl (fun KK hK => ?_) AllReadyH.nil)
        obtain ⟨i1, k1, u5, hr, hI⟩ := I4.out.app1 a1 c1 DV.out.2.1 h1 z1
        have I5 : Hid (OwnI w u5 (.slice a0 d.nb c0) (.slice a1 d.nc c1) (.slice a2 d.ns c2) (d.part d.nb d.nc 0) (.slice i0 d.nb k0) (.slice i1 d.nc k1) (.slice (some ⟨y0, 0, none⟩) 0 0)) := hI
        rw [if_pos (by rfl)]
        refine Lib.wp_append_run _ (.tmp 7) (.tmp 9) 25 25 rfl (.slice (some ⟨y2, 0, none⟩) 0 0) (.slice a1 d.nc c1) rfl rfl _ _ hr ?_
        replace H := I5.out.h
        refine hK.out _ _ H (fun _ => ?_)
        clear hK KK I4 hr hI
        change wpAnyH _ _ _ _ _ _ _ { tmps := #[_, _, _, _, _, _, _, _, _, _, _, _, _, _, _, _], defers := _ } _
        refine wpAnyH_ready (rs := [11]) (by kernel_rfl) (by simp) ?_
        refine (AllReadyH.cons rfl (fun KK hK => ?_) AllReadyH.nil)
        obtain ⟨i2, k2, u6, hr, hI⟩ := I5.out.app2 a2 c2 DV.out.2.2 h2 z2
        have I6 : Hid (OwnI w u6 (.slice a0 d.nb c0) (.slice a1 d.nc c1) (.slice a2 d.ns c2) (d.part d.nb d.nc d.ns) (.slice i0 d.nb k0) (.slice i1 d.nc k1) (.slice i2 d.ns k2)) := hI
        rw [if_pos (by rfl)]
        refine Lib.wp_append_run _ (.tmp 11) (.tmp 13) 24 24 rfl (.slice (some ⟨y0, 0, none⟩) 0 0) (.slice a2 d.ns c2) rfl rfl _ _ hr ?_
        replace H := I6.out.h
        refine hK.out _ _ H (fun _ => ?_)
        clear hK KK I5 hr hI
        change wpAnyH _ _ _ _ _ _ _ { tmps := #[_, _, _, _, _, _, _, _, _, _, _, _, _, _, _, _], defers := _ } _
        refine wpAnyH_take (i := 12) (v := .agg #[.slice i0 d.nb k0, .slice i1 d.nc k1, .slice i2 d.ns k2]) rfl (by kernel_rfl) (by kernel_rfl) (by kernel_rfl) (fun _ _ _ h => h) (Or.inl ⟨by rfl, ?_⟩) H ?_
        · intro w' hSw; go_simp
        change wpAnyH _ _ _ _ _ _ _ { tmps := #[_, _, _, _, _, _, _, _, _, _, _, _, _, _, _, _], defers := _ } _
        refine wpAnyH_ready (rs := [13]) (by kernel_rfl) (by simp) ?_
        refine AllReadyH.cons rfl (fun KK hK => ?_) AllReadyH.nil
        obtain ⟨R3, B3, H, X3, G3⟩ := I6.out
        have x0 := X3.c0
        have x1 := X3.c1
        have x2 := X3.c2
        have f0 := X3.fr 0
        have f1 := X3.fr 1
        have f2 := X3.fr 2
        have O5 : OnlyB (w.heap.size + 1) u6 (((u6.setCell ⟨w.heap.size + 1, 0, none⟩ (.slice i0 d.nb k0)).setCell ⟨w.heap.size + 1, 1, none⟩ (.slice i1 d.nc k1)).setCell ⟨w.heap.size + 1, 2, none⟩ (.slice i2 d.ns k2)) := (((OnlyB.refl _ u6).setCell 0 _).setCell 1 _).setCell 2 _
        have X5 : Box3 (((u6.setCell ⟨w.heap.size + 1, 0, none⟩ (.slice i0 d.nb k0)).setCell ⟨w.heap.size + 1, 1, none⟩ (.slice i1 d.nc k1)).setCell ⟨w.heap.size + 1, 2, none⟩ (.slice i2 d.ns k2)) (w.heap.size + 1) 27 (.slice i0 d.nb k0) (.slice i1 d.nc k1) (.slice i2 d.ns k2) := ((X3.set0 _).set1 _).set2 _
        have R5 : Hid (Rows3 (((u6.setCell ⟨w.heap.size + 1, 0, none⟩ (.slice i0 d.nb k0)).setCell ⟨w.heap.size + 1, 1, none⟩ (.slice i1 d.nc k1)).setCell ⟨w.heap.size + 1, 2, none⟩ (.slice i2 d.ns k2)) w.heap.size d (.slice i0 d.nb k0) (.slice i1 d.nc k1) (.slice i2 d.ns k2)) := ⟨own_mono (R3.t0.onlyB O5 (fun e => by have := (World.ownsRow.lt R3.t0 _ e).1; omega)) (by omega), own_mono (R3.t1.onlyB O5 (fun e => by have := (World.ownsRow.lt R3.t1 _ e).1; omega)) (by omega), own_mono (R3.t2.onlyB O5 (fun e => by have := (World.ownsRow.lt R3.t2 _ e).1; omega)) (by omega), R3.n01, R3.n02, R3.n12⟩
        have B5 : Hid (Below w.heap.size w (((u6.setCell ⟨w.heap.size + 1, 0, none⟩ (.slice i0 d.nb k0)).setCell ⟨w.heap.size + 1, 1, none⟩ (.slice i1 d.nc k1)).setCell ⟨w.heap.size + 1, 2, none⟩ (.slice i2 d.ns k2))) := B3.trans (O5.toBelow (by omega) B3.size)
        have H' : (((u6.setCell ⟨w.heap.size + 1, 0, none⟩ (.slice i0 d.nb k0)).setCell ⟨w.heap.size + 1, 1, none⟩ (.slice i1 d.nc k1)).setCell ⟨w.heap.size + 1, 2, none⟩ (.slice i2 d.ns k2)).cell? ⟨w.heap.size, 0, none⟩ = some (.slice a0 d.nb c0) ∧ (((u6.setCell ⟨w.heap.size + 1, 0, none⟩ (.slice i0 d.nb k0)).setCell ⟨w.heap.size + 1, 1, none⟩ (.slice i1 d.nc k1)).setCell ⟨w.heap.size + 1, 2, none⟩ (.slice i2 d.ns k2)).cell? ⟨w.heap.size, 1, none⟩ = some (.slice a1 d.nc c1) ∧ (((u6.setCell ⟨w.heap.size + 1, 0, none⟩ (.slice i0 d.nb k0)).setCell ⟨w.heap.size + 1, 1, none⟩ (.slice i1 d.nc k1)).setCell ⟨w.heap.size + 1, 2, none⟩ (.slice i2 d.ns k2)).cell? ⟨w.heap.size, 2, none⟩ = some (.slice a2 d.ns c2) := ⟨(cellOf (O5.block w.heap.size (strBlock H.1) (by omega))).trans H.1, (cellOf (O5.block w.heap.size (strBlock H.2.1) (by omega))).trans H.2.1, (cellOf (O5.block w.heap.size (strBlock H.2.2) (by omega))).trans H.2.2⟩
        replace H := H'
        clear H' O5 R3 B3 I6
        go_simp
        refine hK.out _ _ H (fun _ => ?_)
        clear hK KK x0 x1 x2 f0 f1 f2 X3 H
        generalize (((u6.setCell ⟨w.heap.size + 1, 0, none⟩ (.slice i0 d.nb k0)).setCell ⟨w.heap.size + 1, 1, none⟩ (.slice i1 d.nc k1)).setCell ⟨w.heap.size + 1, 2, none⟩ (.slice i2 d.ns k2)) = u9 at *
        refine wpAnyH_done (by kernel_rfl) ?_ _
        refine NoPanic.normal ?_
        have y0 := X5.c0
        have y1 := X5.c1
        have y2 := X5.c2
        clear X5
        go_wp2
        exact ret_cell (b := w.heap.size + 1) (v := .agg #[.slice i0 d.nb k0, .slice i1 d.nc k1, .slice i2 d.ns k2]) Tryd.results19 rfl (by go_simp) ⟨⟨_, _, _, rfl, R5.out⟩, B5.out⟩
    · skip
      have I2 : Hid (OwnI w (u1.alloc (.cells #[] 68)) (.slice a0 d.nb c0) (.slice a1 d.nc c1) (.slice a2 d.ns c2) (d.part 0 0 0) (.slice none 0 0) (.slice (some ⟨u1.heap.size, 0, none⟩) 0 0) (.slice (some ⟨y0, 0, none⟩) 0 0)) := I1.out.lit1
      go_simp
      replace H := I2.out.h
      refine hK.out _ _ H (fun _ => ?_)
      clear hK KK I1
      generalize (u1.alloc (.cells #[] 68)) = u2 at *
      generalize u1.heap.size = y1 at *
      change wpAnyH _ _ _ _ _ _ _ { tmps := #[_, _, _, _, _, _, _, _, _, _, _, _, _, _, _, _], defers := _ } _
      refine wpAnyH_ready (rs := [0]) (by kernel_rfl) (by simp) ?_
      refine (AllReadyH.cons rfl (fun KK hK => ?_) AllReadyH.nil)
      have I3 : Hid (OwnI w (u2.alloc (.cells #[] 9)) (.slice a0 d.nb c0) (.slice a1 d.nc c1) (.slice a2 d.ns c2) (d.part 0 0 0) (.slice (some ⟨u2.heap.size, 0, none⟩) 0 0) (.slice (some ⟨y1, 0, none⟩) 0 0) (.slice (some ⟨y0, 0, none⟩) 0 0)) := I2.out.lit0
      go_simp
      replace H := I3.out.h
      refine hK.out _ _ H (fun _ => ?_)
      clear hK KK I2
      generalize (u2.alloc (.cells #[] 9)) = u3 at *
      generalize u2.heap.size = y2 at *
      change wpAnyH _ _ _ _ _ _ _ { tmps := #[_, _, _, _, _, _, _, _, _, _, _, _, _, _, _, _], defers := _ } _
      refine wpAnyH_ready (rs := [3]) (by kernel_rfl) (by simp) ?_
      refine (AllReadyH.cons rfl (fun KK hK => ?_) AllReadyH.nil)
      obtain ⟨i0, k0, u4, hr, hI⟩ := I3.out.app0 a0 c0 DV.out.1 h0 z0
      have I4 : Hid (OwnI w u4 (.slice a0 d.nb c0) (.slice a1 d.nc c1) (.slice a2 d.ns c2) (d.part d.nb 0 0) (.slice i0 d.nb k0) (.slice (some ⟨y1, 0, none⟩) 0 0) (.slice (some ⟨y0, 0, none⟩) 0 0)) := hI
      rw [if_pos (by rfl)]
      refine Lib.wp_append_run _ (.tmp 3) (.tmp 5) 24 24 rfl (.slice (some ⟨y2, 0, none⟩) 0 0) (.slice a0 d.nb c0) rfl rfl _ _ hr ?_
      replace H := I4.out.h
      refine hK.out _ _ H (fun _ => ?_)
      clear hK KK I3 hr hI
      change wpAnyH _ _ _ _ _ _ _ { tmps := #[_, _, _, _, _, _, _, _, _, _, _, _, _, _, _, _], defers := _ } _
      refine wpAnyH_ready (rs := [7]) (by kernel_rfl) (by simp) ?_
      refine (AllReadyH.cons rfl (fun KK hK => ?_) AllReadyH.nil)
      obtain ⟨i1, k1, u5, hr, hI⟩ := I4.out.app1 a1 c1 DV.out.2.1 h1 z1
      have I5 : Hid (OwnI w u5 (.slice a0 d.nb c0) (.slice a1 d.nc c1) (.slice a2 d.ns c2) (d.part d.nb d.nc 0) (.slice i0 d.nb k0) (.slice i1 d.nc k1) (.slice (some ⟨y0, 0, none⟩) 0 0)) := hI
      rw [if_pos (by rfl)]
      refine Lib.wp_append_run _ (.tmp 7) (.tmp 9) 25 25 rfl (.slice (some ⟨y1, 0, none⟩) 0 0) (.slice a1 d.nc c1) rfl rfl _ _ hr ?_
      replace H := I5.out.h
      refine hK.out _ _ H (fun _ => ?_)
      clear hK KK I4 hr hI
      change wpAnyH _ _ _ _ _ _ _ { tmps := #[_, _, _, _, _, _, _, _, _, _, _, _, _, _, _, _], defers := _ } _
      refine wpAnyH_ready (rs := [11]) (by kernel_rfl) (by simp) ?_
      refine (AllReadyH.cons rfl (fun KK hK => ?_) AllReadyH.nil)
      obtain ⟨i2, k2, u6, hr, hI⟩ := I5.out.app2 a2 c2 DV.out.2.2 h2 z2
      have I6 : Hid (OwnI w u6 (.slice a0 d.nb c0) (.slice a1 d.nc c1) (.slice a2 d.ns c2) (d.part d.nb d.nc d.ns) (.slice i0 d.nb k0) (.slice i1 d.nc k1) (.slice i2 d.ns k2)) := hI
      rw [if_pos (by rfl)]
      refine Lib.wp_append_run _ (.tmp 11) (.tmp 13) 24 24 rfl (.slice (some ⟨y0, 0, none⟩) 0 0) (.slice a2 d.ns c2) rfl rfl _ _ hr ?_
      replace H := I6.out.h
      refine hK.out _ _ H (fun _ => ?_)
      clear hK KK I5 hr hI
      change wpAnyH _ _ _ _ _ _ _ { tmps := #[_, _, _, _, _, _, _, _, _, _, _, _, _, _, _, _], defers := _ } _
      refine wpAnyH_take (i := 12) (v := .agg #[.slice i0 d.nb k0, .slice i1 d.nc k1, .slice i2 d.ns k2]) rfl (by kernel_rfl) (by kernel_rfl) (by kernel_rfl) (fun _ _ _ h => h) (Or.inl ⟨by rfl, ?_⟩) H ?_
      · intro w' hSw; go_simp
      change wpAnyH _ _ _ _ _ _ _ { tmps := #[_, _, _, _, _, _, _, _, _, _, _, _, _, _, _, _], defers := _ } _
      refine wpAnyH_ready (rs := [13]) (by kernel_rfl) (by simp) ?_
      refine AllReadyH.cons rfl (fun KK hK => ?_) AllReadyH.nil
      obtain ⟨R3, B3, H, X3, G3⟩ := I6.out
      have x0 := X3.c0
      have x1 := X3.c1
      have x2 := X3.c2
      have f0 := X3.fr 0
      have f1 := X3.fr 1
      have f2 := X3.fr 2
      have O5 : OnlyB (w.heap.size + 1) u6 (((u6.setCell ⟨w.heap.size + 1, 0, none⟩ (.slice i0 d.nb k0)).setCell ⟨w.heap.size + 1, 1, none⟩ (.slice i1 d.nc k1)).setCell ⟨w.heap.size + 1, 2, none⟩ (.slice i2 d.ns k2)) := (((OnlyB.refl _ u6).setCell 0 _).setCell 1 _).setCell 2 _
      have X5 : Box3 (((u6.setCell ⟨w.heap.size + 1, 0, none⟩ (.slice i0 d.nb k0)).setCell ⟨w.heap.size + 1, 1, none⟩ (.slice i1 d.nc k1)).setCell ⟨w.heap.size + 1, 2, none⟩ (.slice i2 d.ns k2)) (w.heap.size + 1) 27 (.slice i0 d.nb k0) (.slice i1 d.nc k1) (.slice i2 d.ns k2) := ((X3.set0 _).set1 _).set2 _
      have R5 : Hid (Rows3 (((u6.setCell ⟨w.heap.size + 1, 0, none⟩ (.slice i0 d.nb k0)).setCell ⟨w.heap.size + 1, 1, none⟩ (.slice i1 d.nc k1)).setCell ⟨w.heap.size + 1, 2, none⟩ (.slice i2 d.ns k2)) w.heap.size d (.slice i0 d.nb k0) (.slice i1 d.nc k1) (.slice i2 d.ns k2)) := ⟨own_mono (R3.t0.onlyB O5 (fun e => by have := (World.ownsRow.lt R3.t0 _ e).1; omega)) (by omega), own_mono (R3.t1.onlyB O5 (fun e => by have := (World.ownsRow.lt R3.t1 _ e).1; omega)) (by omega), own_mono (R3.t2.onlyB O5 (fun e => by have := (World.ownsRow.lt R3.t2 _ e).1; omega)) (by omega), R3.n01, R3.n02, R3.n12⟩
      have B5 : Hid (Below w.heap.size w (((u6.setCell ⟨w.heap.size + 1, 0, none⟩ (.slice i0 d.nb k0)).setCell ⟨w.heap.size + 1, 1, none⟩ (.slice i1 d.nc k1)).setCell ⟨w.heap.size + 1, 2, none⟩ (.slice i2 d.ns k2))) := B3.trans (O5.toBelow (by omega) B3.size)
      have H' : (((u6.setCell ⟨w.heap.size + 1, 0, none⟩ (.slice i0 d.nb k0)).setCell ⟨w.heap.size + 1, 1, none⟩ (.slice i1 d.nc k1)).setCell ⟨w.heap.size + 1, 2, none⟩ (.slice i2 d.ns k2)).cell? ⟨w.heap.size, 0, none⟩ = some (.slice a0 d.nb c0) ∧ (((u6.setCell ⟨w.heap.size + 1, 0, none⟩ (.slice i0 d.nb k0)).setCell ⟨w.heap.size + 1, 1, none⟩ (.slice i1 d.nc k1)).setCell ⟨w.heap.size + 1, 2, none⟩ (.slice i2 d.ns k2)).cell? ⟨w.heap.size, 1, none⟩ = some (.slice a1 d.nc c1) ∧ (((u6.setCell ⟨w.heap.size + 1, 0, none⟩ (.slice i0 d.nb k0)).setCell ⟨w.heap.size + 1, 1, none⟩ (.slice i1 d.nc k1)).setCell ⟨w.heap.size + 1, 2, none⟩ (.slice i2 d.ns k2)).cell? ⟨w.heap.size, 2, none⟩ = some (.slice a2 d.ns c2) := ⟨(cellOf (O5.block w.heap.size (strBlock H.1) (by omega))).trans H.1, (cellOf (O5.block w.heap.size (strBlock H.2.1) (by omega))).trans H.2.1, (cellOf (O5.block w.heap.size (strBlock H.2.2) (by omega))).trans H.2.2⟩
      replace H := H'
      clear H' O5 R3 B3 I6
      go_simp
      refine hK.out _ _ H (fun _ => ?_)
      clear hK KK x0 x1 x2 f0 f1 f2 X3 H
      generalize (((u6.setCell ⟨w.heap.size + 1, 0, none⟩ (.slice i0 d.nb k0)).setCell ⟨w.heap.size + 1, 1, none⟩ (.slice i1 d.nc k1)).setCell ⟨w.heap.size + 1, 2, none⟩ (.slice i2 d.ns k2)) = u9 at *
      refine wpAnyH_done (by kernel_rfl) ?_ _
      refine NoPanic.normal ?_
      have y0 := X5.c0
      have y1 := X5.c1
      have y2 := X5.c2
      clear X5
      go_wp2
      exact ret_cell (b := w.heap.size + 1) (v := .agg #[.slice i0 d.nb k0, .slice i1 d.nc k1, .slice i2 d.ns k2]) Tryd.results19 rfl (by go_simp) ⟨⟨_, _, _, rfl, R5.out⟩, B5.out⟩
end Go.Proofs.YtgdfhgepbamhmaaDoor
