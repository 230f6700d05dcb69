/-
  Texts of the proof, joined: Answer.
-/
import Derived.Test.YtpngjkhncfbnpaaDoorV42
namespace Go.Proofs.YtpngjkhncfbnpaaDoor
open Go.ChangeShapes Go.WideShapes Go.ChangeAt Go.RowKit
set_option linter.unusedVariables false
theorem adv_find {b b' : Bk} {q : Rq} {cd mk : Int} (h : AdvIs b q b' cd mk) (hk : b.Ok) (hq : q.Ok) : ∃ y : Se, ((b.kS q.se < b.ns ∧ (b.S (b.kS q.se)).id = q.se ∧ y = b.S (b.kS q.se)) ∨ (¬ (b.kS q.se < b.ns ∧ (b.S (b.kS q.se)).id = q.se) ∧ y = seZ)) ∧
    ((y.sq = q.sq ∧ b' = b ∧ cd = y.cd ∧ mk = y.ma) ∨ (q.sq < y.sq ∧ b' = b ∧ cd = 14 ∧ mk = 0) ∨ (y = seZ ∧ b.ns = 6 ∧ b' = b ∧ cd = 6 ∧ mk = 0) ∨
     (y.sq < q.sq ∧ (1 ≤ y.sq ∨ (y = seZ ∧ b.ns < 6)) ∧ ∃ b1, b1.Ok ∧ StepIs b q.x b1 cd mk ∧ ((b1.hasS q.se ∧ b' = b1.setS ⟨q.se, q.sq, cd, mk⟩) ∨ (¬ b1.hasS q.se ∧ b' = b1.insS ⟨q.se, q.sq, cd, mk⟩)))) := by
  have h1 := hq.1.2
  rcases h with ⟨g, e, rfl, rfl, rfl⟩ | ⟨g, e, rfl, rfl, rfl⟩ | ⟨g, e, rfl, rfl, rfl⟩ | ⟨g, e, b1, hs, rfl⟩ | ⟨g, e, b1, hs, rfl⟩
  · exact ⟨_, .inl ⟨g.1, g.2, rfl⟩, .inl ⟨e, rfl, rfl, rfl⟩⟩
  · exact ⟨_, .inl ⟨g.1, g.2, rfl⟩, .inr (.inl ⟨e, rfl, rfl, rfl⟩)⟩
  · exact ⟨_, .inr ⟨g, rfl⟩, .inr (.inr (.inl ⟨rfl, e, rfl, rfl, rfl⟩))⟩
  · obtain ⟨k1, k2, k3, k4, k5⟩ := hs.kept hk hq.2
    exact ⟨_, .inl ⟨g.1, g.2, rfl⟩, .inr (.inr (.inr ⟨e, .inl (hk.2.2 _ g.1).1.1.2.1, b1, k1, hs, .inl ⟨(hasS_of k2 k3 _).2.2 g, rfl⟩⟩))⟩
  · obtain ⟨k1, k2, k3, k4, k5⟩ := hs.kept hk hq.2
    exact ⟨_, .inr ⟨g, rfl⟩, .inr (.inr (.inr ⟨by show (0 : Int) < q.sq; omega, .inr ⟨rfl, e⟩, b1, k1, hs, .inr ⟨fun q => g ((hasS_of k2 k3 _).2.1 q), rfl⟩⟩))⟩
set_option maxRecDepth 100000 in
set_option maxHeartbeats 8000000 in
theorem answer_any (p B : Nat) (b b' : Bk) (q : Rq) (cd mk : Int) (hk : b.Ok) (hq : q.Ok) (ha : AdvIs b q b' cd mk) (v0 v1 : Value) (w : World) (hB : B ≤ w.heap.size) (h : BkP w p B b v0 v1) :
    Calls Tryd.prog 51 #[.pointer (some ⟨p, 0, none⟩), .agg #[.int .i64 q.se, .int .i64 q.sq, .int .i64 q.x.v, .int .i64 q.x.c, .string q.x.r]] w fun e w' => RetRs p B b' cd mk v0 v1 w e w' := by
  obtain ⟨a0, c0, rfl⟩ := h.r.e0.form
  obtain ⟨a1, c1, rfl⟩ := h.r.e1.form
  obtain ⟨y, hy, hcase⟩ := adv_find ha hk hq
  have FI : Hid (∀ w : World, Els w 4 a1 b.ns (seF b.S) → Calls Tryd.prog 89 #[.slice a1 b.ns c1, .int .i64 q.se, .func (.func 90) #[] #[]] w fun e w' => e = .returned (.agg #[.int .i64 y.id, .int .i64 y.sq, .int .i64 y.cd, .int .i64 y.ma]) ∧ Below w.heap.size w w') := fun w hE => findSession_any a1 b.ns c1 b.S q.se _ (hk.posS q.se) (by have := hk.2.1; omega) w hE y hy
  have AS : Hid (∀ w : World, Calls Tryd.prog 88 #[.agg #[.int .i64 q.se, .int .i64 q.sq, .int .i64 q.x.v, .int .i64 q.x.c, .string q.x.r]] w fun e w' => e = .returned (.agg #[.int .i64 q.x.v, .int .i64 q.x.c, .string q.x.r]) ∧ Below w.heap.size w w') := asked_any q
  have RA : Hid (∀ (b1 : Bk) (w : World), StepIs b q.x b1 cd mk → B ≤ w.heap.size → BkP w p B b (.slice a0 b.nr c0) (.slice a1 b.ns c1) → Calls Tryd.prog 91 #[.pointer (some ⟨p, 0, none⟩), .agg #[.int .i64 q.x.v, .int .i64 q.x.c, .string q.x.r]] w fun e w' => RetRs p B b1 cd mk (.slice a0 b.nr c0) (.slice a1 b.ns c1) w e w') := fun b1 w hs hB h => raise_any p B b b1 q.x cd mk hk hs _ _ w hB h
  have P0 : Hid (BkP (w.alloc (.cells #[.int .i64 q.se, .int .i64 q.sq, .int .i64 q.x.v, .int .i64 q.x.c, .string q.x.r] 52)) p B b (.slice a0 b.nr c0) (.slice a1 b.ns c1)) := h.below ((Below.refl _ _).alloc (Nat.le_refl _) _)
  have XQ : Hid (BoxQ (w.alloc (.cells #[.int .i64 q.se, .int .i64 q.sq, .int .i64 q.x.v, .int .i64 q.x.c, .string q.x.r] 52)) w.heap.size q) := BoxQ.madeAt rfl q
  have A1 : Hid (Below w.heap.size w (w.alloc (.cells #[.int .i64 q.se, .int .i64 q.sq, .int .i64 q.x.v, .int .i64 q.x.c, .string q.x.r] 52))) := (Below.refl _ _).alloc (Nat.le_refl _) _
  have HPL : Hid (p < w.heap.size) := h.x.lt
  have G0 : Hid (∀ g, (Value.slice a0 b.nr c0).ownBlock = some g → g < w.heap.size) := fun g e => (h.r.e0.ge g e).2
  have G1 : Hid (∀ g, (Value.slice a1 b.ns c1).ownBlock = some g → g < w.heap.size) := fun g e => (h.r.e1.ge g e).2
  have HC : Hid ((y.sq = q.sq ∧ b' = b ∧ cd = y.cd ∧ mk = y.ma) ∨ (q.sq < y.sq ∧ b' = b ∧ cd = 14 ∧ mk = 0) ∨ (y = seZ ∧ b.ns = 6 ∧ b' = b ∧ cd = 6 ∧ mk = 0) ∨
     (y.sq < q.sq ∧ (1 ≤ y.sq ∨ (y = seZ ∧ b.ns < 6)) ∧ ∃ b1, b1.Ok ∧ StepIs b q.x b1 cd mk ∧ ((b1.hasS q.se ∧ b' = b1.setS ⟨q.se, q.sq, cd, mk⟩) ∨ (¬ b1.hasS q.se ∧ b' = b1.insS ⟨q.se, q.sq, cd, mk⟩)))) := hcase
  have HBw : Hid (B ≤ w.heap.size) := hB
  have HQ1 : Hid (1 ≤ q.sq) := hq.1.2.1
  clear h hk hy hcase hB ha hq
  go_enter Tryd.func51, Tryd.ntmps51
  go_wp2_with fail
  generalize (w.alloc (.cells #[.int .i64 q.se, .int .i64 q.sq, .int .i64 q.x.v, .int .i64 q.x.c, .string q.x.r] 52)) = u at *
  obtain ⟨q0, hq0⟩ : ∃ q0, q0 = w.heap.size := ⟨_, rfl⟩
  rw [← hq0] at XQ HPL G0 G1 ⊢
  have Q0 : Hid (q0 = w.heap.size) := hq0
  clear hq0
  go_cut [6] (fun pv wx => ∃ r, pv = .pointer (some ⟨r, 0, none⟩) ∧ Box4 wx r 100 (.int .i64 y.id) (.int .i64 y.sq) (.int .i64 y.cd) (.int .i64 y.ma) ∧ Below u.heap.size u wx)
  case first =>
    have H : Below u.heap.size u u.drew := (Below.refl _ _).drew
    refine wp_region_noPanic ?_
    refine wp_region_held_drew (S := fun w' => Below u.heap.size u w') (by kernel_rfl) H (fun _ => ?_)
    generalize u.drew = y0 at *
    refine wpAnyH_take (i := 0) (v := .pointer (some ⟨p, 0, none⟩)) rfl (by kernel_rfl) (by kernel_rfl) (by kernel_rfl) (fun _ _ _ h => h) (Or.inl ⟨by rfl, ?_⟩) H ?_
    · intro w' hSw; go_simp
    change wpAnyH _ _ _ _ _ _ _ { tmps := #[_,_,_,_,_,_,_,_,_,_,_,_,_,_,_,_,_,_,_,_,_,_,_,_,_,_,_,_,_,_,_,_,_,_,_,_,_,_,_,_,_,_,_,_,_,_,_,_,_,_,_,_,_,_,_,_,_,_,_,_,_,_,_,_,_,_,_,_,_,_], defers := _ } _
    refine wpAnyH_take (i := 1) (v := .pointer (some ⟨p, 0, none⟩)) rfl (by kernel_rfl) (by kernel_rfl) (by kernel_rfl) (fun _ _ _ h => h) (Or.inl ⟨by rfl, ?_⟩) H ?_
    · intro w' hSw; go_simp
    change wpAnyH _ _ _ _ _ _ _ { tmps := #[_,_,_,_,_,_,_,_,_,_,_,_,_,_,_,_,_,_,_,_,_,_,_,_,_,_,_,_,_,_,_,_,_,_,_,_,_,_,_,_,_,_,_,_,_,_,_,_,_,_,_,_,_,_,_,_,_,_,_,_,_,_,_,_,_,_,_,_,_,_], defers := _ } _
    refine wpAnyH_take (i := 2) (v := .pointer (some ⟨p, 1, none⟩)) rfl (by kernel_rfl) (by kernel_rfl) (by kernel_rfl) (fun _ _ _ h => h) (Or.inl ⟨by rfl, ?_⟩) H ?_
    · intro w' hSw; go_simp
    change wpAnyH _ _ _ _ _ _ _ { tmps := #[_,_,_,_,_,_,_,_,_,_,_,_,_,_,_,_,_,_,_,_,_,_,_,_,_,_,_,_,_,_,_,_,_,_,_,_,_,_,_,_,_,_,_,_,_,_,_,_,_,_,_,_,_,_,_,_,_,_,_,_,_,_,_,_,_,_,_,_,_,_], defers := _ } _
    refine wpAnyH_take (i := 3) (v := .slice a1 b.ns c1) rfl (by kernel_rfl) (by kernel_rfl) (by kernel_rfl) (fun _ _ _ h => h) (Or.inl ⟨by rfl, ?_⟩) H ?_
    · intro w' hSw; have t0 := (P0.out.x.below hSw).c1; clear hSw; go_simp
    change wpAnyH _ _ _ _ _ _ _ { tmps := #[_,_,_,_,_,_,_,_,_,_,_,_,_,_,_,_,_,_,_,_,_,_,_,_,_,_,_,_,_,_,_,_,_,_,_,_,_,_,_,_,_,_,_,_,_,_,_,_,_,_,_,_,_,_,_,_,_,_,_,_,_,_,_,_,_,_,_,_,_,_], defers := _ } _
    refine wpAnyH_take (i := 4) (v := .pointer (some ⟨q0, 0, none⟩)) rfl (by kernel_rfl) (by kernel_rfl) (by kernel_rfl) (fun _ _ _ h => h) (Or.inl ⟨by rfl, ?_⟩) H ?_
    · intro w' hSw; go_simp
    change wpAnyH _ _ _ _ _ _ _ { tmps := #[_,_,_,_,_,_,_,_,_,_,_,_,_,_,_,_,_,_,_,_,_,_,_,_,_,_,_,_,_,_,_,_,_,_,_,_,_,_,_,_,_,_,_,_,_,_,_,_,_,_,_,_,_,_,_,_,_,_,_,_,_,_,_,_,_,_,_,_,_,_], defers := _ } _
    refine wpAnyH_take (i := 5) (v := .int .i64 q.se) rfl (by kernel_rfl) (by kernel_rfl) (by kernel_rfl) (fun _ _ _ h => h) (Or.inl ⟨by rfl, ?_⟩) H ?_
    · intro w' hSw; have t0 := (XQ.out.below hSw).c0; clear hSw; go_simp
    change wpAnyH _ _ _ _ _ _ _ { tmps := #[_,_,_,_,_,_,_,_,_,_,_,_,_,_,_,_,_,_,_,_,_,_,_,_,_,_,_,_,_,_,_,_,_,_,_,_,_,_,_,_,_,_,_,_,_,_,_,_,_,_,_,_,_,_,_,_,_,_,_,_,_,_,_,_,_,_,_,_,_,_], defers := _ } _
    refine wpAnyH_ready (rs := [6, 7]) (by kernel_rfl) (by simp) ?_
    refine (AllReadyH.cons rfl (fun KK hK => ?_) (AllReadyH.cons rfl (fun KK hK => ?_) AllReadyH.nil))
    · skip
      go_simp
      refine (FI.out _ (P0.out.r.e1.els.below H)).mono ?_
      rintro e y1 ⟨rfl, hb⟩
      replace H : Below u.heap.size u y1 := H.trans (hb.mono H.size)
      clear hb
      refine hK.out _ _ H (fun _ => ?_)
      clear hK KK
      change wpAnyH _ _ _ _ _ _ _ { tmps := #[_,_,_,_,_,_,_,_,_,_,_,_,_,_,_,_,_,_,_,_,_,_,_,_,_,_,_,_,_,_,_,_,_,_,_,_,_,_,_,_,_,_,_,_,_,_,_,_,_,_,_,_,_,_,_,_,_,_,_,_,_,_,_,_,_,_,_,_,_,_], defers := _ } _
      refine wpAnyH_ready (rs := [7]) (by kernel_rfl) (by simp) ?_
      refine (AllReadyH.cons rfl (fun KK hK => ?_) AllReadyH.nil)
      go_simp
      have hb : Below y1.heap.size y1 (y1.alloc (.cells #[.int .i64 0, .int .i64 0, .int .i64 0, .int .i64 0] 100)) := (Below.refl _ _).alloc (Nat.le_refl _) _
      have PZ : Hid (Box4 (y1.alloc (.cells #[.int .i64 0, .int .i64 0, .int .i64 0, .int .i64 0] 100)) y1.heap.size 100 (.int .i64 0) (.int .i64 0) (.int .i64 0) (.int .i64 0)) := Box4.madeAt rfl _ _ _ _ _
      have Lpb : Hid (u.heap.size ≤ y1.heap.size) := H.size
      replace H : Below u.heap.size u (y1.alloc (.cells #[.int .i64 0, .int .i64 0, .int .i64 0, .int .i64 0] 100)) := H.trans (hb.mono H.size)
      clear hb
      refine hK.out _ _ H (fun _ => ?_)
      clear hK KK
      generalize (y1.alloc (.cells #[.int .i64 0, .int .i64 0, .int .i64 0, .int .i64 0] 100)) = y2 at *
      generalize y1.heap.size = pb at *
      change wpAnyH _ _ _ _ _ _ _ { tmps := #[_,_,_,_,_,_,_,_,_,_,_,_,_,_,_,_,_,_,_,_,_,_,_,_,_,_,_,_,_,_,_,_,_,_,_,_,_,_,_,_,_,_,_,_,_,_,_,_,_,_,_,_,_,_,_,_,_,_,_,_,_,_,_,_,_,_,_,_,_,_], defers := _ } _
      refine wpAnyH_ready (rs := [8]) (by kernel_rfl) (by simp) ?_
      refine (AllReadyH.cons rfl (fun KK hK => ?_) AllReadyH.nil)
      have t0 := PZ.out.c0
      have t1 := PZ.out.c1
      have t2 := PZ.out.c2
      have t3 := PZ.out.c3
      have f0 := PZ.out.fr 0
      have f1 := PZ.out.fr 1
      have f2 := PZ.out.fr 2
      have f3 := PZ.out.fr 3
      go_simp
      refine hK.out _ _ ((((H.setCell (by exact Lpb.out) _).setCell (by exact Lpb.out) _).setCell (by exact Lpb.out) _).setCell (by exact Lpb.out) _) (fun _ => ?_)
      clear hK KK
      change wpAnyH _ _ _ _ _ _ _ { tmps := #[_,_,_,_,_,_,_,_,_,_,_,_,_,_,_,_,_,_,_,_,_,_,_,_,_,_,_,_,_,_,_,_,_,_,_,_,_,_,_,_,_,_,_,_,_,_,_,_,_,_,_,_,_,_,_,_,_,_,_,_,_,_,_,_,_,_,_,_,_,_], defers := _ } _
      refine wpAnyH_done (by kernel_rfl) ?_ _
      refine NoPanic.normal ?_
      have XY : Hid (Box4 ((((y2.setCell ⟨pb, 0, none⟩ (.int .i64 y.id)).setCell ⟨pb, 1, none⟩ (.int .i64 y.sq)).setCell ⟨pb, 2, none⟩ (.int .i64 y.cd)).setCell ⟨pb, 3, none⟩ (.int .i64 y.ma)) pb 100 (.int .i64 y.id) (.int .i64 y.sq) (.int .i64 y.cd) (.int .i64 y.ma)) := (((PZ.out.set0 _).set1 _).set2 _).set3 _
      have HF : Hid (Below u.heap.size u ((((y2.setCell ⟨pb, 0, none⟩ (.int .i64 y.id)).setCell ⟨pb, 1, none⟩ (.int .i64 y.sq)).setCell ⟨pb, 2, none⟩ (.int .i64 y.cd)).setCell ⟨pb, 3, none⟩ (.int .i64 y.ma))) := (((H.setCell (by exact Lpb.out) _).setCell (by exact Lpb.out) _).setCell (by exact Lpb.out) _).setCell (by exact Lpb.out) _
      clear PZ H t0 t1 t2 t3 f0 f1 f2 f3
      change Exit.then _ _ Exit.normal { tmps := #[_, _, _, _, _, _, _, _, _, _, _, _, _, _, _, _, _, _, _, _, _, _, _, _, _, _, _, _, _, _, _, _, _, _, _, _, _, _, _, _, _, _, _, _, _, _, _, _, _, _, _, _, _, _, _, _, _, _, _, _, _, _, _, _, _, _, _, _, _, _], defers := _ } _
      generalize (((y2.setCell ⟨pb, 0, none⟩ (.int .i64 y.id)).setCell ⟨pb, 1, none⟩ (.int .i64 y.sq)).setCell ⟨pb, 2, none⟩ (.int .i64 y.cd)).setCell ⟨pb, 3, none⟩ (.int .i64 y.ma) = z at *
      go_wp2_with fail
      go_meet
      exact ⟨pb, rfl, XY.out, HF.out⟩
    · skip
      go_simp
      have hb : Below y0.heap.size y0 (y0.alloc (.cells #[.int .i64 0, .int .i64 0, .int .i64 0, .int .i64 0] 100)) := (Below.refl _ _).alloc (Nat.le_refl _) _
      have PZ : Hid (Box4 (y0.alloc (.cells #[.int .i64 0, .int .i64 0, .int .i64 0, .int .i64 0] 100)) y0.heap.size 100 (.int .i64 0) (.int .i64 0) (.int .i64 0) (.int .i64 0)) := Box4.madeAt rfl _ _ _ _ _
      have Lpb : Hid (u.heap.size ≤ y0.heap.size) := H.size
      replace H : Below u.heap.size u (y0.alloc (.cells #[.int .i64 0, .int .i64 0, .int .i64 0, .int .i64 0] 100)) := H.trans (hb.mono H.size)
      clear hb
      refine hK.out _ _ H (fun _ => ?_)
      clear hK KK
      generalize (y0.alloc (.cells #[.int .i64 0, .int .i64 0, .int .i64 0, .int .i64 0] 100)) = y1 at *
      generalize y0.heap.size = pb at *
      change wpAnyH _ _ _ _ _ _ _ { tmps := #[_,_,_,_,_,_,_,_,_,_,_,_,_,_,_,_,_,_,_,_,_,_,_,_,_,_,_,_,_,_,_,_,_,_,_,_,_,_,_,_,_,_,_,_,_,_,_,_,_,_,_,_,_,_,_,_,_,_,_,_,_,_,_,_,_,_,_,_,_,_], defers := _ } _
      refine wpAnyH_ready (rs := [6]) (by kernel_rfl) (by simp) ?_
      refine (AllReadyH.cons rfl (fun KK hK => ?_) AllReadyH.nil)
      go_simp
      refine (FI.out _ (P0.out.r.e1.els.below H)).mono ?_
      rintro e y2 ⟨rfl, hb⟩
      replace PZ : Hid (Box4 y2 pb 100 (.int .i64 0) (.int .i64 0) (.int .i64 0) (.int .i64 0)) := PZ.out.below hb
      replace H : Below u.heap.size u y2 := H.trans (hb.mono H.size)
      clear hb
      refine hK.out _ _ H (fun _ => ?_)
      clear hK KK
      change wpAnyH _ _ _ _ _ _ _ { tmps := #[_,_,_,_,_,_,_,_,_,_,_,_,_,_,_,_,_,_,_,_,_,_,_,_,_,_,_,_,_,_,_,_,_,_,_,_,_,_,_,_,_,_,_,_,_,_,_,_,_,_,_,_,_,_,_,_,_,_,_,_,_,_,_,_,_,_,_,_,_,_], defers := _ } _
      refine wpAnyH_ready (rs := [8]) (by kernel_rfl) (by simp) ?_
      refine (AllReadyH.cons rfl (fun KK hK => ?_) AllReadyH.nil)
      have t0 := PZ.out.c0
      have t1 := PZ.out.c1
      have t2 := PZ.out.c2
      have t3 := PZ.out.c3
      have f0 := PZ.out.fr 0
      have f1 := PZ.out.fr 1
      have f2 := PZ.out.fr 2
      have f3 := PZ.out.fr 3
      go_simp
      refine hK.out _ _ ((((H.setCell (by exact Lpb.out) _).setCell (by exact Lpb.out) _).setCell (by exact Lpb.out) _).setCell (by exact Lpb.out) _) (fun _ => ?_)
      clear hK KK
      change wpAnyH _ _ _ _ _ _ _ { tmps := #[_,_,_,_,_,_,_,_,_,_,_,_,_,_,_,_,_,_,_,_,_,_,_,_,_,_,_,_,_,_,_,_,_,_,_,_,_,_,_,_,_,_,_,_,_,_,_,_,_,_,_,_,_,_,_,_,_,_,_,_,_,_,_,_,_,_,_,_,_,_], defers := _ } _
      refine wpAnyH_done (by kernel_rfl) ?_ _
      refine NoPanic.normal ?_
      have XY : Hid (Box4 ((((y2.setCell ⟨pb, 0, none⟩ (.int .i64 y.id)).setCell ⟨pb, 1, none⟩ (.int .i64 y.sq)).setCell ⟨pb, 2, none⟩ (.int .i64 y.cd)).setCell ⟨pb, 3, none⟩ (.int .i64 y.ma)) pb 100 (.int .i64 y.id) (.int .i64 y.sq) (.int .i64 y.cd) (.int .i64 y.ma)) := (((PZ.out.set0 _).set1 _).set2 _).set3 _
      have HF : Hid (Below u.heap.size u ((((y2.setCell ⟨pb, 0, none⟩ (.int .i64 y.id)).setCell ⟨pb, 1, none⟩ (.int .i64 y.sq)).setCell ⟨pb, 2, none⟩ (.int .i64 y.cd)).setCell ⟨pb, 3, none⟩ (.int .i64 y.ma))) := (((H.setCell (by exact Lpb.out) _).setCell (by exact Lpb.out) _).setCell (by exact Lpb.out) _).setCell (by exact Lpb.out) _
      clear PZ H t0 t1 t2 t3 f0 f1 f2 f3
      change Exit.then _ _ Exit.normal { tmps := #[_, _, _, _, _, _, _, _, _, _, _, _, _, _, _, _, _, _, _, _, _, _, _, _, _, _, _, _, _, _, _, _, _, _, _, _, _, _, _, _, _, _, _, _, _, _, _, _, _, _, _, _, _, _, _, _, _, _, _, _, _, _, _, _, _, _, _, _, _, _], defers := _ } _
      generalize (((y2.setCell ⟨pb, 0, none⟩ (.int .i64 y.id)).setCell ⟨pb, 1, none⟩ (.int .i64 y.sq)).setCell ⟨pb, 2, none⟩ (.int .i64 y.cd)).setCell ⟨pb, 3, none⟩ (.int .i64 y.ma) = z at *
      go_wp2_with fail
      go_meet
      exact ⟨pb, rfl, XY.out, HF.out⟩
  case rest =>
    obtain ⟨r, rfl, xy, hb⟩ := hcut
    replace P0 : Hid (BkP wc p B b (.slice a0 b.nr c0) (.slice a1 b.ns c1)) := P0.out.below hb
    replace XQ : Hid (BoxQ wc q0 q) := XQ.out.below hb
    have XY : Hid (Box4 wc r 100 (.int .i64 y.id) (.int .i64 y.sq) (.int .i64 y.cd) (.int .i64 y.ma)) := xy
    replace A1 : Hid (Below w.heap.size w wc) := A1.out.trans (hb.mono A1.out.size)
    clear xy hb FI
    have p0 := P0.out.x.c0
    have p1 := P0.out.x.c1
    have q1 := XQ.out.c1
    have y0 := XY.out.c0
    have y1 := XY.out.c1
    have y2 := XY.out.c2
    have y3 := XY.out.c3
    have HP : Hid (∀ n x z, RetRs p B b x z (.slice a0 b.nr c0) (.slice a1 b.ns c1) w (.returned (.tuple #[.int .i64 x, .int .i64 z])) (wc.drewN n)) := fun n x z => ⟨_, _, rfl, P0.out.below (below_dN wc n), KpB.ofBelow (A1.out.trans ((below_dN wc n).mono A1.out.size))⟩
    have HP0 : Hid (∀ x z, RetRs p B b x z (.slice a0 b.nr c0) (.slice a1 b.ns c1) w (.returned (.tuple #[.int .i64 x, .int .i64 z])) wc) := fun x z => ⟨_, _, rfl, P0.out, KpB.ofBelow A1.out⟩
    rcases HC.out with ⟨e, rfl, rfl, rfl⟩ | ⟨e, rfl, rfl, rfl⟩ | ⟨e, n6, rfl, rfl, rfl⟩ | ⟨e, e2, b1, k1, hs, hcs⟩
    · have m1 : (y.sq == q.sq) = true := by simp [e]
      clear HC e P0 A1 XQ XY RA AS HP0
      go_wp2_with fail
      go_quiet (fail)
      go_wp2
      go_ret2
      exact HP.out _ _ _
    · have m1 : (y.sq == q.sq) = false := by simp; omega
      clear HC P0 A1 XQ XY RA AS HP
      go_wp2
      go_ret2
      exact HP0.out _ _
    · subst e
      have hq1 := HQ1.out
      have m1 : ((0 : Int) == q.sq) = false := by simp; omega
      have m2 : ¬ q.sq < 0 := by omega
      have m3 : (6 : Int) ≤ (b'.ns : Int) := by omega
      have m4 : 6 ≤ b'.ns := by omega
      have y0' : wc.cell? ⟨r, 0, none⟩ = some (.int .i64 0) := y0
      have y1' : wc.cell? ⟨r, 1, none⟩ = some (.int .i64 0) := y1
      have y2' : wc.cell? ⟨r, 2, none⟩ = some (.int .i64 0) := y2
      have y3' : wc.cell? ⟨r, 3, none⟩ = some (.int .i64 0) := y3
      clear HC P0 A1 XQ XY RA AS HP y0 y1 y2 y3 n6
      go_wp2
      go_ret2
      exact HP0.out _ _
    · have m1 : (y.sq == q.sq) = false := by simp; omega
      have m2 : ¬ q.sq < y.sq := by omega
      have HCS : Hid ((b1.hasS q.se ∧ b' = b1.setS ⟨q.se, q.sq, cd, mk⟩) ∨ (¬ b1.hasS q.se ∧ b' = b1.insS ⟨q.se, q.sq, cd, mk⟩)) := hcs
      have HS : Hid (StepIs b q.x b1 cd mk) := hs
      have HK1 : Hid b1.Ok := k1
      have E2 : Hid (1 ≤ y.sq ∨ (y = seZ ∧ b.ns < 6)) := e2
      have q0c := XQ.out.c0
      have q2c := XQ.out.c2
      have q3c := XQ.out.c3
      have q4c := XQ.out.c4
      clear HC HP HP0 e hcs hs k1 e2
      rcases E2.out with e2 | ⟨e2, e3⟩
      all_goals
        first
          | (have m3 : ¬ y.sq = 0 := by omega
             have m4 : (y.sq == 0) = false := by simp; omega)
          | (subst e2
             have m3 : ¬ (6 : Int) ≤ (b.ns : Int) := by omega
             have m4 : ¬ 6 ≤ b.ns := by omega
             replace y0 : wc.cell? ⟨r, 0, none⟩ = some (.int .i64 0) := y0
             replace y1 : wc.cell? ⟨r, 1, none⟩ = some (.int .i64 0) := y1
             replace y2 : wc.cell? ⟨r, 2, none⟩ = some (.int .i64 0) := y2
             replace y3 : wc.cell? ⟨r, 3, none⟩ = some (.int .i64 0) := y3
             replace m1 : ((0 : Int) == q.sq) = false := m1
             replace m2 : ¬ q.sq < 0 := m2)
        go_wp2_with fail
        refine (AS.out _).mono ?_
        rintro e u2 ⟨rfl, hb⟩
        replace P0 : Hid (BkP u2 p B b (.slice a0 b.nr c0) (.slice a1 b.ns c1)) := P0.out.below hb
        replace XQ : Hid (BoxQ u2 q0 q) := XQ.out.below hb
        replace A1 : Hid (Below w.heap.size w u2) := A1.out.trans (hb.mono A1.out.size)
        clear hb
        go_wp2_with fail
        refine (RA.out b1 _ HS.out (Nat.le_trans HBw.out A1.out.size) P0.out).mono ?_
        rintro e u3 ⟨t0, t1, rfl, pk, kb⟩
        have hsz := A1.out.size
        have hq0 := Q0.out
        have NQ : Hid (q0 ≠ p) := by have := HPL.out; show q0 ≠ p; omega
        have NT1 : Hid (t1.ownBlock ≠ some q0) := fun e => by
          rcases kb.o1 q0 e with g | g
          · exact absurd (G1.out _ g) (Nat.lt_irrefl _)
          · have := XQ.out.lt; omega
        replace XQ : Hid (BoxQ u3 q0 q) := XQ.out.ofBlock (kb.blk q0 XQ.out.lt NQ.out (fun e => absurd (G0.out _ e) (Nat.lt_irrefl _)) (fun e => absurd (G1.out _ e) (Nat.lt_irrefl _)))
        have KB0 : Hid (KpB p (.slice a0 b.nr c0) (.slice a1 b.ns c1) w u3 t0 t1) := (KpB.ofBelow A1.out).trans kb
        have SZ : Hid (B ≤ u3.heap.size) := Nat.le_trans HBw.out (Nat.le_trans hsz kb.size)
        obtain ⟨i0, k0, rfl⟩ := pk.r.e0.form
        obtain ⟨i1, k1, rfl⟩ := pk.r.e1.form
        clear P0
        have P0 : Hid (BkP u3.drew p B b1 (.slice i0 b1.nr k0) (.slice i1 b1.ns k1)) := pk.below (Below.refl _ _).drew
        replace KB0 : Hid (KpB p (.slice a0 b.nr c0) (.slice a1 b.ns c1) w u3.drew (.slice i0 b1.nr k0) (.slice i1 b1.ns k1)) := KB0.out.trans (KpB.ofBelow (Below.refl _ _).drew)
        replace SZ : Hid (B ≤ u3.drew.heap.size) := SZ.out
        have PT : Hid (∀ w : World, B ≤ w.heap.size → EO w B 100 4 (.slice i1 b1.ns k1) b1.ns (seF b1.S) → Calls Tryd.prog 92 #[.slice i1 b1.ns k1, .int .i64 q.se, .agg #[.int .i64 q.se, .int .i64 q.sq, .int .i64 cd, .int .i64 mk], .func (.func 90) #[] #[]] w fun e w' => PtSe w B (.slice i1 b1.ns k1) b'.ns b'.S e w') := fun w hB h => putSe_any b1 b' ⟨q.se, q.sq, cd, mk⟩ HK1.out HCS.out B _ w hB h
        have KE2 : Hid (b'.nr = b1.nr ∧ b'.R = b1.R) := by
          rcases HCS.out with ⟨_, e⟩ | ⟨_, e⟩
          · rw [e]; exact ⟨rfl, rfl⟩
          · rw [e]; exact ⟨rfl, rfl⟩
        clear pk kb hsz hq0 HS HCS HK1 RA AS A1 XY E2 p0 p1 q1 y0 y1 y2 y3 q0c q2c q3c q4c m1 m2 m3 m4
        go_wp2_with fail
        have H : BoxQ u3.drew q0 q := XQ.out.below (Below.refl _ _).drew
        refine wp_region_noPanic ?_
        refine wp_region_held_drew (S := fun w' => BoxQ w' q0 q) (by kernel_rfl) H (fun _ => ?_)
        generalize u3.drew = z0 at *
        refine wpAnyH_take (i := 0) (v := .pointer (some ⟨p, 0, none⟩)) rfl (by kernel_rfl) (by kernel_rfl) (by kernel_rfl) (fun _ _ _ h => h) (Or.inl ⟨by rfl, ?_⟩) H ?_
        · intro w' hSw; go_simp
        change wpAnyH _ _ _ _ _ _ _ { tmps := #[_,_,_,_,_,_,_,_,_,_,_,_,_,_,_,_,_,_,_,_,_,_,_,_,_,_,_,_,_,_,_,_,_,_,_,_,_,_,_,_,_,_,_,_,_,_,_,_,_,_,_,_,_,_,_,_,_,_,_,_,_,_,_,_,_,_,_,_,_,_], defers := _ } _
        refine wpAnyH_take (i := 1) (v := .pointer (some ⟨p, 0, none⟩)) rfl (by kernel_rfl) (by kernel_rfl) (by kernel_rfl) (fun _ _ _ h => h) (Or.inl ⟨by rfl, ?_⟩) H ?_
        · intro w' hSw; go_simp
        change wpAnyH _ _ _ _ _ _ _ { tmps := #[_,_,_,_,_,_,_,_,_,_,_,_,_,_,_,_,_,_,_,_,_,_,_,_,_,_,_,_,_,_,_,_,_,_,_,_,_,_,_,_,_,_,_,_,_,_,_,_,_,_,_,_,_,_,_,_,_,_,_,_,_,_,_,_,_,_,_,_,_,_], defers := _ } _
        refine wpAnyH_take (i := 2) (v := .pointer (some ⟨p, 0, none⟩)) rfl (by kernel_rfl) (by kernel_rfl) (by kernel_rfl) (fun _ _ _ h => h) (Or.inl ⟨by rfl, ?_⟩) H ?_
        · intro w' hSw; go_simp
        change wpAnyH _ _ _ _ _ _ _ { tmps := #[_,_,_,_,_,_,_,_,_,_,_,_,_,_,_,_,_,_,_,_,_,_,_,_,_,_,_,_,_,_,_,_,_,_,_,_,_,_,_,_,_,_,_,_,_,_,_,_,_,_,_,_,_,_,_,_,_,_,_,_,_,_,_,_,_,_,_,_,_,_], defers := _ } _
        refine wpAnyH_take (i := 3) (v := .pointer (some ⟨p, 1, none⟩)) rfl (by kernel_rfl) (by kernel_rfl) (by kernel_rfl) (fun _ _ _ h => h) (Or.inl ⟨by rfl, ?_⟩) H ?_
        · intro w' hSw; go_simp
        change wpAnyH _ _ _ _ _ _ _ { tmps := #[_,_,_,_,_,_,_,_,_,_,_,_,_,_,_,_,_,_,_,_,_,_,_,_,_,_,_,_,_,_,_,_,_,_,_,_,_,_,_,_,_,_,_,_,_,_,_,_,_,_,_,_,_,_,_,_,_,_,_,_,_,_,_,_,_,_,_,_,_,_], defers := _ } _
        refine wpAnyH_take (i := 5) (v := .pointer (some ⟨q0, 0, none⟩)) rfl (by kernel_rfl) (by kernel_rfl) (by kernel_rfl) (fun _ _ _ h => h) (Or.inl ⟨by rfl, ?_⟩) H ?_
        · intro w' hSw; go_simp
        change wpAnyH _ _ _ _ _ _ _ { tmps := #[_,_,_,_,_,_,_,_,_,_,_,_,_,_,_,_,_,_,_,_,_,_,_,_,_,_,_,_,_,_,_,_,_,_,_,_,_,_,_,_,_,_,_,_,_,_,_,_,_,_,_,_,_,_,_,_,_,_,_,_,_,_,_,_,_,_,_,_,_,_], defers := _ } _
        refine wpAnyH_take (i := 6) (v := .int .i64 q.se) rfl (by kernel_rfl) (by kernel_rfl) (by kernel_rfl) (fun _ _ _ h => h) (Or.inl ⟨by rfl, ?_⟩) H ?_
        · intro w' hSw; have t0 := hSw.c0; clear hSw; go_simp
        change wpAnyH _ _ _ _ _ _ _ { tmps := #[_,_,_,_,_,_,_,_,_,_,_,_,_,_,_,_,_,_,_,_,_,_,_,_,_,_,_,_,_,_,_,_,_,_,_,_,_,_,_,_,_,_,_,_,_,_,_,_,_,_,_,_,_,_,_,_,_,_,_,_,_,_,_,_,_,_,_,_,_,_], defers := _ } _
        refine wpAnyH_take (i := 7) (v := .pointer (some ⟨q0, 0, none⟩)) rfl (by kernel_rfl) (by kernel_rfl) (by kernel_rfl) (fun _ _ _ h => h) (Or.inl ⟨by rfl, ?_⟩) H ?_
        · intro w' hSw; go_simp
        change wpAnyH _ _ _ _ _ _ _ { tmps := #[_,_,_,_,_,_,_,_,_,_,_,_,_,_,_,_,_,_,_,_,_,_,_,_,_,_,_,_,_,_,_,_,_,_,_,_,_,_,_,_,_,_,_,_,_,_,_,_,_,_,_,_,_,_,_,_,_,_,_,_,_,_,_,_,_,_,_,_,_,_], defers := _ } _
        refine wpAnyH_take (i := 8) (v := .int .i64 q.se) rfl (by kernel_rfl) (by kernel_rfl) (by kernel_rfl) (fun _ _ _ h => h) (Or.inl ⟨by rfl, ?_⟩) H ?_
        · intro w' hSw; have t0 := hSw.c0; clear hSw; go_simp
        change wpAnyH _ _ _ _ _ _ _ { tmps := #[_,_,_,_,_,_,_,_,_,_,_,_,_,_,_,_,_,_,_,_,_,_,_,_,_,_,_,_,_,_,_,_,_,_,_,_,_,_,_,_,_,_,_,_,_,_,_,_,_,_,_,_,_,_,_,_,_,_,_,_,_,_,_,_,_,_,_,_,_,_], defers := _ } _
        refine wpAnyH_take (i := 9) (v := .pointer (some ⟨q0, 1, none⟩)) rfl (by kernel_rfl) (by kernel_rfl) (by kernel_rfl) (fun _ _ _ h => h) (Or.inl ⟨by rfl, ?_⟩) H ?_
        · intro w' hSw; go_simp
        change wpAnyH _ _ _ _ _ _ _ { tmps := #[_,_,_,_,_,_,_,_,_,_,_,_,_,_,_,_,_,_,_,_,_,_,_,_,_,_,_,_,_,_,_,_,_,_,_,_,_,_,_,_,_,_,_,_,_,_,_,_,_,_,_,_,_,_,_,_,_,_,_,_,_,_,_,_,_,_,_,_,_,_], defers := _ } _
        refine wpAnyH_take (i := 10) (v := .int .i64 q.sq) rfl (by kernel_rfl) (by kernel_rfl) (by kernel_rfl) (fun _ _ _ h => h) (Or.inl ⟨by rfl, ?_⟩) H ?_
        · intro w' hSw; have t0 := hSw.c1; clear hSw; go_simp
        change wpAnyH _ _ _ _ _ _ _ { tmps := #[_,_,_,_,_,_,_,_,_,_,_,_,_,_,_,_,_,_,_,_,_,_,_,_,_,_,_,_,_,_,_,_,_,_,_,_,_,_,_,_,_,_,_,_,_,_,_,_,_,_,_,_,_,_,_,_,_,_,_,_,_,_,_,_,_,_,_,_,_,_], defers := _ } _
        refine wpAnyH_take (i := 11) (v := .int .i64 cd) rfl (by kernel_rfl) (by kernel_rfl) (by kernel_rfl) (fun _ _ _ h => h) (Or.inl ⟨by rfl, ?_⟩) H ?_
        · intro w' hSw; go_simp
        change wpAnyH _ _ _ _ _ _ _ { tmps := #[_,_,_,_,_,_,_,_,_,_,_,_,_,_,_,_,_,_,_,_,_,_,_,_,_,_,_,_,_,_,_,_,_,_,_,_,_,_,_,_,_,_,_,_,_,_,_,_,_,_,_,_,_,_,_,_,_,_,_,_,_,_,_,_,_,_,_,_,_,_], defers := _ } _
        refine wpAnyH_take (i := 12) (v := .int .i64 mk) rfl (by kernel_rfl) (by kernel_rfl) (by kernel_rfl) (fun _ _ _ h => h) (Or.inl ⟨by rfl, ?_⟩) H ?_
        · intro w' hSw; go_simp
        change wpAnyH _ _ _ _ _ _ _ { tmps := #[_,_,_,_,_,_,_,_,_,_,_,_,_,_,_,_,_,_,_,_,_,_,_,_,_,_,_,_,_,_,_,_,_,_,_,_,_,_,_,_,_,_,_,_,_,_,_,_,_,_,_,_,_,_,_,_,_,_,_,_,_,_,_,_,_,_,_,_,_,_], defers := _ } _
        refine wpAnyH_take (i := 13) (v := .agg #[.int .i64 q.se, .int .i64 q.sq, .int .i64 cd, .int .i64 mk]) rfl (by kernel_rfl) (by kernel_rfl) (by kernel_rfl) (fun _ _ _ h => h) (Or.inl ⟨by rfl, ?_⟩) H ?_
        · intro w' hSw; go_simp
        change wpAnyH _ _ _ _ _ _ _ { tmps := #[_,_,_,_,_,_,_,_,_,_,_,_,_,_,_,_,_,_,_,_,_,_,_,_,_,_,_,_,_,_,_,_,_,_,_,_,_,_,_,_,_,_,_,_,_,_,_,_,_,_,_,_,_,_,_,_,_,_,_,_,_,_,_,_,_,_,_,_,_,_], defers := _ } _
        refine wpAnyH_ready (rs := [4]) (by kernel_rfl) (by simp) ?_
        refine (AllReadyH.cons rfl (fun KK hK => ?_) AllReadyH.nil)
        have t0 := P0.out.x.c1
        go_simp
        refine hK.out _ _ H (fun _ => ?_)
        clear hK KK
        change wpAnyH _ _ _ _ _ _ _ { tmps := #[_,_,_,_,_,_,_,_,_,_,_,_,_,_,_,_,_,_,_,_,_,_,_,_,_,_,_,_,_,_,_,_,_,_,_,_,_,_,_,_,_,_,_,_,_,_,_,_,_,_,_,_,_,_,_,_,_,_,_,_,_,_,_,_,_,_,_,_,_,_], defers := _ } _
        refine wpAnyH_ready (rs := [14]) (by kernel_rfl) (by simp) ?_
        refine (AllReadyH.cons rfl (fun KK hK => ?_) AllReadyH.nil)
        go_simp
        refine (PT.out _ SZ.out P0.out.r.e1).mono ?_
        rintro e z1 ⟨⟨uu, rfl, ho, hl⟩, hg⟩
        obtain ⟨ax, cx, rfl⟩ := ho.form
        have hqb : ∀ g, g < z0.heap.size → (Value.slice i1 b1.ns k1).ownBlock ≠ some g → z1.heap[g]? = z0.heap[g]? := fun g h1 h2 => hg.block g h1 (fun e => h2 e.symm)
        replace H : BoxQ z1 q0 q := H.ofBlock (hqb _ H.lt NT1.out)
        have XP : Hid (Box2 z1 p 46 (.slice i0 b1.nr k0) (.slice i1 b1.ns k1)) := P0.out.x.ofBlock (hqb _ P0.out.x.lt P0.out.n1)
        have E1 : Hid (EO z1 B 100 4 (.slice ax b'.ns cx) b'.ns (seF b'.S)) := ho
        have E0 : Hid (EO z1 B 54 3 (.slice i0 b1.nr k0) b1.nr (rgF b1.R)) := P0.out.r.e0.keep (fun g e => hqb g (P0.out.r.e0.ge g e).2 (fun e2 => P0.out.r.n01 g e e2))
        have KB : Hid (KpB p (.slice i0 b1.nr k0) (.slice i1 b1.ns k1) z0 z1 (.slice i0 b1.nr k0) (.slice ax b'.ns cx)) := ⟨hg.os, hg.tape, hg.output, hg.size, fun g h1 _ _ h4 => hqb g h1 h4, fun g e => .inl e, fun g e => by
            rcases hl with q | ⟨g2, q, q2⟩
            · exact .inl (q ▸ e)
            · exact .inr (by rw [q] at e; cases e; exact q2)⟩
        have N01 : Hid (∀ g, (Value.slice i0 b1.nr k0).ownBlock = some g → (Value.slice ax b'.ns cx).ownBlock ≠ some g) := fun g e e2 => by
            rcases KB.out.o1 g e2 with q | q
            · exact P0.out.r.n01 g e q
            · have := (P0.out.r.e0.ge g e).2; omega
        have NP : Hid ((Value.slice ax b'.ns cx).ownBlock ≠ some p) := fun e => by
            rcases KB.out.o1 p e with q | q
            · exact P0.out.n1 q
            · have := P0.out.x.lt; omega
        have NP0 : Hid ((Value.slice i0 b1.nr k0).ownBlock ≠ some p) := P0.out.n0
        clear ho hl hg hqb
        refine hK.out _ _ H (fun _ => ?_)
        clear hK KK
        change wpAnyH _ _ _ _ _ _ _ { tmps := #[_,_,_,_,_,_,_,_,_,_,_,_,_,_,_,_,_,_,_,_,_,_,_,_,_,_,_,_,_,_,_,_,_,_,_,_,_,_,_,_,_,_,_,_,_,_,_,_,_,_,_,_,_,_,_,_,_,_,_,_,_,_,_,_,_,_,_,_,_,_], defers := _ } _
        refine wpAnyH_take (i := 15) (v := .pointer (some ⟨p, 0, none⟩)) rfl (by kernel_rfl) (by kernel_rfl) (by kernel_rfl) (fun _ _ _ h => h) (Or.inl ⟨by rfl, ?_⟩) H ?_
        · intro w' hSw; go_simp
        change wpAnyH _ _ _ _ _ _ _ { tmps := #[_,_,_,_,_,_,_,_,_,_,_,_,_,_,_,_,_,_,_,_,_,_,_,_,_,_,_,_,_,_,_,_,_,_,_,_,_,_,_,_,_,_,_,_,_,_,_,_,_,_,_,_,_,_,_,_,_,_,_,_,_,_,_,_,_,_,_,_,_,_], defers := _ } _
        refine wpAnyH_take (i := 16) (v := .pointer (some ⟨p, 1, none⟩)) rfl (by kernel_rfl) (by kernel_rfl) (by kernel_rfl) (fun _ _ _ h => h) (Or.inl ⟨by rfl, ?_⟩) H ?_
        · intro w' hSw; go_simp
        change wpAnyH _ _ _ _ _ _ _ { tmps := #[_,_,_,_,_,_,_,_,_,_,_,_,_,_,_,_,_,_,_,_,_,_,_,_,_,_,_,_,_,_,_,_,_,_,_,_,_,_,_,_,_,_,_,_,_,_,_,_,_,_,_,_,_,_,_,_,_,_,_,_,_,_,_,_,_,_,_,_,_,_], defers := _ } _
        refine wpAnyH_ready (rs := [17]) (by kernel_rfl) (by simp) ?_
        refine (AllReadyH.cons rfl (fun KK hK => ?_) AllReadyH.nil)
        have t0 := XP.out.c1
        have f0 := XP.out.fr 1
        go_simp
        refine hK.out _ _ (H.ofBlock (heap_setCell_other _ _ _ _ NQ.out)) (fun _ => ?_)
        clear hK KK
        change wpAnyH _ _ _ _ _ _ _ { tmps := #[_,_,_,_,_,_,_,_,_,_,_,_,_,_,_,_,_,_,_,_,_,_,_,_,_,_,_,_,_,_,_,_,_,_,_,_,_,_,_,_,_,_,_,_,_,_,_,_,_,_,_,_,_,_,_,_,_,_,_,_,_,_,_,_,_,_,_,_,_,_], defers := _ } _
        refine wpAnyH_done (by kernel_rfl) ?_ _
        refine NoPanic.normal ?_
        have PF : Hid (BkP (z1.setCell ⟨p, 1, none⟩ (.slice ax b'.ns cx)) p B b' (.slice i0 b1.nr k0) (.slice ax b'.ns cx)) := ⟨XP.out.set1 _, ⟨by rw [KE2.out.1, KE2.out.2]; exact E0.out.keep (fun g e => heap_setCell_other _ _ _ _ (fun q => NP0.out (by rw [e, q]))), E1.out.keep (fun g e => heap_setCell_other _ _ _ _ (fun q => NP.out (by rw [e, q]))), N01.out⟩, NP0.out, NP.out⟩
        have KF : Hid (KpB p (.slice a0 b.nr c0) (.slice a1 b.ns c1) w (z1.setCell ⟨p, 1, none⟩ (.slice ax b'.ns cx)) (.slice i0 b1.nr k0) (.slice ax b'.ns cx)) := KB0.out.trans (KB.out.trans ⟨rfl, rfl, rfl, by simp, fun g h1 h2 _ _ => heap_setCell_other _ _ _ _ h2, fun g e => .inl e, fun g e => .inl e⟩)
        clear H t0 f0 XP E0 E1 KB N01 NP NP0 P0 KB0 XQ PT
        change Exit.then _ _ Exit.normal { tmps := #[_, _, _, _, _, _, _, _, _, _, _, _, _, _, _, _, _, _, _, _, _, _, _, _, _, _, _, _, _, _, _, _, _, _, _, _, _, _, _, _, _, _, _, _, _, _, _, _, _, _, _, _, _, _, _, _, _, _, _, _, _, _, _, _, _, _, _, _, _, _], defers := _ } _
        generalize z1.setCell ⟨p, 1, none⟩ (.slice ax b'.ns cx) = z at *
        have HP : Hid (RetRs p B b' cd mk (.slice a0 b.nr c0) (.slice a1 b.ns c1) w (.returned (.tuple #[.int .i64 cd, .int .i64 mk])) z) := ⟨.slice i0 b1.nr k0, _, rfl, PF.out, KF.out⟩
        clear PF KF KE2
        go_wp2
        go_ret2
        exact HP.out
end Go.Proofs.YtpngjkhncfbnpaaDoor
