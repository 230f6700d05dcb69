/-
  The exact law of FreshReads (written by tools/svok_law.py).
-/
import Derived.Test.YtpljdlgjeeikkabSvcV
namespace Go.Proofs.Ytpljdlgjeeikkab
open Go.ChangeShapes Go.WideShapes Go.ChangeAt Go.RowKit
set_option linter.unusedVariables false
set_option maxRecDepth 100000 in
set_option maxHeartbeats 4000000 in
theorem law_freshReads (s : Sv) (p : Sa) (hm : s.max maxLen) (w : World) (h : SvV w s p) :
    Calls Try.prog 5 #[.agg #[.slice p.a s.n p.ca, .int .i64 s.t, .slice p.b s.m p.cb, .slice p.d s.l p.cd]] w fun e w' => e = .returned (.bool true) ∧ Below w.heap.size w w' := by
  have A1 : Hid (Below w.heap.size w (w.alloc (.cells #[.slice p.a s.n p.ca, .int .i64 s.t, .slice p.b s.m p.cb, .slice p.d s.l p.cd] 45))) := (Below.refl _ _).alloc (Nat.le_refl _) _
  have X : Hid (Box4 (w.alloc (.cells #[.slice p.a s.n p.ca, .int .i64 s.t, .slice p.b s.m p.cb, .slice p.d s.l p.cd] 45)) w.heap.size 45 (.slice p.a s.n p.ca) (.int .i64 s.t) (.slice p.b s.m p.cb) (.slice p.d s.l p.cd)) := Box4.madeAt rfl _ _ _ _ _
  have HE : Hid (SvV (w.alloc (.cells #[.slice p.a s.n p.ca, .int .i64 s.t, .slice p.b s.m p.cb, .slice p.d s.l p.cd] 45)) s p) := h.below A1.out
  have SZ : Hid (∀ w : World, SvV w s p → Calls Try.prog 19 #[.agg #[.slice p.a s.n p.ca, .int .i64 s.t, .slice p.b s.m p.cb, .slice p.d s.l p.cd], .int .i64 1048576] w fun e w' => (∃ y : Int, e = .returned (.int .i64 y) ∧ (0 ≤ y → s.max 1048576)) ∧ Below w.heap.size w w') := fun w h => szService_any s p w h hm
  clear h hm
  go_enter Try.func5, Try.ntmps5
  go_wp2_with fail
  generalize (w.alloc (.cells #[.slice p.a s.n p.ca, .int .i64 s.t, .slice p.b s.m p.cb, .slice p.d s.l p.cd] 45)) = v0 at *
  obtain ⟨vb, hvb⟩ : ∃ x, x = w.heap.size := ⟨_, rfl⟩
  rw [← hvb] at X ⊢
  clear hvb
  refine (SZ.out _ HE.out).mono ?_
  rintro e v1 ⟨⟨y, rfl, hy⟩, hb⟩
  replace A1 : Hid (Below w.heap.size w v1) := A1.out.trans (hb.mono A1.out.size)
  replace HE : Hid (SvV v1 s p) := HE.out.below hb
  replace X : Hid (Box4 v1 vb 45 (.slice p.a s.n p.ca) (.int .i64 s.t) (.slice p.b s.m p.cb) (.slice p.d s.l p.cd)) := X.out.below hb
  clear hb
  clear SZ
  by_cases hy0 : y < 0
  · clear hy
    go_wp2
    go_ret
    exact ⟨rfl, A1.out⟩
  have hx : s.max 1048576 := hy (by omega)
  clear hy
  have TO : Hid (∀ w : World, SvV w s p → Calls Try.prog 21 #[.agg #[.slice p.a s.n p.ca, .int .i64 s.t, .slice p.b s.m p.cb, .slice p.d s.l p.cd]] w fun e w' => (∃ q : Sa, e = .returned (.agg #[.slice q.a s.n q.ca, .int .i64 s.t, .slice q.b s.m q.cb, .slice q.d s.l q.cd]) ∧ SvV w' s q) ∧ Below w.heap.size w w') := fun w h => (toService_any s p hx w h).mono fun e w' q => by
    obtain ⟨⟨ga, gb, gd, VA, VB, VD, he, h1, h2, h3⟩, hb⟩ := q
    exact ⟨⟨⟨some ⟨ga, 0, none⟩, some ⟨gb, 0, none⟩, some ⟨gd, 0, none⟩, fun j => some ⟨VA j, 0, none⟩, fun j => some ⟨VB j, 0, none⟩, fun j => some ⟨VD j, 0, none⟩, fun j => (s.R j).ne, fun j => (s.W j).ne, fun j => (s.Q j).ne, s.n, s.m, s.l⟩, he, h1.v, h2.v, h3.v⟩, hb⟩
  have EQ : Hid (∀ (q q' : Sa) (w : World), SvV w s q → SvV w s q' → Calls Try.prog 11 #[.agg #[.slice q.a s.n q.ca, .int .i64 s.t, .slice q.b s.m q.cb, .slice q.d s.l q.cd], .agg #[.slice q'.a s.n q'.ca, .int .i64 s.t, .slice q'.b s.m q'.cb, .slice q'.d s.l q'.cd]] w fun e w' => e = .returned (.bool true) ∧ Below w.heap.size w w') := fun q q' w h h' => eqService_any s q q' hx w h h'
  obtain ⟨r, c, hr⟩ : ∃ r c, FrIs s r c := by
    by_cases ok : s.Ok
    · exact ⟨_, _, .inr ⟨ok, rfl, rfl⟩⟩
    · exact ⟨_, _, .inl ⟨ok, rfl, rfl⟩⟩
  have SO : Hid (∀ (q : Sa) (w : World), SvV w s q → Calls Try.prog 23 #[.agg #[.slice q.a s.n q.ca, .int .i64 s.t, .slice q.b s.m q.cb, .slice q.d s.l q.cd]] w fun e w' => e = .returned (.tuple #[.bool r, .int .i64 c]) ∧ Below w.heap.size w w') := fun q w h => specFr_v s q hx r c hr w h
  have IY : Hid (∀ (q : Sa) (w : World), SvV w s q → Calls Try.prog 24 #[.agg #[.slice q.a s.n q.ca, .int .i64 s.t, .slice q.b s.m q.cb, .slice q.d s.l q.cd]] w fun e w' => e = .returned (.tuple #[.bool r, .int .i64 c]) ∧ Below w.heap.size w w') := fun q w h => implFr_v s q hx r c hr w h
  have rr : (r != r) = false := by cases r <;> rfl
  clear hr hx
  have k0 := X.out.c0
  have k1 := X.out.c1
  have k2 := X.out.c2
  have k3 := X.out.c3
  go_wp2_with fail
  clear k0 k1 k2 k3
  refine (TO.out _ HE.out).mono ?_
  rintro e v2 ⟨⟨q0, rfl, hv⟩, hb⟩
  have V0 : Hid (SvV v2 s q0) := hv
  clear hv
  replace A1 : Hid (Below w.heap.size w v2) := A1.out.trans (hb.mono A1.out.size)
  replace HE : Hid (SvV v2 s p) := HE.out.below hb
  replace X : Hid (Box4 v2 vb 45 (.slice p.a s.n p.ca) (.int .i64 s.t) (.slice p.b s.m p.cb) (.slice p.d s.l p.cd)) := X.out.below hb
  clear hb
  go_wp2_with fail
  refine (SO.out q0 _ V0.out).mono ?_
  rintro e v3 ⟨rfl, hb⟩
  replace A1 : Hid (Below w.heap.size w v3) := A1.out.trans (hb.mono A1.out.size)
  replace HE : Hid (SvV v3 s p) := HE.out.below hb
  replace X : Hid (Box4 v3 vb 45 (.slice p.a s.n p.ca) (.int .i64 s.t) (.slice p.b s.m p.cb) (.slice p.d s.l p.cd)) := X.out.below hb
  clear hb
  clear SO V0
  have k0 := X.out.c0
  have k1 := X.out.c1
  have k2 := X.out.c2
  have k3 := X.out.c3
  go_wp2_with fail
  clear k0 k1 k2 k3
  refine (TO.out _ HE.out).mono ?_
  rintro e v4 ⟨⟨q1, rfl, hv⟩, hb⟩
  replace A1 : Hid (Below w.heap.size w v4) := A1.out.trans (hb.mono A1.out.size)
  replace HE : Hid (SvV v4 s p) := HE.out.below hb
  replace X : Hid (Box4 v4 vb 45 (.slice p.a s.n p.ca) (.int .i64 s.t) (.slice p.b s.m p.cb) (.slice p.d s.l p.cd)) := X.out.below hb
  clear hb
  have hb : Below v4.heap.size v4 (v4.alloc (.cells #[.slice q1.a s.n q1.ca, .int .i64 s.t, .slice q1.b s.m q1.cb, .slice q1.d s.l q1.cd] 28)) := (Below.refl _ _).alloc (Nat.le_refl _) _
  have V1 : Hid (SvV (v4.alloc (.cells #[.slice q1.a s.n q1.ca, .int .i64 s.t, .slice q1.b s.m q1.cb, .slice q1.d s.l q1.cd] 28)) s q1) := hv.below hb
  have Y : Hid (Box4 (v4.alloc (.cells #[.slice q1.a s.n q1.ca, .int .i64 s.t, .slice q1.b s.m q1.cb, .slice q1.d s.l q1.cd] 28)) v4.heap.size 28 (.slice q1.a s.n q1.ca) (.int .i64 s.t) (.slice q1.b s.m q1.cb) (.slice q1.d s.l q1.cd)) := Box4.madeAt rfl _ _ _ _ _
  clear hv
  replace A1 : Hid (Below w.heap.size w (v4.alloc (.cells #[.slice q1.a s.n q1.ca, .int .i64 s.t, .slice q1.b s.m q1.cb, .slice q1.d s.l q1.cd] 28))) := A1.out.trans (hb.mono A1.out.size)
  replace HE : Hid (SvV (v4.alloc (.cells #[.slice q1.a s.n q1.ca, .int .i64 s.t, .slice q1.b s.m q1.cb, .slice q1.d s.l q1.cd] 28)) s p) := HE.out.below hb
  replace X : Hid (Box4 (v4.alloc (.cells #[.slice q1.a s.n q1.ca, .int .i64 s.t, .slice q1.b s.m q1.cb, .slice q1.d s.l q1.cd] 28)) vb 45 (.slice p.a s.n p.ca) (.int .i64 s.t) (.slice p.b s.m p.cb) (.slice p.d s.l p.cd)) := X.out.below hb
  clear hb
  go_wp2_with fail
  generalize (v4.alloc (.cells #[.slice q1.a s.n q1.ca, .int .i64 s.t, .slice q1.b s.m q1.cb, .slice q1.d s.l q1.cd] 28)) = v5 at *
  obtain ⟨xb, hxb⟩ : ∃ x, x = v4.heap.size := ⟨_, rfl⟩
  rw [← hxb] at Y ⊢
  clear hxb
  refine (IY.out q1 _ V1.out).mono ?_
  rintro e v6 ⟨rfl, hb⟩
  replace A1 : Hid (Below w.heap.size w v6) := A1.out.trans (hb.mono A1.out.size)
  replace HE : Hid (SvV v6 s p) := HE.out.below hb
  replace X : Hid (Box4 v6 vb 45 (.slice p.a s.n p.ca) (.int .i64 s.t) (.slice p.b s.m p.cb) (.slice p.d s.l p.cd)) := X.out.below hb
  replace V1 : Hid (SvV v6 s q1) := V1.out.below hb
  replace Y : Hid (Box4 v6 xb 28 (.slice q1.a s.n q1.ca) (.int .i64 s.t) (.slice q1.b s.m q1.cb) (.slice q1.d s.l q1.cd)) := Y.out.below hb
  clear hb
  clear IY
  go_wp2_with fail
  have H : Below v6.heap.size v6 v6.drew := (Below.refl _ _).drew
  refine wp_region_noPanic ?_
  refine wp_region_held_drew (S := fun w' => Below v6.heap.size v6 w') (by kernel_rfl) H (fun _ => ?_)
  generalize v6.drew = x0 at *
  refine wpAnyH_take (i := 0) (v := .agg #[.slice q1.a s.n q1.ca, .int .i64 s.t, .slice q1.b s.m q1.cb, .slice q1.d s.l q1.cd]) rfl (by kernel_rfl) (by kernel_rfl) (by kernel_rfl) (fun _ _ _ h => h) (Or.inl ⟨by rfl, ?_⟩) H ?_
  · intro w' hSw; have k0 := (Y.out.below hSw).c0; have k1 := (Y.out.below hSw).c1; have k2 := (Y.out.below hSw).c2; have k3 := (Y.out.below hSw).c3; clear hSw; go_simp
  change wpAnyH _ _ _ _ _ _ _ { tmps := #[_, _, _, _, _, _, _, _, _, _, _, _, _, _, _, _, _, _, _, _, _, _, _, _, _, _, _, _, _, _, _, _, _, _, _, _, _, _, _, _], defers := _ } _
  refine wpAnyH_take (i := 1) (v := .agg #[.slice p.a s.n p.ca, .int .i64 s.t, .slice p.b s.m p.cb, .slice p.d s.l p.cd]) rfl (by kernel_rfl) (by kernel_rfl) (by kernel_rfl) (fun _ _ _ h => h) (Or.inl ⟨by rfl, ?_⟩) H ?_
  · intro w' hSw; have k0 := (X.out.below hSw).c0; have k1 := (X.out.below hSw).c1; have k2 := (X.out.below hSw).c2; have k3 := (X.out.below hSw).c3; clear hSw; go_simp
  change wpAnyH _ _ _ _ _ _ _ { tmps := #[_, _, _, _, _, _, _, _, _, _, _, _, _, _, _, _, _, _, _, _, _, _, _, _, _, _, _, _, _, _, _, _, _, _, _, _, _, _, _, _], defers := _ } _
  refine wpAnyH_ready (rs := [2]) (by kernel_rfl) (by simp) ?_
  refine AllReadyH.cons rfl (fun KK hK => ?_) AllReadyH.nil
  go_simp
  refine (TO.out _ (HE.out.below H)).mono ?_
  rintro e x1 ⟨⟨q2, rfl, hv⟩, hb⟩
  replace H : Below v6.heap.size v6 x1 := H.trans (hb.mono H.size)
  have V2 : Hid (SvV x1 s q2) := hv
  clear hv
  clear hb
  refine hK.out _ _ H (fun _ => ?_)
  clear hK KK
  change wpAnyH _ _ _ _ _ _ _ { tmps := #[_, _, _, _, _, _, _, _, _, _, _, _, _, _, _, _, _, _, _, _, _, _, _, _, _, _, _, _, _, _, _, _, _, _, _, _, _, _, _, _], defers := _ } _
  refine wpAnyH_ready (rs := [3]) (by kernel_rfl) (by simp) ?_
  refine AllReadyH.cons rfl (fun KK hK => ?_) AllReadyH.nil
  go_simp
  refine (EQ.out q1 q2 _ (V1.out.below H) V2.out).mono ?_
  rintro e x2 ⟨rfl, hb⟩
  replace H : Below v6.heap.size v6 x2 := H.trans (hb.mono H.size)
  clear hb
  refine hK.out _ _ H (fun _ => ?_)
  clear hK KK
  change wpAnyH _ _ _ _ _ _ _ { tmps := #[_, _, _, _, _, _, _, _, _, _, _, _, _, _, _, _, _, _, _, _, _, _, _, _, _, _, _, _, _, _, _, _, _, _, _, _, _, _, _, _], defers := _ } _
  refine wpAnyH_take (i := 4) (v := .bool false) rfl (by kernel_rfl) (by kernel_rfl) (by kernel_rfl) (fun _ _ _ h => h) (Or.inl ⟨by rfl, ?_⟩) H ?_
  · intro w' hSw; clear hSw; go_simp
  change wpAnyH _ _ _ _ _ _ _ { tmps := #[_, _, _, _, _, _, _, _, _, _, _, _, _, _, _, _, _, _, _, _, _, _, _, _, _, _, _, _, _, _, _, _, _, _, _, _, _, _, _, _], defers := _ } _
  refine wpAnyH_done (by kernel_rfl) ?_ _
  refine NoPanic.normal ?_
  replace A1 : Hid (Below w.heap.size w x2) := A1.out.trans (H.mono A1.out.size)
  clear H HE X V1 V2 Y TO EQ rr
  go_wp2
  go_ret
  exact ⟨rfl, A1.out⟩
end Go.Proofs.Ytpljdlgjeeikkab
