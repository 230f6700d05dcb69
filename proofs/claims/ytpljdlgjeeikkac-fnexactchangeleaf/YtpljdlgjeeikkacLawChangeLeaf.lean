/-
  The exact law of ChangeLeaf (written by tools/leaf_law2.py).
-/
import Derived.Test.YtpljdlgjeeikkacChangeI
namespace Go.Proofs.Ytpljdlgjeeikkac
open Go.ChangeShapes Go.WideShapes Go.ChangeAt Go.RowKit
set_option linter.unusedVariables false
set_option maxRecDepth 100000 in
set_option maxHeartbeats 8000000 in
theorem law_changeLeaf (a : Option Addr) (n c : Nat) (LF : Nat → Lf) (k : Int) (xv : Int) (xh : ByteArray) (hm : n ≤ maxLen) (hf : ∀ i, i < n → (LF i).h.size ≤ maxLen) (hx : xh.size ≤ maxLen) (w : World) (h : Els w 2 a n (lfF LF)) :
    Calls Try.prog 3 #[.slice a n c, .int .i64 k, .agg #[.int .i64 xv, .string xh]] w fun e w' => e = .returned (.bool true) ∧ Below w.heap.size w w' := by
  obtain ⟨N, EL, cd, hA, hl⟩ := clA_ex n LF k ⟨xv, xh⟩
  have SZ : Hid (∀ w : World, Els w 2 a n (lfF LF) → Calls Try.prog 4 #[.slice a n c, .int .i64 1048576] w fun e w' => (∃ y : Int, e = .returned (.int .i64 y) ∧ y ≤ 1048576 ∧ (0 ≤ y → n ≤ 1048576)) ∧ Below w.heap.size w w') := fun w h => szLeafS_any a n c LF 1048576 w h (by omega) (by omega) hm hf
  have SX : Hid (∀ (y : Int) (w : World), 0 ≤ y → y ≤ 1048576 → Calls Try.prog 5 #[.agg #[.int .i64 xv, .string xh], .int .i64 y] w fun e w' => (∃ y : Int, e = .returned (.int .i64 y) ∧ -1 ≤ y ∧ y ≤ 1048576) ∧ Below w.heap.size w w') := fun y w h0 h1 => szLeaf_any xv xh y w h0 h1 hx
  have TL : Hid (∀ w : World, Calls Try.prog 8 #[.agg #[.int .i64 xv, .string xh]] w fun e w' => e = .returned (.agg #[.int .i64 xv, .string xh]) ∧ Below w.heap.size w w') := fun w => toLeaf_any xv xh w
  have A1 : Hid (Below w.heap.size w (w.alloc (.cells #[.int .i64 xv, .string xh] 24))) := (Below.refl _ _).alloc (Nat.le_refl _) _
  have HE : Hid (Els w 2 a n (lfF LF)) := h
  have RX : Hid (Box2 (w.alloc (.cells #[.int .i64 xv, .string xh] 24)) w.heap.size 24 (.int .i64 xv) (.string xh)) := Box2.made _ _ _ _
  have PB : Hid (w.heap.size < (w.alloc (.cells #[.int .i64 xv, .string xh] 24)).heap.size) := by show _ < _; simp
  clear h hm hf hx
  go_enter Try.func3, Try.ntmps3
  go_wp2_with fail
  generalize (w.alloc (.cells #[.int .i64 xv, .string xh] 24)) = v1 at *
  obtain ⟨pb, hpb⟩ : ∃ z, z = w.heap.size := ⟨_, rfl⟩
  rw [← hpb] at RX PB ⊢
  have PE : Hid (pb = w.heap.size) := hpb
  clear hpb
  refine (SZ.out _ (HE.out.below A1.out)).mono ?_
  rintro e v2 ⟨⟨y, rfl, hy, hy2⟩, hb⟩
  replace A1 : Hid (Below w.heap.size w v2) := A1.out.trans (hb.mono A1.out.size)
  replace RX : Hid (Box2 v2 pb 24 (.int .i64 xv) (.string xh)) := RX.out.below hb
  replace PB : Hid (pb < v2.heap.size) := Nat.lt_of_lt_of_le PB.out hb.size
  clear hb SZ
  by_cases hy0 : y < 0
  · clear hy2
    go_wp2
    go_ret
    exact ⟨rfl, A1.out⟩
  · have hn : n ≤ 1048576 := hy2 (by omega)
    clear hy2
    have t0 := RX.out.c0
    have t1 := RX.out.c1
    go_wp2_with fail
    clear t0 t1
    refine (SX.out _ _ (by omega) hy).mono ?_
    rintro e v3 ⟨⟨z, rfl, hz, hz2⟩, hb⟩
    replace A1 : Hid (Below w.heap.size w v3) := A1.out.trans (hb.mono A1.out.size)
    replace RX : Hid (Box2 v3 pb 24 (.int .i64 xv) (.string xh)) := RX.out.below hb
    replace PB : Hid (pb < v3.heap.size) := Nat.lt_of_lt_of_le PB.out hb.size
    clear hb SX
    by_cases hz0 : z < 0
    · go_wp2
      go_ret
      exact ⟨rfl, A1.out⟩
    have TO : Hid (∀ w : World, Els w 2 a n (lfF LF) → Calls Try.prog 7 #[.slice a n c] w fun e w' => (∃ g, e = .returned (.slice (some ⟨g, 0, none⟩) n n) ∧ RowE w' 2 (some ⟨g, 0, none⟩) g n (lfF LF) ∧ w.heap.size ≤ g ∧ g < w'.heap.size) ∧ Below w.heap.size w w') := fun w h => (toLeafS_any a n c LF w h hn).mono fun _ _ q => ⟨⟨_, q.1, q.2.1, Nat.le_refl _, q.2.2.1⟩, q.2.2.2⟩
    have EQ : Hid (∀ (b e : Option Addr) (x y : Nat) (w : World), Els w 2 b n (lfF LF) → Els w 2 e n (lfF LF) → Calls Try.prog 10 #[.slice b n x, .slice e n y] w fun e w' => e = .returned (.bool true) ∧ Below w.heap.size w w') := fun b e x y w h h' => eqLeafS_yes b e n x y LF w h h' hn
    have SO : Hid (∀ (g : Nat) (w : World), Els w 2 (some ⟨g, 0, none⟩) n (lfF LF) → Calls Try.prog 6 #[.slice (some ⟨g, 0, none⟩) n n, .int .i64 k, .agg #[.int .i64 xv, .string xh]] w fun e w' => (∃ (b : Option Addr) (x g : Nat), e = .returned (.tuple #[.slice b N x, .int .i64 cd]) ∧ RowE w' 2 b g N (lfF EL) ∧ (0 < N → w.heap.size ≤ g ∧ g < w'.heap.size)) ∧ Below w.heap.size w w') := fun g w h => (specCl_any (some ⟨g, 0, none⟩) n n LF k ⟨xv, xh⟩ N EL cd hA hn (fun e => by cases e) w h).mono fun _ _ q => ⟨by
      obtain ⟨⟨a9, c9, e9, ho⟩, _⟩ := q
      obtain ⟨g9, r9, b9⟩ := ho.rowE
      exact ⟨a9, c9, g9, e9, r9, fun z => ⟨b9 z, r9.lt (by omega) z⟩⟩, q.2⟩
    have IY : Hid (∀ (g : Nat) (w : World), Els w 2 (some ⟨g, 0, none⟩) n (lfF LF) → Calls Try.prog 9 #[.slice (some ⟨g, 0, none⟩) n n, .int .i64 k, .agg #[.int .i64 xv, .string xh]] w fun e w' => (∃ (b : Option Addr) (x g : Nat), e = .returned (.tuple #[.slice b N x, .int .i64 cd]) ∧ RowE w' 2 b g N (lfF EL) ∧ (0 < N → w.heap.size ≤ g ∧ g < w'.heap.size)) ∧ Below w.heap.size w w') := fun g w h => (implCl_any (some ⟨g, 0, none⟩) n n LF k ⟨xv, xh⟩ N EL cd hA hn (fun e => by cases e) w h).mono fun _ _ q => ⟨by
      obtain ⟨⟨a9, c9, e9, ho⟩, _⟩ := q
      obtain ⟨g9, r9, b9⟩ := ho.rowE
      exact ⟨a9, c9, g9, e9, r9, fun z => ⟨b9 z, r9.lt (by omega) z⟩⟩, q.2⟩
    have ES : Hid (∀ (b e : Option Addr) (x y : Nat) (w : World), Els w 2 b N (lfF EL) → Els w 2 e N (lfF EL) → Calls Try.prog 10 #[.slice b N x, .slice e N y] w fun e w' => e = .returned (.bool true) ∧ Below w.heap.size w w') := fun b e x y w h h' => eqLeafS_yes b e N x y EL w h h' (by omega)
    have MR : Hid (∀ (g : Nat) (w : World), RowE w 2 (some ⟨g, 0, none⟩) g n (lfF LF) → Calls Try.prog 11 #[.slice (some ⟨g, 0, none⟩) n n, .int .i64 1] w fun e w' => e = .returned (.int .i64 ((1 + 2 * n : Nat) : Int)) ∧ TurnedE g n w w') := fun g w h => (markLeafK _ g n n 1 LF (by omega) (by omega) w h).mono fun _ _ q => ⟨q.1, q.2.2⟩
    have MS : Hid (∀ (b : Option Addr) (g x : Nat) (w : World), RowE w 2 b g N (lfF EL) → Calls Try.prog 11 #[.slice b N x, .int .i64 1] w fun e w' => (e = .returned (.int .i64 ((1 + 2 * N : Nat) : Int)) ∧ RowE w' 2 b g N (lfF (lfM 1))) ∧ TurnedE g N w w') := fun b g x w h => (markLeafK b g N x 1 EL (by omega) (by omega) w h).mono fun _ _ q => ⟨⟨q.1, q.2.1⟩, q.2.2⟩
    have HD : Hid (∀ (b : Option Addr) (x : Nat) (w : World), Els w 2 b N (lfF (lfM 1)) → Calls Try.prog 12 #[.slice b N x, .int .i64 1] w fun e w' => e = .returned (.int .i64 ((1 + 2 * N : Nat) : Int)) ∧ Below w.heap.size w w') := fun b x w h => heldLeafK b N x 1 (by omega) (by omega) w h
    have NZ : ¬ ((1 + 2 * n : Nat) : Int) < 0 := by omega
    have kz : ¬ ((1 + 2 * N : Nat) : Int) < 0 := by omega
    have ke : (((1 + 2 * N : Nat) : Int) != ((1 + 2 * N : Nat) : Int)) = false := by simp
    have rr : (cd != cd) = false := by simp
    generalize ((1 + 2 * N : Nat) : Int) = K1 at *
    generalize ((1 + 2 * n : Nat) : Int) = N1 at *
    clear hA hl hn hy
    go_wp2_with fail
    have hb : Below v3.heap.size v3 v3.drew := (Below.refl _ _).drew
    have H : (Box2 v3.drew pb 24 (.int .i64 xv) (.string xh)) := RX.out.below hb
    replace A1 : Hid (Below w.heap.size w v3.drew) := A1.out.trans (hb.mono A1.out.size)
    replace PB : Hid (pb < v3.drew.heap.size) := Nat.lt_of_lt_of_le PB.out hb.size
    clear hb RX
    refine wp_region_noPanic ?_
    refine wp_region_held_drew (S := fun w' => (Box2 w' pb 24 (.int .i64 xv) (.string xh))) (by kernel_rfl) H (fun _ => ?_)
    generalize v3.drew = v4 at *
    refine wpAnyH_take (i := 0) (v := .slice a n c) rfl (by kernel_rfl) (by kernel_rfl) (by kernel_rfl) (fun _ _ _ h => h) (Or.inl ⟨by rfl, ?_⟩) H ?_
    · intro w' hSw; go_simp
    change wpAnyH _ _ _ _ _ _ _ { tmps := #[_, _, _, _, _, _, _, _, _, _, _, _, _, _, _, _, _, _, _, _, _, _, _, _, _, _, _, _, _, _, _, _, _, _, _, _, _, _, _, _, _, _, _, _, _, _, _, _, _, _, _, _, _, _, _, _, _, _, _, _, _, _, _, _, _, _, _, _, _, _, _, _, _, _, _, _, _, _, _, _, _, _, _, _, _, _, _, _, _, _, _, _, _, _, _, _, _, _, _, _, _, _, _, _, _, _, _, _, _, _, _, _, _, _], defers := _ } _
    refine wpAnyH_take (i := 2) (v := .int .i64 k) rfl (by kernel_rfl) (by kernel_rfl) (by kernel_rfl) (fun _ _ _ h => h) (Or.inl ⟨by rfl, ?_⟩) H ?_
    · intro w' hSw; go_simp
    change wpAnyH _ _ _ _ _ _ _ { tmps := #[_, _, _, _, _, _, _, _, _, _, _, _, _, _, _, _, _, _, _, _, _, _, _, _, _, _, _, _, _, _, _, _, _, _, _, _, _, _, _, _, _, _, _, _, _, _, _, _, _, _, _, _, _, _, _, _, _, _, _, _, _, _, _, _, _, _, _, _, _, _, _, _, _, _, _, _, _, _, _, _, _, _, _, _, _, _, _, _, _, _, _, _, _, _, _, _, _, _, _, _, _, _, _, _, _, _, _, _, _, _, _, _, _, _], defers := _ } _
    refine wpAnyH_take (i := 3) (v := .agg #[.int .i64 xv, .string xh]) rfl (by kernel_rfl) (by kernel_rfl) (by kernel_rfl) (fun _ _ _ h => h) (Or.inl ⟨by rfl, ?_⟩) H ?_
    · intro w' hSw; have t0 := hSw.c0; have t1 := hSw.c1; clear hSw; go_simp
    change wpAnyH _ _ _ _ _ _ _ { tmps := #[_, _, _, _, _, _, _, _, _, _, _, _, _, _, _, _, _, _, _, _, _, _, _, _, _, _, _, _, _, _, _, _, _, _, _, _, _, _, _, _, _, _, _, _, _, _, _, _, _, _, _, _, _, _, _, _, _, _, _, _, _, _, _, _, _, _, _, _, _, _, _, _, _, _, _, _, _, _, _, _, _, _, _, _, _, _, _, _, _, _, _, _, _, _, _, _, _, _, _, _, _, _, _, _, _, _, _, _, _, _, _, _, _, _], defers := _ } _
    have AP : Hid _ := A1.out.size
    have PBp : Hid _ := PB.out
    refine wpAnyH_ready (rs := [1]) (by kernel_rfl) (by simp) ?_
    refine AllReadyH.cons rfl (fun KK hK => ?_) AllReadyH.nil
    go_simp
    refine (TO.out _ (HE.out.below A1.out)).mono ?_
    rintro e v5 ⟨⟨ga, rfl, hra, hga, hla⟩, hb⟩
    replace A1 : Hid (Below w.heap.size w v5) := A1.out.trans (hb.mono A1.out.size)
    replace PB : Hid (pb < v5.heap.size) := Nat.lt_of_lt_of_le PB.out hb.size
    replace H : (Box2 v5 pb 24 (.int .i64 xv) (.string xh)) := H.below hb
    have Xa : Hid (RowE v5 2 (some ⟨ga, 0, none⟩) ga n (lfF LF)) := hra
    clear hb hra AP PBp hga hla
    refine hK.out _ _ H (fun _ => ?_)
    clear hK KK
    change wpAnyH _ _ _ _ _ _ _ { tmps := #[_, _, _, _, _, _, _, _, _, _, _, _, _, _, _, _, _, _, _, _, _, _, _, _, _, _, _, _, _, _, _, _, _, _, _, _, _, _, _, _, _, _, _, _, _, _, _, _, _, _, _, _, _, _, _, _, _, _, _, _, _, _, _, _, _, _, _, _, _, _, _, _, _, _, _, _, _, _, _, _, _, _, _, _, _, _, _, _, _, _, _, _, _, _, _, _, _, _, _, _, _, _, _, _, _, _, _, _, _, _, _, _, _, _], defers := _ } _
    refine wpAnyH_ready (rs := [4]) (by kernel_rfl) (by simp) ?_
    refine AllReadyH.cons rfl (fun KK hK => ?_) AllReadyH.nil
    go_simp
    refine (TL.out _).mono ?_
    rintro e v6 ⟨rfl, hb⟩
    replace A1 : Hid (Below w.heap.size w v6) := A1.out.trans (hb.mono A1.out.size)
    replace PB : Hid (pb < v6.heap.size) := Nat.lt_of_lt_of_le PB.out hb.size
    replace Xa : Hid (RowE v6 2 (some ⟨ga, 0, none⟩) ga n (lfF LF)) := Xa.out.below (by omega) hb
    replace H : (Box2 v6 pb 24 (.int .i64 xv) (.string xh)) := H.below hb
    clear hb 
    refine hK.out _ _ H (fun _ => ?_)
    clear hK KK
    change wpAnyH _ _ _ _ _ _ _ { tmps := #[_, _, _, _, _, _, _, _, _, _, _, _, _, _, _, _, _, _, _, _, _, _, _, _, _, _, _, _, _, _, _, _, _, _, _, _, _, _, _, _, _, _, _, _, _, _, _, _, _, _, _, _, _, _, _, _, _, _, _, _, _, _, _, _, _, _, _, _, _, _, _, _, _, _, _, _, _, _, _, _, _, _, _, _, _, _, _, _, _, _, _, _, _, _, _, _, _, _, _, _, _, _, _, _, _, _, _, _, _, _, _, _, _, _], defers := _ } _
    refine wpAnyH_ready (rs := [5]) (by kernel_rfl) (by simp) ?_
    refine AllReadyH.cons rfl (fun KK hK => ?_) AllReadyH.nil
    go_simp
    refine (SO.out _ _ Xa.out.els).mono ?_
    rintro e v7 ⟨⟨aw, cw, pw, rfl, hrw, hpw⟩, hb⟩
    replace A1 : Hid (Below w.heap.size w v7) := A1.out.trans (hb.mono A1.out.size)
    replace PB : Hid (pb < v7.heap.size) := Nat.lt_of_lt_of_le PB.out hb.size
    replace Xa : Hid (RowE v7 2 (some ⟨ga, 0, none⟩) ga n (lfF LF)) := Xa.out.below (by omega) hb
    replace H : (Box2 v7 pb 24 (.int .i64 xv) (.string xh)) := H.below hb
    have Rw : Hid (RowE v7 2 aw pw N (lfF EL)) := hrw
    clear hb hrw
    refine hK.out _ _ H (fun _ => ?_)
    clear hK KK
    change wpAnyH _ _ _ _ _ _ _ { tmps := #[_, _, _, _, _, _, _, _, _, _, _, _, _, _, _, _, _, _, _, _, _, _, _, _, _, _, _, _, _, _, _, _, _, _, _, _, _, _, _, _, _, _, _, _, _, _, _, _, _, _, _, _, _, _, _, _, _, _, _, _, _, _, _, _, _, _, _, _, _, _, _, _, _, _, _, _, _, _, _, _, _, _, _, _, _, _, _, _, _, _, _, _, _, _, _, _, _, _, _, _, _, _, _, _, _, _, _, _, _, _, _, _, _, _], defers := _ } _
    clear Xa
    refine wpAnyH_take (i := 6) (v := .tuple #[.slice aw N cw, .int .i64 cd]) rfl (by kernel_rfl) (by kernel_rfl) (by kernel_rfl) (fun _ _ _ h => h) (Or.inl ⟨by rfl, ?_⟩) H ?_
    · intro w' hSw; go_simp
    change wpAnyH _ _ _ _ _ _ _ { tmps := #[_, _, _, _, _, _, _, _, _, _, _, _, _, _, _, _, _, _, _, _, _, _, _, _, _, _, _, _, _, _, _, _, _, _, _, _, _, _, _, _, _, _, _, _, _, _, _, _, _, _, _, _, _, _, _, _, _, _, _, _, _, _, _, _, _, _, _, _, _, _, _, _, _, _, _, _, _, _, _, _, _, _, _, _, _, _, _, _, _, _, _, _, _, _, _, _, _, _, _, _, _, _, _, _, _, _, _, _, _, _, _, _, _, _], defers := _ } _
    refine wpAnyH_take (i := 7) (v := .slice aw N cw) rfl (by kernel_rfl) (by kernel_rfl) (by kernel_rfl) (fun _ _ _ h => h) (Or.inl ⟨by rfl, ?_⟩) H ?_
    · intro w' hSw; go_simp
    change wpAnyH _ _ _ _ _ _ _ { tmps := #[_, _, _, _, _, _, _, _, _, _, _, _, _, _, _, _, _, _, _, _, _, _, _, _, _, _, _, _, _, _, _, _, _, _, _, _, _, _, _, _, _, _, _, _, _, _, _, _, _, _, _, _, _, _, _, _, _, _, _, _, _, _, _, _, _, _, _, _, _, _, _, _, _, _, _, _, _, _, _, _, _, _, _, _, _, _, _, _, _, _, _, _, _, _, _, _, _, _, _, _, _, _, _, _, _, _, _, _, _, _, _, _, _, _], defers := _ } _
    refine wpAnyH_take (i := 8) (v := .int .i64 cd) rfl (by kernel_rfl) (by kernel_rfl) (by kernel_rfl) (fun _ _ _ h => h) (Or.inl ⟨by rfl, ?_⟩) H ?_
    · intro w' hSw; go_simp
    change wpAnyH _ _ _ _ _ _ _ { tmps := #[_, _, _, _, _, _, _, _, _, _, _, _, _, _, _, _, _, _, _, _, _, _, _, _, _, _, _, _, _, _, _, _, _, _, _, _, _, _, _, _, _, _, _, _, _, _, _, _, _, _, _, _, _, _, _, _, _, _, _, _, _, _, _, _, _, _, _, _, _, _, _, _, _, _, _, _, _, _, _, _, _, _, _, _, _, _, _, _, _, _, _, _, _, _, _, _, _, _, _, _, _, _, _, _, _, _, _, _, _, _, _, _, _, _], defers := _ } _
    refine wpAnyH_take (i := 9) (v := .slice aw N cw) rfl (by kernel_rfl) (by kernel_rfl) (by kernel_rfl) (fun _ _ _ h => h) (Or.inl ⟨by rfl, ?_⟩) H ?_
    · intro w' hSw; go_simp
    change wpAnyH _ _ _ _ _ _ _ { tmps := #[_, _, _, _, _, _, _, _, _, _, _, _, _, _, _, _, _, _, _, _, _, _, _, _, _, _, _, _, _, _, _, _, _, _, _, _, _, _, _, _, _, _, _, _, _, _, _, _, _, _, _, _, _, _, _, _, _, _, _, _, _, _, _, _, _, _, _, _, _, _, _, _, _, _, _, _, _, _, _, _, _, _, _, _, _, _, _, _, _, _, _, _, _, _, _, _, _, _, _, _, _, _, _, _, _, _, _, _, _, _, _, _, _, _], defers := _ } _
    refine wpAnyH_take (i := 10) (v := .int .i64 cd) rfl (by kernel_rfl) (by kernel_rfl) (by kernel_rfl) (fun _ _ _ h => h) (Or.inl ⟨by rfl, ?_⟩) H ?_
    · intro w' hSw; go_simp
    change wpAnyH _ _ _ _ _ _ _ { tmps := #[_, _, _, _, _, _, _, _, _, _, _, _, _, _, _, _, _, _, _, _, _, _, _, _, _, _, _, _, _, _, _, _, _, _, _, _, _, _, _, _, _, _, _, _, _, _, _, _, _, _, _, _, _, _, _, _, _, _, _, _, _, _, _, _, _, _, _, _, _, _, _, _, _, _, _, _, _, _, _, _, _, _, _, _, _, _, _, _, _, _, _, _, _, _, _, _, _, _, _, _, _, _, _, _, _, _, _, _, _, _, _, _, _, _], defers := _ } _
    have RX : Hid (Box2 v7 pb 24 (.int .i64 xv) (.string xh)) := H
    clear H
    refine wpAnyH_done (by kernel_rfl) ?_ _
    refine NoPanic.normal ?_
    clear SO
    have PW : Hid (0 < N → pw < v7.heap.size) := fun z => (hpw z).2
    clear hpw
    go_wp2_with fail
    have AP : Hid _ := A1.out.size
    have PBp : Hid _ := PB.out
    refine (TO.out _ (HE.out.below A1.out)).mono ?_
    rintro e v8 ⟨⟨gb, rfl, hrb, hgb, hlb⟩, hb⟩
    replace A1 : Hid (Below w.heap.size w v8) := A1.out.trans (hb.mono A1.out.size)
    replace PB : Hid (pb < v8.heap.size) := Nat.lt_of_lt_of_le PB.out hb.size
    replace Rw : Hid (RowE v8 2 aw pw N (lfF EL)) := Rw.out.below (by omega) hb
    replace RX : Hid (Box2 v8 pb 24 (.int .i64 xv) (.string xh)) := RX.out.below hb
    have Xb : Hid (RowE v8 2 (some ⟨gb, 0, none⟩) gb n (lfF LF)) := hrb
    have Lb : Hid (w.heap.size ≤ gb ∧ pb < gb) := ⟨Nat.le_trans AP.out hgb, Nat.lt_of_lt_of_le PBp.out hgb⟩
    clear hb hrb AP PBp
    have WB : Hid (0 < N → pw ≠ gb) := fun z => by have := PW.out z; omega
    have PW2 : Hid (0 < N → pw < v8.heap.size) := fun z => by have := PW.out z; omega
    have GB : Hid (gb < v8.heap.size) := hlb
    clear hgb hlb PW
    have t0 := RX.out.c0
    have t1 := RX.out.c1
    go_wp2_with fail
    clear t0 t1
    refine (TL.out _).mono ?_
    rintro e v9 ⟨rfl, hb⟩
    replace A1 : Hid (Below w.heap.size w v9) := A1.out.trans (hb.mono A1.out.size)
    replace PB : Hid (pb < v9.heap.size) := Nat.lt_of_lt_of_le PB.out hb.size
    replace Rw : Hid (RowE v9 2 aw pw N (lfF EL)) := Rw.out.below (by omega) hb
    replace RX : Hid (Box2 v9 pb 24 (.int .i64 xv) (.string xh)) := RX.out.below hb
    replace Xb : Hid (RowE v9 2 (some ⟨gb, 0, none⟩) gb n (lfF LF)) := Xb.out.below (by omega) hb
    replace PW2 : Hid (0 < N → pw < v9.heap.size) := fun z => Nat.lt_of_lt_of_le (PW2.out z) hb.size
    replace GB : Hid (gb < v9.heap.size) := Nat.lt_of_lt_of_le GB.out hb.size
    clear hb 
    go_wp2_with fail
    have AQ : Hid _ := A1.out.size
    have PWq : Hid _ := PW2.out
    have GBq : Hid _ := GB.out
    have PBq : Hid _ := PB.out
    refine (IY.out _ _ Xb.out.els).mono ?_
    rintro e v10 ⟨⟨ag, cg, pg, rfl, hrg, hpg⟩, hb⟩
    replace A1 : Hid (Below w.heap.size w v10) := A1.out.trans (hb.mono A1.out.size)
    replace PB : Hid (pb < v10.heap.size) := Nat.lt_of_lt_of_le PB.out hb.size
    replace Rw : Hid (RowE v10 2 aw pw N (lfF EL)) := Rw.out.below (by omega) hb
    replace RX : Hid (Box2 v10 pb 24 (.int .i64 xv) (.string xh)) := RX.out.below hb
    replace Xb : Hid (RowE v10 2 (some ⟨gb, 0, none⟩) gb n (lfF LF)) := Xb.out.below (by omega) hb
    replace PW2 : Hid (0 < N → pw < v10.heap.size) := fun z => Nat.lt_of_lt_of_le (PW2.out z) hb.size
    replace GB : Hid (gb < v10.heap.size) := Nat.lt_of_lt_of_le GB.out hb.size
    have Rg : Hid (RowE v10 2 ag pg N (lfF EL)) := hrg
    clear hb hrg
    have GW : Hid (0 < N → pw ≠ pg) := fun z => by have := PWq.out z; have := (hpg z).1; omega
    have GX : Hid (0 < N → pg ≠ gb) := fun z => by have := GBq.out; have := (hpg z).1; omega
    have GL : Hid (0 < N → w.heap.size ≤ pg ∧ pb < pg) := fun z => ⟨Nat.le_trans AQ.out (hpg z).1, Nat.lt_of_lt_of_le PBq.out (hpg z).1⟩
    clear hpg PW2 GB AQ PWq GBq PBq
    go_wp2_with fail
    refine (ES.out _ _ _ _ _ Rg.out.els Rw.out.els).mono ?_
    rintro e v11 ⟨rfl, hb⟩
    replace A1 : Hid (Below w.heap.size w v11) := A1.out.trans (hb.mono A1.out.size)
    replace PB : Hid (pb < v11.heap.size) := Nat.lt_of_lt_of_le PB.out hb.size
    replace Rw : Hid (RowE v11 2 aw pw N (lfF EL)) := Rw.out.below (by omega) hb
    replace RX : Hid (Box2 v11 pb 24 (.int .i64 xv) (.string xh)) := RX.out.below hb
    replace Xb : Hid (RowE v11 2 (some ⟨gb, 0, none⟩) gb n (lfF LF)) := Xb.out.below (by omega) hb
    replace Rg : Hid (RowE v11 2 ag pg N (lfF EL)) := Rg.out.below (by omega) hb
    clear hb 
    go_wp2_with fail
    have AP : Hid _ := A1.out.size
    have PBp : Hid _ := PB.out
    refine (TO.out _ (HE.out.below A1.out)).mono ?_
    rintro e v12 ⟨⟨gc, rfl, hrc, hgc, hlc⟩, hb⟩
    replace A1 : Hid (Below w.heap.size w v12) := A1.out.trans (hb.mono A1.out.size)
    replace PB : Hid (pb < v12.heap.size) := Nat.lt_of_lt_of_le PB.out hb.size
    replace Rw : Hid (RowE v12 2 aw pw N (lfF EL)) := Rw.out.below (by omega) hb
    replace RX : Hid (Box2 v12 pb 24 (.int .i64 xv) (.string xh)) := RX.out.below hb
    replace Xb : Hid (RowE v12 2 (some ⟨gb, 0, none⟩) gb n (lfF LF)) := Xb.out.below (by omega) hb
    replace Rg : Hid (RowE v12 2 ag pg N (lfF EL)) := Rg.out.below (by omega) hb
    have Xc : Hid (RowE v12 2 (some ⟨gc, 0, none⟩) gc n (lfF LF)) := hrc
    have Lc : Hid (w.heap.size ≤ gc ∧ pb < gc) := ⟨Nat.le_trans AP.out hgc, Nat.lt_of_lt_of_le PBp.out hgc⟩
    clear hb hrc AP PBp
    clear hgc hlc Lc
    go_wp2_with fail
    refine (EQ.out _ _ _ _ _ Xb.out.els Xc.out.els).mono ?_
    rintro e v13 ⟨rfl, hb⟩
    replace A1 : Hid (Below w.heap.size w v13) := A1.out.trans (hb.mono A1.out.size)
    replace PB : Hid (pb < v13.heap.size) := Nat.lt_of_lt_of_le PB.out hb.size
    replace Rw : Hid (RowE v13 2 aw pw N (lfF EL)) := Rw.out.below (by omega) hb
    replace RX : Hid (Box2 v13 pb 24 (.int .i64 xv) (.string xh)) := RX.out.below hb
    replace Xb : Hid (RowE v13 2 (some ⟨gb, 0, none⟩) gb n (lfF LF)) := Xb.out.below (by omega) hb
    replace Rg : Hid (RowE v13 2 ag pg N (lfF EL)) := Rg.out.below (by omega) hb
    replace Xc : Hid (RowE v13 2 (some ⟨gc, 0, none⟩) gc n (lfF LF)) := Xc.out.below (by omega) hb
    clear hb EQ
    clear Xc
    go_wp2_with fail
    refine (MR.out _ _ Xb.out).mono ?_
    rintro e v14 ⟨rfl, hto⟩
    replace A1 : Hid (Below w.heap.size w v14) := A1.out.trans (hto.toBelow (fun _ => Lb.out.1) A1.out.size)
    replace PB : Hid (pb < v14.heap.size) := Nat.lt_of_lt_of_le PB.out hto.1.size
    replace Rw : Hid (RowE v14 2 aw pw N (lfF EL)) := Rw.out.turned (by omega) hto (fun z _ => WB.out z)
    replace RX : Hid (Box2 v14 pb 24 (.int .i64 xv) (.string xh)) := RX.out.turned hto (fun _ => by have := Lb.out.2; omega)
    replace Rg : Hid (RowE v14 2 ag pg N (lfF EL)) := Rg.out.turned (by omega) hto (fun z _ => GX.out z)
    clear hto MR Xb WB GX Lb
    go_wp2_with fail
    refine (ES.out _ _ _ _ _ Rg.out.els Rw.out.els).mono ?_
    rintro e v15 ⟨rfl, hb⟩
    replace A1 : Hid (Below w.heap.size w v15) := A1.out.trans (hb.mono A1.out.size)
    replace PB : Hid (pb < v15.heap.size) := Nat.lt_of_lt_of_le PB.out hb.size
    replace Rw : Hid (RowE v15 2 aw pw N (lfF EL)) := Rw.out.below (by omega) hb
    replace RX : Hid (Box2 v15 pb 24 (.int .i64 xv) (.string xh)) := RX.out.below hb
    replace Rg : Hid (RowE v15 2 ag pg N (lfF EL)) := Rg.out.below (by omega) hb
    clear hb 
    go_wp2_with fail
    refine (MS.out _ _ _ _ Rg.out).mono ?_
    rintro e v16 ⟨⟨rfl, hmr⟩, hto⟩
    replace A1 : Hid (Below w.heap.size w v16) := A1.out.trans (hto.toBelow (fun z => (GL.out z).1) A1.out.size)
    replace PB : Hid (pb < v16.heap.size) := Nat.lt_of_lt_of_le PB.out hto.1.size
    replace Rw : Hid (RowE v16 2 aw pw N (lfF EL)) := Rw.out.turned (by omega) hto (fun z _ => GW.out z)
    replace RX : Hid (Box2 v16 pb 24 (.int .i64 xv) (.string xh)) := RX.out.turned hto (fun z => by have := (GL.out z).2; omega)
    clear Rg
    have Rg : Hid (Els v16 2 ag N (lfF (lfM 1))) := hmr.els
    clear hto hmr MS GW GL
    go_wp2_with fail
    refine (HD.out _ _ _ Rg.out).mono ?_
    rintro e v17 ⟨rfl, hb⟩
    replace A1 : Hid (Below w.heap.size w v17) := A1.out.trans (hb.mono A1.out.size)
    replace PB : Hid (pb < v17.heap.size) := Nat.lt_of_lt_of_le PB.out hb.size
    replace Rw : Hid (RowE v17 2 aw pw N (lfF EL)) := Rw.out.below (by omega) hb
    replace RX : Hid (Box2 v17 pb 24 (.int .i64 xv) (.string xh)) := RX.out.below hb
    replace Rg : Hid (Els v17 2 ag N (lfF (lfM 1))) := Rg.out.below hb
    clear hb 
    go_wp2_with fail
    have hb : Below v17.heap.size v17 v17.drew := (Below.refl _ _).drew
    have H : (Box2 v17.drew pb 24 (.int .i64 xv) (.string xh)) := RX.out.below hb
    replace A1 : Hid (Below w.heap.size w v17.drew) := A1.out.trans (hb.mono A1.out.size)
    replace PB : Hid (pb < v17.drew.heap.size) := Nat.lt_of_lt_of_le PB.out hb.size
    replace Rw : Hid (RowE v17.drew 2 aw pw N (lfF EL)) := Rw.out.below (by omega) hb
    replace Rg : Hid (Els v17.drew 2 ag N (lfF (lfM 1))) := Rg.out.below hb
    clear hb RX
    refine wp_region_noPanic ?_
    refine wp_region_held_drew (S := fun w' => (Box2 w' pb 24 (.int .i64 xv) (.string xh))) (by kernel_rfl) H (fun _ => ?_)
    generalize v17.drew = v18 at *
    refine wpAnyH_take (i := 0) (v := .slice a n c) rfl (by kernel_rfl) (by kernel_rfl) (by kernel_rfl) (fun _ _ _ h => h) (Or.inl ⟨by rfl, ?_⟩) H ?_
    · intro w' hSw; go_simp
    change wpAnyH _ _ _ _ _ _ _ { tmps := #[_, _, _, _, _, _, _, _, _, _, _, _, _, _, _, _, _, _, _, _, _, _, _, _, _, _, _, _, _, _, _, _, _, _, _, _, _, _, _, _, _, _, _, _, _, _, _, _, _, _, _, _, _, _, _, _, _, _, _, _, _, _, _, _, _, _, _, _, _, _, _, _, _, _, _, _, _, _, _, _, _, _, _, _, _, _, _, _, _, _, _, _, _, _, _, _, _, _, _, _, _, _, _, _, _, _, _, _, _, _, _, _, _, _], defers := _ } _
    refine wpAnyH_take (i := 2) (v := .int .i64 k) rfl (by kernel_rfl) (by kernel_rfl) (by kernel_rfl) (fun _ _ _ h => h) (Or.inl ⟨by rfl, ?_⟩) H ?_
    · intro w' hSw; go_simp
    change wpAnyH _ _ _ _ _ _ _ { tmps := #[_, _, _, _, _, _, _, _, _, _, _, _, _, _, _, _, _, _, _, _, _, _, _, _, _, _, _, _, _, _, _, _, _, _, _, _, _, _, _, _, _, _, _, _, _, _, _, _, _, _, _, _, _, _, _, _, _, _, _, _, _, _, _, _, _, _, _, _, _, _, _, _, _, _, _, _, _, _, _, _, _, _, _, _, _, _, _, _, _, _, _, _, _, _, _, _, _, _, _, _, _, _, _, _, _, _, _, _, _, _, _, _, _, _], defers := _ } _
    refine wpAnyH_take (i := 3) (v := .agg #[.int .i64 xv, .string xh]) rfl (by kernel_rfl) (by kernel_rfl) (by kernel_rfl) (fun _ _ _ h => h) (Or.inl ⟨by rfl, ?_⟩) H ?_
    · intro w' hSw; have t0 := hSw.c0; have t1 := hSw.c1; clear hSw; go_simp
    change wpAnyH _ _ _ _ _ _ _ { tmps := #[_, _, _, _, _, _, _, _, _, _, _, _, _, _, _, _, _, _, _, _, _, _, _, _, _, _, _, _, _, _, _, _, _, _, _, _, _, _, _, _, _, _, _, _, _, _, _, _, _, _, _, _, _, _, _, _, _, _, _, _, _, _, _, _, _, _, _, _, _, _, _, _, _, _, _, _, _, _, _, _, _, _, _, _, _, _, _, _, _, _, _, _, _, _, _, _, _, _, _, _, _, _, _, _, _, _, _, _, _, _, _, _, _, _], defers := _ } _
    have AP : Hid _ := A1.out.size
    have PBp : Hid _ := PB.out
    refine wpAnyH_ready (rs := [1]) (by kernel_rfl) (by simp) ?_
    refine AllReadyH.cons rfl (fun KK hK => ?_) AllReadyH.nil
    go_simp
    refine (TO.out _ (HE.out.below A1.out)).mono ?_
    rintro e v19 ⟨⟨gd, rfl, hrd, hgd, hld⟩, hb⟩
    replace A1 : Hid (Below w.heap.size w v19) := A1.out.trans (hb.mono A1.out.size)
    replace PB : Hid (pb < v19.heap.size) := Nat.lt_of_lt_of_le PB.out hb.size
    replace Rw : Hid (RowE v19 2 aw pw N (lfF EL)) := Rw.out.below (by omega) hb
    replace Rg : Hid (Els v19 2 ag N (lfF (lfM 1))) := Rg.out.below hb
    replace H : (Box2 v19 pb 24 (.int .i64 xv) (.string xh)) := H.below hb
    have Xd : Hid (RowE v19 2 (some ⟨gd, 0, none⟩) gd n (lfF LF)) := hrd
    clear hb hrd AP PBp hgd hld
    refine hK.out _ _ H (fun _ => ?_)
    clear hK KK
    change wpAnyH _ _ _ _ _ _ _ { tmps := #[_, _, _, _, _, _, _, _, _, _, _, _, _, _, _, _, _, _, _, _, _, _, _, _, _, _, _, _, _, _, _, _, _, _, _, _, _, _, _, _, _, _, _, _, _, _, _, _, _, _, _, _, _, _, _, _, _, _, _, _, _, _, _, _, _, _, _, _, _, _, _, _, _, _, _, _, _, _, _, _, _, _, _, _, _, _, _, _, _, _, _, _, _, _, _, _, _, _, _, _, _, _, _, _, _, _, _, _, _, _, _, _, _, _], defers := _ } _
    refine wpAnyH_ready (rs := [4]) (by kernel_rfl) (by simp) ?_
    refine AllReadyH.cons rfl (fun KK hK => ?_) AllReadyH.nil
    go_simp
    refine (TL.out _).mono ?_
    rintro e v20 ⟨rfl, hb⟩
    replace A1 : Hid (Below w.heap.size w v20) := A1.out.trans (hb.mono A1.out.size)
    replace PB : Hid (pb < v20.heap.size) := Nat.lt_of_lt_of_le PB.out hb.size
    replace Rw : Hid (RowE v20 2 aw pw N (lfF EL)) := Rw.out.below (by omega) hb
    replace Rg : Hid (Els v20 2 ag N (lfF (lfM 1))) := Rg.out.below hb
    replace Xd : Hid (RowE v20 2 (some ⟨gd, 0, none⟩) gd n (lfF LF)) := Xd.out.below (by omega) hb
    replace H : (Box2 v20 pb 24 (.int .i64 xv) (.string xh)) := H.below hb
    clear hb 
    refine hK.out _ _ H (fun _ => ?_)
    clear hK KK
    change wpAnyH _ _ _ _ _ _ _ { tmps := #[_, _, _, _, _, _, _, _, _, _, _, _, _, _, _, _, _, _, _, _, _, _, _, _, _, _, _, _, _, _, _, _, _, _, _, _, _, _, _, _, _, _, _, _, _, _, _, _, _, _, _, _, _, _, _, _, _, _, _, _, _, _, _, _, _, _, _, _, _, _, _, _, _, _, _, _, _, _, _, _, _, _, _, _, _, _, _, _, _, _, _, _, _, _, _, _, _, _, _, _, _, _, _, _, _, _, _, _, _, _, _, _, _, _], defers := _ } _
    refine wpAnyH_ready (rs := [5]) (by kernel_rfl) (by simp) ?_
    refine AllReadyH.cons rfl (fun KK hK => ?_) AllReadyH.nil
    go_simp
    refine (IY.out _ _ Xd.out.els).mono ?_
    rintro e v21 ⟨⟨ah, ch, ph, rfl, hrh, hph⟩, hb⟩
    replace A1 : Hid (Below w.heap.size w v21) := A1.out.trans (hb.mono A1.out.size)
    replace PB : Hid (pb < v21.heap.size) := Nat.lt_of_lt_of_le PB.out hb.size
    replace Rw : Hid (RowE v21 2 aw pw N (lfF EL)) := Rw.out.below (by omega) hb
    replace Rg : Hid (Els v21 2 ag N (lfF (lfM 1))) := Rg.out.below hb
    replace Xd : Hid (RowE v21 2 (some ⟨gd, 0, none⟩) gd n (lfF LF)) := Xd.out.below (by omega) hb
    replace H : (Box2 v21 pb 24 (.int .i64 xv) (.string xh)) := H.below hb
    have Rh : Hid (RowE v21 2 ah ph N (lfF EL)) := hrh
    clear hb hrh
    refine hK.out _ _ H (fun _ => ?_)
    clear hK KK
    change wpAnyH _ _ _ _ _ _ _ { tmps := #[_, _, _, _, _, _, _, _, _, _, _, _, _, _, _, _, _, _, _, _, _, _, _, _, _, _, _, _, _, _, _, _, _, _, _, _, _, _, _, _, _, _, _, _, _, _, _, _, _, _, _, _, _, _, _, _, _, _, _, _, _, _, _, _, _, _, _, _, _, _, _, _, _, _, _, _, _, _, _, _, _, _, _, _, _, _, _, _, _, _, _, _, _, _, _, _, _, _, _, _, _, _, _, _, _, _, _, _, _, _, _, _, _, _], defers := _ } _
    clear Xd
    refine wpAnyH_take (i := 6) (v := .tuple #[.slice ah N ch, .int .i64 cd]) rfl (by kernel_rfl) (by kernel_rfl) (by kernel_rfl) (fun _ _ _ h => h) (Or.inl ⟨by rfl, ?_⟩) H ?_
    · intro w' hSw; go_simp
    change wpAnyH _ _ _ _ _ _ _ { tmps := #[_, _, _, _, _, _, _, _, _, _, _, _, _, _, _, _, _, _, _, _, _, _, _, _, _, _, _, _, _, _, _, _, _, _, _, _, _, _, _, _, _, _, _, _, _, _, _, _, _, _, _, _, _, _, _, _, _, _, _, _, _, _, _, _, _, _, _, _, _, _, _, _, _, _, _, _, _, _, _, _, _, _, _, _, _, _, _, _, _, _, _, _, _, _, _, _, _, _, _, _, _, _, _, _, _, _, _, _, _, _, _, _, _, _], defers := _ } _
    refine wpAnyH_take (i := 7) (v := .slice ah N ch) rfl (by kernel_rfl) (by kernel_rfl) (by kernel_rfl) (fun _ _ _ h => h) (Or.inl ⟨by rfl, ?_⟩) H ?_
    · intro w' hSw; go_simp
    change wpAnyH _ _ _ _ _ _ _ { tmps := #[_, _, _, _, _, _, _, _, _, _, _, _, _, _, _, _, _, _, _, _, _, _, _, _, _, _, _, _, _, _, _, _, _, _, _, _, _, _, _, _, _, _, _, _, _, _, _, _, _, _, _, _, _, _, _, _, _, _, _, _, _, _, _, _, _, _, _, _, _, _, _, _, _, _, _, _, _, _, _, _, _, _, _, _, _, _, _, _, _, _, _, _, _, _, _, _, _, _, _, _, _, _, _, _, _, _, _, _, _, _, _, _, _, _], defers := _ } _
    refine wpAnyH_take (i := 8) (v := .int .i64 cd) rfl (by kernel_rfl) (by kernel_rfl) (by kernel_rfl) (fun _ _ _ h => h) (Or.inl ⟨by rfl, ?_⟩) H ?_
    · intro w' hSw; go_simp
    change wpAnyH _ _ _ _ _ _ _ { tmps := #[_, _, _, _, _, _, _, _, _, _, _, _, _, _, _, _, _, _, _, _, _, _, _, _, _, _, _, _, _, _, _, _, _, _, _, _, _, _, _, _, _, _, _, _, _, _, _, _, _, _, _, _, _, _, _, _, _, _, _, _, _, _, _, _, _, _, _, _, _, _, _, _, _, _, _, _, _, _, _, _, _, _, _, _, _, _, _, _, _, _, _, _, _, _, _, _, _, _, _, _, _, _, _, _, _, _, _, _, _, _, _, _, _, _], defers := _ } _
    refine wpAnyH_take (i := 9) (v := .slice ah N ch) rfl (by kernel_rfl) (by kernel_rfl) (by kernel_rfl) (fun _ _ _ h => h) (Or.inl ⟨by rfl, ?_⟩) H ?_
    · intro w' hSw; go_simp
    change wpAnyH _ _ _ _ _ _ _ { tmps := #[_, _, _, _, _, _, _, _, _, _, _, _, _, _, _, _, _, _, _, _, _, _, _, _, _, _, _, _, _, _, _, _, _, _, _, _, _, _, _, _, _, _, _, _, _, _, _, _, _, _, _, _, _, _, _, _, _, _, _, _, _, _, _, _, _, _, _, _, _, _, _, _, _, _, _, _, _, _, _, _, _, _, _, _, _, _, _, _, _, _, _, _, _, _, _, _, _, _, _, _, _, _, _, _, _, _, _, _, _, _, _, _, _, _], defers := _ } _
    refine wpAnyH_take (i := 10) (v := .int .i64 cd) rfl (by kernel_rfl) (by kernel_rfl) (by kernel_rfl) (fun _ _ _ h => h) (Or.inl ⟨by rfl, ?_⟩) H ?_
    · intro w' hSw; go_simp
    change wpAnyH _ _ _ _ _ _ _ { tmps := #[_, _, _, _, _, _, _, _, _, _, _, _, _, _, _, _, _, _, _, _, _, _, _, _, _, _, _, _, _, _, _, _, _, _, _, _, _, _, _, _, _, _, _, _, _, _, _, _, _, _, _, _, _, _, _, _, _, _, _, _, _, _, _, _, _, _, _, _, _, _, _, _, _, _, _, _, _, _, _, _, _, _, _, _, _, _, _, _, _, _, _, _, _, _, _, _, _, _, _, _, _, _, _, _, _, _, _, _, _, _, _, _, _, _], defers := _ } _
    have RX : Hid (Box2 v21 pb 24 (.int .i64 xv) (.string xh)) := H
    clear H
    refine wpAnyH_done (by kernel_rfl) ?_ _
    refine NoPanic.normal ?_
    clear hph IY
    go_wp2_with fail
    refine (ES.out _ _ _ _ _ Rh.out.els Rw.out.els).mono ?_
    rintro e v22 ⟨rfl, hb⟩
    replace A1 : Hid (Below w.heap.size w v22) := A1.out.trans (hb.mono A1.out.size)
    replace PB : Hid (pb < v22.heap.size) := Nat.lt_of_lt_of_le PB.out hb.size
    replace Rw : Hid (RowE v22 2 aw pw N (lfF EL)) := Rw.out.below (by omega) hb
    replace Rg : Hid (Els v22 2 ag N (lfF (lfM 1))) := Rg.out.below hb
    replace Rh : Hid (RowE v22 2 ah ph N (lfF EL)) := Rh.out.below (by omega) hb
    replace RX : Hid (Box2 v22 pb 24 (.int .i64 xv) (.string xh)) := RX.out.below hb
    clear hb ES
    clear Rh Rw
    go_wp2_with fail
    refine (HD.out _ _ _ Rg.out).mono ?_
    rintro e v23 ⟨rfl, hb⟩
    replace A1 : Hid (Below w.heap.size w v23) := A1.out.trans (hb.mono A1.out.size)
    replace PB : Hid (pb < v23.heap.size) := Nat.lt_of_lt_of_le PB.out hb.size
    replace Rg : Hid (Els v23 2 ag N (lfF (lfM 1))) := Rg.out.below hb
    replace RX : Hid (Box2 v23 pb 24 (.int .i64 xv) (.string xh)) := RX.out.below hb
    clear hb HD
    clear HE Rg TO rr RX TL PB PE
    go_wp2
    go_ret
    exact ⟨rfl, A1.out⟩
end Go.Proofs.Ytpljdlgjeeikkac
