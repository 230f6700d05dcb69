/-
  The exact law of BankBytes (written by tools/bankgen.py).
-/
import Derived.Test.YtmejmpdnmhnheabDoorBankBy
import Derived.Test.YtmejmpdnmhnheabDoorBankByS
import Derived.Test.YtmejmpdnmhnheabDoorBankTo
import Derived.Test.YtmejmpdnmhnheabDoorByteS
namespace Go.Proofs.YtmejmpdnmhnheabDoor
open Go.ChangeShapes Go.WideShapes Go.ChangeAt Go.RowKit
set_option linter.unusedVariables false
theorem ownS_of_RL {w : World} {B g c : Nat} {L : List Nat} (h : RL w B g c L) : OwnS w B (some ⟨g, 0, none⟩) L.length (fun i => L.getD i 0) := by
  have e : lv L = bv L.length (fun i => L.getD i 0) := by
    unfold lv bv
    refine List.ext_getElem (by simp) (fun i h1 h2 => ?_)
    simp at h1
    simp [h1]
  obtain ⟨a, cap, hv, ho⟩ := ownS_of_owned (f := fun i => L.getD i 0) (by rw [← e]; exact h)
  cases hv
  exact ho
theorem OwnS.ofBlocks {w w' : World} {B : Nat} {a : Option Addr} {n : Nat} {f : Nat → Nat} (h : OwnS w B a n f) (e : ∀ b, B ≤ b → b < w.heap.size → w'.heap[b]? = w.heap[b]?) : OwnS w' B a n f := by
  rcases h with h | ⟨b, hB, ha, hr⟩
  · exact .inl h
  · exact .inr ⟨b, hB, ha, hr.of_block (e b hB hr.lt)⟩
/-- The answers of both, alike. -/
theorem bb_some (d : Bk) : ∃ (n : Nat) (f : Nat → Nat) (cd : Int), n ≤ 1048576 ∧ (∀ (b0 b1 : Option Addr) (x0 x1 : Nat) (w : World), BankV w d b0 b1 → Calls Tryd.prog 15 #[.agg #[.slice b0 d.nr x0, .slice b1 d.ns x1]] w fun e w' => (∃ a c, e = .returned (.tuple #[.slice a n c, .int .i64 cd]) ∧ OwnS w' w.heap.size a n f) ∧ Below w.heap.size w w') ∧
    (∀ (b0 b1 : Option Addr) (x0 x1 : Nat) (w : World), BankV w d b0 b1 → TabW w → Calls Tryd.prog 16 #[.agg #[.slice b0 d.nr x0, .slice b1 d.ns x1]] w fun e w' => (∃ a c, e = .returned (.tuple #[.slice a n c, .int .i64 cd]) ∧ OwnS w' w.heap.size a n f) ∧ Below w.heap.size w w') := by
  by_cases h : d.Ok
  · refine ⟨(bankL d).length, fun i => (bankL d).getD i 0, 0, by rw [bankL_length h]; have := h.1.1; have := h.2.1; omega, fun b0 b1 x0 x1 w hv => (specBankBytes_ok d h b0 b1 x0 x1 w hv).mono ?_, fun b0 b1 x0 x1 w hv hT => (implBankBytes_ok d h b0 b1 x0 x1 w hv hT).mono ?_⟩
    · rintro e w' ⟨⟨g, c, he, hr⟩, hb⟩
      exact ⟨⟨_, c, he, ownS_of_RL hr⟩, hb⟩
    · rintro e w' ⟨⟨g, c, he, hr⟩, hb⟩
      exact ⟨⟨_, c, he, ownS_of_RL hr⟩, hb⟩
  · refine ⟨0, fun _ => 0, 1, by omega, fun b0 b1 x0 x1 w hv => (specBankBytes_no d h b0 b1 x0 x1 w hv).mono ?_, fun b0 b1 x0 x1 w hv hT => (implBankBytes_no d h b0 b1 x0 x1 w hv hT).mono ?_⟩
    · rintro e w' ⟨⟨g, he⟩, hb⟩
      exact ⟨⟨_, 0, he, .inl rfl⟩, hb⟩
    · rintro e w' ⟨he, hb⟩
      exact ⟨⟨_, 0, he, .inl rfl⟩, hb⟩
set_option maxRecDepth 100000 in
set_option maxHeartbeats 4000000 in
theorem law_bankBytes (d : Bk) (a0 a1 : Option Addr) (c0 c1 : Nat) (l0 : d.nr ≤ maxLen) (l1 : d.ns ≤ maxLen) (m0 : ∀ i, i < d.nr → (d.R i).r.size ≤ maxLen) (w : World) (h : BankV w d a0 a1) (hT : TabW w) :
    Calls Tryd.prog 4 #[.agg #[.slice a0 d.nr c0, .slice a1 d.ns c1]] w fun e w' => e = .returned (.bool true) ∧ Below w.heap.size w w' := by
  obtain ⟨n, f, cd, hn, hS, hI⟩ := bb_some d
  have SO : Hid (∀ (b0 b1 : Option Addr) (x0 x1 : Nat) (w : World), BankV w d b0 b1 → Calls Tryd.prog 15 #[.agg #[.slice b0 d.nr x0, .slice b1 d.ns x1]] w fun e w' => (∃ a c, e = .returned (.tuple #[.slice a n c, .int .i64 cd]) ∧ OwnS w' w.heap.size a n f) ∧ Below w.heap.size w w') := hS
  have IY : Hid (∀ (b0 b1 : Option Addr) (x0 x1 : Nat) (w : World), BankV w d b0 b1 → TabW w → Calls Tryd.prog 16 #[.agg #[.slice b0 d.nr x0, .slice b1 d.ns x1]] w fun e w' => (∃ a c, e = .returned (.tuple #[.slice a n c, .int .i64 cd]) ∧ OwnS w' w.heap.size a n f) ∧ Below w.heap.size w w') := hI
  have EB : Hid (∀ (a b : Option Addr) (x y : Nat) (w : World), Code8 w a n f → Code8 w b n f → Calls Tryd.prog 17 #[.slice a n x, .slice b n y] w fun e w' => e = .returned (.bool true) ∧ Below w.heap.size w w') := fun a b x y w h h' => (eqByteS_yes a b n x y f w h h' hn).mono fun _ _ q => ⟨q.1, by obtain ⟨k, rfl⟩ := q.2; exact below_drewN8 (Below.refl _ _) k⟩
  have MB : Hid (∀ (a : Option Addr) (B x : Nat) (w : World), OwnS w B a n f → B ≤ w.heap.size → Calls Tryd.prog 18 #[.slice a n x, .int .i64 1] w fun e w' => e = .returned (.int .i64 ((n + 1 : Nat) : Int)) ∧ OwnS w' B a n mk8 ∧ Below B w w') := fun a B x w h hB => markS a B n x f w h hB hn
  have HH : Hid (∀ (a : Option Addr) (x : Nat) (w : World), Code8 w a n mk8 → Calls Tryd.prog 19 #[.slice a n x, .int .i64 1] w fun e w' => e = .returned (.int .i64 ((n + 1 : Nat) : Int)) ∧ Below w.heap.size w w') := fun a x w h => (heldByteS_yes a n x w h hn).mono fun _ _ q => ⟨q.1, by obtain ⟨k, rfl⟩ := q.2; exact below_drewN8 (Below.refl _ _) k⟩
  have rr : (cd != cd) = false := by simp
  have nz : ¬ ((n + 1 : Nat) : Int) < 0 := by omega
  have ne : (((n + 1 : Nat) : Int) != ((n + 1 : Nat) : Int)) = false := by simp
  clear hS hI hn
  have SZ : Hid (∀ w : World, BankV w d a0 a1 → Calls Tryd.prog 6 #[.agg #[.slice a0 d.nr c0, .slice a1 d.ns c1], .int .i64 1048576] w fun e w' => (∃ y : Int, e = .returned (.int .i64 y) ∧ y ≤ 1048576 ∧ (0 ≤ y → d.nr ≤ 1048576 ∧ d.ns ≤ 1048576)) ∧ Below w.heap.size w w') := fun w h => szBank_any d a0 a1 c0 c1 w h l0 l1 m0
  have HX : Hid (BankV w d a0 a1) := h
  have HT : Hid (TabW w) := hT
  clear h l0 l1 m0 hT
  have A1 : Hid (Below w.heap.size w (w.alloc (.cells #[.slice a0 d.nr c0, .slice a1 d.ns c1] 25))) := (Below.refl w.heap.size w).alloc (Nat.le_refl _) _
  have RA : Hid (Box2 (w.alloc (.cells #[.slice a0 d.nr c0, .slice a1 d.ns c1] 25)) w.heap.size 25 (.slice a0 d.nr c0) (.slice a1 d.ns c1)) := Box2.madeAt rfl _ _ _
  have HB : Hid (BankV (w.alloc (.cells #[.slice a0 d.nr c0, .slice a1 d.ns c1] 25)) d a0 a1) := HX.out.below A1.out
  have TW : Hid (TabW (w.alloc (.cells #[.slice a0 d.nr c0, .slice a1 d.ns c1] 25))) := HT.out.below A1.out
  clear HX HT
  go_enter Tryd.func4, Tryd.ntmps4
  go_wp2_with fail
  generalize (w.alloc (.cells #[.slice a0 d.nr c0, .slice a1 d.ns c1] 25)) = v1 at *
  refine (SZ.out _ HB.out).mono ?_
  rintro e v2 ⟨⟨y, rfl, hy, hy2⟩, hb⟩
  replace A1 : Hid (Below w.heap.size w v2) := A1.out.trans (hb.mono A1.out.size)
  replace RA : Hid (Box2 v2 w.heap.size 25 (.slice a0 d.nr c0) (.slice a1 d.ns c1)) := RA.out.below hb
  replace HB : Hid (BankV v2 d a0 a1) := HB.out.below hb
  replace TW : Hid (TabW v2) := TW.out.below hb
  clear hb SZ
  by_cases hy0 : y < 0
  · clear hy2
    go_wp2
    go_ret
    exact ⟨rfl, A1.out⟩
  · obtain ⟨h0, h1⟩ := hy2 (by omega)
    clear hy2
    have TB : Hid (∀ w : World, BankV w d a0 a1 → Calls Tryd.prog 9 #[.agg #[.slice a0 d.nr c0, .slice a1 d.ns c1]] w fun e w' => (∃ g0 g1, w.heap.size ≤ g0 ∧ g0 < g1 ∧ g1 < w'.heap.size ∧ e = .returned (.agg #[.slice (some ⟨g0, 0, none⟩) d.nr d.nr, .slice (some ⟨g1, 0, none⟩) d.ns d.ns]) ∧ RowB w' d (some ⟨g0, 0, none⟩) (some ⟨g1, 0, none⟩) g0 g1) ∧ Below w.heap.size w w') := fun w h => toBank_any d a0 a1 c0 c1 w h h0 h1
    have EQ : Hid (∀ (b0 b1 e0 e1 : Option Addr) (x0 x1 y0 y1 : Nat) (w : World), BankV w d b0 b1 → BankV w d e0 e1 → Calls Tryd.prog 12 #[.agg #[.slice b0 d.nr x0, .slice b1 d.ns x1], .agg #[.slice e0 d.nr y0, .slice e1 d.ns y1]] w fun e w' => e = .returned (.bool true) ∧ Below w.heap.size w w') := fun b0 b1 e0 e1 x0 x1 y0 y1 w h h' => eqBank_yes d b0 b1 e0 e1 x0 x1 y0 y1 w h h' h0 h1
    have MK : Hid (∀ (B : Nat) (b0 b1 : Option Addr) (x0 x1 g0 g1 : Nat) (w : World), (0 < d.nr → B ≤ g0) ∧ (0 < d.ns → B ≤ g1) → B ≤ w.heap.size → RowB w d b0 b1 g0 g1 → Calls Tryd.prog 13 #[.agg #[.slice b0 d.nr x0, .slice b1 d.ns x1], .int .i64 1] w fun e w' => e = .returned (.int .i64 ((1 + 3 * d.nr + 4 * d.ns : Nat) : Int)) ∧ RowB w' (d.marked 1) b0 b1 g0 g1 ∧ KeepB w w' d g0 g1 ∧ Below B w w') := fun B b0 b1 x0 x1 g0 g1 w hB hw h => markBank_any B d b0 b1 x0 x1 g0 g1 1 (by omega) (by omega) hB w hw h
    have kz : ¬ ((1 + 3 * d.nr + 4 * d.ns : Nat) : Int) < 0 := by omega
    clear h0 h1
    generalize ((1 + 3 * d.nr + 4 * d.ns : Nat) : Int) = K1 at *
    generalize ((n + 1 : Nat) : Int) = N1 at *
    have t0 := RA.out.c0
    have t1 := RA.out.c1
    go_wp2_with fail
    clear t0 t1
    refine (TB.out _ HB.out).mono ?_
    rintro e v3 ⟨⟨ga0, ga1, hga0, hga1, hga2, rfl, hra⟩, hb⟩
    replace A1 : Hid (Below w.heap.size w v3) := A1.out.trans (hb.mono A1.out.size)
    replace RA : Hid (Box2 v3 w.heap.size 25 (.slice a0 d.nr c0) (.slice a1 d.ns c1)) := RA.out.below hb
    replace HB : Hid (BankV v3 d a0 a1) := HB.out.below hb
    replace TW : Hid (TabW v3) := TW.out.below hb
    have Xa : Hid (RowB v3 d (some ⟨ga0, 0, none⟩) (some ⟨ga1, 0, none⟩) ga0 ga1) := hra
    clear hb hra
    go_wp2_with fail
    refine (SO.out _ _ _ _ _ Xa.out.bankV).mono ?_
    rintro e v4 ⟨⟨sa, sc, rfl, ho⟩, hb⟩
    replace A1 : Hid (Below w.heap.size w v4) := A1.out.trans (hb.mono A1.out.size)
    replace RA : Hid (Box2 v4 w.heap.size 25 (.slice a0 d.nr c0) (.slice a1 d.ns c1)) := RA.out.below hb
    replace HB : Hid (BankV v4 d a0 a1) := HB.out.below hb
    replace TW : Hid (TabW v4) := TW.out.below hb
    replace Xa : Hid (RowB v4 d (some ⟨ga0, 0, none⟩) (some ⟨ga1, 0, none⟩) ga0 ga1) := Xa.out.below hb
    have W0 : Hid (Code8 v4 sa n f) := ho.code
    clear hb SO ho
    clear Xa
    have t0 := RA.out.c0
    have t1 := RA.out.c1
    go_wp2_with fail
    clear t0 t1
    refine (TB.out _ HB.out).mono ?_
    rintro e v5 ⟨⟨gb0, gb1, hgb0, hgb1, hgb2, rfl, hrb⟩, hb⟩
    have KX : Hid (Below v4.heap.size v4 v5) := hb
    have Xb : Hid (RowB v5 d (some ⟨gb0, 0, none⟩) (some ⟨gb1, 0, none⟩) gb0 gb1) := hrb
    have GB : Hid (v4.heap.size ≤ gb0 ∧ gb0 < gb1) := ⟨hgb0, hgb1⟩
    have GL : Hid (gb1 < v5.heap.size) := hgb2
    have AX : Hid (Below w.heap.size w v4) := A1.out
    clear hb hrb hgb0 hgb1 hgb2 A1
    have hb : Below v5.heap.size v5 (v5.alloc (.cells #[.slice (some ⟨gb0, 0, none⟩) d.nr d.nr, .slice (some ⟨gb1, 0, none⟩) d.ns d.ns] 33)) := (Below.refl _ _).alloc (Nat.le_refl _) _
    have PX : Hid (Box2 (v5.alloc (.cells #[.slice (some ⟨gb0, 0, none⟩) d.nr d.nr, .slice (some ⟨gb1, 0, none⟩) d.ns d.ns] 33)) v5.heap.size 33 (.slice (some ⟨gb0, 0, none⟩) d.nr d.nr) (.slice (some ⟨gb1, 0, none⟩) d.ns d.ns)) := Box2.madeAt rfl _ _ _
    go_wp2_with fail
    generalize (v5.alloc (.cells #[.slice (some ⟨gb0, 0, none⟩) d.nr d.nr, .slice (some ⟨gb1, 0, none⟩) d.ns d.ns] 33)) = v6 at *
    replace KX : Hid (Below v4.heap.size v4 v6) := (KX.out).trans (hb.mono KX.out.size)
    replace Xb : Hid (RowB v6 d (some ⟨gb0, 0, none⟩) (some ⟨gb1, 0, none⟩) gb0 gb1) := Xb.out.below hb
    replace GL : Hid (gb1 < v6.heap.size) := Nat.lt_of_lt_of_le GL.out hb.size
    clear hb 
    obtain ⟨px, hpx⟩ : ∃ bx, bx = v5.heap.size := ⟨_, rfl⟩
    rw [← hpx] at PX ⊢
    clear hpx
    have VI : Hid (v4.heap.size ≤ v6.heap.size ∧ gb1 < v6.heap.size) := ⟨KX.out.size, GL.out⟩
    have VJ : Hid (v6.heap.size ≤ v6.heap.size) := Nat.le_refl _
    refine (IY.out _ _ _ _ _ Xb.out.bankV (TW.out.below KX.out)).mono ?_
    rintro e v7 ⟨⟨ga, gc, rfl, ho⟩, hb⟩
    replace KX : Hid (Below v4.heap.size v4 v7) := (KX.out).trans (hb.mono KX.out.size)
    replace Xb : Hid (RowB v7 d (some ⟨gb0, 0, none⟩) (some ⟨gb1, 0, none⟩) gb0 gb1) := Xb.out.below hb
    replace GL : Hid (gb1 < v7.heap.size) := Nat.lt_of_lt_of_le GL.out hb.size
    replace PX : Hid (Box2 v7 px 33 (.slice (some ⟨gb0, 0, none⟩) d.nr d.nr) (.slice (some ⟨gb1, 0, none⟩) d.ns d.ns)) := PX.out.below hb
    replace VJ : Hid (v6.heap.size ≤ v7.heap.size) := Nat.le_trans VJ.out hb.size
    have G0 : Hid (OwnS v7 v6.heap.size ga n f) := ho
    clear hb ho
    go_wp2_with fail
    refine (EB.out _ _ _ _ _ G0.out.code (W0.out.below KX.out)).mono ?_
    rintro e v8 ⟨rfl, hb⟩
    replace KX : Hid (Below v4.heap.size v4 v8) := (KX.out).trans (hb.mono KX.out.size)
    replace Xb : Hid (RowB v8 d (some ⟨gb0, 0, none⟩) (some ⟨gb1, 0, none⟩) gb0 gb1) := Xb.out.below hb
    replace GL : Hid (gb1 < v8.heap.size) := Nat.lt_of_lt_of_le GL.out hb.size
    replace PX : Hid (Box2 v8 px 33 (.slice (some ⟨gb0, 0, none⟩) d.nr d.nr) (.slice (some ⟨gb1, 0, none⟩) d.ns d.ns)) := PX.out.below hb
    replace VJ : Hid (v6.heap.size ≤ v8.heap.size) := Nat.le_trans VJ.out hb.size
    replace G0 : Hid (OwnS v8 v6.heap.size ga n f) := G0.out.below hb
    clear hb 
    go_wp2_with fail
    have RX : Hid (Box2 v8 w.heap.size 25 (.slice a0 d.nr c0) (.slice a1 d.ns c1)) := RA.out.below KX.out
    have hb : Below v8.heap.size v8 v8.drew := (Below.refl _ _).drew
    have H : (Box2 v8.drew px 33 (.slice (some ⟨gb0, 0, none⟩) d.nr d.nr) (.slice (some ⟨gb1, 0, none⟩) d.ns d.ns)) ∧ (Box2 v8.drew w.heap.size 25 (.slice a0 d.nr c0) (.slice a1 d.ns c1)) := ⟨PX.out.below hb, RX.out.below hb⟩
    replace KX : Hid (Below v4.heap.size v4 v8.drew) := (KX.out).trans (hb.mono KX.out.size)
    replace Xb : Hid (RowB v8.drew d (some ⟨gb0, 0, none⟩) (some ⟨gb1, 0, none⟩) gb0 gb1) := Xb.out.below hb
    replace GL : Hid (gb1 < v8.drew.heap.size) := Nat.lt_of_lt_of_le GL.out hb.size
    replace VJ : Hid (v6.heap.size ≤ v8.drew.heap.size) := Nat.le_trans VJ.out hb.size
    replace G0 : Hid (OwnS v8.drew v6.heap.size ga n f) := G0.out.below hb
    clear hb PX RX
    refine wp_region_noPanic ?_
    refine wp_region_held_drew (S := fun w' => (Box2 w' px 33 (.slice (some ⟨gb0, 0, none⟩) d.nr d.nr) (.slice (some ⟨gb1, 0, none⟩) d.ns d.ns)) ∧ (Box2 w' w.heap.size 25 (.slice a0 d.nr c0) (.slice a1 d.ns c1))) (by kernel_rfl) H (fun _ => ?_)
    generalize v8.drew = v9 at *
    refine wpAnyH_take (i := 0) (v := .agg #[.slice (some ⟨gb0, 0, none⟩) d.nr d.nr, .slice (some ⟨gb1, 0, none⟩) d.ns d.ns]) rfl (by kernel_rfl) (by kernel_rfl) (by kernel_rfl) (fun _ _ _ h => h) (Or.inl ⟨by rfl, ?_⟩) H ?_
    · intro w' hSw; have t0 := hSw.1.c0; have t1 := hSw.1.c1; clear hSw; go_simp
    change wpAnyH _ _ _ _ _ _ _ { tmps := #[_, _, _, _, _, _, _, _, _, _, _, _, _, _, _, _, _, _, _, _, _, _, _, _, _, _, _, _, _, _, _, _, _, _, _, _, _, _, _, _, _, _, _, _, _, _, _, _, _, _, _, _, _, _, _, _, _, _, _, _, _, _, _, _, _, _, _, _, _, _, _, _, _, _, _, _, _, _, _, _, _, _, _, _, _, _, _, _, _, _, _, _, _, _, _, _], defers := _ } _
    refine wpAnyH_take (i := 1) (v := .agg #[.slice a0 d.nr c0, .slice a1 d.ns c1]) rfl (by kernel_rfl) (by kernel_rfl) (by kernel_rfl) (fun _ _ _ h => h) (Or.inl ⟨by rfl, ?_⟩) H ?_
    · intro w' hSw; have t0 := hSw.2.c0; have t1 := hSw.2.c1; clear hSw; go_simp
    change wpAnyH _ _ _ _ _ _ _ { tmps := #[_, _, _, _, _, _, _, _, _, _, _, _, _, _, _, _, _, _, _, _, _, _, _, _, _, _, _, _, _, _, _, _, _, _, _, _, _, _, _, _, _, _, _, _, _, _, _, _, _, _, _, _, _, _, _, _, _, _, _, _, _, _, _, _, _, _, _, _, _, _, _, _, _, _, _, _, _, _, _, _, _, _, _, _, _, _, _, _, _, _, _, _, _, _, _, _], defers := _ } _
    refine wpAnyH_ready (rs := [2]) (by kernel_rfl) (by simp) ?_
    refine AllReadyH.cons rfl (fun KK hK => ?_) AllReadyH.nil
    go_simp
    refine (TB.out _ (HB.out.below KX.out)).mono ?_
    rintro e v10 ⟨⟨gc0, gc1, hgc0, hgc1, hgc2, rfl, hrc⟩, hb⟩
    replace KX : Hid (Below v4.heap.size v4 v10) := (KX.out).trans (hb.mono KX.out.size)
    replace Xb : Hid (RowB v10 d (some ⟨gb0, 0, none⟩) (some ⟨gb1, 0, none⟩) gb0 gb1) := Xb.out.below hb
    replace GL : Hid (gb1 < v10.heap.size) := Nat.lt_of_lt_of_le GL.out hb.size
    replace VJ : Hid (v6.heap.size ≤ v10.heap.size) := Nat.le_trans VJ.out hb.size
    replace G0 : Hid (OwnS v10 v6.heap.size ga n f) := G0.out.below hb
    replace H : (Box2 v10 px 33 (.slice (some ⟨gb0, 0, none⟩) d.nr d.nr) (.slice (some ⟨gb1, 0, none⟩) d.ns d.ns)) ∧ (Box2 v10 w.heap.size 25 (.slice a0 d.nr c0) (.slice a1 d.ns c1)) := ⟨H.1.below hb, H.2.below hb⟩
    have Xc : Hid (RowB v10 d (some ⟨gc0, 0, none⟩) (some ⟨gc1, 0, none⟩) gc0 gc1) := hrc
    clear hb hrc
    refine hK.out _ _ H (fun _ => ?_)
    clear hK KK
    change wpAnyH _ _ _ _ _ _ _ { tmps := #[_, _, _, _, _, _, _, _, _, _, _, _, _, _, _, _, _, _, _, _, _, _, _, _, _, _, _, _, _, _, _, _, _, _, _, _, _, _, _, _, _, _, _, _, _, _, _, _, _, _, _, _, _, _, _, _, _, _, _, _, _, _, _, _, _, _, _, _, _, _, _, _, _, _, _, _, _, _, _, _, _, _, _, _, _, _, _, _, _, _, _, _, _, _, _, _], defers := _ } _
    refine wpAnyH_ready (rs := [3]) (by kernel_rfl) (by simp) ?_
    refine AllReadyH.cons rfl (fun KK hK => ?_) AllReadyH.nil
    go_simp
    refine (EQ.out _ _ _ _ _ _ _ _ _ Xb.out.bankV Xc.out.bankV).mono ?_
    rintro e v11 ⟨rfl, hb⟩
    replace KX : Hid (Below v4.heap.size v4 v11) := (KX.out).trans (hb.mono KX.out.size)
    replace Xb : Hid (RowB v11 d (some ⟨gb0, 0, none⟩) (some ⟨gb1, 0, none⟩) gb0 gb1) := Xb.out.below hb
    replace GL : Hid (gb1 < v11.heap.size) := Nat.lt_of_lt_of_le GL.out hb.size
    replace VJ : Hid (v6.heap.size ≤ v11.heap.size) := Nat.le_trans VJ.out hb.size
    replace G0 : Hid (OwnS v11 v6.heap.size ga n f) := G0.out.below hb
    replace Xc : Hid (RowB v11 d (some ⟨gc0, 0, none⟩) (some ⟨gc1, 0, none⟩) gc0 gc1) := Xc.out.below hb
    replace H : (Box2 v11 px 33 (.slice (some ⟨gb0, 0, none⟩) d.nr d.nr) (.slice (some ⟨gb1, 0, none⟩) d.ns d.ns)) ∧ (Box2 v11 w.heap.size 25 (.slice a0 d.nr c0) (.slice a1 d.ns c1)) := ⟨H.1.below hb, H.2.below hb⟩
    clear hb 
    refine hK.out _ _ H (fun _ => ?_)
    clear hK KK
    change wpAnyH _ _ _ _ _ _ _ { tmps := #[_, _, _, _, _, _, _, _, _, _, _, _, _, _, _, _, _, _, _, _, _, _, _, _, _, _, _, _, _, _, _, _, _, _, _, _, _, _, _, _, _, _, _, _, _, _, _, _, _, _, _, _, _, _, _, _, _, _, _, _, _, _, _, _, _, _, _, _, _, _, _, _, _, _, _, _, _, _, _, _, _, _, _, _, _, _, _, _, _, _, _, _, _, _, _, _], defers := _ } _
    refine wpAnyH_take (i := 4) (v := .bool false) rfl (by kernel_rfl) (by kernel_rfl) (by kernel_rfl) (fun _ _ _ h => h) (Or.inl ⟨by rfl, ?_⟩) H ?_
    · intro w' hSw; go_simp
    change wpAnyH _ _ _ _ _ _ _ { tmps := #[_, _, _, _, _, _, _, _, _, _, _, _, _, _, _, _, _, _, _, _, _, _, _, _, _, _, _, _, _, _, _, _, _, _, _, _, _, _, _, _, _, _, _, _, _, _, _, _, _, _, _, _, _, _, _, _, _, _, _, _, _, _, _, _, _, _, _, _, _, _, _, _, _, _, _, _, _, _, _, _, _, _, _, _, _, _, _, _, _, _, _, _, _, _, _, _], defers := _ } _
    have PX : Hid (Box2 v11 px 33 (.slice (some ⟨gb0, 0, none⟩) d.nr d.nr) (.slice (some ⟨gb1, 0, none⟩) d.ns d.ns)) := H.1
    have RX : Hid (Box2 v11 w.heap.size 25 (.slice a0 d.nr c0) (.slice a1 d.ns c1)) := H.2
    clear H
    refine wpAnyH_done (by kernel_rfl) ?_ _
    refine NoPanic.normal ?_
    clear Xc RX
    have t0 := PX.out.c0
    have t1 := PX.out.c1
    go_wp2_with fail
    clear t0 t1
    refine (MK.out v4.heap.size _ _ _ _ gb0 gb1 _ ⟨fun _ => GB.out.1, fun _ => Nat.le_trans GB.out.1 (Nat.le_of_lt GB.out.2)⟩ KX.out.size Xb.out).mono ?_
    rintro e v12 ⟨rfl, _, hk, hb⟩
    replace G0 : Hid (OwnS v12 v6.heap.size ga n f) := G0.out.ofBlocks (fun b h1 h2 => hk.2 b h2 (fun _ => by have q1 := GB.out; have q2 := VI.out; omega) (fun _ => by have q1 := GB.out; have q2 := VI.out; omega))
    replace KX : Hid (Below v4.heap.size v4 v12) := KX.out.trans hb
    have VS : Hid (v6.heap.size ≤ v12.heap.size) := Nat.le_trans VJ.out hk.1
    clear hk hb Xb PX GL MK VJ
    go_wp2_with fail
    refine (EB.out _ _ _ _ _ G0.out.code (W0.out.below KX.out)).mono ?_
    rintro e v13 ⟨rfl, hb⟩
    replace KX : Hid (Below v4.heap.size v4 v13) := (KX.out).trans (hb.mono KX.out.size)
    replace G0 : Hid (OwnS v13 v6.heap.size ga n f) := G0.out.below hb
    replace VS : Hid (v6.heap.size ≤ v13.heap.size) := Nat.le_trans VS.out hb.size
    clear hb 
    go_wp2_with fail
    refine (MB.out _ v6.heap.size _ _ G0.out VS.out).mono ?_
    rintro e v14 ⟨rfl, ho, hb⟩
    replace G0 : Hid (OwnS v14 v6.heap.size ga n mk8) := ho
    replace KX : Hid (Below v4.heap.size v4 v14) := KX.out.trans (hb.mono VI.out.1)
    clear ho hb MB VS
    go_wp2_with fail
    refine (HH.out _ _ _ G0.out.code).mono ?_
    rintro e v15 ⟨rfl, hb⟩
    replace KX : Hid (Below v4.heap.size v4 v15) := (KX.out).trans (hb.mono KX.out.size)
    replace G0 : Hid (OwnS v15 v6.heap.size ga n mk8) := G0.out.below hb
    clear hb 
    have RX : Hid (Box2 v15 w.heap.size 25 (.slice a0 d.nr c0) (.slice a1 d.ns c1)) := RA.out.below KX.out
    have t0 := RX.out.c0
    have t1 := RX.out.c1
    go_wp2_with fail
    clear t0 t1 RX
    refine (TB.out _ (HB.out.below KX.out)).mono ?_
    rintro e v16 ⟨⟨gd0, gd1, _, _, _, rfl, hrd⟩, hb⟩
    replace KX : Hid (Below v4.heap.size v4 v16) := (KX.out).trans (hb.mono KX.out.size)
    replace G0 : Hid (OwnS v16 v6.heap.size ga n mk8) := G0.out.below hb
    have Xd : Hid (RowB v16 d (some ⟨gd0, 0, none⟩) (some ⟨gd1, 0, none⟩) gd0 gd1) := hrd
    clear hrd hb TB
    go_wp2_with fail
    refine (IY.out _ _ _ _ _ Xd.out.bankV (TW.out.below KX.out)).mono ?_
    rintro e v17 ⟨⟨ha, hc, rfl, ho⟩, hb⟩
    replace KX : Hid (Below v4.heap.size v4 v17) := (KX.out).trans (hb.mono KX.out.size)
    replace G0 : Hid (OwnS v17 v6.heap.size ga n mk8) := G0.out.below hb
    replace Xd : Hid (RowB v17 d (some ⟨gd0, 0, none⟩) (some ⟨gd1, 0, none⟩) gd0 gd1) := Xd.out.below hb
    have H0 : Hid (Code8 v17 ha n f) := ho.code
    clear hb ho IY
    clear Xd
    go_wp2_with fail
    refine (EB.out _ _ _ _ _ H0.out (W0.out.below KX.out)).mono ?_
    rintro e v18 ⟨rfl, hb⟩
    replace KX : Hid (Below v4.heap.size v4 v18) := (KX.out).trans (hb.mono KX.out.size)
    replace G0 : Hid (OwnS v18 v6.heap.size ga n mk8) := G0.out.below hb
    replace H0 : Hid (Code8 v18 ha n f) := H0.out.below hb
    clear hb EB
    clear H0
    go_wp2_with fail
    refine (HH.out _ _ _ G0.out.code).mono ?_
    rintro e v19 ⟨rfl, hb⟩
    replace KX : Hid (Below v4.heap.size v4 v19) := (KX.out).trans (hb.mono KX.out.size)
    replace G0 : Hid (OwnS v19 v6.heap.size ga n mk8) := G0.out.below hb
    clear hb HH
    have FB : Hid (Below w.heap.size w v19) := AX.out.trans (KX.out.mono AX.out.size)
    clear RA HB W0 TW G0 KX EQ AX GB VI
    go_wp2
    go_ret
    exact ⟨rfl, FB.out⟩
end Go.Proofs.YtmejmpdnmhnheabDoor
