/-
  The exact law of ReadRegister (written by tools/bankgen.py).
-/
import Derived.Test.YtfhjenohgafjlabDoorBankRd
import Derived.Test.YtfhjenohgafjlabDoorBox3
import Derived.Test.YtfhjenohgafjlabDoorBankTo
namespace Go.Proofs.YtfhjenohgafjlabDoor
open Go.ChangeShapes Go.WideShapes Go.ChangeAt Go.RowKit
set_option linter.unusedVariables false
set_option maxRecDepth 100000 in
set_option maxHeartbeats 4000000 in
theorem law_readRegister (d : Bk) (a0 a1 : Option Addr) (c0 c1 : Nat) (x : Int) (l0 : d.nr ≤ maxLen) (l1 : d.ns ≤ maxLen) (m0 : ∀ i, i < d.nr → (d.R i).r.size ≤ maxLen) (w : World) (h : BankV w d a0 a1) (hT : TabW w) :
    Calls Tryd.prog 3 #[.agg #[.slice a0 d.nr c0, .slice a1 d.ns c1], .int .i64 x] w fun e w' => e = .returned (.bool true) ∧ Below w.heap.size w w' := by
  obtain ⟨u, cd, hu⟩ := rdIs_some d x
  have SO : Hid (∀ (b0 b1 : Option Addr) (x0 x1 : Nat) (w : World), BankV w d b0 b1 → Calls Tryd.prog 6 #[.agg #[.slice b0 d.nr x0, .slice b1 d.ns x1], .int .i64 x] w fun e w' => e = .returned (.tuple #[.agg #[.int .i64 u.v, .int .i64 u.c, .string u.r], .int .i64 cd]) ∧ Below w.heap.size w w') := fun b0 b1 x0 x1 w h => specRead_is d x u cd hu b0 b1 x0 x1 w h
  have IY : Hid (∀ (b0 b1 : Option Addr) (x0 x1 : Nat) (w : World), BankV w d b0 b1 → TabW w → Calls Tryd.prog 8 #[.agg #[.slice b0 d.nr x0, .slice b1 d.ns x1], .int .i64 x] w fun e w' => e = .returned (.tuple #[.agg #[.int .i64 u.v, .int .i64 u.c, .string u.r], .int .i64 cd]) ∧ Below w.heap.size w w') := fun b0 b1 x0 x1 w h hT => implRead_is d x u cd hu b0 b1 x0 x1 w h hT
  have ER : Hid (∀ w : World, Calls Tryd.prog 9 #[.agg #[.int .i64 u.v, .int .i64 u.c, .string u.r], .agg #[.int .i64 u.v, .int .i64 u.c, .string u.r]] w fun e w' => e = .returned (.bool true) ∧ Below w.heap.size w w') := fun w => eqRegister_yes _ _ _ w
  clear hu
  have rr : (cd != cd) = false := by simp
  have SZ : Hid (∀ w : World, BankV w d a0 a1 → Calls Tryd.prog 5 #[.agg #[.slice a0 d.nr c0, .slice a1 d.ns c1], .int .i64 1048576] w fun e w' => (∃ y : Int, e = .returned (.int .i64 y) ∧ y ≤ 1048576 ∧ (0 ≤ y → d.nr ≤ 1048576 ∧ d.ns ≤ 1048576)) ∧ Below w.heap.size w w') := fun w h => szBank_any d a0 a1 c0 c1 w h l0 l1 m0
  have HX : Hid (BankV w d a0 a1) := h
  have HT : Hid (TabW w) := hT
  clear h l0 l1 m0 hT
  have A1 : Hid (Below w.heap.size w (w.alloc (.cells #[.slice a0 d.nr c0, .slice a1 d.ns c1] 25))) := (Below.refl w.heap.size w).alloc (Nat.le_refl _) _
  have RA : Hid (Box2 (w.alloc (.cells #[.slice a0 d.nr c0, .slice a1 d.ns c1] 25)) w.heap.size 25 (.slice a0 d.nr c0) (.slice a1 d.ns c1)) := Box2.madeAt rfl _ _ _
  have HB : Hid (BankV (w.alloc (.cells #[.slice a0 d.nr c0, .slice a1 d.ns c1] 25)) d a0 a1) := HX.out.below A1.out
  have TW : Hid (TabW (w.alloc (.cells #[.slice a0 d.nr c0, .slice a1 d.ns c1] 25))) := HT.out.below A1.out
  clear HX HT
  go_enter Tryd.func3, Tryd.ntmps3
  go_wp2_with fail
  generalize (w.alloc (.cells #[.slice a0 d.nr c0, .slice a1 d.ns c1] 25)) = v1 at *
  refine (SZ.out _ HB.out).mono ?_
  rintro e v2 ⟨⟨y, rfl, hy, hy2⟩, hb⟩
  replace A1 : Hid (Below w.heap.size w v2) := A1.out.trans (hb.mono A1.out.size)
  replace RA : Hid (Box2 v2 w.heap.size 25 (.slice a0 d.nr c0) (.slice a1 d.ns c1)) := RA.out.below hb
  replace HB : Hid (BankV v2 d a0 a1) := HB.out.below hb
  replace TW : Hid (TabW v2) := TW.out.below hb
  clear hb SZ
  by_cases hy0 : y < 0
  · clear hy2
    go_wp2
    go_ret
    exact ⟨rfl, A1.out⟩
  · obtain ⟨h0, h1⟩ := hy2 (by omega)
    clear hy2
    have TB : Hid (∀ w : World, BankV w d a0 a1 → Calls Tryd.prog 7 #[.agg #[.slice a0 d.nr c0, .slice a1 d.ns c1]] w fun e w' => (∃ g0 g1, w.heap.size ≤ g0 ∧ g0 < g1 ∧ g1 < w'.heap.size ∧ e = .returned (.agg #[.slice (some ⟨g0, 0, none⟩) d.nr d.nr, .slice (some ⟨g1, 0, none⟩) d.ns d.ns]) ∧ RowB w' d (some ⟨g0, 0, none⟩) (some ⟨g1, 0, none⟩) g0 g1) ∧ Below w.heap.size w w') := fun w h => toBank_any d a0 a1 c0 c1 w h h0 h1
    have EQ : Hid (∀ (b0 b1 e0 e1 : Option Addr) (x0 x1 y0 y1 : Nat) (w : World), BankV w d b0 b1 → BankV w d e0 e1 → Calls Tryd.prog 10 #[.agg #[.slice b0 d.nr x0, .slice b1 d.ns x1], .agg #[.slice e0 d.nr y0, .slice e1 d.ns y1]] w fun e w' => e = .returned (.bool true) ∧ Below w.heap.size w w') := fun b0 b1 e0 e1 x0 x1 y0 y1 w h h' => eqBank_yes d b0 b1 e0 e1 x0 x1 y0 y1 w h h' h0 h1
    clear h0 h1
    have t0 := RA.out.c0
    have t1 := RA.out.c1
    go_wp2_with fail
    clear t0 t1
    refine (TB.out _ HB.out).mono ?_
    rintro e v3 ⟨⟨ga0, ga1, hga0, hga1, hga2, rfl, hra⟩, hb⟩
    replace A1 : Hid (Below w.heap.size w v3) := A1.out.trans (hb.mono A1.out.size)
    replace RA : Hid (Box2 v3 w.heap.size 25 (.slice a0 d.nr c0) (.slice a1 d.ns c1)) := RA.out.below hb
    replace HB : Hid (BankV v3 d a0 a1) := HB.out.below hb
    replace TW : Hid (TabW v3) := TW.out.below hb
    have Xa : Hid (RowB v3 d (some ⟨ga0, 0, none⟩) (some ⟨ga1, 0, none⟩) ga0 ga1) := hra
    clear hb hra
    go_wp2_with fail
    refine (SO.out _ _ _ _ _ Xa.out.bankV).mono ?_
    rintro e v4 ⟨rfl, hb⟩
    replace A1 : Hid (Below w.heap.size w v4) := A1.out.trans (hb.mono A1.out.size)
    replace RA : Hid (Box2 v4 w.heap.size 25 (.slice a0 d.nr c0) (.slice a1 d.ns c1)) := RA.out.below hb
    replace HB : Hid (BankV v4 d a0 a1) := HB.out.below hb
    replace TW : Hid (TabW v4) := TW.out.below hb
    replace Xa : Hid (RowB v4 d (some ⟨ga0, 0, none⟩) (some ⟨ga1, 0, none⟩) ga0 ga1) := Xa.out.below hb
    clear hb SO
    clear Xa
    have hb : Below v4.heap.size v4 (v4.alloc (.cells #[.int .i64 u.v, .int .i64 u.c, .string u.r] 28)) := (Below.refl _ _).alloc (Nat.le_refl _) _
    have PW : Hid (Box3 (v4.alloc (.cells #[.int .i64 u.v, .int .i64 u.c, .string u.r] 28)) v4.heap.size 28 (.int .i64 u.v) (.int .i64 u.c) (.string u.r)) := Box3.madeAt rfl _ _ _ _
    have vis00 := (RA.out.below hb).c0
    have vis01 := (RA.out.below hb).c1
    go_wp2_with fail
    generalize (v4.alloc (.cells #[.int .i64 u.v, .int .i64 u.c, .string u.r] 28)) = v5 at *
    replace A1 : Hid (Below w.heap.size w v5) := A1.out.trans (hb.mono A1.out.size)
    replace RA : Hid (Box2 v5 w.heap.size 25 (.slice a0 d.nr c0) (.slice a1 d.ns c1)) := RA.out.below hb
    replace HB : Hid (BankV v5 d a0 a1) := HB.out.below hb
    replace TW : Hid (TabW v5) := TW.out.below hb
    clear hb vis00 vis01
    obtain ⟨pw, hpw⟩ : ∃ bx, bx = v4.heap.size := ⟨_, rfl⟩
    rw [← hpw] at PW ⊢
    clear hpw
    refine (TB.out _ HB.out).mono ?_
    rintro e v6 ⟨⟨gb0, gb1, hgb0, hgb1, hgb2, rfl, hrb⟩, hb⟩
    replace A1 : Hid (Below w.heap.size w v6) := A1.out.trans (hb.mono A1.out.size)
    replace RA : Hid (Box2 v6 w.heap.size 25 (.slice a0 d.nr c0) (.slice a1 d.ns c1)) := RA.out.below hb
    replace HB : Hid (BankV v6 d a0 a1) := HB.out.below hb
    replace TW : Hid (TabW v6) := TW.out.below hb
    replace PW : Hid (Box3 v6 pw 28 (.int .i64 u.v) (.int .i64 u.c) (.string u.r)) := PW.out.below hb
    have Xb : Hid (RowB v6 d (some ⟨gb0, 0, none⟩) (some ⟨gb1, 0, none⟩) gb0 gb1) := hrb
    clear hb hrb
    have hb : Below v6.heap.size v6 (v6.alloc (.cells #[.slice (some ⟨gb0, 0, none⟩) d.nr d.nr, .slice (some ⟨gb1, 0, none⟩) d.ns d.ns] 34)) := (Below.refl _ _).alloc (Nat.le_refl _) _
    have PX : Hid (Box2 (v6.alloc (.cells #[.slice (some ⟨gb0, 0, none⟩) d.nr d.nr, .slice (some ⟨gb1, 0, none⟩) d.ns d.ns] 34)) v6.heap.size 34 (.slice (some ⟨gb0, 0, none⟩) d.nr d.nr) (.slice (some ⟨gb1, 0, none⟩) d.ns d.ns)) := Box2.madeAt rfl _ _ _
    go_wp2_with fail
    generalize (v6.alloc (.cells #[.slice (some ⟨gb0, 0, none⟩) d.nr d.nr, .slice (some ⟨gb1, 0, none⟩) d.ns d.ns] 34)) = v7 at *
    replace A1 : Hid (Below w.heap.size w v7) := A1.out.trans (hb.mono A1.out.size)
    replace RA : Hid (Box2 v7 w.heap.size 25 (.slice a0 d.nr c0) (.slice a1 d.ns c1)) := RA.out.below hb
    replace HB : Hid (BankV v7 d a0 a1) := HB.out.below hb
    replace TW : Hid (TabW v7) := TW.out.below hb
    replace PW : Hid (Box3 v7 pw 28 (.int .i64 u.v) (.int .i64 u.c) (.string u.r)) := PW.out.below hb
    replace Xb : Hid (RowB v7 d (some ⟨gb0, 0, none⟩) (some ⟨gb1, 0, none⟩) gb0 gb1) := Xb.out.below hb
    clear hb 
    obtain ⟨px, hpx⟩ : ∃ bx, bx = v6.heap.size := ⟨_, rfl⟩
    rw [← hpx] at PX ⊢
    clear hpx
    refine (IY.out _ _ _ _ _ Xb.out.bankV TW.out).mono ?_
    rintro e v8 ⟨rfl, hb⟩
    replace A1 : Hid (Below w.heap.size w v8) := A1.out.trans (hb.mono A1.out.size)
    replace RA : Hid (Box2 v8 w.heap.size 25 (.slice a0 d.nr c0) (.slice a1 d.ns c1)) := RA.out.below hb
    replace HB : Hid (BankV v8 d a0 a1) := HB.out.below hb
    replace TW : Hid (TabW v8) := TW.out.below hb
    replace PW : Hid (Box3 v8 pw 28 (.int .i64 u.v) (.int .i64 u.c) (.string u.r)) := PW.out.below hb
    replace Xb : Hid (RowB v8 d (some ⟨gb0, 0, none⟩) (some ⟨gb1, 0, none⟩) gb0 gb1) := Xb.out.below hb
    replace PX : Hid (Box2 v8 px 34 (.slice (some ⟨gb0, 0, none⟩) d.nr d.nr) (.slice (some ⟨gb1, 0, none⟩) d.ns d.ns)) := PX.out.below hb
    clear hb IY
    have hb : Below v8.heap.size v8 (v8.alloc (.cells #[.int .i64 u.v, .int .i64 u.c, .string u.r] 28)) := (Below.refl _ _).alloc (Nat.le_refl _) _
    have vis0 := (PW.out.below hb).c0
    have vis1 := (PW.out.below hb).c1
    have vis2 := (PW.out.below hb).c2
    go_wp2_with fail
    generalize (v8.alloc (.cells #[.int .i64 u.v, .int .i64 u.c, .string u.r] 28)) = v9 at *
    replace A1 : Hid (Below w.heap.size w v9) := A1.out.trans (hb.mono A1.out.size)
    replace RA : Hid (Box2 v9 w.heap.size 25 (.slice a0 d.nr c0) (.slice a1 d.ns c1)) := RA.out.below hb
    replace HB : Hid (BankV v9 d a0 a1) := HB.out.below hb
    replace TW : Hid (TabW v9) := TW.out.below hb
    replace PW : Hid (Box3 v9 pw 28 (.int .i64 u.v) (.int .i64 u.c) (.string u.r)) := PW.out.below hb
    replace Xb : Hid (RowB v9 d (some ⟨gb0, 0, none⟩) (some ⟨gb1, 0, none⟩) gb0 gb1) := Xb.out.below hb
    replace PX : Hid (Box2 v9 px 34 (.slice (some ⟨gb0, 0, none⟩) d.nr d.nr) (.slice (some ⟨gb1, 0, none⟩) d.ns d.ns)) := PX.out.below hb
    clear hb vis0 vis1 vis2
    refine (ER.out _).mono ?_
    rintro e v10 ⟨rfl, hb⟩
    replace A1 : Hid (Below w.heap.size w v10) := A1.out.trans (hb.mono A1.out.size)
    replace RA : Hid (Box2 v10 w.heap.size 25 (.slice a0 d.nr c0) (.slice a1 d.ns c1)) := RA.out.below hb
    replace HB : Hid (BankV v10 d a0 a1) := HB.out.below hb
    replace TW : Hid (TabW v10) := TW.out.below hb
    replace PW : Hid (Box3 v10 pw 28 (.int .i64 u.v) (.int .i64 u.c) (.string u.r)) := PW.out.below hb
    replace Xb : Hid (RowB v10 d (some ⟨gb0, 0, none⟩) (some ⟨gb1, 0, none⟩) gb0 gb1) := Xb.out.below hb
    replace PX : Hid (Box2 v10 px 34 (.slice (some ⟨gb0, 0, none⟩) d.nr d.nr) (.slice (some ⟨gb1, 0, none⟩) d.ns d.ns)) := PX.out.below hb
    clear hb ER
    clear PW
    go_wp2_with fail
    have hb : Below v10.heap.size v10 v10.drew := (Below.refl _ _).drew
    have H : (Box2 v10.drew w.heap.size 25 (.slice a0 d.nr c0) (.slice a1 d.ns c1)) ∧ (Box2 v10.drew px 34 (.slice (some ⟨gb0, 0, none⟩) d.nr d.nr) (.slice (some ⟨gb1, 0, none⟩) d.ns d.ns)) := ⟨RA.out.below hb, PX.out.below hb⟩
    replace A1 : Hid (Below w.heap.size w v10.drew) := A1.out.trans (hb.mono A1.out.size)
    replace HB : Hid (BankV v10.drew d a0 a1) := HB.out.below hb
    replace TW : Hid (TabW v10.drew) := TW.out.below hb
    replace Xb : Hid (RowB v10.drew d (some ⟨gb0, 0, none⟩) (some ⟨gb1, 0, none⟩) gb0 gb1) := Xb.out.below hb
    clear hb RA PX
    refine wp_region_noPanic ?_
    refine wp_region_held_drew (S := fun w' => (Box2 w' w.heap.size 25 (.slice a0 d.nr c0) (.slice a1 d.ns c1)) ∧ (Box2 w' px 34 (.slice (some ⟨gb0, 0, none⟩) d.nr d.nr) (.slice (some ⟨gb1, 0, none⟩) d.ns d.ns))) (by kernel_rfl) H (fun _ => ?_)
    generalize v10.drew = v11 at *
    refine wpAnyH_take (i := 0) (v := .agg #[.slice (some ⟨gb0, 0, none⟩) d.nr d.nr, .slice (some ⟨gb1, 0, none⟩) d.ns d.ns]) rfl (by kernel_rfl) (by kernel_rfl) (by kernel_rfl) (fun _ _ _ h => h) (Or.inl ⟨by rfl, ?_⟩) H ?_
    · intro w' hSw; have t0 := hSw.2.c0; have t1 := hSw.2.c1; clear hSw; go_simp
    change wpAnyH _ _ _ _ _ _ _ { tmps := #[_, _, _, _, _, _, _, _, _, _, _, _, _, _, _, _, _, _, _, _, _, _, _, _, _, _, _, _, _, _, _, _, _, _, _, _, _, _, _, _, _, _, _, _, _], defers := _ } _
    refine wpAnyH_take (i := 1) (v := .agg #[.slice a0 d.nr c0, .slice a1 d.ns c1]) rfl (by kernel_rfl) (by kernel_rfl) (by kernel_rfl) (fun _ _ _ h => h) (Or.inl ⟨by rfl, ?_⟩) H ?_
    · intro w' hSw; have t0 := hSw.1.c0; have t1 := hSw.1.c1; clear hSw; go_simp
    change wpAnyH _ _ _ _ _ _ _ { tmps := #[_, _, _, _, _, _, _, _, _, _, _, _, _, _, _, _, _, _, _, _, _, _, _, _, _, _, _, _, _, _, _, _, _, _, _, _, _, _, _, _, _, _, _, _, _], defers := _ } _
    refine wpAnyH_ready (rs := [2]) (by kernel_rfl) (by simp) ?_
    refine AllReadyH.cons rfl (fun KK hK => ?_) AllReadyH.nil
    go_simp
    refine (TB.out _ HB.out).mono ?_
    rintro e v12 ⟨⟨gc0, gc1, hgc0, hgc1, hgc2, rfl, hrc⟩, hb⟩
    replace A1 : Hid (Below w.heap.size w v12) := A1.out.trans (hb.mono A1.out.size)
    replace HB : Hid (BankV v12 d a0 a1) := HB.out.below hb
    replace TW : Hid (TabW v12) := TW.out.below hb
    replace Xb : Hid (RowB v12 d (some ⟨gb0, 0, none⟩) (some ⟨gb1, 0, none⟩) gb0 gb1) := Xb.out.below hb
    replace H : (Box2 v12 w.heap.size 25 (.slice a0 d.nr c0) (.slice a1 d.ns c1)) ∧ (Box2 v12 px 34 (.slice (some ⟨gb0, 0, none⟩) d.nr d.nr) (.slice (some ⟨gb1, 0, none⟩) d.ns d.ns)) := ⟨H.1.below hb, H.2.below hb⟩
    have Xc : Hid (RowB v12 d (some ⟨gc0, 0, none⟩) (some ⟨gc1, 0, none⟩) gc0 gc1) := hrc
    clear hb hrc
    refine hK.out _ _ H (fun _ => ?_)
    clear hK KK
    change wpAnyH _ _ _ _ _ _ _ { tmps := #[_, _, _, _, _, _, _, _, _, _, _, _, _, _, _, _, _, _, _, _, _, _, _, _, _, _, _, _, _, _, _, _, _, _, _, _, _, _, _, _, _, _, _, _, _], defers := _ } _
    refine wpAnyH_ready (rs := [3]) (by kernel_rfl) (by simp) ?_
    refine AllReadyH.cons rfl (fun KK hK => ?_) AllReadyH.nil
    go_simp
    refine (EQ.out _ _ _ _ _ _ _ _ _ Xb.out.bankV Xc.out.bankV).mono ?_
    rintro e v13 ⟨rfl, hb⟩
    replace A1 : Hid (Below w.heap.size w v13) := A1.out.trans (hb.mono A1.out.size)
    replace HB : Hid (BankV v13 d a0 a1) := HB.out.below hb
    replace TW : Hid (TabW v13) := TW.out.below hb
    replace Xb : Hid (RowB v13 d (some ⟨gb0, 0, none⟩) (some ⟨gb1, 0, none⟩) gb0 gb1) := Xb.out.below hb
    replace Xc : Hid (RowB v13 d (some ⟨gc0, 0, none⟩) (some ⟨gc1, 0, none⟩) gc0 gc1) := Xc.out.below hb
    replace H : (Box2 v13 w.heap.size 25 (.slice a0 d.nr c0) (.slice a1 d.ns c1)) ∧ (Box2 v13 px 34 (.slice (some ⟨gb0, 0, none⟩) d.nr d.nr) (.slice (some ⟨gb1, 0, none⟩) d.ns d.ns)) := ⟨H.1.below hb, H.2.below hb⟩
    clear hb 
    refine hK.out _ _ H (fun _ => ?_)
    clear hK KK
    change wpAnyH _ _ _ _ _ _ _ { tmps := #[_, _, _, _, _, _, _, _, _, _, _, _, _, _, _, _, _, _, _, _, _, _, _, _, _, _, _, _, _, _, _, _, _, _, _, _, _, _, _, _, _, _, _, _, _], defers := _ } _
    refine wpAnyH_take (i := 4) (v := .bool false) rfl (by kernel_rfl) (by kernel_rfl) (by kernel_rfl) (fun _ _ _ h => h) (Or.inl ⟨by rfl, ?_⟩) H ?_
    · intro w' hSw; go_simp
    change wpAnyH _ _ _ _ _ _ _ { tmps := #[_, _, _, _, _, _, _, _, _, _, _, _, _, _, _, _, _, _, _, _, _, _, _, _, _, _, _, _, _, _, _, _, _, _, _, _, _, _, _, _, _, _, _, _, _], defers := _ } _
    have RA : Hid (Box2 v13 w.heap.size 25 (.slice a0 d.nr c0) (.slice a1 d.ns c1)) := H.1
    have PX : Hid (Box2 v13 px 34 (.slice (some ⟨gb0, 0, none⟩) d.nr d.nr) (.slice (some ⟨gb1, 0, none⟩) d.ns d.ns)) := H.2
    clear H
    refine wpAnyH_done (by kernel_rfl) ?_ _
    refine NoPanic.normal ?_
    clear RA PX HB Xb Xc TB EQ rr TW
    go_wp2
    go_ret
    exact ⟨rfl, A1.out⟩
end Go.Proofs.YtfhjenohgafjlabDoor
