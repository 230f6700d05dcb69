/-
  The exact law of JoinImage (written by tools/exlaw.py).
-/
import Derived.Test.YtonccbgolbcjfaaImgK
import Derived.Test.YtonccbgolbcjfaaByRow
import Derived.Test.YtonccbgolbcjfaaStrK2
import Derived.Test.YtonccbgolbcjfaaStrTo
namespace Go.Proofs.Ytonccbgolbcjfaa
open Go.ChangeShapes Go.WideShapes Go.ChangeAt Go.RowKit
set_option linter.unusedVariables false
set_option maxRecDepth 100000 in
set_option maxHeartbeats 8000000 in
theorem law_joinImage (a0 : Option Addr) (n0 c0 : Nat) (ST0 : Nat → ByteArray) (hm0 : n0 ≤ maxLen) (hf0 : ∀ i, i < n0 → (ST0 i).size ≤ maxLen) (w : World) (hv0 : Strs w a0 n0 ST0) :
    Calls Try.prog 6 #[.slice a0 n0 c0] w fun e w' => e = .returned (.bool true) ∧ Below w.heap.size w w' := by
  have SZ0 : Hid (∀ (x : Int) (w : World), 0 ≤ x → x ≤ 1048576 → Strs w a0 n0 ST0 → Calls Try.prog 25 #[.slice a0 n0 c0, .int .i64 x] w fun e w' => (∃ y : Int, e = .returned (.int .i64 y) ∧ y ≤ 1048576 ∧ (0 ≤ y → n0 ≤ 1048576)) ∧ Below w.heap.size w w') := fun x w h0 h1 h => (szStrT_any a0 n0 c0 ST0 x w h h0 h1 hm0 hf0).mono fun _ _ q => ⟨q.1, by rw [← q.2]; exact Below.refl _ _⟩
  have A1 : Hid (Below w.heap.size w w) := Below.refl _ _
  have HE0 : Hid (Strs w a0 n0 ST0) := hv0
  clear hv0 hm0
  clear hf0
  go_enter Try.func6, Try.ntmps6
  go_wp2_with fail
  refine (SZ0.out _ _ (by omega) (by omega) (HE0.out.below A1.out)).mono ?_
  rintro e v1 ⟨⟨y0, rfl, hy0, hz0⟩, hb⟩
  replace A1 : Hid (Below w.heap.size w v1) := A1.out.trans (hb.mono A1.out.size)
  clear hb SZ0
  by_cases ng0 : y0 < 0
  · clear hz0
    go_wp2
    go_ret
    exact ⟨rfl, A1.out⟩
  have hn0 : n0 ≤ 1048576 := hz0 (by omega)
  clear hz0
  obtain ⟨N, EL, cd, hN, hS, hI⟩ := join_both n0 ST0
  have SO : Hid (∀ (g0 : Nat) (w : World), Strs w (some ⟨g0, 0, none⟩) n0 ST0 → Calls Try.prog 26 #[.slice (some ⟨g0, 0, none⟩) n0 n0] w fun e w' => (∃ (b : Option Addr) (x g : Nat), e = .returned (.tuple #[.slice b N x, .int .i64 cd]) ∧ ByR w' b g N EL ∧ (0 < N → w.heap.size ≤ g ∧ g < w'.heap.size)) ∧ Below w.heap.size w w') := hS
  have IY : Hid (∀ (g0 : Nat) (w : World), Strs w (some ⟨g0, 0, none⟩) n0 ST0 → Calls Try.prog 11 #[.slice (some ⟨g0, 0, none⟩) n0 n0] w fun e w' => (∃ (b : Option Addr) (x g : Nat), e = .returned (.tuple #[.slice b N x, .int .i64 cd]) ∧ ByR w' b g N EL ∧ (0 < N → w.heap.size ≤ g ∧ g < w'.heap.size)) ∧ Below w.heap.size w w') := hI
  have TO0 : Hid (∀ w : World, Strs w a0 n0 ST0 → Calls Try.prog 27 #[.slice a0 n0 c0] w fun e w' => (∃ g, e = .returned (.slice (some ⟨g, 0, none⟩) n0 n0) ∧ TxRow w' (some ⟨g, 0, none⟩) g n0 ST0 ∧ w.heap.size ≤ g ∧ g < w'.heap.size) ∧ Below w.heap.size w w') := fun w h => (toStrT_any a0 n0 c0 ST0 w h hn0).mono fun _ _ q => ⟨⟨_, q.1, ⟨fun _ => rfl, fun j hj => q.2.1.cell hj, fun j _ => q.2.1.frozen j⟩, Nat.le_refl _, q.2.1.lt⟩, q.2.2⟩
  have EQ0 : Hid (∀ (b e : Option Addr) (x y : Nat) (w : World), Strs w b n0 ST0 → Strs w e n0 ST0 → Calls Try.prog 20 #[.slice b n0 x, .slice e n0 y] w fun e w' => e = .returned (.bool true) ∧ Below w.heap.size w w') := fun b e x y w h h' => (eqStringS_yes b e n0 x y ST0 ST0 w h h' (fun _ _ => rfl) hn0).mono fun _ _ q => ⟨q.1, by obtain ⟨z, e⟩ := q.2; rw [e]; exact below_drewN8 (Below.refl _ _) z⟩
  have MR0 : Hid (∀ (g : Nat) (w : World), TxRow w (some ⟨g, 0, none⟩) g n0 ST0 → Calls Try.prog 23 #[.slice (some ⟨g, 0, none⟩) n0 n0, .int .i64 ((1 : Nat) : Int)] w fun e w' => e = .returned (.int .i64 (((1 + n0) : Nat) : Int)) ∧ TurnedE g n0 w w') := fun g w h => by
    have hk : 1 ≤ 1 := by omega
    exact (markStrKk _ g n0 n0 1 ST0 w h hk (by omega) (by omega)).mono fun _ _ q => ⟨q.1, q.2.2⟩
  have ES : Hid (∀ (b e : Option Addr) (x y : Nat) (w : World), Code8 w b N EL → Code8 w e N EL → Calls Try.prog 21 #[.slice b N x, .slice e N y] w fun e w' => e = .returned (.bool true) ∧ Below w.heap.size w w') := fun b e x y w h h' => (eqByteS_yes b e N x y EL w h h' (by omega)).mono fun _ _ q => ⟨q.1, by obtain ⟨k, rfl⟩ := q.2; exact below_drewN8 (Below.refl _ _) k⟩
  have MS : Hid (∀ (b : Option Addr) (g x : Nat) (w : World), ByR w b g N EL → Calls Try.prog 22 #[.slice b N x, .int .i64 1] w fun e w' => (e = .returned (.int .i64 ((N + 1 : Nat) : Int)) ∧ ByR w' b g N mk8) ∧ TurnedE g N w w') := fun b g x w h => markByK b g N x EL w h (by omega)
  have HD : Hid (∀ (b : Option Addr) (x : Nat) (w : World), Code8 w b N mk8 → Calls Try.prog 28 #[.slice b N x, .int .i64 1] w fun e w' => e = .returned (.int .i64 ((N + 1 : Nat) : Int)) ∧ Below w.heap.size w w') := fun b x w h => (heldByteS_yes b N x w h (by omega)).mono fun _ _ q => ⟨q.1, by obtain ⟨k, rfl⟩ := q.2; exact below_drewN8 (Below.refl _ _) k⟩
  have kz : ¬ ((N + 1 : Nat) : Int) < 0 := by omega
  have ke : (((N + 1 : Nat) : Int) != ((N + 1 : Nat) : Int)) = false := by simp
  have rr : (cd != cd) = false := by simp
  generalize ((N + 1 : Nat) : Int) = K1 at *
  have NZ : ¬ (((1 + n0) : Nat) : Int) < 0 := by omega
  have e1 : ((1 : Nat) : Int) = 1 := rfl
  rw [e1] at MR0
  clear e1
  generalize (((1 + n0) : Nat) : Int) = N0 at *
  clear hN hS hI hn0 hy0
  go_wp2_with fail
  have AP : Hid _ := A1.out.size
  refine (TO0.out _ (HE0.out.below A1.out)).mono ?_
  rintro e v2 ⟨⟨ga0, rfl, hra0, hga0, hla0⟩, hb⟩
  replace A1 : Hid (Below w.heap.size w v2) := A1.out.trans (hb.mono A1.out.size)
  have Xa0 : Hid (TxRow v2 (some ⟨ga0, 0, none⟩) ga0 n0 ST0) := hra0
  have La0 : Hid (w.heap.size ≤ ga0) := Nat.le_trans AP.out hga0
  clear hb hra0 AP
  clear hga0 hla0 La0
  go_wp2_with fail
  refine (SO.out _ _ Xa0.out.strs).mono ?_
  rintro e v3 ⟨⟨aw, cw, pw, rfl, hrw, hpw⟩, hb⟩
  replace A1 : Hid (Below w.heap.size w v3) := A1.out.trans (hb.mono A1.out.size)
  replace Xa0 : Hid (TxRow v3 (some ⟨ga0, 0, none⟩) ga0 n0 ST0) := Xa0.out.below hb
  have Rw : Hid (ByR v3 aw pw N EL) := hrw
  clear hb hrw
  clear Xa0
  clear SO
  have PW : Hid (0 < N → pw < v3.heap.size) := fun z => (hpw z).2
  clear hpw
  have PWq : Hid _ := PW.out
  go_wp2_with fail
  have AP : Hid _ := A1.out.size
  refine (TO0.out _ (HE0.out.below A1.out)).mono ?_
  rintro e v4 ⟨⟨gb0, rfl, hrb0, hgb0, hlb0⟩, hb⟩
  replace A1 : Hid (Below w.heap.size w v4) := A1.out.trans (hb.mono A1.out.size)
  replace Rw : Hid (ByR v4 aw pw N EL) := Rw.out.below hb
  replace PW : Hid (0 < N → pw < v4.heap.size) := fun z => Nat.lt_of_lt_of_le (PW.out z) hb.size
  have Xb0 : Hid (TxRow v4 (some ⟨gb0, 0, none⟩) gb0 n0 ST0) := hrb0
  have Lb0 : Hid (w.heap.size ≤ gb0) := Nat.le_trans AP.out hgb0
  clear hb hrb0 AP
  have WB0 : Hid (0 < N → pw ≠ gb0) := fun z => by have := PWq.out z; omega
  have GB0 : Hid (gb0 < v4.heap.size) := hlb0
  clear hgb0 hlb0 PWq
  have PWq : Hid _ := PW.out
  have GBr0 : Hid _ := GB0.out
  go_wp2_with fail
  have AQ : Hid _ := A1.out.size
  refine (IY.out _ _ Xb0.out.strs).mono ?_
  rintro e v5 ⟨⟨ag, cg, pg, rfl, hrg, hpg⟩, hb⟩
  replace A1 : Hid (Below w.heap.size w v5) := A1.out.trans (hb.mono A1.out.size)
  replace Rw : Hid (ByR v5 aw pw N EL) := Rw.out.below hb
  replace PW : Hid (0 < N → pw < v5.heap.size) := fun z => Nat.lt_of_lt_of_le (PW.out z) hb.size
  replace Xb0 : Hid (TxRow v5 (some ⟨gb0, 0, none⟩) gb0 n0 ST0) := Xb0.out.below hb
  replace GB0 : Hid (gb0 < v5.heap.size) := Nat.lt_of_lt_of_le GB0.out hb.size
  have Rg : Hid (ByR v5 ag pg N EL) := hrg
  clear hb hrg
  have GW : Hid (0 < N → pw ≠ pg) := fun z => by have := PWq.out z; have := (hpg z).1; omega
  have GX0 : Hid (0 < N → pg ≠ gb0) := fun z => by have := GBr0.out; have := (hpg z).1; omega
  have GL : Hid (0 < N → w.heap.size ≤ pg) := fun z => Nat.le_trans AQ.out (hpg z).1
  clear PW GB0
  clear hpg PWq AQ GBr0 
  go_wp2_with fail
  refine (ES.out _ _ _ _ _ Rg.out.code Rw.out.code).mono ?_
  rintro e v6 ⟨rfl, hb⟩
  replace A1 : Hid (Below w.heap.size w v6) := A1.out.trans (hb.mono A1.out.size)
  replace Rw : Hid (ByR v6 aw pw N EL) := Rw.out.below hb
  replace Xb0 : Hid (TxRow v6 (some ⟨gb0, 0, none⟩) gb0 n0 ST0) := Xb0.out.below hb
  replace Rg : Hid (ByR v6 ag pg N EL) := Rg.out.below hb
  clear hb 
  go_wp2_with fail
  have AP : Hid _ := A1.out.size
  refine (TO0.out _ (HE0.out.below A1.out)).mono ?_
  rintro e v7 ⟨⟨gc0, rfl, hrc0, hgc0, hlc0⟩, hb⟩
  replace A1 : Hid (Below w.heap.size w v7) := A1.out.trans (hb.mono A1.out.size)
  replace Rw : Hid (ByR v7 aw pw N EL) := Rw.out.below hb
  replace Xb0 : Hid (TxRow v7 (some ⟨gb0, 0, none⟩) gb0 n0 ST0) := Xb0.out.below hb
  replace Rg : Hid (ByR v7 ag pg N EL) := Rg.out.below hb
  have Xc0 : Hid (TxRow v7 (some ⟨gc0, 0, none⟩) gc0 n0 ST0) := hrc0
  have Lc0 : Hid (w.heap.size ≤ gc0) := Nat.le_trans AP.out hgc0
  clear hb hrc0 AP
  clear hgc0 hlc0 Lc0
  go_wp2_with fail
  refine (EQ0.out _ _ _ _ _ Xb0.out.strs Xc0.out.strs).mono ?_
  rintro e v8 ⟨rfl, hb⟩
  replace A1 : Hid (Below w.heap.size w v8) := A1.out.trans (hb.mono A1.out.size)
  replace Rw : Hid (ByR v8 aw pw N EL) := Rw.out.below hb
  replace Xb0 : Hid (TxRow v8 (some ⟨gb0, 0, none⟩) gb0 n0 ST0) := Xb0.out.below hb
  replace Rg : Hid (ByR v8 ag pg N EL) := Rg.out.below hb
  replace Xc0 : Hid (TxRow v8 (some ⟨gc0, 0, none⟩) gc0 n0 ST0) := Xc0.out.below hb
  clear hb EQ0
  clear Xc0
  go_wp2_with fail
  refine (MR0.out _ _ Xb0.out).mono ?_
  rintro e v9 ⟨rfl, hto⟩
  replace A1 : Hid (Below w.heap.size w v9) := A1.out.trans (hto.toBelow (fun _ => Lb0.out) A1.out.size)
  replace Rw : Hid (ByR v9 aw pw N EL) := Rw.out.turned hto (fun z _ => WB0.out z)
  replace Rg : Hid (ByR v9 ag pg N EL) := Rg.out.turned hto (fun z _ => GX0.out z)
  clear hto MR0 Xb0 WB0 GX0 Lb0
  go_wp2_with fail
  refine (ES.out _ _ _ _ _ Rg.out.code Rw.out.code).mono ?_
  rintro e v10 ⟨rfl, hb⟩
  replace A1 : Hid (Below w.heap.size w v10) := A1.out.trans (hb.mono A1.out.size)
  replace Rw : Hid (ByR v10 aw pw N EL) := Rw.out.below hb
  replace Rg : Hid (ByR v10 ag pg N EL) := Rg.out.below hb
  clear hb 
  go_wp2_with fail
  refine (MS.out _ _ _ _ Rg.out).mono ?_
  rintro e v11 ⟨⟨rfl, hmr⟩, hto⟩
  replace A1 : Hid (Below w.heap.size w v11) := A1.out.trans (hto.toBelow (fun z => GL.out z) A1.out.size)
  replace Rw : Hid (ByR v11 aw pw N EL) := Rw.out.turned hto (fun z _ => GW.out z)
  clear Rg
  have Rg : Hid (Code8 v11 ag N mk8) := hmr.code
  clear hto hmr MS GW GL
  go_wp2_with fail
  refine (HD.out _ _ _ Rg.out).mono ?_
  rintro e v12 ⟨rfl, hb⟩
  replace A1 : Hid (Below w.heap.size w v12) := A1.out.trans (hb.mono A1.out.size)
  replace Rw : Hid (ByR v12 aw pw N EL) := Rw.out.below hb
  replace Rg : Hid (Code8 v12 ag N mk8) := Rg.out.below hb
  clear hb 
  go_wp2_with fail
  have AP : Hid _ := A1.out.size
  refine (TO0.out _ (HE0.out.below A1.out)).mono ?_
  rintro e v13 ⟨⟨gd0, rfl, hrd0, hgd0, hld0⟩, hb⟩
  replace A1 : Hid (Below w.heap.size w v13) := A1.out.trans (hb.mono A1.out.size)
  replace Rw : Hid (ByR v13 aw pw N EL) := Rw.out.below hb
  replace Rg : Hid (Code8 v13 ag N mk8) := Rg.out.below hb
  have Xd0 : Hid (TxRow v13 (some ⟨gd0, 0, none⟩) gd0 n0 ST0) := hrd0
  have Ld0 : Hid (w.heap.size ≤ gd0) := Nat.le_trans AP.out hgd0
  clear hb hrd0 AP
  clear hgd0 hld0 Ld0
  go_wp2_with fail
  refine (IY.out _ _ Xd0.out.strs).mono ?_
  rintro e v14 ⟨⟨ah, ch, ph, rfl, hrh, hph⟩, hb⟩
  replace A1 : Hid (Below w.heap.size w v14) := A1.out.trans (hb.mono A1.out.size)
  replace Rw : Hid (ByR v14 aw pw N EL) := Rw.out.below hb
  replace Rg : Hid (Code8 v14 ag N mk8) := Rg.out.below hb
  replace Xd0 : Hid (TxRow v14 (some ⟨gd0, 0, none⟩) gd0 n0 ST0) := Xd0.out.below hb
  have Rh : Hid (ByR v14 ah ph N EL) := hrh
  clear hb hrh
  clear Xd0
  clear hph IY
  go_wp2_with fail
  refine (ES.out _ _ _ _ _ Rh.out.code Rw.out.code).mono ?_
  rintro e v15 ⟨rfl, hb⟩
  replace A1 : Hid (Below w.heap.size w v15) := A1.out.trans (hb.mono A1.out.size)
  replace Rw : Hid (ByR v15 aw pw N EL) := Rw.out.below hb
  replace Rg : Hid (Code8 v15 ag N mk8) := Rg.out.below hb
  replace Rh : Hid (ByR v15 ah ph N EL) := Rh.out.below hb
  clear hb ES
  clear Rh Rw
  go_wp2_with fail
  refine (HD.out _ _ _ Rg.out).mono ?_
  rintro e v16 ⟨rfl, hb⟩
  replace A1 : Hid (Below w.heap.size w v16) := A1.out.trans (hb.mono A1.out.size)
  replace Rg : Hid (Code8 v16 ag N mk8) := Rg.out.below hb
  clear hb HD
  clear Rg rr HE0 TO0
  go_wp2
  go_ret
  exact ⟨rfl, A1.out⟩
end Go.Proofs.Ytonccbgolbcjfaa
