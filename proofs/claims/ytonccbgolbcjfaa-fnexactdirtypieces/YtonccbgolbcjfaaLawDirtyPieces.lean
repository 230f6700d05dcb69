/-
  The exact law of DirtyPieces (written by tools/exlaw.py).
-/
import Derived.Test.YtonccbgolbcjfaaImgD
import Derived.Test.YtonccbgolbcjfaaByRow
import Derived.Test.YtonccbgolbcjfaaStrK2
import Derived.Test.YtonccbgolbcjfaaStrTo
namespace Go.Proofs.Ytonccbgolbcjfaa
open Go.ChangeShapes Go.WideShapes Go.ChangeAt Go.RowKit
set_option linter.unusedVariables false
set_option maxRecDepth 100000 in
set_option maxHeartbeats 8000000 in
theorem law_dirtyPieces (a0 : Option Addr) (n0 c0 : Nat) (ST0 : Nat → ByteArray) (a1 : Option Addr) (n1 c1 : Nat) (ST1 : Nat → ByteArray) (hm0 : n0 ≤ maxLen) (hf0 : ∀ i, i < n0 → (ST0 i).size ≤ maxLen) (hm1 : n1 ≤ maxLen) (hf1 : ∀ i, i < n1 → (ST1 i).size ≤ maxLen) (w : World) (hv0 : Strs w a0 n0 ST0) (hv1 : Strs w a1 n1 ST1) :
    Calls Try.prog 7 #[.slice a0 n0 c0, .slice a1 n1 c1] w fun e w' => e = .returned (.bool true) ∧ Below w.heap.size w w' := by
  have SZ0 : Hid (∀ (x : Int) (w : World), 0 ≤ x → x ≤ 1048576 → Strs w a0 n0 ST0 → Calls Try.prog 25 #[.slice a0 n0 c0, .int .i64 x] w fun e w' => (∃ y : Int, e = .returned (.int .i64 y) ∧ y ≤ 1048576 ∧ (0 ≤ y → n0 ≤ 1048576)) ∧ Below w.heap.size w w') := fun x w h0 h1 h => (szStrT_any a0 n0 c0 ST0 x w h h0 h1 hm0 hf0).mono fun _ _ q => ⟨q.1, by rw [← q.2]; exact Below.refl _ _⟩
  have SZ1 : Hid (∀ (x : Int) (w : World), 0 ≤ x → x ≤ 1048576 → Strs w a1 n1 ST1 → Calls Try.prog 25 #[.slice a1 n1 c1, .int .i64 x] w fun e w' => (∃ y : Int, e = .returned (.int .i64 y) ∧ y ≤ 1048576 ∧ (0 ≤ y → n1 ≤ 1048576)) ∧ Below w.heap.size w w') := fun x w h0 h1 h => (szStrT_any a1 n1 c1 ST1 x w h h0 h1 hm1 hf1).mono fun _ _ q => ⟨q.1, by rw [← q.2]; exact Below.refl _ _⟩
  have A1 : Hid (Below w.heap.size w w) := Below.refl _ _
  have HE0 : Hid (Strs w a0 n0 ST0) := hv0
  have HE1 : Hid (Strs w a1 n1 ST1) := hv1
  clear hv0 hv1 hm0 hm1
  clear hf0
  clear hf1
  go_enter Try.func7, Try.ntmps7
  go_wp2_with fail
  refine (SZ0.out _ _ (by omega) (by omega) (HE0.out.below A1.out)).mono ?_
  rintro e v1 ⟨⟨y0, rfl, hy0, hz0⟩, hb⟩
  replace A1 : Hid (Below w.heap.size w v1) := A1.out.trans (hb.mono A1.out.size)
  clear hb SZ0
  by_cases ng0 : y0 < 0
  · clear hz0
    go_wp2
    go_ret
    exact ⟨rfl, A1.out⟩
  have hn0 : n0 ≤ 1048576 := hz0 (by omega)
  clear hz0
  go_wp2_with fail
  refine (SZ1.out _ _ (by omega) (by omega) (HE1.out.below A1.out)).mono ?_
  rintro e v2 ⟨⟨y1, rfl, hy1, hz1⟩, hb⟩
  replace A1 : Hid (Below w.heap.size w v2) := A1.out.trans (hb.mono A1.out.size)
  clear hb SZ1
  by_cases ng1 : y1 < 0
  · clear hz1
    go_wp2
    go_ret
    exact ⟨rfl, A1.out⟩
  have hn1 : n1 ≤ 1048576 := hz1 (by omega)
  clear hz1
  obtain ⟨N, EL, cd, hN, hS, hI⟩ := dirty_both n0 n1 ST0 ST1
  have SO : Hid (∀ (g0 g1 : Nat) (w : World), Strs w (some ⟨g0, 0, none⟩) n0 ST0 → Strs w (some ⟨g1, 0, none⟩) n1 ST1 → Calls Try.prog 14 #[.slice (some ⟨g0, 0, none⟩) n0 n0, .slice (some ⟨g1, 0, none⟩) n1 n1] w fun e w' => (∃ (b : Option Addr) (x g : Nat), e = .returned (.tuple #[.slice b N x, .int .i64 cd]) ∧ RowE w' 1 b g N (inF EL) ∧ (0 < N → w.heap.size ≤ g ∧ g < w'.heap.size)) ∧ Below w.heap.size w w') := hS
  have IY : Hid (∀ (g0 g1 : Nat) (w : World), Strs w (some ⟨g0, 0, none⟩) n0 ST0 → Strs w (some ⟨g1, 0, none⟩) n1 ST1 → Calls Try.prog 13 #[.slice (some ⟨g0, 0, none⟩) n0 n0, .slice (some ⟨g1, 0, none⟩) n1 n1] w fun e w' => (∃ (b : Option Addr) (x g : Nat), e = .returned (.tuple #[.slice b N x, .int .i64 cd]) ∧ RowE w' 1 b g N (inF EL) ∧ (0 < N → w.heap.size ≤ g ∧ g < w'.heap.size)) ∧ Below w.heap.size w w') := hI
  have TO0 : Hid (∀ w : World, Strs w a0 n0 ST0 → Calls Try.prog 27 #[.slice a0 n0 c0] w fun e w' => (∃ g, e = .returned (.slice (some ⟨g, 0, none⟩) n0 n0) ∧ TxRow w' (some ⟨g, 0, none⟩) g n0 ST0 ∧ w.heap.size ≤ g ∧ g < w'.heap.size) ∧ Below w.heap.size w w') := fun w h => (toStrT_any a0 n0 c0 ST0 w h hn0).mono fun _ _ q => ⟨⟨_, q.1, ⟨fun _ => rfl, fun j hj => q.2.1.cell hj, fun j _ => q.2.1.frozen j⟩, Nat.le_refl _, q.2.1.lt⟩, q.2.2⟩
  have EQ0 : Hid (∀ (b e : Option Addr) (x y : Nat) (w : World), Strs w b n0 ST0 → Strs w e n0 ST0 → Calls Try.prog 20 #[.slice b n0 x, .slice e n0 y] w fun e w' => e = .returned (.bool true) ∧ Below w.heap.size w w') := fun b e x y w h h' => (eqStringS_yes b e n0 x y ST0 ST0 w h h' (fun _ _ => rfl) hn0).mono fun _ _ q => ⟨q.1, by obtain ⟨z, e⟩ := q.2; rw [e]; exact below_drewN8 (Below.refl _ _) z⟩
  have TO1 : Hid (∀ w : World, Strs w a1 n1 ST1 → Calls Try.prog 27 #[.slice a1 n1 c1] w fun e w' => (∃ g, e = .returned (.slice (some ⟨g, 0, none⟩) n1 n1) ∧ TxRow w' (some ⟨g, 0, none⟩) g n1 ST1 ∧ w.heap.size ≤ g ∧ g < w'.heap.size) ∧ Below w.heap.size w w') := fun w h => (toStrT_any a1 n1 c1 ST1 w h hn1).mono fun _ _ q => ⟨⟨_, q.1, ⟨fun _ => rfl, fun j hj => q.2.1.cell hj, fun j _ => q.2.1.frozen j⟩, Nat.le_refl _, q.2.1.lt⟩, q.2.2⟩
  have EQ1 : Hid (∀ (b e : Option Addr) (x y : Nat) (w : World), Strs w b n1 ST1 → Strs w e n1 ST1 → Calls Try.prog 20 #[.slice b n1 x, .slice e n1 y] w fun e w' => e = .returned (.bool true) ∧ Below w.heap.size w w') := fun b e x y w h h' => (eqStringS_yes b e n1 x y ST1 ST1 w h h' (fun _ _ => rfl) hn1).mono fun _ _ q => ⟨q.1, by obtain ⟨z, e⟩ := q.2; rw [e]; exact below_drewN8 (Below.refl _ _) z⟩
  have MR0 : Hid (∀ (g : Nat) (w : World), TxRow w (some ⟨g, 0, none⟩) g n0 ST0 → Calls Try.prog 23 #[.slice (some ⟨g, 0, none⟩) n0 n0, .int .i64 ((1 : Nat) : Int)] w fun e w' => e = .returned (.int .i64 (((1 + n0) : Nat) : Int)) ∧ TurnedE g n0 w w') := fun g w h => by
    have hk : 1 ≤ 1 := by omega
    exact (markStrKk _ g n0 n0 1 ST0 w h hk (by omega) (by omega)).mono fun _ _ q => ⟨q.1, q.2.2⟩
  have MR1 : Hid (∀ (g : Nat) (w : World), TxRow w (some ⟨g, 0, none⟩) g n1 ST1 → Calls Try.prog 23 #[.slice (some ⟨g, 0, none⟩) n1 n1, .int .i64 (((1 + n0) : Nat) : Int)] w fun e w' => e = .returned (.int .i64 ((((1 + n0) + n1) : Nat) : Int)) ∧ TurnedE g n1 w w') := fun g w h => by
    have hk : 1 ≤ (1 + n0) := by omega
    exact (markStrKk _ g n1 n1 (1 + n0) ST1 w h hk (by omega) (by omega)).mono fun _ _ q => ⟨q.1, q.2.2⟩
  have ES : Hid (∀ (b e : Option Addr) (x y : Nat) (w : World), Num w b N EL → Num w e N EL → Calls Try.prog 29 #[.slice b N x, .slice e N y] w fun e w' => e = .returned (.bool true) ∧ Below w.heap.size w w') := fun b e x y w h h' => eqNum_yes b e N x y EL w h h' (by omega)
  have MS : Hid (∀ (b : Option Addr) (g x : Nat) (w : World), RowE w 1 b g N (inF EL) → Calls Try.prog 30 #[.slice b N x, .int .i64 1] w fun e w' => (e = .returned (.int .i64 ((1 + N : Nat) : Int)) ∧ RowE w' 1 b g N (inF (mkC 1))) ∧ TurnedE g N w w') := fun b g x w h => (markIntK b g N x 1 EL (by omega) w h).mono fun _ _ q => ⟨⟨q.1, q.2.1⟩, q.2.2⟩
  have HD : Hid (∀ (b : Option Addr) (x : Nat) (w : World), Num w b N (mkC 1) → Calls Try.prog 31 #[.slice b N x, .int .i64 1] w fun e w' => e = .returned (.int .i64 ((1 + N : Nat) : Int)) ∧ Below w.heap.size w w') := fun b x w h => heldIntK b N x 1 (by omega) w h
  have kz : ¬ ((1 + N : Nat) : Int) < 0 := by omega
  have ke : (((1 + N : Nat) : Int) != ((1 + N : Nat) : Int)) = false := by simp
  have rr : (cd != cd) = false := by simp
  generalize ((1 + N : Nat) : Int) = K1 at *
  have NZ : ¬ ((((1 + n0) + n1) : Nat) : Int) < 0 := by omega
  have e1 : ((1 : Nat) : Int) = 1 := rfl
  rw [e1] at MR0
  clear e1
  generalize ((((1 + n0) + n1) : Nat) : Int) = N1 at *
  generalize (((1 + n0) : Nat) : Int) = N0 at *
  clear hN hS hI hn0 hn1 hy0 hy1
  go_wp2_with fail
  have AP : Hid _ := A1.out.size
  refine (TO0.out _ (HE0.out.below A1.out)).mono ?_
  rintro e v3 ⟨⟨ga0, rfl, hra0, hga0, hla0⟩, hb⟩
  replace A1 : Hid (Below w.heap.size w v3) := A1.out.trans (hb.mono A1.out.size)
  have Xa0 : Hid (TxRow v3 (some ⟨ga0, 0, none⟩) ga0 n0 ST0) := hra0
  have La0 : Hid (w.heap.size ≤ ga0) := Nat.le_trans AP.out hga0
  clear hb hra0 AP
  clear hga0 hla0 La0
  go_wp2_with fail
  have AP : Hid _ := A1.out.size
  refine (TO1.out _ (HE1.out.below A1.out)).mono ?_
  rintro e v4 ⟨⟨ga1, rfl, hra1, hga1, hla1⟩, hb⟩
  replace A1 : Hid (Below w.heap.size w v4) := A1.out.trans (hb.mono A1.out.size)
  replace Xa0 : Hid (TxRow v4 (some ⟨ga0, 0, none⟩) ga0 n0 ST0) := Xa0.out.below hb
  have Xa1 : Hid (TxRow v4 (some ⟨ga1, 0, none⟩) ga1 n1 ST1) := hra1
  have La1 : Hid (w.heap.size ≤ ga1) := Nat.le_trans AP.out hga1
  clear hb hra1 AP
  clear hga1 hla1 La1
  go_wp2_with fail
  refine (SO.out _ _ _ Xa0.out.strs Xa1.out.strs).mono ?_
  rintro e v5 ⟨⟨aw, cw, pw, rfl, hrw, hpw⟩, hb⟩
  replace A1 : Hid (Below w.heap.size w v5) := A1.out.trans (hb.mono A1.out.size)
  replace Xa0 : Hid (TxRow v5 (some ⟨ga0, 0, none⟩) ga0 n0 ST0) := Xa0.out.below hb
  replace Xa1 : Hid (TxRow v5 (some ⟨ga1, 0, none⟩) ga1 n1 ST1) := Xa1.out.below hb
  have Rw : Hid (RowE v5 1 aw pw N (inF EL)) := hrw
  clear hb hrw
  clear Xa0 Xa1
  clear SO
  have PW : Hid (0 < N → pw < v5.heap.size) := fun z => (hpw z).2
  clear hpw
  have PWq : Hid _ := PW.out
  go_wp2_with fail
  have AP : Hid _ := A1.out.size
  refine (TO0.out _ (HE0.out.below A1.out)).mono ?_
  rintro e v6 ⟨⟨gb0, rfl, hrb0, hgb0, hlb0⟩, hb⟩
  replace A1 : Hid (Below w.heap.size w v6) := A1.out.trans (hb.mono A1.out.size)
  replace Rw : Hid (RowE v6 1 aw pw N (inF EL)) := Rw.out.below (by omega) hb
  replace PW : Hid (0 < N → pw < v6.heap.size) := fun z => Nat.lt_of_lt_of_le (PW.out z) hb.size
  have Xb0 : Hid (TxRow v6 (some ⟨gb0, 0, none⟩) gb0 n0 ST0) := hrb0
  have Lb0 : Hid (w.heap.size ≤ gb0) := Nat.le_trans AP.out hgb0
  clear hb hrb0 AP
  have WB0 : Hid (0 < N → pw ≠ gb0) := fun z => by have := PWq.out z; omega
  have GB0 : Hid (gb0 < v6.heap.size) := hlb0
  clear hgb0 hlb0 PWq
  have GBq0 : Hid _ := GB0.out
  have PWq : Hid _ := PW.out
  go_wp2_with fail
  have AP : Hid _ := A1.out.size
  refine (TO1.out _ (HE1.out.below A1.out)).mono ?_
  rintro e v7 ⟨⟨gb1, rfl, hrb1, hgb1, hlb1⟩, hb⟩
  replace A1 : Hid (Below w.heap.size w v7) := A1.out.trans (hb.mono A1.out.size)
  replace Rw : Hid (RowE v7 1 aw pw N (inF EL)) := Rw.out.below (by omega) hb
  replace PW : Hid (0 < N → pw < v7.heap.size) := fun z => Nat.lt_of_lt_of_le (PW.out z) hb.size
  replace Xb0 : Hid (TxRow v7 (some ⟨gb0, 0, none⟩) gb0 n0 ST0) := Xb0.out.below hb
  replace GB0 : Hid (gb0 < v7.heap.size) := Nat.lt_of_lt_of_le GB0.out hb.size
  have Xb1 : Hid (TxRow v7 (some ⟨gb1, 0, none⟩) gb1 n1 ST1) := hrb1
  have Lb1 : Hid (w.heap.size ≤ gb1) := Nat.le_trans AP.out hgb1
  clear hb hrb1 AP
  have WB1 : Hid (0 < N → pw ≠ gb1) := fun z => by have := PWq.out z; omega
  have GB1 : Hid (gb1 < v7.heap.size) := hlb1
  have NB01 : Hid (gb0 ≠ gb1) := by have := GBq0.out; exact Nat.ne_of_lt (Nat.lt_of_lt_of_le this hgb1)
  clear hgb1 hlb1 PWq
  have PWq : Hid _ := PW.out
  have GBr0 : Hid _ := GB0.out
  have GBr1 : Hid _ := GB1.out
  go_wp2_with fail
  have AQ : Hid _ := A1.out.size
  refine (IY.out _ _ _ Xb0.out.strs Xb1.out.strs).mono ?_
  rintro e v8 ⟨⟨ag, cg, pg, rfl, hrg, hpg⟩, hb⟩
  replace A1 : Hid (Below w.heap.size w v8) := A1.out.trans (hb.mono A1.out.size)
  replace Rw : Hid (RowE v8 1 aw pw N (inF EL)) := Rw.out.below (by omega) hb
  replace PW : Hid (0 < N → pw < v8.heap.size) := fun z => Nat.lt_of_lt_of_le (PW.out z) hb.size
  replace Xb0 : Hid (TxRow v8 (some ⟨gb0, 0, none⟩) gb0 n0 ST0) := Xb0.out.below hb
  replace GB0 : Hid (gb0 < v8.heap.size) := Nat.lt_of_lt_of_le GB0.out hb.size
  replace Xb1 : Hid (TxRow v8 (some ⟨gb1, 0, none⟩) gb1 n1 ST1) := Xb1.out.below hb
  replace GB1 : Hid (gb1 < v8.heap.size) := Nat.lt_of_lt_of_le GB1.out hb.size
  have Rg : Hid (RowE v8 1 ag pg N (inF EL)) := hrg
  clear hb hrg
  have GW : Hid (0 < N → pw ≠ pg) := fun z => by have := PWq.out z; have := (hpg z).1; omega
  have GX0 : Hid (0 < N → pg ≠ gb0) := fun z => by have := GBr0.out; have := (hpg z).1; omega
  have GX1 : Hid (0 < N → pg ≠ gb1) := fun z => by have := GBr1.out; have := (hpg z).1; omega
  have GL : Hid (0 < N → w.heap.size ≤ pg) := fun z => Nat.le_trans AQ.out (hpg z).1
  clear PW GB0 GB1
  clear hpg PWq AQ GBr0 GBr1 GBq0
  go_wp2_with fail
  refine (ES.out _ _ _ _ _ Rg.out.els Rw.out.els).mono ?_
  rintro e v9 ⟨rfl, hb⟩
  replace A1 : Hid (Below w.heap.size w v9) := A1.out.trans (hb.mono A1.out.size)
  replace Rw : Hid (RowE v9 1 aw pw N (inF EL)) := Rw.out.below (by omega) hb
  replace Xb0 : Hid (TxRow v9 (some ⟨gb0, 0, none⟩) gb0 n0 ST0) := Xb0.out.below hb
  replace Xb1 : Hid (TxRow v9 (some ⟨gb1, 0, none⟩) gb1 n1 ST1) := Xb1.out.below hb
  replace Rg : Hid (RowE v9 1 ag pg N (inF EL)) := Rg.out.below (by omega) hb
  clear hb 
  go_wp2_with fail
  have AP : Hid _ := A1.out.size
  refine (TO0.out _ (HE0.out.below A1.out)).mono ?_
  rintro e v10 ⟨⟨gc0, rfl, hrc0, hgc0, hlc0⟩, hb⟩
  replace A1 : Hid (Below w.heap.size w v10) := A1.out.trans (hb.mono A1.out.size)
  replace Rw : Hid (RowE v10 1 aw pw N (inF EL)) := Rw.out.below (by omega) hb
  replace Xb0 : Hid (TxRow v10 (some ⟨gb0, 0, none⟩) gb0 n0 ST0) := Xb0.out.below hb
  replace Xb1 : Hid (TxRow v10 (some ⟨gb1, 0, none⟩) gb1 n1 ST1) := Xb1.out.below hb
  replace Rg : Hid (RowE v10 1 ag pg N (inF EL)) := Rg.out.below (by omega) hb
  have Xc0 : Hid (TxRow v10 (some ⟨gc0, 0, none⟩) gc0 n0 ST0) := hrc0
  have Lc0 : Hid (w.heap.size ≤ gc0) := Nat.le_trans AP.out hgc0
  clear hb hrc0 AP
  clear hgc0 hlc0 Lc0
  go_wp2_with fail
  refine (EQ0.out _ _ _ _ _ Xb0.out.strs Xc0.out.strs).mono ?_
  rintro e v11 ⟨rfl, hb⟩
  replace A1 : Hid (Below w.heap.size w v11) := A1.out.trans (hb.mono A1.out.size)
  replace Rw : Hid (RowE v11 1 aw pw N (inF EL)) := Rw.out.below (by omega) hb
  replace Xb0 : Hid (TxRow v11 (some ⟨gb0, 0, none⟩) gb0 n0 ST0) := Xb0.out.below hb
  replace Xb1 : Hid (TxRow v11 (some ⟨gb1, 0, none⟩) gb1 n1 ST1) := Xb1.out.below hb
  replace Rg : Hid (RowE v11 1 ag pg N (inF EL)) := Rg.out.below (by omega) hb
  replace Xc0 : Hid (TxRow v11 (some ⟨gc0, 0, none⟩) gc0 n0 ST0) := Xc0.out.below hb
  clear hb EQ0
  clear Xc0
  go_wp2_with fail
  have AP : Hid _ := A1.out.size
  refine (TO1.out _ (HE1.out.below A1.out)).mono ?_
  rintro e v12 ⟨⟨gc1, rfl, hrc1, hgc1, hlc1⟩, hb⟩
  replace A1 : Hid (Below w.heap.size w v12) := A1.out.trans (hb.mono A1.out.size)
  replace Rw : Hid (RowE v12 1 aw pw N (inF EL)) := Rw.out.below (by omega) hb
  replace Xb0 : Hid (TxRow v12 (some ⟨gb0, 0, none⟩) gb0 n0 ST0) := Xb0.out.below hb
  replace Xb1 : Hid (TxRow v12 (some ⟨gb1, 0, none⟩) gb1 n1 ST1) := Xb1.out.below hb
  replace Rg : Hid (RowE v12 1 ag pg N (inF EL)) := Rg.out.below (by omega) hb
  have Xc1 : Hid (TxRow v12 (some ⟨gc1, 0, none⟩) gc1 n1 ST1) := hrc1
  have Lc1 : Hid (w.heap.size ≤ gc1) := Nat.le_trans AP.out hgc1
  clear hb hrc1 AP
  clear hgc1 hlc1 Lc1
  go_wp2_with fail
  refine (EQ1.out _ _ _ _ _ Xb1.out.strs Xc1.out.strs).mono ?_
  rintro e v13 ⟨rfl, hb⟩
  replace A1 : Hid (Below w.heap.size w v13) := A1.out.trans (hb.mono A1.out.size)
  replace Rw : Hid (RowE v13 1 aw pw N (inF EL)) := Rw.out.below (by omega) hb
  replace Xb0 : Hid (TxRow v13 (some ⟨gb0, 0, none⟩) gb0 n0 ST0) := Xb0.out.below hb
  replace Xb1 : Hid (TxRow v13 (some ⟨gb1, 0, none⟩) gb1 n1 ST1) := Xb1.out.below hb
  replace Rg : Hid (RowE v13 1 ag pg N (inF EL)) := Rg.out.below (by omega) hb
  replace Xc1 : Hid (TxRow v13 (some ⟨gc1, 0, none⟩) gc1 n1 ST1) := Xc1.out.below hb
  clear hb EQ1
  clear Xc1
  go_wp2_with fail
  refine (MR0.out _ _ Xb0.out).mono ?_
  rintro e v14 ⟨rfl, hto⟩
  replace A1 : Hid (Below w.heap.size w v14) := A1.out.trans (hto.toBelow (fun _ => Lb0.out) A1.out.size)
  replace Rw : Hid (RowE v14 1 aw pw N (inF EL)) := Rw.out.turned (by omega) hto (fun z _ => WB0.out z)
  replace Xb1 : Hid (TxRow v14 (some ⟨gb1, 0, none⟩) gb1 n1 ST1) := Xb1.out.turned hto (fun _ _ => NB01.out.symm)
  replace Rg : Hid (RowE v14 1 ag pg N (inF EL)) := Rg.out.turned (by omega) hto (fun z _ => GX0.out z)
  clear hto MR0 Xb0 WB0 GX0 Lb0 NB01
  go_wp2_with fail
  refine (MR1.out _ _ Xb1.out).mono ?_
  rintro e v15 ⟨rfl, hto⟩
  replace A1 : Hid (Below w.heap.size w v15) := A1.out.trans (hto.toBelow (fun _ => Lb1.out) A1.out.size)
  replace Rw : Hid (RowE v15 1 aw pw N (inF EL)) := Rw.out.turned (by omega) hto (fun z _ => WB1.out z)
  replace Rg : Hid (RowE v15 1 ag pg N (inF EL)) := Rg.out.turned (by omega) hto (fun z _ => GX1.out z)
  clear hto MR1 Xb1 WB1 GX1 Lb1
  go_wp2_with fail
  refine (ES.out _ _ _ _ _ Rg.out.els Rw.out.els).mono ?_
  rintro e v16 ⟨rfl, hb⟩
  replace A1 : Hid (Below w.heap.size w v16) := A1.out.trans (hb.mono A1.out.size)
  replace Rw : Hid (RowE v16 1 aw pw N (inF EL)) := Rw.out.below (by omega) hb
  replace Rg : Hid (RowE v16 1 ag pg N (inF EL)) := Rg.out.below (by omega) hb
  clear hb 
  go_wp2_with fail
  refine (MS.out _ _ _ _ Rg.out).mono ?_
  rintro e v17 ⟨⟨rfl, hmr⟩, hto⟩
  replace A1 : Hid (Below w.heap.size w v17) := A1.out.trans (hto.toBelow (fun z => GL.out z) A1.out.size)
  replace Rw : Hid (RowE v17 1 aw pw N (inF EL)) := Rw.out.turned (by omega) hto (fun z _ => GW.out z)
  clear Rg
  have Rg : Hid (Num v17 ag N (mkC 1)) := hmr.els
  clear hto hmr MS GW GL
  go_wp2_with fail
  refine (HD.out _ _ _ Rg.out).mono ?_
  rintro e v18 ⟨rfl, hb⟩
  replace A1 : Hid (Below w.heap.size w v18) := A1.out.trans (hb.mono A1.out.size)
  replace Rw : Hid (RowE v18 1 aw pw N (inF EL)) := Rw.out.below (by omega) hb
  replace Rg : Hid (Num v18 ag N (mkC 1)) := Rg.out.below hb
  clear hb 
  go_wp2_with fail
  have AP : Hid _ := A1.out.size
  refine (TO0.out _ (HE0.out.below A1.out)).mono ?_
  rintro e v19 ⟨⟨gd0, rfl, hrd0, hgd0, hld0⟩, hb⟩
  replace A1 : Hid (Below w.heap.size w v19) := A1.out.trans (hb.mono A1.out.size)
  replace Rw : Hid (RowE v19 1 aw pw N (inF EL)) := Rw.out.below (by omega) hb
  replace Rg : Hid (Num v19 ag N (mkC 1)) := Rg.out.below hb
  have Xd0 : Hid (TxRow v19 (some ⟨gd0, 0, none⟩) gd0 n0 ST0) := hrd0
  have Ld0 : Hid (w.heap.size ≤ gd0) := Nat.le_trans AP.out hgd0
  clear hb hrd0 AP
  clear hgd0 hld0 Ld0
  go_wp2_with fail
  have AP : Hid _ := A1.out.size
  refine (TO1.out _ (HE1.out.below A1.out)).mono ?_
  rintro e v20 ⟨⟨gd1, rfl, hrd1, hgd1, hld1⟩, hb⟩
  replace A1 : Hid (Below w.heap.size w v20) := A1.out.trans (hb.mono A1.out.size)
  replace Rw : Hid (RowE v20 1 aw pw N (inF EL)) := Rw.out.below (by omega) hb
  replace Rg : Hid (Num v20 ag N (mkC 1)) := Rg.out.below hb
  replace Xd0 : Hid (TxRow v20 (some ⟨gd0, 0, none⟩) gd0 n0 ST0) := Xd0.out.below hb
  have Xd1 : Hid (TxRow v20 (some ⟨gd1, 0, none⟩) gd1 n1 ST1) := hrd1
  have Ld1 : Hid (w.heap.size ≤ gd1) := Nat.le_trans AP.out hgd1
  clear hb hrd1 AP
  clear hgd1 hld1 Ld1
  go_wp2_with fail
  refine (IY.out _ _ _ Xd0.out.strs Xd1.out.strs).mono ?_
  rintro e v21 ⟨⟨ah, ch, ph, rfl, hrh, hph⟩, hb⟩
  replace A1 : Hid (Below w.heap.size w v21) := A1.out.trans (hb.mono A1.out.size)
  replace Rw : Hid (RowE v21 1 aw pw N (inF EL)) := Rw.out.below (by omega) hb
  replace Rg : Hid (Num v21 ag N (mkC 1)) := Rg.out.below hb
  replace Xd0 : Hid (TxRow v21 (some ⟨gd0, 0, none⟩) gd0 n0 ST0) := Xd0.out.below hb
  replace Xd1 : Hid (TxRow v21 (some ⟨gd1, 0, none⟩) gd1 n1 ST1) := Xd1.out.below hb
  have Rh : Hid (RowE v21 1 ah ph N (inF EL)) := hrh
  clear hb hrh
  clear Xd0 Xd1
  clear hph IY
  go_wp2_with fail
  refine (ES.out _ _ _ _ _ Rh.out.els Rw.out.els).mono ?_
  rintro e v22 ⟨rfl, hb⟩
  replace A1 : Hid (Below w.heap.size w v22) := A1.out.trans (hb.mono A1.out.size)
  replace Rw : Hid (RowE v22 1 aw pw N (inF EL)) := Rw.out.below (by omega) hb
  replace Rg : Hid (Num v22 ag N (mkC 1)) := Rg.out.below hb
  replace Rh : Hid (RowE v22 1 ah ph N (inF EL)) := Rh.out.below (by omega) hb
  clear hb ES
  clear Rh Rw
  go_wp2_with fail
  refine (HD.out _ _ _ Rg.out).mono ?_
  rintro e v23 ⟨rfl, hb⟩
  replace A1 : Hid (Below w.heap.size w v23) := A1.out.trans (hb.mono A1.out.size)
  replace Rg : Hid (Num v23 ag N (mkC 1)) := Rg.out.below hb
  clear hb HD
  clear Rg rr HE0 HE1 TO0 TO1
  go_wp2
  go_ret
  exact ⟨rfl, A1.out⟩
end Go.Proofs.Ytonccbgolbcjfaa
