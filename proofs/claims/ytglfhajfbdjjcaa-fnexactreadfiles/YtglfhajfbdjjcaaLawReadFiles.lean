/-
  The exact law of ReadFiles (written by tools/exlaw.py).
-/
import Derived.Test.YtglfhajfbdjjcaaRdFiB
namespace Go.Proofs.Ytglfhajfbdjjcaa
open Go.ChangeShapes Go.WideShapes Go.ChangeAt Go.RowKit
set_option linter.unusedVariables false
set_option maxRecDepth 100000 in
set_option maxHeartbeats 8000000 in
theorem law_readFiles (a0 : Option Addr) (n0 c0 : Nat) (ST0 : Nat → Nat) (hm0 : n0 ≤ maxLen) (hf0 : ∀ i, ST0 i < 256) (w : World) (hv0 : Code8 w a0 n0 ST0) :
    Calls Try.prog 6 #[.slice a0 n0 c0] w fun e w' => e = .returned (.bool true) ∧ Below w.heap.size w w' := by
  unfold maxLen at hm0
  by_cases big0 : 1048576 < n0
  · have bb0 : (1048576 : Int) < (n0 : Int) := by omega
    clear hv0 hm0 hf0
    go_enter Try.func6, Try.ntmps6
    go_wp2
    go_ret
    exact ⟨rfl, Below.refl _ _⟩
  have hn0 : n0 ≤ 1048576 := by omega
  have bb0 : ¬ (1048576 : Int) < (n0 : Int) := by omega
  have A1 : Hid (Below w.heap.size w w) := Below.refl _ _
  have HE0 : Hid (Code8 w a0 n0 ST0) := hv0
  clear hv0 hm0
  go_enter Try.func6, Try.ntmps6
  obtain ⟨N, EL, cd, hN, hS, hI⟩ := readFiles_both n0 ST0 hf0 hn0
  have SO : Hid (∀ (g0 : Nat) (w : World), Code8 w (some ⟨g0, 0, none⟩) n0 ST0 → Calls Try.prog 21 #[.slice (some ⟨g0, 0, none⟩) n0 n0] w fun e w' => (∃ (b : Option Addr) (x g : Nat), e = .returned (.tuple #[.slice b N x, .int .i64 cd]) ∧ RowE w' 3 b g N (fiF EL) ∧ (0 < N → w.heap.size ≤ g ∧ g < w'.heap.size)) ∧ Below w.heap.size w w') := hS
  have IY : Hid (∀ (g0 : Nat) (w : World), Code8 w (some ⟨g0, 0, none⟩) n0 ST0 → Calls Try.prog 23 #[.slice (some ⟨g0, 0, none⟩) n0 n0] w fun e w' => (∃ (b : Option Addr) (x g : Nat), e = .returned (.tuple #[.slice b N x, .int .i64 cd]) ∧ RowE w' 3 b g N (fiF EL) ∧ (0 < N → w.heap.size ≤ g ∧ g < w'.heap.size)) ∧ Below w.heap.size w w') := hI
  have TO0 : Hid (∀ w : World, Code8 w a0 n0 ST0 → Calls Try.prog 22 #[.slice a0 n0 c0] w fun e w' => (∃ g, e = .returned (.slice (some ⟨g, 0, none⟩) n0 n0) ∧ ByR w' (some ⟨g, 0, none⟩) g n0 ST0 ∧ w.heap.size ≤ g ∧ g < w'.heap.size) ∧ Below w.heap.size w w') := fun w h => (toByteS_any a0 n0 c0 ST0 w h hn0).mono fun _ _ q => ⟨⟨_, q.1, .inr ⟨rfl, q.2.1⟩, Nat.le_refl _, q.2.1.lt⟩, q.2.2⟩
  have EQ0 : Hid (∀ (b e : Option Addr) (x y : Nat) (w : World), Code8 w b n0 ST0 → Code8 w e n0 ST0 → Calls Try.prog 24 #[.slice b n0 x, .slice e n0 y] w fun e w' => e = .returned (.bool true) ∧ Below w.heap.size w w') := fun b e x y w h h' => (eqByteS_yes b e n0 x y ST0 w h h' hn0).mono fun _ _ q => ⟨q.1, by obtain ⟨k, rfl⟩ := q.2; exact below_drewN8 (Below.refl _ _) k⟩
  have MR0 : Hid (∀ (g : Nat) (w : World), ByR w (some ⟨g, 0, none⟩) g n0 ST0 → Calls Try.prog 25 #[.slice (some ⟨g, 0, none⟩) n0 n0, .int .i64 ((1 : Nat) : Int)] w fun e w' => e = .returned (.int .i64 (((1 + n0) : Nat) : Int)) ∧ TurnedE g n0 w w') := fun g w h => by
    have hk : 1 ≤ 1 := by omega
    exact (markByK _ g n0 n0 ST0 w h hn0).mono fun _ _ q => ⟨by rw [q.1.1, Nat.add_comm], q.2⟩
  have ES : Hid (∀ (b e : Option Addr) (x y : Nat) (w : World), Els w 3 b N (fiF EL) → Els w 3 e N (fiF EL) → Calls Try.prog 13 #[.slice b N x, .slice e N y] w fun e w' => e = .returned (.bool true) ∧ Below w.heap.size w w') := fun b e x y w h h' => eqFileS_yes b e N x y EL w h h' (by omega)
  have MS : Hid (∀ (b : Option Addr) (g x : Nat) (w : World), RowE w 3 b g N (fiF EL) → Calls Try.prog 18 #[.slice b N x, .int .i64 1] w fun e w' => (e = .returned (.int .i64 ((1 + 3 * N : Nat) : Int)) ∧ RowE w' 3 b g N (fiF (fiM 1))) ∧ TurnedE g N w w') := fun b g x w h => (markFileK b g N x 1 EL (by omega) (by omega) w h).mono fun _ _ q => ⟨⟨q.1, q.2.1⟩, q.2.2⟩
  have HD : Hid (∀ (b : Option Addr) (x : Nat) (w : World), Els w 3 b N (fiF (fiM 1)) → Calls Try.prog 26 #[.slice b N x, .int .i64 1] w fun e w' => e = .returned (.int .i64 ((1 + 3 * N : Nat) : Int)) ∧ Below w.heap.size w w') := fun b x w h => heldFileK b N x 1 (by omega) (by omega) w h
  have kz : ¬ ((1 + 3 * N : Nat) : Int) < 0 := by omega
  have ke : (((1 + 3 * N : Nat) : Int) != ((1 + 3 * N : Nat) : Int)) = false := by simp
  have rr : (cd != cd) = false := by simp
  generalize ((1 + 3 * N : Nat) : Int) = K1 at *
  have NZ : ¬ (((1 + n0) : Nat) : Int) < 0 := by omega
  have e1 : ((1 : Nat) : Int) = 1 := rfl
  rw [e1] at MR0
  clear e1
  generalize (((1 + n0) : Nat) : Int) = N0 at *
  clear hN hS hI hn0 hf0
  go_wp2_with fail
  have AP : Hid _ := A1.out.size
  refine (TO0.out _ (HE0.out.below A1.out)).mono ?_
  rintro e v1 ⟨⟨ga0, rfl, hra0, hga0, hla0⟩, hb⟩
  replace A1 : Hid (Below w.heap.size w v1) := A1.out.trans (hb.mono A1.out.size)
  have Xa0 : Hid (ByR v1 (some ⟨ga0, 0, none⟩) ga0 n0 ST0) := hra0
  have La0 : Hid (w.heap.size ≤ ga0) := Nat.le_trans AP.out hga0
  clear hb hra0 AP
  clear hga0 hla0 La0
  go_wp2_with fail
  refine (SO.out _ _ Xa0.out.code).mono ?_
  rintro e v2 ⟨⟨aw, cw, pw, rfl, hrw, hpw⟩, hb⟩
  replace A1 : Hid (Below w.heap.size w v2) := A1.out.trans (hb.mono A1.out.size)
  replace Xa0 : Hid (ByR v2 (some ⟨ga0, 0, none⟩) ga0 n0 ST0) := Xa0.out.below hb
  have Rw : Hid (RowE v2 3 aw pw N (fiF EL)) := hrw
  clear hb hrw
  clear Xa0
  clear SO
  have PW : Hid (0 < N → pw < v2.heap.size) := fun z => (hpw z).2
  clear hpw
  have PWq : Hid _ := PW.out
  go_wp2_with fail
  have AP : Hid _ := A1.out.size
  refine (TO0.out _ (HE0.out.below A1.out)).mono ?_
  rintro e v3 ⟨⟨gb0, rfl, hrb0, hgb0, hlb0⟩, hb⟩
  replace A1 : Hid (Below w.heap.size w v3) := A1.out.trans (hb.mono A1.out.size)
  replace Rw : Hid (RowE v3 3 aw pw N (fiF EL)) := Rw.out.below (by omega) hb
  replace PW : Hid (0 < N → pw < v3.heap.size) := fun z => Nat.lt_of_lt_of_le (PW.out z) hb.size
  have Xb0 : Hid (ByR v3 (some ⟨gb0, 0, none⟩) gb0 n0 ST0) := hrb0
  have Lb0 : Hid (w.heap.size ≤ gb0) := Nat.le_trans AP.out hgb0
  clear hb hrb0 AP
  have WB0 : Hid (0 < N → pw ≠ gb0) := fun z => by have := PWq.out z; omega
  have GB0 : Hid (gb0 < v3.heap.size) := hlb0
  clear hgb0 hlb0 PWq
  have PWq : Hid _ := PW.out
  have GBr0 : Hid _ := GB0.out
  go_wp2_with fail
  have AQ : Hid _ := A1.out.size
  refine (IY.out _ _ Xb0.out.code).mono ?_
  rintro e v4 ⟨⟨ag, cg, pg, rfl, hrg, hpg⟩, hb⟩
  replace A1 : Hid (Below w.heap.size w v4) := A1.out.trans (hb.mono A1.out.size)
  replace Rw : Hid (RowE v4 3 aw pw N (fiF EL)) := Rw.out.below (by omega) hb
  replace PW : Hid (0 < N → pw < v4.heap.size) := fun z => Nat.lt_of_lt_of_le (PW.out z) hb.size
  replace Xb0 : Hid (ByR v4 (some ⟨gb0, 0, none⟩) gb0 n0 ST0) := Xb0.out.below hb
  replace GB0 : Hid (gb0 < v4.heap.size) := Nat.lt_of_lt_of_le GB0.out hb.size
  have Rg : Hid (RowE v4 3 ag pg N (fiF EL)) := hrg
  clear hb hrg
  have GW : Hid (0 < N → pw ≠ pg) := fun z => by have := PWq.out z; have := (hpg z).1; omega
  have GX0 : Hid (0 < N → pg ≠ gb0) := fun z => by have := GBr0.out; have := (hpg z).1; omega
  have GL : Hid (0 < N → w.heap.size ≤ pg) := fun z => Nat.le_trans AQ.out (hpg z).1
  clear PW GB0
  clear hpg PWq AQ GBr0 
  go_wp2_with fail
  refine (ES.out _ _ _ _ _ Rg.out.els Rw.out.els).mono ?_
  rintro e v5 ⟨rfl, hb⟩
  replace A1 : Hid (Below w.heap.size w v5) := A1.out.trans (hb.mono A1.out.size)
  replace Rw : Hid (RowE v5 3 aw pw N (fiF EL)) := Rw.out.below (by omega) hb
  replace Xb0 : Hid (ByR v5 (some ⟨gb0, 0, none⟩) gb0 n0 ST0) := Xb0.out.below hb
  replace Rg : Hid (RowE v5 3 ag pg N (fiF EL)) := Rg.out.below (by omega) hb
  clear hb 
  go_wp2_with fail
  have AP : Hid _ := A1.out.size
  refine (TO0.out _ (HE0.out.below A1.out)).mono ?_
  rintro e v6 ⟨⟨gc0, rfl, hrc0, hgc0, hlc0⟩, hb⟩
  replace A1 : Hid (Below w.heap.size w v6) := A1.out.trans (hb.mono A1.out.size)
  replace Rw : Hid (RowE v6 3 aw pw N (fiF EL)) := Rw.out.below (by omega) hb
  replace Xb0 : Hid (ByR v6 (some ⟨gb0, 0, none⟩) gb0 n0 ST0) := Xb0.out.below hb
  replace Rg : Hid (RowE v6 3 ag pg N (fiF EL)) := Rg.out.below (by omega) hb
  have Xc0 : Hid (ByR v6 (some ⟨gc0, 0, none⟩) gc0 n0 ST0) := hrc0
  have Lc0 : Hid (w.heap.size ≤ gc0) := Nat.le_trans AP.out hgc0
  clear hb hrc0 AP
  clear hgc0 hlc0 Lc0
  go_wp2_with fail
  refine (EQ0.out _ _ _ _ _ Xb0.out.code Xc0.out.code).mono ?_
  rintro e v7 ⟨rfl, hb⟩
  replace A1 : Hid (Below w.heap.size w v7) := A1.out.trans (hb.mono A1.out.size)
  replace Rw : Hid (RowE v7 3 aw pw N (fiF EL)) := Rw.out.below (by omega) hb
  replace Xb0 : Hid (ByR v7 (some ⟨gb0, 0, none⟩) gb0 n0 ST0) := Xb0.out.below hb
  replace Rg : Hid (RowE v7 3 ag pg N (fiF EL)) := Rg.out.below (by omega) hb
  replace Xc0 : Hid (ByR v7 (some ⟨gc0, 0, none⟩) gc0 n0 ST0) := Xc0.out.below hb
  clear hb EQ0
  clear Xc0
  go_wp2_with fail
  refine (MR0.out _ _ Xb0.out).mono ?_
  rintro e v8 ⟨rfl, hto⟩
  replace A1 : Hid (Below w.heap.size w v8) := A1.out.trans (hto.toBelow (fun _ => Lb0.out) A1.out.size)
  replace Rw : Hid (RowE v8 3 aw pw N (fiF EL)) := Rw.out.turned (by omega) hto (fun z _ => WB0.out z)
  replace Rg : Hid (RowE v8 3 ag pg N (fiF EL)) := Rg.out.turned (by omega) hto (fun z _ => GX0.out z)
  clear hto MR0 Xb0 WB0 GX0 Lb0
  go_wp2_with fail
  refine (ES.out _ _ _ _ _ Rg.out.els Rw.out.els).mono ?_
  rintro e v9 ⟨rfl, hb⟩
  replace A1 : Hid (Below w.heap.size w v9) := A1.out.trans (hb.mono A1.out.size)
  replace Rw : Hid (RowE v9 3 aw pw N (fiF EL)) := Rw.out.below (by omega) hb
  replace Rg : Hid (RowE v9 3 ag pg N (fiF EL)) := Rg.out.below (by omega) hb
  clear hb 
  go_wp2_with fail
  refine (MS.out _ _ _ _ Rg.out).mono ?_
  rintro e v10 ⟨⟨rfl, hmr⟩, hto⟩
  replace A1 : Hid (Below w.heap.size w v10) := A1.out.trans (hto.toBelow (fun z => GL.out z) A1.out.size)
  replace Rw : Hid (RowE v10 3 aw pw N (fiF EL)) := Rw.out.turned (by omega) hto (fun z _ => GW.out z)
  clear Rg
  have Rg : Hid (Els v10 3 ag N (fiF (fiM 1))) := hmr.els
  clear hto hmr MS GW GL
  go_wp2_with fail
  refine (HD.out _ _ _ Rg.out).mono ?_
  rintro e v11 ⟨rfl, hb⟩
  replace A1 : Hid (Below w.heap.size w v11) := A1.out.trans (hb.mono A1.out.size)
  replace Rw : Hid (RowE v11 3 aw pw N (fiF EL)) := Rw.out.below (by omega) hb
  replace Rg : Hid (Els v11 3 ag N (fiF (fiM 1))) := Rg.out.below hb
  clear hb 
  go_wp2_with fail
  have AP : Hid _ := A1.out.size
  refine (TO0.out _ (HE0.out.below A1.out)).mono ?_
  rintro e v12 ⟨⟨gd0, rfl, hrd0, hgd0, hld0⟩, hb⟩
  replace A1 : Hid (Below w.heap.size w v12) := A1.out.trans (hb.mono A1.out.size)
  replace Rw : Hid (RowE v12 3 aw pw N (fiF EL)) := Rw.out.below (by omega) hb
  replace Rg : Hid (Els v12 3 ag N (fiF (fiM 1))) := Rg.out.below hb
  have Xd0 : Hid (ByR v12 (some ⟨gd0, 0, none⟩) gd0 n0 ST0) := hrd0
  have Ld0 : Hid (w.heap.size ≤ gd0) := Nat.le_trans AP.out hgd0
  clear hb hrd0 AP
  clear hgd0 hld0 Ld0
  go_wp2_with fail
  refine (IY.out _ _ Xd0.out.code).mono ?_
  rintro e v13 ⟨⟨ah, ch, ph, rfl, hrh, hph⟩, hb⟩
  replace A1 : Hid (Below w.heap.size w v13) := A1.out.trans (hb.mono A1.out.size)
  replace Rw : Hid (RowE v13 3 aw pw N (fiF EL)) := Rw.out.below (by omega) hb
  replace Rg : Hid (Els v13 3 ag N (fiF (fiM 1))) := Rg.out.below hb
  replace Xd0 : Hid (ByR v13 (some ⟨gd0, 0, none⟩) gd0 n0 ST0) := Xd0.out.below hb
  have Rh : Hid (RowE v13 3 ah ph N (fiF EL)) := hrh
  clear hb hrh
  clear Xd0
  clear hph IY
  go_wp2_with fail
  refine (ES.out _ _ _ _ _ Rh.out.els Rw.out.els).mono ?_
  rintro e v14 ⟨rfl, hb⟩
  replace A1 : Hid (Below w.heap.size w v14) := A1.out.trans (hb.mono A1.out.size)
  replace Rw : Hid (RowE v14 3 aw pw N (fiF EL)) := Rw.out.below (by omega) hb
  replace Rg : Hid (Els v14 3 ag N (fiF (fiM 1))) := Rg.out.below hb
  replace Rh : Hid (RowE v14 3 ah ph N (fiF EL)) := Rh.out.below (by omega) hb
  clear hb ES
  clear Rh Rw
  go_wp2_with fail
  refine (HD.out _ _ _ Rg.out).mono ?_
  rintro e v15 ⟨rfl, hb⟩
  replace A1 : Hid (Below w.heap.size w v15) := A1.out.trans (hb.mono A1.out.size)
  replace Rg : Hid (Els v15 3 ag N (fiF (fiM 1))) := Rg.out.below hb
  clear hb HD
  clear Rg rr HE0 TO0
  go_wp2
  go_ret
  exact ⟨rfl, A1.out⟩
end Go.Proofs.Ytglfhajfbdjjcaa
