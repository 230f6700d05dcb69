/-
  The exact law of ProveLeaf (written by tools/leaf_law2.py).
-/
import Derived.Test.YtpljdlgjeeikkacDoorProveS
import Derived.Test.YtpljdlgjeeikkacDoorStrK
namespace Go.Proofs.YtpljdlgjeeikkacDoor
open Go.ChangeShapes Go.WideShapes Go.ChangeAt Go.RowKit
set_option linter.unusedVariables false
theorem EO.txRow {w : World} {B : Nat} {a : Option Addr} {n c : Nat} {f : Nat → ByteArray} (h : EO w B 9 1 (.slice a n c) n (txF f)) : ∃ g, TxRow w a g n f ∧ (0 < n → B ≤ g ∧ g < w.heap.size) := by
  obtain ⟨g, hr, hB⟩ := h.rowE
  refine ⟨g, ⟨hr.a, fun i hi => ?_, fun i hi => ?_⟩, fun hn => ⟨hB hn, hr.lt (by omega) hn⟩⟩
  · have := hr.c i hi 0 (by omega)
    rwa [Nat.mul_one, Nat.add_zero] at this
  · exact hr.z i (by omega)
set_option maxRecDepth 100000 in
set_option maxHeartbeats 8000000 in
theorem law_proveLeaf (a : Option Addr) (n c : Nat) (LF : Nat → Lf) (k : Int) (hm : n ≤ maxLen) (hf : ∀ i, i < n → (LF i).h.size ≤ maxLen) (w : World) (h : Els w 2 a n (lfF LF)) (hT : Tabs w) :
    Calls Tryd.prog 3 #[.slice a n c, .int .i64 k] w fun e w' => e = .returned (.bool true) ∧ Below w.heap.size w w' := by
  obtain ⟨PL, cd, hA, hl, _⟩ := pfA_ex n LF k
  have SZ : Hid (∀ w : World, Els w 2 a n (lfF LF) → Calls Tryd.prog 5 #[.slice a n c, .int .i64 1048576] w fun e w' => (∃ y : Int, e = .returned (.int .i64 y) ∧ y ≤ 1048576 ∧ (0 ≤ y → n ≤ 1048576)) ∧ Below w.heap.size w w') := fun w h => szLeafS_any a n c LF 1048576 w h (by omega) (by omega) hm hf
  have A1 : Hid (Below w.heap.size w w) := Below.refl _ _
  have HE : Hid (Els w 2 a n (lfF LF)) := h
  have TW : Hid (Tabs w) := hT
  clear h hm hf hT
  go_enter Tryd.func3, Tryd.ntmps3
  go_wp2_with fail
  refine (SZ.out _ HE.out).mono ?_
  rintro e v1 ⟨⟨y, rfl, hy, hy2⟩, hb⟩
  replace A1 : Hid (Below w.heap.size w v1) := A1.out.trans (hb.mono A1.out.size)
  clear hb SZ
  by_cases hy0 : y < 0
  · clear hy2
    go_wp2
    go_ret
    exact ⟨rfl, A1.out⟩
  · have hn : n ≤ 1048576 := hy2 (by omega)
    clear hy2
    have TO : Hid (∀ w : World, Els w 2 a n (lfF LF) → Calls Tryd.prog 7 #[.slice a n c] w fun e w' => (∃ g, e = .returned (.slice (some ⟨g, 0, none⟩) n n) ∧ RowE w' 2 (some ⟨g, 0, none⟩) g n (lfF LF) ∧ w.heap.size ≤ g ∧ g < w'.heap.size) ∧ Below w.heap.size w w') := fun w h => (toLeafS_any a n c LF w h hn).mono fun _ _ q => ⟨⟨_, q.1, q.2.1, Nat.le_refl _, q.2.2.1⟩, q.2.2.2⟩
    have EQ : Hid (∀ (b e : Option Addr) (x y : Nat) (w : World), Els w 2 b n (lfF LF) → Els w 2 e n (lfF LF) → Calls Tryd.prog 10 #[.slice b n x, .slice e n y] w fun e w' => e = .returned (.bool true) ∧ Below w.heap.size w w') := fun b e x y w h h' => eqLeafS_yes b e n x y LF w h h' hn
    obtain ⟨N, hN⟩ : ∃ N, N = PL.length := ⟨_, rfl⟩
    obtain ⟨EL, hEL⟩ : ∃ EL, EL = entT PL := ⟨_, rfl⟩
    have SO : Hid (∀ (b : Option Addr) (w : World), Els w 2 b n (lfF LF) → Calls Tryd.prog 6 #[.slice b n n, .int .i64 k] w fun e w' => (∃ (b : Option Addr) (x g : Nat), e = .returned (.tuple #[.slice b N x, .int .i64 cd]) ∧ TxRow w' b g N EL ∧ (0 < N → w.heap.size ≤ g ∧ g < w'.heap.size)) ∧ Below w.heap.size w w') := fun b w h => (specPf_any b n n LF k PL cd hA hn (Nat.le_refl _) (by unfold maxLen; omega) w h).mono fun _ _ q => ⟨by
      obtain ⟨⟨a9, c9, e9, ho⟩, _⟩ := q
      obtain ⟨g9, r9, b9⟩ := ho.txRow
      rw [hN, hEL]; exact ⟨a9, c9, g9, e9, r9, b9⟩, q.2⟩
    have IY : Hid (∀ (b : Option Addr) (w : World), Els w 2 b n (lfF LF) → Tabs w → Calls Tryd.prog 8 #[.slice b n n, .int .i64 k] w fun e w' => (∃ (b : Option Addr) (x g : Nat), e = .returned (.tuple #[.slice b N x, .int .i64 cd]) ∧ TxRow w' b g N EL ∧ (0 < N → w.heap.size ≤ g ∧ g < w'.heap.size)) ∧ Below w.heap.size w w') := fun b w h hT => (implPf_any b n n LF k PL cd hA hn (Nat.le_refl _) (by unfold maxLen; omega) w h hT).mono fun _ _ q => ⟨by
      obtain ⟨⟨a9, c9, e9, ho⟩, _⟩ := q
      obtain ⟨g9, r9, b9⟩ := ho.txRow
      rw [hN, hEL]; exact ⟨a9, c9, g9, e9, r9, b9⟩, q.2⟩
    have hN32 : N ≤ 32 := by omega
    have ES : Hid (∀ (b e : Option Addr) (x y : Nat) (w : World), Strs w b N EL → Strs w e N EL → Calls Tryd.prog 9 #[.slice b N x, .slice e N y] w fun e w' => e = .returned (.bool true) ∧ Below w.heap.size w w') := fun b e x y w h h' => (eqStringS_yes b e N x y EL EL w h h' (fun _ _ => rfl) (by omega)).mono fun _ _ q => ⟨q.1, by obtain ⟨z, e⟩ := q.2; rw [e]; exact below_dN _ _⟩
    have MR : Hid (∀ (g : Nat) (w : World), RowE w 2 (some ⟨g, 0, none⟩) g n (lfF LF) → Calls Tryd.prog 11 #[.slice (some ⟨g, 0, none⟩) n n, .int .i64 1] w fun e w' => e = .returned (.int .i64 ((1 + 2 * n : Nat) : Int)) ∧ TurnedE g n w w') := fun g w h => (markLeafK _ g n n 1 LF (by omega) (by omega) w h).mono fun _ _ q => ⟨q.1, q.2.2⟩
    have MS : Hid (∀ (b : Option Addr) (g x : Nat) (w : World), TxRow w b g N EL → Calls Tryd.prog 12 #[.slice b N x, .int .i64 1] w fun e w' => (e = .returned (.int .i64 ((N + 1 : Nat) : Int)) ∧ TxRow w' b g N (fun i => mt (i + 1))) ∧ TurnedE g N w w') := fun b g x w h => (markStrK b g N x EL w h (by omega)).mono fun _ _ q => ⟨⟨q.1, q.2.1⟩, q.2.2⟩
    have HD : Hid (∀ (b : Option Addr) (x : Nat) (w : World), Strs w b N (fun i => mt (i + 1)) → Calls Tryd.prog 13 #[.slice b N x, .int .i64 1] w fun e w' => e = .returned (.int .i64 ((N + 1 : Nat) : Int)) ∧ Below w.heap.size w w') := fun b x w h => heldStrK b N x w h (by omega)
    have NZ : ¬ ((1 + 2 * n : Nat) : Int) < 0 := by omega
    have kz : ¬ ((N + 1 : Nat) : Int) < 0 := by omega
    have ke : (((N + 1 : Nat) : Int) != ((N + 1 : Nat) : Int)) = false := by simp
    have rr : (cd != cd) = false := by simp
    generalize ((N + 1 : Nat) : Int) = K1 at *
    generalize ((1 + 2 * n : Nat) : Int) = N1 at *
    clear hA hl hN hEL hn hN32 hy
    go_wp2_with fail
    have AP : Hid _ := A1.out.size
    refine (TO.out _ (HE.out.below A1.out)).mono ?_
    rintro e v2 ⟨⟨ga, rfl, hra, hga, hla⟩, hb⟩
    replace A1 : Hid (Below w.heap.size w v2) := A1.out.trans (hb.mono A1.out.size)
    have Xa : Hid (RowE v2 2 (some ⟨ga, 0, none⟩) ga n (lfF LF)) := hra
    have La : Hid (w.heap.size ≤ ga) := Nat.le_trans AP.out hga
    clear hb hra AP
    go_wp2_with fail
    refine (SO.out _ _ Xa.out.els).mono ?_
    rintro e v3 ⟨⟨aw, cw, pw, rfl, hrw, hpw⟩, hb⟩
    replace A1 : Hid (Below w.heap.size w v3) := A1.out.trans (hb.mono A1.out.size)
    replace Xa : Hid (RowE v3 2 (some ⟨ga, 0, none⟩) ga n (lfF LF)) := Xa.out.below (by omega) hb
    have Rw : Hid (TxRow v3 aw pw N EL) := hrw
    clear hb hrw
    clear Xa
    clear hga hla La SO
    have PW : Hid (0 < N → pw < v3.heap.size) := fun z => (hpw z).2
    clear hpw
    go_wp2_with fail
    have AP : Hid _ := A1.out.size
    refine (TO.out _ (HE.out.below A1.out)).mono ?_
    rintro e v4 ⟨⟨gb, rfl, hrb, hgb, hlb⟩, hb⟩
    replace A1 : Hid (Below w.heap.size w v4) := A1.out.trans (hb.mono A1.out.size)
    replace Rw : Hid (TxRow v4 aw pw N EL) := Rw.out.below hb
    have Xb : Hid (RowE v4 2 (some ⟨gb, 0, none⟩) gb n (lfF LF)) := hrb
    have Lb : Hid (w.heap.size ≤ gb) := Nat.le_trans AP.out hgb
    clear hb hrb AP
    have WB : Hid (0 < N → pw ≠ gb) := fun z => by have := PW.out z; omega
    have PW2 : Hid (0 < N → pw < v4.heap.size) := fun z => by have := PW.out z; omega
    have GB : Hid (gb < v4.heap.size) := hlb
    clear hgb hlb PW
    go_wp2_with fail
    have AQ : Hid _ := A1.out.size
    refine (IY.out _ _ Xb.out.els (TW.out.below A1.out)).mono ?_
    rintro e v5 ⟨⟨ag, cg, pg, rfl, hrg, hpg⟩, hb⟩
    replace A1 : Hid (Below w.heap.size w v5) := A1.out.trans (hb.mono A1.out.size)
    replace Rw : Hid (TxRow v5 aw pw N EL) := Rw.out.below hb
    replace Xb : Hid (RowE v5 2 (some ⟨gb, 0, none⟩) gb n (lfF LF)) := Xb.out.below (by omega) hb
    have Rg : Hid (TxRow v5 ag pg N EL) := hrg
    clear hb hrg
    have GW : Hid (0 < N → pw ≠ pg) := fun z => by have := PW2.out z; have := (hpg z).1; omega
    have GX : Hid (0 < N → pg ≠ gb) := fun z => by have := GB.out; have := (hpg z).1; omega
    have GL : Hid (0 < N → w.heap.size ≤ pg) := fun z => Nat.le_trans AQ.out (hpg z).1
    clear hpg PW2 GB AQ
    go_wp2_with fail
    refine (ES.out _ _ _ _ _ Rg.out.strs Rw.out.strs).mono ?_
    rintro e v6 ⟨rfl, hb⟩
    replace A1 : Hid (Below w.heap.size w v6) := A1.out.trans (hb.mono A1.out.size)
    replace Rw : Hid (TxRow v6 aw pw N EL) := Rw.out.below hb
    replace Xb : Hid (RowE v6 2 (some ⟨gb, 0, none⟩) gb n (lfF LF)) := Xb.out.below (by omega) hb
    replace Rg : Hid (TxRow v6 ag pg N EL) := Rg.out.below hb
    clear hb 
    go_wp2_with fail
    have AP : Hid _ := A1.out.size
    refine (TO.out _ (HE.out.below A1.out)).mono ?_
    rintro e v7 ⟨⟨gc, rfl, hrc, hgc, hlc⟩, hb⟩
    replace A1 : Hid (Below w.heap.size w v7) := A1.out.trans (hb.mono A1.out.size)
    replace Rw : Hid (TxRow v7 aw pw N EL) := Rw.out.below hb
    replace Xb : Hid (RowE v7 2 (some ⟨gb, 0, none⟩) gb n (lfF LF)) := Xb.out.below (by omega) hb
    replace Rg : Hid (TxRow v7 ag pg N EL) := Rg.out.below hb
    have Xc : Hid (RowE v7 2 (some ⟨gc, 0, none⟩) gc n (lfF LF)) := hrc
    have Lc : Hid (w.heap.size ≤ gc) := Nat.le_trans AP.out hgc
    clear hb hrc AP
    clear hgc hlc Lc
    go_wp2_with fail
    refine (EQ.out _ _ _ _ _ Xb.out.els Xc.out.els).mono ?_
    rintro e v8 ⟨rfl, hb⟩
    replace A1 : Hid (Below w.heap.size w v8) := A1.out.trans (hb.mono A1.out.size)
    replace Rw : Hid (TxRow v8 aw pw N EL) := Rw.out.below hb
    replace Xb : Hid (RowE v8 2 (some ⟨gb, 0, none⟩) gb n (lfF LF)) := Xb.out.below (by omega) hb
    replace Rg : Hid (TxRow v8 ag pg N EL) := Rg.out.below hb
    replace Xc : Hid (RowE v8 2 (some ⟨gc, 0, none⟩) gc n (lfF LF)) := Xc.out.below (by omega) hb
    clear hb EQ
    clear Xc
    go_wp2_with fail
    refine (MR.out _ _ Xb.out).mono ?_
    rintro e v9 ⟨rfl, hto⟩
    replace A1 : Hid (Below w.heap.size w v9) := A1.out.trans (hto.toBelow (fun _ => Lb.out) A1.out.size)
    replace Rw : Hid (TxRow v9 aw pw N EL) := Rw.out.turned hto (fun z _ => WB.out z)
    replace Rg : Hid (TxRow v9 ag pg N EL) := Rg.out.turned hto (fun z _ => GX.out z)
    clear hto MR Xb WB GX Lb
    go_wp2_with fail
    refine (ES.out _ _ _ _ _ Rg.out.strs Rw.out.strs).mono ?_
    rintro e v10 ⟨rfl, hb⟩
    replace A1 : Hid (Below w.heap.size w v10) := A1.out.trans (hb.mono A1.out.size)
    replace Rw : Hid (TxRow v10 aw pw N EL) := Rw.out.below hb
    replace Rg : Hid (TxRow v10 ag pg N EL) := Rg.out.below hb
    clear hb 
    go_wp2_with fail
    refine (MS.out _ _ _ _ Rg.out).mono ?_
    rintro e v11 ⟨⟨rfl, hmr⟩, hto⟩
    replace A1 : Hid (Below w.heap.size w v11) := A1.out.trans (hto.toBelow (fun z => GL.out z) A1.out.size)
    replace Rw : Hid (TxRow v11 aw pw N EL) := Rw.out.turned hto (fun z _ => GW.out z)
    clear Rg
    have Rg : Hid (Strs v11 ag N (fun i => mt (i + 1))) := hmr.strs
    clear hto hmr MS GW GL
    go_wp2_with fail
    refine (HD.out _ _ _ Rg.out).mono ?_
    rintro e v12 ⟨rfl, hb⟩
    replace A1 : Hid (Below w.heap.size w v12) := A1.out.trans (hb.mono A1.out.size)
    replace Rw : Hid (TxRow v12 aw pw N EL) := Rw.out.below hb
    replace Rg : Hid (Strs v12 ag N (fun i => mt (i + 1))) := Rg.out.below hb
    clear hb 
    go_wp2_with fail
    have AP : Hid _ := A1.out.size
    refine (TO.out _ (HE.out.below A1.out)).mono ?_
    rintro e v13 ⟨⟨gd, rfl, hrd, hgd, hld⟩, hb⟩
    replace A1 : Hid (Below w.heap.size w v13) := A1.out.trans (hb.mono A1.out.size)
    replace Rw : Hid (TxRow v13 aw pw N EL) := Rw.out.below hb
    replace Rg : Hid (Strs v13 ag N (fun i => mt (i + 1))) := Rg.out.below hb
    have Xd : Hid (RowE v13 2 (some ⟨gd, 0, none⟩) gd n (lfF LF)) := hrd
    have Ld : Hid (w.heap.size ≤ gd) := Nat.le_trans AP.out hgd
    clear hb hrd AP
    clear hgd hld Ld
    go_wp2_with fail
    refine (IY.out _ _ Xd.out.els (TW.out.below A1.out)).mono ?_
    rintro e v14 ⟨⟨ah, ch, ph, rfl, hrh, hph⟩, hb⟩
    replace A1 : Hid (Below w.heap.size w v14) := A1.out.trans (hb.mono A1.out.size)
    replace Rw : Hid (TxRow v14 aw pw N EL) := Rw.out.below hb
    replace Rg : Hid (Strs v14 ag N (fun i => mt (i + 1))) := Rg.out.below hb
    replace Xd : Hid (RowE v14 2 (some ⟨gd, 0, none⟩) gd n (lfF LF)) := Xd.out.below (by omega) hb
    have Rh : Hid (TxRow v14 ah ph N EL) := hrh
    clear hb hrh
    clear Xd
    clear hph IY
    go_wp2_with fail
    refine (ES.out _ _ _ _ _ Rh.out.strs Rw.out.strs).mono ?_
    rintro e v15 ⟨rfl, hb⟩
    replace A1 : Hid (Below w.heap.size w v15) := A1.out.trans (hb.mono A1.out.size)
    replace Rw : Hid (TxRow v15 aw pw N EL) := Rw.out.below hb
    replace Rg : Hid (Strs v15 ag N (fun i => mt (i + 1))) := Rg.out.below hb
    replace Rh : Hid (TxRow v15 ah ph N EL) := Rh.out.below hb
    clear hb ES
    clear Rh Rw
    go_wp2_with fail
    refine (HD.out _ _ _ Rg.out).mono ?_
    rintro e v16 ⟨rfl, hb⟩
    replace A1 : Hid (Below w.heap.size w v16) := A1.out.trans (hb.mono A1.out.size)
    replace Rg : Hid (Strs v16 ag N (fun i => mt (i + 1))) := Rg.out.below hb
    clear hb HD
    clear HE Rg TO TW rr
    go_wp2
    go_ret
    exact ⟨rfl, A1.out⟩
end Go.Proofs.YtpljdlgjeeikkacDoor
