/-
  The exact law of MoveFile (written by tools/file_law2.py).
-/
import Derived.Test.YtglfhajfbdjjcaaFileMv
namespace Go.Proofs.Ytglfhajfbdjjcaa
open Go.ChangeShapes Go.WideShapes Go.ChangeAt Go.RowKit
set_option linter.unusedVariables false
set_option maxRecDepth 100000 in
set_option maxHeartbeats 8000000 in
theorem law_moveFile (a : Option Addr) (n c : Nat) (FI : Nat → Fi) (p : ByteArray) (q : ByteArray) (hm : n ≤ maxLen) (hf : ∀ i, i < n → (FI i).p.size ≤ maxLen ∧ (FI i).t.size ≤ maxLen) (hzp : p.size ≤ maxLen) (hzq : q.size ≤ maxLen) (w : World) (h : Els w 3 a n (fiF FI)) :
    Calls Try.prog 7 #[.slice a n c, .string p, .string q] w fun e w' => e = .returned (.bool true) ∧ Below w.heap.size w w' := by
  unfold maxLen at hzp
  unfold maxLen at hzq
  by_cases bigp : 1048576 < p.size
  · have bbp : (1048576 : Int) < (p.size : Int) := by omega
    clear h hm hf
    go_enter Try.func7, Try.ntmps7
    go_wp2
    go_ret
    exact ⟨rfl, Below.refl _ _⟩
  have bbp : ¬ (1048576 : Int) < (p.size : Int) := by omega
  by_cases bigq : 1048576 < q.size
  · have bbq : (1048576 : Int) < (q.size : Int) := by omega
    clear h hm hf
    go_enter Try.func7, Try.ntmps7
    go_wp2
    go_ret
    exact ⟨rfl, Below.refl _ _⟩
  have bbq : ¬ (1048576 : Int) < (q.size : Int) := by omega
  have SZ : Hid (∀ w : World, Els w 3 a n (fiF FI) → Calls Try.prog 9 #[.slice a n c, .int .i64 1048576] w fun e w' => (∃ y : Int, e = .returned (.int .i64 y) ∧ y ≤ 1048576 ∧ (0 ≤ y → n ≤ 1048576 ∧ ∀ i, i < n → (FI i).p.size ≤ 1048576 ∧ (FI i).t.size ≤ 1048576)) ∧ Below w.heap.size w w') := fun w h => szFileS_any a n c FI 1048576 w h (by omega) (by omega) hm hf
  have A1 : Hid (Below w.heap.size w w) := Below.refl _ _
  have HE : Hid (Els w 3 a n (fiF FI)) := h
  clear h hm hf
  go_enter Try.func7, Try.ntmps7
  go_wp2_with fail
  refine (SZ.out _ HE.out).mono ?_
  rintro e v1 ⟨⟨y, rfl, hy, hy2⟩, hb⟩
  replace A1 : Hid (Below w.heap.size w v1) := A1.out.trans (hb.mono A1.out.size)
  clear hb SZ
  by_cases hy0 : y < 0
  · clear hy2
    go_wp2
    go_ret
    exact ⟨rfl, A1.out⟩
  · obtain ⟨hn, hsz⟩ := hy2 (by omega)
    clear hy2
    have TO : Hid (∀ w : World, Els w 3 a n (fiF FI) → Calls Try.prog 11 #[.slice a n c] w fun e w' => (∃ g, e = .returned (.slice (some ⟨g, 0, none⟩) n n) ∧ RowE w' 3 (some ⟨g, 0, none⟩) g n (fiF FI) ∧ w.heap.size ≤ g ∧ g < w'.heap.size) ∧ Below w.heap.size w w') := fun w h => (toFileS_any a n c FI w h hn).mono fun _ _ q => ⟨⟨_, q.1, q.2.1, Nat.le_refl _, q.2.2.1⟩, q.2.2.2⟩
    have EQ : Hid (∀ (b e : Option Addr) (x y : Nat) (w : World), Els w 3 b n (fiF FI) → Els w 3 e n (fiF FI) → Calls Try.prog 13 #[.slice b n x, .slice e n y] w fun e w' => e = .returned (.bool true) ∧ Below w.heap.size w w') := fun b e x y w h h' => eqFileS_yes b e n x y FI w h h' hn
    have SP : ∀ g : Nat, SlP (some ⟨g, 0, none⟩) n n := fun g => ⟨(fun e => by cases e), .inr ⟨_, _, rfl⟩, Nat.le_refl _, by unfold maxLen; omega⟩
    have SO : Hid (∀ (g : Nat) (w : World), Els w 3 (some ⟨g, 0, none⟩) n (fiF FI) → Calls Try.prog 27 #[.slice (some ⟨g, 0, none⟩) n n, .string p, .string q] w fun e w' => (∃ (N : Nat) (EL : Nat → Fi) (cd : Int), MvIs n FI p q N EL cd ∧ (∃ (b : Option Addr) (x g : Nat), e = .returned (.tuple #[.slice b N x, .int .i64 cd]) ∧ RowE w' 3 b g N (fiF EL) ∧ (0 < N → w.heap.size ≤ g ∧ g < w'.heap.size))) ∧ Below w.heap.size w w') := fun g w h => (specMv_any (some ⟨g, 0, none⟩) n n FI p q (fun i hi => (hsz i hi).1) hn (by omega) (by omega) (SP g) w h).mono fun e w' q => by
      obtain ⟨⟨N, EL, cd, hM, a9, c9, e9, ho⟩, hb⟩ := q
      obtain ⟨g9, r9, b9⟩ := ho.rowE
      exact ⟨⟨N, EL, cd, hM, a9, c9, g9, e9, r9, fun z => ⟨b9 z, r9.lt (by omega) z⟩⟩, hb⟩
    have IY0 : Hid (∀ (N : Nat) (EL : Nat → Fi) (cd : Int), MvIs n FI p q N EL cd → ∀ (g : Nat) (w : World), Els w 3 (some ⟨g, 0, none⟩) n (fiF FI) → Calls Try.prog 28 #[.slice (some ⟨g, 0, none⟩) n n, .string p, .string q] w fun e w' => (∃ (b : Option Addr) (x g : Nat), e = .returned (.tuple #[.slice b N x, .int .i64 cd]) ∧ RowE w' 3 b g N (fiF EL) ∧ (0 < N → w.heap.size ≤ g ∧ g < w'.heap.size)) ∧ Below w.heap.size w w') := fun N EL cd hM g w h => (implMv_any (some ⟨g, 0, none⟩) n n FI p q (fun i hi => (hsz i hi).1) hn (SP g) w h).mono fun e w' q => by
      obtain ⟨⟨N', EL', cd', hM', a9, c9, e9, ho⟩, hb⟩ := q
      obtain ⟨rfl, rfl, hEL⟩ := hM'.uniq hM
      obtain ⟨g9, r9, b9⟩ := ho.rowE
      exact ⟨⟨a9, c9, g9, e9, r9.congr (fiF_congr hEL), fun z => ⟨b9 z, r9.lt (by omega) z⟩⟩, hb⟩
    have NB : Hid (∀ (N : Nat) (EL : Nat → Fi) (cd : Int), MvIs n FI p q N EL cd → N ≤ 13) := fun N EL cd h => MvIs.bound h
    have MR : Hid (∀ (g : Nat) (w : World), RowE w 3 (some ⟨g, 0, none⟩) g n (fiF FI) → Calls Try.prog 18 #[.slice (some ⟨g, 0, none⟩) n n, .int .i64 1] w fun e w' => e = .returned (.int .i64 ((1 + 3 * n : Nat) : Int)) ∧ TurnedE g n w w') := fun g w h => (markFileK _ g n n 1 FI (by omega) (by omega) w h).mono fun _ _ q => ⟨q.1, q.2.2⟩
    have NZ : ¬ ((1 + 3 * n : Nat) : Int) < 0 := by omega
    generalize ((1 + 3 * n : Nat) : Int) = N1 at *
    clear hsz SP hn hy
    go_wp2_with fail
    have AP : Hid _ := A1.out.size
    refine (TO.out _ (HE.out.below A1.out)).mono ?_
    rintro e v2 ⟨⟨ga, rfl, hra, hga, hla⟩, hb⟩
    replace A1 : Hid (Below w.heap.size w v2) := A1.out.trans (hb.mono A1.out.size)
    have Xa : Hid (RowE v2 3 (some ⟨ga, 0, none⟩) ga n (fiF FI)) := hra
    have La : Hid (w.heap.size ≤ ga) := Nat.le_trans AP.out hga
    clear hb hra AP
    go_wp2_with fail
    refine (SO.out _ _ Xa.out.els).mono ?_
    rintro e v3 ⟨⟨N, EL, cd, hM, aw, cw, pw, rfl, hrw, hpw⟩, hb⟩
    replace A1 : Hid (Below w.heap.size w v3) := A1.out.trans (hb.mono A1.out.size)
    replace Xa : Hid (RowE v3 3 (some ⟨ga, 0, none⟩) ga n (fiF FI)) := Xa.out.below (by omega) hb
    have Rw : Hid (RowE v3 3 aw pw N (fiF EL)) := hrw
    clear hb hrw
    have hN := NB.out _ _ _ hM
    have IY : Hid (∀ (g : Nat) (w : World), Els w 3 (some ⟨g, 0, none⟩) n (fiF FI) → Calls Try.prog 28 #[.slice (some ⟨g, 0, none⟩) n n, .string p, .string q] w fun e w' => (∃ (b : Option Addr) (x g : Nat), e = .returned (.tuple #[.slice b N x, .int .i64 cd]) ∧ RowE w' 3 b g N (fiF EL) ∧ (0 < N → w.heap.size ≤ g ∧ g < w'.heap.size)) ∧ Below w.heap.size w w') := IY0.out N EL cd hM
    have ES : Hid (∀ (b e : Option Addr) (x y : Nat) (w : World), Els w 3 b N (fiF EL) → Els w 3 e N (fiF EL) → Calls Try.prog 13 #[.slice b N x, .slice e N y] w fun e w' => e = .returned (.bool true) ∧ Below w.heap.size w w') := fun b e x y w h h' => eqFileS_yes b e N x y EL w h h' (by omega)
    have MS : Hid (∀ (b : Option Addr) (g x : Nat) (w : World), RowE w 3 b g N (fiF EL) → Calls Try.prog 18 #[.slice b N x, .int .i64 1] w fun e w' => (e = .returned (.int .i64 ((1 + 3 * N : Nat) : Int)) ∧ RowE w' 3 b g N (fiF (fiM 1))) ∧ TurnedE g N w w') := fun b g x w h => (markFileK b g N x 1 EL (by omega) (by omega) w h).mono fun _ _ q => ⟨⟨q.1, q.2.1⟩, q.2.2⟩
    have HD : Hid (∀ (b : Option Addr) (x : Nat) (w : World), Els w 3 b N (fiF (fiM 1)) → Calls Try.prog 26 #[.slice b N x, .int .i64 1] w fun e w' => e = .returned (.int .i64 ((1 + 3 * N : Nat) : Int)) ∧ Below w.heap.size w w') := fun b x w h => heldFileK b N x 1 (by omega) (by omega) w h
    have kz : ¬ ((1 + 3 * N : Nat) : Int) < 0 := by omega
    have ke : (((1 + 3 * N : Nat) : Int) != ((1 + 3 * N : Nat) : Int)) = false := by simp
    have rr : (cd != cd) = false := by simp
    generalize ((1 + 3 * N : Nat) : Int) = K1 at *
    clear hM IY0 NB hN
    clear Xa
    clear hga hla La SO
    have PW : Hid (0 < N → pw < v3.heap.size) := fun z => (hpw z).2
    clear hpw
    go_wp2_with fail
    have AP : Hid _ := A1.out.size
    refine (TO.out _ (HE.out.below A1.out)).mono ?_
    rintro e v4 ⟨⟨gb, rfl, hrb, hgb, hlb⟩, hb⟩
    replace A1 : Hid (Below w.heap.size w v4) := A1.out.trans (hb.mono A1.out.size)
    replace Rw : Hid (RowE v4 3 aw pw N (fiF EL)) := Rw.out.below (by omega) hb
    have Xb : Hid (RowE v4 3 (some ⟨gb, 0, none⟩) gb n (fiF FI)) := hrb
    have Lb : Hid (w.heap.size ≤ gb) := Nat.le_trans AP.out hgb
    clear hb hrb AP
    have WB : Hid (0 < N → pw ≠ gb) := fun z => by have := PW.out z; omega
    have PW2 : Hid (0 < N → pw < v4.heap.size) := fun z => by have := PW.out z; omega
    have GB : Hid (gb < v4.heap.size) := hlb
    clear hgb hlb PW
    go_wp2_with fail
    have AQ : Hid _ := A1.out.size
    refine (IY.out _ _ Xb.out.els).mono ?_
    rintro e v5 ⟨⟨ag, cg, pg, rfl, hrg, hpg⟩, hb⟩
    replace A1 : Hid (Below w.heap.size w v5) := A1.out.trans (hb.mono A1.out.size)
    replace Rw : Hid (RowE v5 3 aw pw N (fiF EL)) := Rw.out.below (by omega) hb
    replace Xb : Hid (RowE v5 3 (some ⟨gb, 0, none⟩) gb n (fiF FI)) := Xb.out.below (by omega) hb
    have Rg : Hid (RowE v5 3 ag pg N (fiF EL)) := hrg
    clear hb hrg
    have GW : Hid (0 < N → pw ≠ pg) := fun z => by have := PW2.out z; have := (hpg z).1; omega
    have GX : Hid (0 < N → pg ≠ gb) := fun z => by have := GB.out; have := (hpg z).1; omega
    have GL : Hid (0 < N → w.heap.size ≤ pg) := fun z => Nat.le_trans AQ.out (hpg z).1
    clear hpg PW2 GB AQ
    go_wp2_with fail
    refine (ES.out _ _ _ _ _ Rg.out.els Rw.out.els).mono ?_
    rintro e v6 ⟨rfl, hb⟩
    replace A1 : Hid (Below w.heap.size w v6) := A1.out.trans (hb.mono A1.out.size)
    replace Rw : Hid (RowE v6 3 aw pw N (fiF EL)) := Rw.out.below (by omega) hb
    replace Xb : Hid (RowE v6 3 (some ⟨gb, 0, none⟩) gb n (fiF FI)) := Xb.out.below (by omega) hb
    replace Rg : Hid (RowE v6 3 ag pg N (fiF EL)) := Rg.out.below (by omega) hb
    clear hb 
    go_wp2_with fail
    have AP : Hid _ := A1.out.size
    refine (TO.out _ (HE.out.below A1.out)).mono ?_
    rintro e v7 ⟨⟨gc, rfl, hrc, hgc, hlc⟩, hb⟩
    replace A1 : Hid (Below w.heap.size w v7) := A1.out.trans (hb.mono A1.out.size)
    replace Rw : Hid (RowE v7 3 aw pw N (fiF EL)) := Rw.out.below (by omega) hb
    replace Xb : Hid (RowE v7 3 (some ⟨gb, 0, none⟩) gb n (fiF FI)) := Xb.out.below (by omega) hb
    replace Rg : Hid (RowE v7 3 ag pg N (fiF EL)) := Rg.out.below (by omega) hb
    have Xc : Hid (RowE v7 3 (some ⟨gc, 0, none⟩) gc n (fiF FI)) := hrc
    have Lc : Hid (w.heap.size ≤ gc) := Nat.le_trans AP.out hgc
    clear hb hrc AP
    clear hgc hlc Lc
    go_wp2_with fail
    refine (EQ.out _ _ _ _ _ Xb.out.els Xc.out.els).mono ?_
    rintro e v8 ⟨rfl, hb⟩
    replace A1 : Hid (Below w.heap.size w v8) := A1.out.trans (hb.mono A1.out.size)
    replace Rw : Hid (RowE v8 3 aw pw N (fiF EL)) := Rw.out.below (by omega) hb
    replace Xb : Hid (RowE v8 3 (some ⟨gb, 0, none⟩) gb n (fiF FI)) := Xb.out.below (by omega) hb
    replace Rg : Hid (RowE v8 3 ag pg N (fiF EL)) := Rg.out.below (by omega) hb
    replace Xc : Hid (RowE v8 3 (some ⟨gc, 0, none⟩) gc n (fiF FI)) := Xc.out.below (by omega) hb
    clear hb EQ
    clear Xc
    go_wp2_with fail
    refine (MR.out _ _ Xb.out).mono ?_
    rintro e v9 ⟨rfl, hto⟩
    replace A1 : Hid (Below w.heap.size w v9) := A1.out.trans (hto.toBelow (fun _ => Lb.out) A1.out.size)
    replace Rw : Hid (RowE v9 3 aw pw N (fiF EL)) := Rw.out.turned (by omega) hto (fun z _ => WB.out z)
    replace Rg : Hid (RowE v9 3 ag pg N (fiF EL)) := Rg.out.turned (by omega) hto (fun z _ => GX.out z)
    clear hto MR Xb WB GX Lb
    go_wp2_with fail
    refine (ES.out _ _ _ _ _ Rg.out.els Rw.out.els).mono ?_
    rintro e v10 ⟨rfl, hb⟩
    replace A1 : Hid (Below w.heap.size w v10) := A1.out.trans (hb.mono A1.out.size)
    replace Rw : Hid (RowE v10 3 aw pw N (fiF EL)) := Rw.out.below (by omega) hb
    replace Rg : Hid (RowE v10 3 ag pg N (fiF EL)) := Rg.out.below (by omega) hb
    clear hb 
    go_wp2_with fail
    refine (MS.out _ _ _ _ Rg.out).mono ?_
    rintro e v11 ⟨⟨rfl, hmr⟩, hto⟩
    replace A1 : Hid (Below w.heap.size w v11) := A1.out.trans (hto.toBelow (fun z => GL.out z) A1.out.size)
    replace Rw : Hid (RowE v11 3 aw pw N (fiF EL)) := Rw.out.turned (by omega) hto (fun z _ => GW.out z)
    clear Rg
    have Rg : Hid (Els v11 3 ag N (fiF (fiM 1))) := hmr.els
    clear hto hmr MS GW GL
    go_wp2_with fail
    refine (HD.out _ _ _ Rg.out).mono ?_
    rintro e v12 ⟨rfl, hb⟩
    replace A1 : Hid (Below w.heap.size w v12) := A1.out.trans (hb.mono A1.out.size)
    replace Rw : Hid (RowE v12 3 aw pw N (fiF EL)) := Rw.out.below (by omega) hb
    replace Rg : Hid (Els v12 3 ag N (fiF (fiM 1))) := Rg.out.below hb
    clear hb 
    go_wp2_with fail
    have AP : Hid _ := A1.out.size
    refine (TO.out _ (HE.out.below A1.out)).mono ?_
    rintro e v13 ⟨⟨gd, rfl, hrd, hgd, hld⟩, hb⟩
    replace A1 : Hid (Below w.heap.size w v13) := A1.out.trans (hb.mono A1.out.size)
    replace Rw : Hid (RowE v13 3 aw pw N (fiF EL)) := Rw.out.below (by omega) hb
    replace Rg : Hid (Els v13 3 ag N (fiF (fiM 1))) := Rg.out.below hb
    have Xd : Hid (RowE v13 3 (some ⟨gd, 0, none⟩) gd n (fiF FI)) := hrd
    have Ld : Hid (w.heap.size ≤ gd) := Nat.le_trans AP.out hgd
    clear hb hrd AP
    clear hgd hld Ld
    go_wp2_with fail
    refine (IY.out _ _ Xd.out.els).mono ?_
    rintro e v14 ⟨⟨ah, ch, ph, rfl, hrh, hph⟩, hb⟩
    replace A1 : Hid (Below w.heap.size w v14) := A1.out.trans (hb.mono A1.out.size)
    replace Rw : Hid (RowE v14 3 aw pw N (fiF EL)) := Rw.out.below (by omega) hb
    replace Rg : Hid (Els v14 3 ag N (fiF (fiM 1))) := Rg.out.below hb
    replace Xd : Hid (RowE v14 3 (some ⟨gd, 0, none⟩) gd n (fiF FI)) := Xd.out.below (by omega) hb
    have Rh : Hid (RowE v14 3 ah ph N (fiF EL)) := hrh
    clear hb hrh
    clear Xd
    clear hph IY
    go_wp2_with fail
    refine (ES.out _ _ _ _ _ Rh.out.els Rw.out.els).mono ?_
    rintro e v15 ⟨rfl, hb⟩
    replace A1 : Hid (Below w.heap.size w v15) := A1.out.trans (hb.mono A1.out.size)
    replace Rw : Hid (RowE v15 3 aw pw N (fiF EL)) := Rw.out.below (by omega) hb
    replace Rg : Hid (Els v15 3 ag N (fiF (fiM 1))) := Rg.out.below hb
    replace Rh : Hid (RowE v15 3 ah ph N (fiF EL)) := Rh.out.below (by omega) hb
    clear hb ES
    clear Rh Rw
    go_wp2_with fail
    refine (HD.out _ _ _ Rg.out).mono ?_
    rintro e v16 ⟨rfl, hb⟩
    replace A1 : Hid (Below w.heap.size w v16) := A1.out.trans (hb.mono A1.out.size)
    replace Rg : Hid (Els v16 3 ag N (fiF (fiM 1))) := Rg.out.below hb
    clear hb HD
    clear HE Rg TO rr
    go_wp2
    go_ret
    exact ⟨rfl, A1.out⟩
end Go.Proofs.Ytglfhajfbdjjcaa
