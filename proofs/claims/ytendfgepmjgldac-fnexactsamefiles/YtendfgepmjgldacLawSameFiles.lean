/-
  The exact law of SameFiles (written by tools/file_law4.py).
-/
import Derived.Test.YtendfgepmjgldacFileEq
namespace Go.Proofs.Ytendfgepmjgldac
open Go.ChangeShapes Go.WideShapes Go.ChangeAt Go.RowKit
set_option linter.unusedVariables false
set_option maxRecDepth 100000 in
set_option maxHeartbeats 8000000 in
theorem law_sameFiles (a b : Option Addr) (n m c d : Nat) (FI GI : Nat → Fi) (hm : n ≤ maxLen) (hf : ∀ i, i < n → (FI i).p.size ≤ maxLen ∧ (FI i).t.size ≤ maxLen) (hm' : m ≤ maxLen) (hf' : ∀ i, i < m → (GI i).p.size ≤ maxLen ∧ (GI i).t.size ≤ maxLen) (w : World) (h : Els w 3 a n (fiF FI)) (h' : Els w 3 b m (fiF GI)) :
    Calls Try.prog 7 #[.slice a n c, .slice b m d] w fun e w' => e = .returned (.bool true) ∧ Below w.heap.size w w' := by
  have SZ : Hid (∀ (x : Int) (w : World), 0 ≤ x → x ≤ 1048576 → Els w 3 a n (fiF FI) → Calls Try.prog 8 #[.slice a n c, .int .i64 x] w fun e w' => (∃ y : Int, e = .returned (.int .i64 y) ∧ y ≤ 1048576 ∧ (0 ≤ y → n ≤ 1048576 ∧ ∀ i, i < n → (FI i).p.size ≤ 1048576 ∧ (FI i).t.size ≤ 1048576)) ∧ Below w.heap.size w w') := fun x w h0 h1 h => szFileS_any a n c FI x w h h0 h1 hm hf
  have SY : Hid (∀ (x : Int) (w : World), 0 ≤ x → x ≤ 1048576 → Els w 3 b m (fiF GI) → Calls Try.prog 8 #[.slice b m d, .int .i64 x] w fun e w' => (∃ y : Int, e = .returned (.int .i64 y) ∧ y ≤ 1048576 ∧ (0 ≤ y → m ≤ 1048576 ∧ ∀ i, i < m → (GI i).p.size ≤ 1048576 ∧ (GI i).t.size ≤ 1048576)) ∧ Below w.heap.size w w') := fun x w h0 h1 h => szFileS_any b m d GI x w h h0 h1 hm' hf'
  have A1 : Hid (Below w.heap.size w w) := Below.refl _ _
  have HE : Hid (Els w 3 a n (fiF FI)) := h
  have HG : Hid (Els w 3 b m (fiF GI)) := h'
  clear h hm hf h' hm' hf'
  go_enter Try.func7, Try.ntmps7
  go_wp2_with fail
  refine (SZ.out _ _ (by omega) (by omega) HE.out).mono ?_
  rintro e v1 ⟨⟨y, rfl, hy, hy2⟩, hb⟩
  replace A1 : Hid (Below w.heap.size w v1) := A1.out.trans (hb.mono A1.out.size)
  clear hb SZ
  by_cases hy0 : y < 0
  · clear hy2
    go_wp2
    go_ret
    exact ⟨rfl, A1.out⟩
  · obtain ⟨hn, hsz⟩ := hy2 (by omega)
    have HSZ : Hid (∀ i, i < n → (FI i).p.size ≤ 1048576 ∧ (FI i).t.size ≤ 1048576) := hsz
    clear hy2 hsz
    go_wp2_with fail
    refine (SY.out _ _ (by omega) hy (HG.out.below A1.out)).mono ?_
    rintro e v2 ⟨⟨z, rfl, hz, hz2⟩, hb⟩
    replace A1 : Hid (Below w.heap.size w v2) := A1.out.trans (hb.mono A1.out.size)
    clear hb SY
    by_cases hz0 : z < 0
    · clear hz2
      go_wp2
      go_ret
      exact ⟨rfl, A1.out⟩
    obtain ⟨hk, hsy⟩ := hz2 (by omega)
    have HSY : Hid (∀ i, i < m → (GI i).p.size ≤ 1048576 ∧ (GI i).t.size ≤ 1048576) := hsy
    clear hz2 hsy
    have SP : ∀ (g n : Nat), n ≤ 1048576 → SlP (some ⟨g, 0, none⟩) n n := fun g n hn => ⟨(fun e => by cases e), .inr ⟨_, _, rfl⟩, Nat.le_refl _, by unfold maxLen; omega⟩
    have TO : Hid (∀ w : World, Els w 3 a n (fiF FI) → Calls Try.prog 10 #[.slice a n c] w fun e w' => (∃ g, e = .returned (.slice (some ⟨g, 0, none⟩) n n) ∧ RowE w' 3 (some ⟨g, 0, none⟩) g n (fiF FI) ∧ w.heap.size ≤ g ∧ g < w'.heap.size) ∧ Below w.heap.size w w') := fun w h => (toFileS_any a n c FI w h hn).mono fun _ _ q => ⟨⟨_, q.1, q.2.1, Nat.le_refl _, q.2.2.1⟩, q.2.2.2⟩
    have EQ : Hid (∀ (b e : Option Addr) (x y : Nat) (w : World), Els w 3 b n (fiF FI) → Els w 3 e n (fiF FI) → Calls Try.prog 12 #[.slice b n x, .slice e n y] w fun e w' => e = .returned (.bool true) ∧ Below w.heap.size w w') := fun b e x y w h h' => eqFileS_yes b e n x y FI w h h' hn
    have TG : Hid (∀ w : World, Els w 3 b m (fiF GI) → Calls Try.prog 10 #[.slice b m d] w fun e w' => (∃ g, e = .returned (.slice (some ⟨g, 0, none⟩) m m) ∧ RowE w' 3 (some ⟨g, 0, none⟩) g m (fiF GI) ∧ w.heap.size ≤ g ∧ g < w'.heap.size) ∧ Below w.heap.size w w') := fun w h => (toFileS_any b m d GI w h hk).mono fun _ _ q => ⟨⟨_, q.1, q.2.1, Nat.le_refl _, q.2.2.1⟩, q.2.2.2⟩
    have EG : Hid (∀ (b e : Option Addr) (x y : Nat) (w : World), Els w 3 b m (fiF GI) → Els w 3 e m (fiF GI) → Calls Try.prog 12 #[.slice b m x, .slice e m y] w fun e w' => e = .returned (.bool true) ∧ Below w.heap.size w w') := fun b e x y w h h' => eqFileS_yes b e m x y GI w h h' hk
    have SO : Hid (∀ (g k : Nat) (w : World), Els w 3 (some ⟨g, 0, none⟩) n (fiF FI) → Els w 3 (some ⟨k, 0, none⟩) m (fiF GI) → Calls Try.prog 28 #[.slice (some ⟨g, 0, none⟩) n n, .slice (some ⟨k, 0, none⟩) m m] w fun e w' => SmRet n m FI GI e ∧ Below w.heap.size w w') := fun g k w h h' => specSame_any _ _ n m n m FI GI (fun i hi => (HSZ.out i hi).1) (fun i hi => (HSY.out i hi).1) hn hk (SP g n hn) (SP k m hk) w h h'
    have IY : Hid (∀ (g k : Nat) (w : World), Els w 3 (some ⟨g, 0, none⟩) n (fiF FI) → Els w 3 (some ⟨k, 0, none⟩) m (fiF GI) → Calls Try.prog 29 #[.slice (some ⟨g, 0, none⟩) n n, .slice (some ⟨k, 0, none⟩) m m] w fun e w' => SmRet n m FI GI e ∧ Below w.heap.size w w') := fun g k w h h' => implSame_any _ _ n m n m FI GI (fun i hi => (HSZ.out i hi).1) (fun i hi => (HSY.out i hi).1) hn hk (SP g n hn) (SP k m hk) w h h'
    clear SP hn hk hy hz
    go_wp2_with fail
    refine (TO.out _ (HE.out.below A1.out)).mono ?_
    rintro e v3 ⟨⟨ga, rfl, hra, hga, hla⟩, hb⟩
    replace A1 : Hid (Below w.heap.size w v3) := A1.out.trans (hb.mono A1.out.size)
    have Xa : Hid (RowE v3 3 (some ⟨ga, 0, none⟩) ga n (fiF FI)) := hra
    clear hb hra hga hla
    go_wp2_with fail
    refine (TG.out _ (HG.out.below A1.out)).mono ?_
    rintro e v4 ⟨⟨gb, rfl, hrb, hgb, hlb⟩, hb⟩
    replace A1 : Hid (Below w.heap.size w v4) := A1.out.trans (hb.mono A1.out.size)
    replace Xa : Hid (RowE v4 3 (some ⟨ga, 0, none⟩) ga n (fiF FI)) := Xa.out.below (by omega) hb
    have Xb : Hid (RowE v4 3 (some ⟨gb, 0, none⟩) gb m (fiF GI)) := hrb
    clear hb hrb hgb hlb
    go_wp2_with fail
    refine (SO.out _ _ _ Xa.out.els Xb.out.els).mono ?_
    rintro e v5 ⟨⟨t, cd, hM, rfl⟩, hb⟩
    replace A1 : Hid (Below w.heap.size w v5) := A1.out.trans (hb.mono A1.out.size)
    replace Xa : Hid (RowE v5 3 (some ⟨ga, 0, none⟩) ga n (fiF FI)) := Xa.out.below (by omega) hb
    replace Xb : Hid (RowE v5 3 (some ⟨gb, 0, none⟩) gb m (fiF GI)) := Xb.out.below (by omega) hb
    have HM : Hid (SmIs n m FI GI t cd) := hM
    clear hb hM SO
    clear Xa Xb
    go_wp2_with fail
    refine (TO.out _ (HE.out.below A1.out)).mono ?_
    rintro e v6 ⟨⟨gc, rfl, hrc, hgc, hlc⟩, hb⟩
    replace A1 : Hid (Below w.heap.size w v6) := A1.out.trans (hb.mono A1.out.size)
    have Xc : Hid (RowE v6 3 (some ⟨gc, 0, none⟩) gc n (fiF FI)) := hrc
    clear hb hrc hgc hlc
    go_wp2_with fail
    refine (TG.out _ (HG.out.below A1.out)).mono ?_
    rintro e v7 ⟨⟨gd, rfl, hrd, hgd, hld⟩, hb⟩
    replace A1 : Hid (Below w.heap.size w v7) := A1.out.trans (hb.mono A1.out.size)
    replace Xc : Hid (RowE v7 3 (some ⟨gc, 0, none⟩) gc n (fiF FI)) := Xc.out.below (by omega) hb
    have Xd : Hid (RowE v7 3 (some ⟨gd, 0, none⟩) gd m (fiF GI)) := hrd
    clear hb hrd hgd hld
    go_wp2_with fail
    refine (IY.out _ _ _ Xc.out.els Xd.out.els).mono ?_
    rintro e v8 ⟨⟨t2, cd2, hM, rfl⟩, hb⟩
    replace A1 : Hid (Below w.heap.size w v8) := A1.out.trans (hb.mono A1.out.size)
    replace Xc : Hid (RowE v8 3 (some ⟨gc, 0, none⟩) gc n (fiF FI)) := Xc.out.below (by omega) hb
    replace Xd : Hid (RowE v8 3 (some ⟨gd, 0, none⟩) gd m (fiF GI)) := Xd.out.below (by omega) hb
    obtain ⟨rfl, rfl⟩ := hM.uniq HM.out
    clear hb hM HM IY
    have rr : (cd2 != cd2) = false := by simp
    have r2 : (t2 != t2) = false := by cases t2 <;> rfl
    go_wp2_with fail
    refine (TO.out _ (HE.out.below A1.out)).mono ?_
    rintro e v9 ⟨⟨ge, rfl, hre, hge, hle⟩, hb⟩
    replace A1 : Hid (Below w.heap.size w v9) := A1.out.trans (hb.mono A1.out.size)
    replace Xc : Hid (RowE v9 3 (some ⟨gc, 0, none⟩) gc n (fiF FI)) := Xc.out.below (by omega) hb
    replace Xd : Hid (RowE v9 3 (some ⟨gd, 0, none⟩) gd m (fiF GI)) := Xd.out.below (by omega) hb
    have Xe : Hid (RowE v9 3 (some ⟨ge, 0, none⟩) ge n (fiF FI)) := hre
    clear hb hre hge hle
    go_wp2_with fail
    refine (EQ.out _ _ _ _ _ Xc.out.els Xe.out.els).mono ?_
    rintro e v10 ⟨rfl, hb⟩
    replace A1 : Hid (Below w.heap.size w v10) := A1.out.trans (hb.mono A1.out.size)
    replace Xc : Hid (RowE v10 3 (some ⟨gc, 0, none⟩) gc n (fiF FI)) := Xc.out.below (by omega) hb
    replace Xd : Hid (RowE v10 3 (some ⟨gd, 0, none⟩) gd m (fiF GI)) := Xd.out.below (by omega) hb
    replace Xe : Hid (RowE v10 3 (some ⟨ge, 0, none⟩) ge n (fiF FI)) := Xe.out.below (by omega) hb
    clear hb EQ
    clear Xc Xe
    go_wp2_with fail
    refine (TG.out _ (HG.out.below A1.out)).mono ?_
    rintro e v11 ⟨⟨gf, rfl, hrf, hgf, hlf⟩, hb⟩
    replace A1 : Hid (Below w.heap.size w v11) := A1.out.trans (hb.mono A1.out.size)
    replace Xd : Hid (RowE v11 3 (some ⟨gd, 0, none⟩) gd m (fiF GI)) := Xd.out.below (by omega) hb
    have Xf : Hid (RowE v11 3 (some ⟨gf, 0, none⟩) gf m (fiF GI)) := hrf
    clear hb hrf hgf hlf
    go_wp2_with fail
    refine (EG.out _ _ _ _ _ Xd.out.els Xf.out.els).mono ?_
    rintro e v12 ⟨rfl, hb⟩
    replace A1 : Hid (Below w.heap.size w v12) := A1.out.trans (hb.mono A1.out.size)
    replace Xd : Hid (RowE v12 3 (some ⟨gd, 0, none⟩) gd m (fiF GI)) := Xd.out.below (by omega) hb
    replace Xf : Hid (RowE v12 3 (some ⟨gf, 0, none⟩) gf m (fiF GI)) := Xf.out.below (by omega) hb
    clear hb EG
    clear Xd Xf
    clear HE HG TO TG
    go_wp2
    go_ret
    exact ⟨rfl, A1.out⟩
end Go.Proofs.Ytendfgepmjgldac
