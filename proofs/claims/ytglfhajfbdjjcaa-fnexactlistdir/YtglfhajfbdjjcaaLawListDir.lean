/-
  The exact law of ListDir (written by tools/file_law7.py).
-/
import Derived.Test.YtglfhajfbdjjcaaFileLsW
import Derived.Test.YtglfhajfbdjjcaaStrK
namespace Go.Proofs.Ytglfhajfbdjjcaa
open Go.ChangeShapes Go.WideShapes Go.ChangeAt Go.RowKit
set_option linter.unusedVariables false
theorem EO.pxRow {w : World} {B : Nat} {a : Option Addr} {n c : Nat} {f : Nat → ByteArray} (h : EO w B 9 1 (.slice a n c) n (pxF f)) : ∃ g, TxRow w a g n f ∧ (0 < n → B ≤ g ∧ g < w.heap.size) := by
  obtain ⟨g, hr, hB⟩ := h.rowE
  refine ⟨g, ⟨hr.a, fun i hi => ?_, fun i hi => ?_⟩, fun hn => ⟨hB hn, hr.lt (by omega) hn⟩⟩
  · have := hr.c i hi 0 (by omega)
    rwa [Nat.mul_one, Nat.add_zero] at this
  · exact hr.z i (by omega)
def LsP (n : Nat) (F : Nat → Fi) (p : ByteArray) (N : Nat) (f : Nat → ByteArray) (c : Int) : Prop := ∃ L, LsIs n F p L c ∧ N = L.length ∧ f = nthT L
theorem LsP.bound {n : Nat} {F : Nat → Fi} {p : ByteArray} {N : Nat} {f : Nat → ByteArray} {c : Int} (h : LsP n F p N f c) : N ≤ 1000 := by
  obtain ⟨L, h, rfl, _⟩ := h
  rcases h with ⟨_, ⟨_, _, rfl⟩ | ⟨a, _, rfl⟩⟩ | ⟨_, ⟨_, _, rfl⟩ | ⟨a, ⟨_, _, rfl⟩ | ⟨_, _, rfl⟩⟩⟩
  · simp
  · have h1 := lsL_le F p n; have h2 := a.ok.1.1; omega
  · simp
  · simp
  · have h1 := lsL_le F p n; have h2 := a.ok.1.1; omega
theorem RetNm.txR {L : List ByteArray} {cd : Int} {B : Nat} {e : Ending} {w : World} (h : RetNm L cd B e w) : ∃ (b : Option Addr) (x g : Nat), e = .returned (.tuple #[.slice b L.length x, .int .i64 cd]) ∧ TxRow w b g L.length (nthT L) ∧ (0 < L.length → B ≤ g ∧ g < w.heap.size) := by
  obtain ⟨a, c, rfl, hE⟩ := h
  obtain ⟨g, hr, hg⟩ := hE.pxRow
  exact ⟨a, c, g, rfl, hr, hg⟩
set_option maxRecDepth 100000 in
set_option maxHeartbeats 8000000 in
theorem law_listDir (a : Option Addr) (n c : Nat) (FI : Nat → Fi) (p : ByteArray) (hm : n ≤ maxLen) (hf : ∀ i, i < n → (FI i).p.size ≤ maxLen ∧ (FI i).t.size ≤ maxLen) (hzp : p.size ≤ maxLen) (w : World) (h : Els w 3 a n (fiF FI)) :
    Calls Try.prog 5 #[.slice a n c, .string p] w fun e w' => e = .returned (.bool true) ∧ Below w.heap.size w w' := by
  unfold maxLen at hzp
  by_cases bigp : 1048576 < p.size
  · have bbp : (1048576 : Int) < (p.size : Int) := by omega
    clear h hm hf
    go_enter Try.func5, Try.ntmps5
    go_wp2
    go_ret
    exact ⟨rfl, Below.refl _ _⟩
  have bbp : ¬ (1048576 : Int) < (p.size : Int) := by omega
  have SZ : Hid (∀ w : World, Els w 3 a n (fiF FI) → Calls Try.prog 9 #[.slice a n c, .int .i64 1048576] w fun e w' => (∃ y : Int, e = .returned (.int .i64 y) ∧ y ≤ 1048576 ∧ (0 ≤ y → n ≤ 1048576 ∧ ∀ i, i < n → (FI i).p.size ≤ 1048576 ∧ (FI i).t.size ≤ 1048576)) ∧ Below w.heap.size w w') := fun w h => szFileS_any a n c FI 1048576 w h (by omega) (by omega) hm hf
  have A1 : Hid (Below w.heap.size w w) := Below.refl _ _
  have HE : Hid (Els w 3 a n (fiF FI)) := h
  clear h hm hf
  go_enter Try.func5, Try.ntmps5
  go_wp2_with fail
  refine (SZ.out _ HE.out).mono ?_
  rintro e v1 ⟨⟨y, rfl, hy, hy2⟩, hb⟩
  replace A1 : Hid (Below w.heap.size w v1) := A1.out.trans (hb.mono A1.out.size)
  clear hb SZ
  by_cases hy0 : y < 0
  · clear hy2
    go_wp2
    go_ret
    exact ⟨rfl, A1.out⟩
  · obtain ⟨hn, hsz⟩ := hy2 (by omega)
    clear hy2
    have TO : Hid (∀ w : World, Els w 3 a n (fiF FI) → Calls Try.prog 11 #[.slice a n c] w fun e w' => (∃ g, e = .returned (.slice (some ⟨g, 0, none⟩) n n) ∧ RowE w' 3 (some ⟨g, 0, none⟩) g n (fiF FI) ∧ w.heap.size ≤ g ∧ g < w'.heap.size) ∧ Below w.heap.size w w') := fun w h => (toFileS_any a n c FI w h hn).mono fun _ _ q => ⟨⟨_, q.1, q.2.1, Nat.le_refl _, q.2.2.1⟩, q.2.2.2⟩
    have EQ : Hid (∀ (b e : Option Addr) (x y : Nat) (w : World), Els w 3 b n (fiF FI) → Els w 3 e n (fiF FI) → Calls Try.prog 13 #[.slice b n x, .slice e n y] w fun e w' => e = .returned (.bool true) ∧ Below w.heap.size w w') := fun b e x y w h h' => eqFileS_yes b e n x y FI w h h' hn
    have SP : ∀ g : Nat, SlP (some ⟨g, 0, none⟩) n n := fun g => ⟨(fun e => by cases e), .inr ⟨_, _, rfl⟩, Nat.le_refl _, by unfold maxLen; omega⟩
    have SO : Hid (∀ (g : Nat) (w : World), Els w 3 (some ⟨g, 0, none⟩) n (fiF FI) → Calls Try.prog 15 #[.slice (some ⟨g, 0, none⟩) n n, .string p] w fun e w' => (∃ (N : Nat) (f : Nat → ByteArray) (cd : Int), LsP n FI p N f cd ∧ (∃ (b : Option Addr) (x g : Nat), e = .returned (.tuple #[.slice b N x, .int .i64 cd]) ∧ TxRow w' b g N f ∧ (0 < N → w.heap.size ≤ g ∧ g < w'.heap.size))) ∧ Below w.heap.size w w') := fun g w h => (specLs_any (some ⟨g, 0, none⟩) n n FI p (fun i hi => (hsz i hi).1) hn (by omega) w h).mono fun e w' q => by
      obtain ⟨⟨LL, cd, hM, hR⟩, hb⟩ := q
      obtain ⟨b9, x9, g9, e9, r9, l9⟩ := hR.txR
      exact ⟨⟨LL.length, (nthT LL), cd, ⟨LL, hM, rfl, rfl⟩, b9, x9, g9, e9, r9, l9⟩, hb⟩
    have IY0 : Hid (∀ (N : Nat) (f : Nat → ByteArray) (cd : Int), LsP n FI p N f cd → ∀ (g : Nat) (w : World), Els w 3 (some ⟨g, 0, none⟩) n (fiF FI) → Calls Try.prog 16 #[.slice (some ⟨g, 0, none⟩) n n, .string p] w fun e w' => (∃ (b : Option Addr) (x g : Nat), e = .returned (.tuple #[.slice b N x, .int .i64 cd]) ∧ TxRow w' b g N f ∧ (0 < N → w.heap.size ≤ g ∧ g < w'.heap.size)) ∧ Below w.heap.size w w') := fun N f cd hM g w h => (implLs_any (some ⟨g, 0, none⟩) n n FI p (fun i hi => (hsz i hi).1) hn (SP g) (by omega) w h).mono fun e w' q => by
      obtain ⟨⟨LL', cd', hM', hR⟩, hb⟩ := q
      obtain ⟨LL, hM, rfl, rfl⟩ := hM
      obtain ⟨rfl, rfl⟩ := hM'.uniq hM
      obtain ⟨b9, x9, g9, e9, r9, l9⟩ := hR.txR
      exact ⟨⟨b9, x9, g9, e9, r9, l9⟩, hb⟩
    have NB : Hid (∀ (N : Nat) (f : Nat → ByteArray) (cd : Int), LsP n FI p N f cd → N ≤ 1000) := fun N f cd h => LsP.bound h
    have MR : Hid (∀ (g : Nat) (w : World), RowE w 3 (some ⟨g, 0, none⟩) g n (fiF FI) → Calls Try.prog 18 #[.slice (some ⟨g, 0, none⟩) n n, .int .i64 1] w fun e w' => e = .returned (.int .i64 ((1 + 3 * n : Nat) : Int)) ∧ TurnedE g n w w') := fun g w h => (markFileK _ g n n 1 FI (by omega) (by omega) w h).mono fun _ _ q => ⟨q.1, q.2.2⟩
    have NZ : ¬ ((1 + 3 * n : Nat) : Int) < 0 := by omega
    generalize ((1 + 3 * n : Nat) : Int) = N1 at *
    clear hsz SP hn hy
    go_wp2_with fail
    have AP : Hid _ := A1.out.size
    refine (TO.out _ (HE.out.below A1.out)).mono ?_
    rintro e v2 ⟨⟨ga, rfl, hra, hga, hla⟩, hb⟩
    replace A1 : Hid (Below w.heap.size w v2) := A1.out.trans (hb.mono A1.out.size)
    have Xa : Hid (RowE v2 3 (some ⟨ga, 0, none⟩) ga n (fiF FI)) := hra
    have La : Hid (w.heap.size ≤ ga) := Nat.le_trans AP.out hga
    clear hb hra AP
    go_wp2_with fail
    refine (SO.out _ _ Xa.out.els).mono ?_
    rintro e v3 ⟨⟨N, f, cd, hM, aw, cw, pw, rfl, hrw, hpw⟩, hb⟩
    replace A1 : Hid (Below w.heap.size w v3) := A1.out.trans (hb.mono A1.out.size)
    replace Xa : Hid (RowE v3 3 (some ⟨ga, 0, none⟩) ga n (fiF FI)) := Xa.out.below (by omega) hb
    have Rw : Hid (TxRow v3 aw pw N f) := hrw
    clear hb hrw
    have hN := NB.out _ _ _ hM
    have IY : Hid (∀ (g : Nat) (w : World), Els w 3 (some ⟨g, 0, none⟩) n (fiF FI) → Calls Try.prog 16 #[.slice (some ⟨g, 0, none⟩) n n, .string p] w fun e w' => (∃ (b : Option Addr) (x g : Nat), e = .returned (.tuple #[.slice b N x, .int .i64 cd]) ∧ TxRow w' b g N f ∧ (0 < N → w.heap.size ≤ g ∧ g < w'.heap.size)) ∧ Below w.heap.size w w') := IY0.out N f cd hM
    have ES : Hid (∀ (b e : Option Addr) (x y : Nat) (w : World), Strs w b N f → Strs w e N f → Calls Try.prog 17 #[.slice b N x, .slice e N y] w fun e w' => e = .returned (.bool true) ∧ Below w.heap.size w w') := fun b e x y w h h' => (eqStringS_yes b e N x y f f w h h' (fun _ _ => rfl) (by omega)).mono fun _ _ q => ⟨q.1, by obtain ⟨z, e⟩ := q.2; rw [e]; exact below_dN _ _⟩
    have MS : Hid (∀ (b : Option Addr) (g x : Nat) (w : World), TxRow w b g N f → Calls Try.prog 19 #[.slice b N x, .int .i64 1] w fun e w' => (e = .returned (.int .i64 ((N + 1 : Nat) : Int)) ∧ TxRow w' b g N (fun i => mt (i + 1))) ∧ TurnedE g N w w') := fun b g x w h => (markStrK b g N x f w h (by omega)).mono fun _ _ q => ⟨⟨q.1, q.2.1⟩, q.2.2⟩
    have HD : Hid (∀ (b : Option Addr) (x : Nat) (w : World), Strs w b N (fun i => mt (i + 1)) → Calls Try.prog 20 #[.slice b N x, .int .i64 1] w fun e w' => e = .returned (.int .i64 ((N + 1 : Nat) : Int)) ∧ Below w.heap.size w w') := fun b x w h => heldStrK b N x w h (by omega)
    have kz : ¬ ((N + 1 : Nat) : Int) < 0 := by omega
    have ke : (((N + 1 : Nat) : Int) != ((N + 1 : Nat) : Int)) = false := by simp
    have rr : (cd != cd) = false := by simp
    generalize ((N + 1 : Nat) : Int) = K1 at *
    clear hM IY0 NB hN
    clear Xa
    clear hga hla La SO
    have PW : Hid (0 < N → pw < v3.heap.size) := fun z => (hpw z).2
    clear hpw
    go_wp2_with fail
    have AP : Hid _ := A1.out.size
    refine (TO.out _ (HE.out.below A1.out)).mono ?_
    rintro e v4 ⟨⟨gb, rfl, hrb, hgb, hlb⟩, hb⟩
    replace A1 : Hid (Below w.heap.size w v4) := A1.out.trans (hb.mono A1.out.size)
    replace Rw : Hid (TxRow v4 aw pw N f) := Rw.out.below hb
    have Xb : Hid (RowE v4 3 (some ⟨gb, 0, none⟩) gb n (fiF FI)) := hrb
    have Lb : Hid (w.heap.size ≤ gb) := Nat.le_trans AP.out hgb
    clear hb hrb AP
    have WB : Hid (0 < N → pw ≠ gb) := fun z => by have := PW.out z; omega
    have PW2 : Hid (0 < N → pw < v4.heap.size) := fun z => by have := PW.out z; omega
    have GB : Hid (gb < v4.heap.size) := hlb
    clear hgb hlb PW
    go_wp2_with fail
    have AQ : Hid _ := A1.out.size
    refine (IY.out _ _ Xb.out.els).mono ?_
    rintro e v5 ⟨⟨ag, cg, pg, rfl, hrg, hpg⟩, hb⟩
    replace A1 : Hid (Below w.heap.size w v5) := A1.out.trans (hb.mono A1.out.size)
    replace Rw : Hid (TxRow v5 aw pw N f) := Rw.out.below hb
    replace Xb : Hid (RowE v5 3 (some ⟨gb, 0, none⟩) gb n (fiF FI)) := Xb.out.below (by omega) hb
    have Rg : Hid (TxRow v5 ag pg N f) := hrg
    clear hb hrg
    have GW : Hid (0 < N → pw ≠ pg) := fun z => by have := PW2.out z; have := (hpg z).1; omega
    have GX : Hid (0 < N → pg ≠ gb) := fun z => by have := GB.out; have := (hpg z).1; omega
    have GL : Hid (0 < N → w.heap.size ≤ pg) := fun z => Nat.le_trans AQ.out (hpg z).1
    clear hpg PW2 GB AQ
    go_wp2_with fail
    refine (ES.out _ _ _ _ _ Rg.out.strs Rw.out.strs).mono ?_
    rintro e v6 ⟨rfl, hb⟩
    replace A1 : Hid (Below w.heap.size w v6) := A1.out.trans (hb.mono A1.out.size)
    replace Rw : Hid (TxRow v6 aw pw N f) := Rw.out.below hb
    replace Xb : Hid (RowE v6 3 (some ⟨gb, 0, none⟩) gb n (fiF FI)) := Xb.out.below (by omega) hb
    replace Rg : Hid (TxRow v6 ag pg N f) := Rg.out.below hb
    clear hb 
    go_wp2_with fail
    have AP : Hid _ := A1.out.size
    refine (TO.out _ (HE.out.below A1.out)).mono ?_
    rintro e v7 ⟨⟨gc, rfl, hrc, hgc, hlc⟩, hb⟩
    replace A1 : Hid (Below w.heap.size w v7) := A1.out.trans (hb.mono A1.out.size)
    replace Rw : Hid (TxRow v7 aw pw N f) := Rw.out.below hb
    replace Xb : Hid (RowE v7 3 (some ⟨gb, 0, none⟩) gb n (fiF FI)) := Xb.out.below (by omega) hb
    replace Rg : Hid (TxRow v7 ag pg N f) := Rg.out.below hb
    have Xc : Hid (RowE v7 3 (some ⟨gc, 0, none⟩) gc n (fiF FI)) := hrc
    have Lc : Hid (w.heap.size ≤ gc) := Nat.le_trans AP.out hgc
    clear hb hrc AP
    clear hgc hlc Lc
    go_wp2_with fail
    refine (EQ.out _ _ _ _ _ Xb.out.els Xc.out.els).mono ?_
    rintro e v8 ⟨rfl, hb⟩
    replace A1 : Hid (Below w.heap.size w v8) := A1.out.trans (hb.mono A1.out.size)
    replace Rw : Hid (TxRow v8 aw pw N f) := Rw.out.below hb
    replace Xb : Hid (RowE v8 3 (some ⟨gb, 0, none⟩) gb n (fiF FI)) := Xb.out.below (by omega) hb
    replace Rg : Hid (TxRow v8 ag pg N f) := Rg.out.below hb
    replace Xc : Hid (RowE v8 3 (some ⟨gc, 0, none⟩) gc n (fiF FI)) := Xc.out.below (by omega) hb
    clear hb EQ
    clear Xc
    go_wp2_with fail
    refine (MR.out _ _ Xb.out).mono ?_
    rintro e v9 ⟨rfl, hto⟩
    replace A1 : Hid (Below w.heap.size w v9) := A1.out.trans (hto.toBelow (fun _ => Lb.out) A1.out.size)
    replace Rw : Hid (TxRow v9 aw pw N f) := Rw.out.turned hto (fun z _ => WB.out z)
    replace Rg : Hid (TxRow v9 ag pg N f) := Rg.out.turned hto (fun z _ => GX.out z)
    clear hto MR Xb WB GX Lb
    go_wp2_with fail
    refine (ES.out _ _ _ _ _ Rg.out.strs Rw.out.strs).mono ?_
    rintro e v10 ⟨rfl, hb⟩
    replace A1 : Hid (Below w.heap.size w v10) := A1.out.trans (hb.mono A1.out.size)
    replace Rw : Hid (TxRow v10 aw pw N f) := Rw.out.below hb
    replace Rg : Hid (TxRow v10 ag pg N f) := Rg.out.below hb
    clear hb 
    go_wp2_with fail
    refine (MS.out _ _ _ _ Rg.out).mono ?_
    rintro e v11 ⟨⟨rfl, hmr⟩, hto⟩
    replace A1 : Hid (Below w.heap.size w v11) := A1.out.trans (hto.toBelow (fun z => GL.out z) A1.out.size)
    replace Rw : Hid (TxRow v11 aw pw N f) := Rw.out.turned hto (fun z _ => GW.out z)
    clear Rg
    have Rg : Hid (Strs v11 ag N (fun i => mt (i + 1))) := hmr.strs
    clear hto hmr MS GW GL
    go_wp2_with fail
    refine (HD.out _ _ _ Rg.out).mono ?_
    rintro e v12 ⟨rfl, hb⟩
    replace A1 : Hid (Below w.heap.size w v12) := A1.out.trans (hb.mono A1.out.size)
    replace Rw : Hid (TxRow v12 aw pw N f) := Rw.out.below hb
    replace Rg : Hid (Strs v12 ag N (fun i => mt (i + 1))) := Rg.out.below hb
    clear hb 
    go_wp2_with fail
    have AP : Hid _ := A1.out.size
    refine (TO.out _ (HE.out.below A1.out)).mono ?_
    rintro e v13 ⟨⟨gd, rfl, hrd, hgd, hld⟩, hb⟩
    replace A1 : Hid (Below w.heap.size w v13) := A1.out.trans (hb.mono A1.out.size)
    replace Rw : Hid (TxRow v13 aw pw N f) := Rw.out.below hb
    replace Rg : Hid (Strs v13 ag N (fun i => mt (i + 1))) := Rg.out.below hb
    have Xd : Hid (RowE v13 3 (some ⟨gd, 0, none⟩) gd n (fiF FI)) := hrd
    have Ld : Hid (w.heap.size ≤ gd) := Nat.le_trans AP.out hgd
    clear hb hrd AP
    clear hgd hld Ld
    go_wp2_with fail
    refine (IY.out _ _ Xd.out.els).mono ?_
    rintro e v14 ⟨⟨ah, ch, ph, rfl, hrh, hph⟩, hb⟩
    replace A1 : Hid (Below w.heap.size w v14) := A1.out.trans (hb.mono A1.out.size)
    replace Rw : Hid (TxRow v14 aw pw N f) := Rw.out.below hb
    replace Rg : Hid (Strs v14 ag N (fun i => mt (i + 1))) := Rg.out.below hb
    replace Xd : Hid (RowE v14 3 (some ⟨gd, 0, none⟩) gd n (fiF FI)) := Xd.out.below (by omega) hb
    have Rh : Hid (TxRow v14 ah ph N f) := hrh
    clear hb hrh
    clear Xd
    clear hph IY
    go_wp2_with fail
    refine (ES.out _ _ _ _ _ Rh.out.strs Rw.out.strs).mono ?_
    rintro e v15 ⟨rfl, hb⟩
    replace A1 : Hid (Below w.heap.size w v15) := A1.out.trans (hb.mono A1.out.size)
    replace Rw : Hid (TxRow v15 aw pw N f) := Rw.out.below hb
    replace Rg : Hid (Strs v15 ag N (fun i => mt (i + 1))) := Rg.out.below hb
    replace Rh : Hid (TxRow v15 ah ph N f) := Rh.out.below hb
    clear hb ES
    clear Rh Rw
    go_wp2_with fail
    refine (HD.out _ _ _ Rg.out).mono ?_
    rintro e v16 ⟨rfl, hb⟩
    replace A1 : Hid (Below w.heap.size w v16) := A1.out.trans (hb.mono A1.out.size)
    replace Rg : Hid (Strs v16 ag N (fun i => mt (i + 1))) := Rg.out.below hb
    clear hb HD
    clear HE Rg TO rr
    go_wp2
    go_ret
    exact ⟨rfl, A1.out⟩
end Go.Proofs.Ytglfhajfbdjjcaa
