/-
  The exact law of FilesText (written by tools/file_law6.py).
-/
import Derived.Test.YtglfhajfbdjjcaaFileTx
namespace Go.Proofs.Ytglfhajfbdjjcaa
open Go.ChangeShapes Go.WideShapes Go.ChangeAt Go.RowKit
set_option linter.unusedVariables false
set_option maxRecDepth 100000 in
set_option maxHeartbeats 8000000 in
theorem law_filesText (a : Option Addr) (n c : Nat) (FI : Nat → Fi)  (hm : n ≤ maxLen) (hf : ∀ i, i < n → (FI i).p.size ≤ maxLen ∧ (FI i).t.size ≤ maxLen) (w : World) (h : Els w 3 a n (fiF FI)) :
    Calls Try.prog 3 #[.slice a n c] w fun e w' => e = .returned (.bool true) ∧ Below w.heap.size w w' := by
  have SZ : Hid (∀ w : World, Els w 3 a n (fiF FI) → Calls Try.prog 9 #[.slice a n c, .int .i64 1048576] w fun e w' => (∃ y : Int, e = .returned (.int .i64 y) ∧ y ≤ 1048576 ∧ (0 ≤ y → n ≤ 1048576 ∧ ∀ i, i < n → (FI i).p.size ≤ 1048576 ∧ (FI i).t.size ≤ 1048576)) ∧ Below w.heap.size w w') := fun w h => szFileS_any a n c FI 1048576 w h (by omega) (by omega) hm hf
  have A1 : Hid (Below w.heap.size w w) := Below.refl _ _
  have HE : Hid (Els w 3 a n (fiF FI)) := h
  clear h hm hf
  go_enter Try.func3, Try.ntmps3
  go_wp2_with fail
  refine (SZ.out _ HE.out).mono ?_
  rintro e v1 ⟨⟨y, rfl, hy, hy2⟩, hb⟩
  replace A1 : Hid (Below w.heap.size w v1) := A1.out.trans (hb.mono A1.out.size)
  clear hb SZ
  by_cases hy0 : y < 0
  · clear hy2
    go_wp2
    go_ret
    exact ⟨rfl, A1.out⟩
  · obtain ⟨hn, hsz⟩ := hy2 (by omega)
    clear hy2
    have TO : Hid (∀ w : World, Els w 3 a n (fiF FI) → Calls Try.prog 11 #[.slice a n c] w fun e w' => (∃ g, e = .returned (.slice (some ⟨g, 0, none⟩) n n) ∧ RowE w' 3 (some ⟨g, 0, none⟩) g n (fiF FI) ∧ w.heap.size ≤ g ∧ g < w'.heap.size) ∧ Below w.heap.size w w') := fun w h => (toFileS_any a n c FI w h hn).mono fun _ _ q => ⟨⟨_, q.1, q.2.1, Nat.le_refl _, q.2.2.1⟩, q.2.2.2⟩
    have EQ : Hid (∀ (b e : Option Addr) (x y : Nat) (w : World), Els w 3 b n (fiF FI) → Els w 3 e n (fiF FI) → Calls Try.prog 13 #[.slice b n x, .slice e n y] w fun e w' => e = .returned (.bool true) ∧ Below w.heap.size w w') := fun b e x y w h h' => eqFileS_yes b e n x y FI w h h' hn
    have SO : Hid (∀ (g : Nat) (w : World), Els w 3 (some ⟨g, 0, none⟩) n (fiF FI) → Calls Try.prog 10 #[.slice (some ⟨g, 0, none⟩) n n] w fun e w' => (∃ t cd, TxIs n FI t cd ∧ e = .returned (.tuple #[.string t, .int .i64 cd])) ∧ Below w.heap.size w w') := fun g w h => specTx_any (some ⟨g, 0, none⟩) n n FI (fun i hi => (hsz i hi).1) hn w h
    have IY : Hid (∀ (g : Nat) (w : World), Els w 3 (some ⟨g, 0, none⟩) n (fiF FI) → Calls Try.prog 12 #[.slice (some ⟨g, 0, none⟩) n n] w fun e w' => (∃ t cd, TxIs n FI t cd ∧ e = .returned (.tuple #[.string t, .int .i64 cd])) ∧ Below w.heap.size w w') := fun g w h => implTx_any (some ⟨g, 0, none⟩) n n FI (fun i hi => (hsz i hi).1) hn ⟨(fun e => by cases e), .inr ⟨_, _, rfl⟩, Nat.le_refl _, by unfold maxLen; omega⟩ w h
    clear hsz hn hy
    go_wp2_with fail
    refine (TO.out _ (HE.out.below A1.out)).mono ?_
    rintro e v2 ⟨⟨ga, rfl, hra, hga, hla⟩, hb⟩
    replace A1 : Hid (Below w.heap.size w v2) := A1.out.trans (hb.mono A1.out.size)
    have Xa : Hid (RowE v2 3 (some ⟨ga, 0, none⟩) ga n (fiF FI)) := hra
    clear hb hra hga hla
    go_wp2_with fail
    refine (SO.out _ _ Xa.out.els).mono ?_
    rintro e v3 ⟨⟨t, cd, hM, rfl⟩, hb⟩
    replace A1 : Hid (Below w.heap.size w v3) := A1.out.trans (hb.mono A1.out.size)
    replace Xa : Hid (RowE v3 3 (some ⟨ga, 0, none⟩) ga n (fiF FI)) := Xa.out.below (by omega) hb
    have HM : Hid (TxIs n FI t cd) := hM
    clear hb hM
    clear Xa
    clear SO
    go_wp2_with fail
    refine (TO.out _ (HE.out.below A1.out)).mono ?_
    rintro e v4 ⟨⟨gb, rfl, hrb, hgb, hlb⟩, hb⟩
    replace A1 : Hid (Below w.heap.size w v4) := A1.out.trans (hb.mono A1.out.size)
    have Xb : Hid (RowE v4 3 (some ⟨gb, 0, none⟩) gb n (fiF FI)) := hrb
    clear hb hrb hgb hlb
    go_wp2_with fail
    refine (IY.out _ _ Xb.out.els).mono ?_
    rintro e v5 ⟨⟨t2, cd2, hM, rfl⟩, hb⟩
    replace A1 : Hid (Below w.heap.size w v5) := A1.out.trans (hb.mono A1.out.size)
    replace Xb : Hid (RowE v5 3 (some ⟨gb, 0, none⟩) gb n (fiF FI)) := Xb.out.below (by omega) hb
    obtain ⟨rfl, rfl⟩ := hM.uniq HM.out
    clear hb hM HM IY
    have rr : (cd2 != cd2) = false := by simp
    go_wp2_with fail
    refine (TO.out _ (HE.out.below A1.out)).mono ?_
    rintro e v6 ⟨⟨gc, rfl, hrc, hgc, hlc⟩, hb⟩
    replace A1 : Hid (Below w.heap.size w v6) := A1.out.trans (hb.mono A1.out.size)
    replace Xb : Hid (RowE v6 3 (some ⟨gb, 0, none⟩) gb n (fiF FI)) := Xb.out.below (by omega) hb
    have Xc : Hid (RowE v6 3 (some ⟨gc, 0, none⟩) gc n (fiF FI)) := hrc
    clear hb hrc hgc hlc
    go_wp2_with fail
    refine (EQ.out _ _ _ _ _ Xb.out.els Xc.out.els).mono ?_
    rintro e v7 ⟨rfl, hb⟩
    replace A1 : Hid (Below w.heap.size w v7) := A1.out.trans (hb.mono A1.out.size)
    replace Xb : Hid (RowE v7 3 (some ⟨gb, 0, none⟩) gb n (fiF FI)) := Xb.out.below (by omega) hb
    replace Xc : Hid (RowE v7 3 (some ⟨gc, 0, none⟩) gc n (fiF FI)) := Xc.out.below (by omega) hb
    clear hb EQ
    clear Xc Xb
    clear HE TO
    go_wp2
    go_ret
    exact ⟨rfl, A1.out⟩
end Go.Proofs.Ytglfhajfbdjjcaa
