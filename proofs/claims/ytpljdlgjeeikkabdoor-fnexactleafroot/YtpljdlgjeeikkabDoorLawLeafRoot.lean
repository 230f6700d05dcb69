/-
  The exact law of LeafRoot (written by tools/leaf_law.py).
-/
import Derived.Test.YtpljdlgjeeikkabDoorTreeS
namespace Go.Proofs.YtpljdlgjeeikkabDoor
open Go.ChangeShapes Go.WideShapes Go.ChangeAt Go.RowKit
set_option linter.unusedVariables false
set_option maxRecDepth 100000 in
set_option maxHeartbeats 4000000 in
theorem law_leafRoot (a : Option Addr) (n c : Nat) (LF : Nat → Lf) (hm : n ≤ maxLen) (hf : ∀ i, i < n → (LF i).h.size ≤ maxLen) (w : World) (h : Els w 2 a n (lfF LF)) (hT : Tabs w) :
    Calls Tryd.prog 4 #[.slice a n c] w fun e w' => e = .returned (.bool true) ∧ Below w.heap.size w w' := by
  have SZ : Hid (∀ w : World, Els w 2 a n (lfF LF) → Calls Tryd.prog 7 #[.slice a n c, .int .i64 1048576] w fun e w' => (∃ y : Int, e = .returned (.int .i64 y) ∧ y ≤ 1048576 ∧ (0 ≤ y → n ≤ 1048576)) ∧ Below w.heap.size w w') := fun w h => szLeafS_any a n c LF 1048576 w h (by omega) (by omega) hm hf
  have A1 : Hid (Below w.heap.size w w) := Below.refl _ _
  have HE : Hid (Els w 2 a n (lfF LF)) := h
  have TW : Hid (Tabs w) := hT
  clear h hm hf hT
  go_enter Tryd.func4, Tryd.ntmps4
  go_wp2_with fail
  refine (SZ.out _ HE.out).mono ?_
  rintro e v1 ⟨⟨y, rfl, hy, hy2⟩, hb⟩
  replace A1 : Hid (Below w.heap.size w v1) := A1.out.trans (hb.mono A1.out.size)
  replace HE : Hid (Els v1 2 a n (lfF LF)) := HE.out.below hb
  replace TW : Hid (Tabs v1) := TW.out.below hb
  clear hb SZ
  by_cases hy0 : y < 0
  · clear hy2
    go_wp2
    go_ret
    exact ⟨rfl, A1.out⟩
  · have hn : n ≤ 1048576 := hy2 (by omega)
    clear hy2
    have TO : Hid (∀ w : World, Els w 2 a n (lfF LF) → Calls Tryd.prog 9 #[.slice a n c] w fun e w' => (∃ g, e = .returned (.slice (some ⟨g, 0, none⟩) n n) ∧ RowE w' 2 (some ⟨g, 0, none⟩) g n (lfF LF) ∧ w.heap.size ≤ g) ∧ Below w.heap.size w w') := fun w h => (toLeafS_any a n c LF w h hn).mono fun _ _ q => ⟨⟨_, q.1, q.2.1, Nat.le_refl _⟩, q.2.2.2⟩
    have EQ : Hid (∀ (b e : Option Addr) (x y : Nat) (w : World), Els w 2 b n (lfF LF) → Els w 2 e n (lfF LF) → Calls Tryd.prog 11 #[.slice b n x, .slice e n y] w fun e w' => e = .returned (.bool true) ∧ Below w.heap.size w w') := fun b e x y w h h' => eqLeafS_yes b e n x y LF w h h' hn
    have SO : Hid (∀ (b : Option Addr) (w : World), Els w 2 b n (lfF LF) → Calls Tryd.prog 8 #[.slice b n n] w fun e w' => e = .returned (.tuple #[.string (rootA n LF), .int .i64 (lsCode n LF)]) ∧ Below w.heap.size w w') := fun b w h => specLeafRoot_any b n n LF hn (Nat.le_refl _) (by unfold maxLen; omega) w h
    have IY : Hid (∀ (b : Option Addr) (w : World), Els w 2 b n (lfF LF) → Tabs w → Calls Tryd.prog 10 #[.slice b n n] w fun e w' => e = .returned (.tuple #[.string (rootA n LF), .int .i64 (lsCode n LF)]) ∧ Below w.heap.size w w') := fun b w h hT => implLeafRoot_any b n n LF hn (Nat.le_refl _) (by unfold maxLen; omega) w h hT
    generalize rootA n LF = RT at *
    generalize lsCode n LF = cd at *
    have rr : (cd != cd) = false := by simp
    clear hn
    go_wp2_with fail
    refine (TO.out _ HE.out).mono ?_
    rintro e v2 ⟨⟨ga, rfl, hra, hga⟩, hb⟩
    replace A1 : Hid (Below w.heap.size w v2) := A1.out.trans (hb.mono A1.out.size)
    replace HE : Hid (Els v2 2 a n (lfF LF)) := HE.out.below hb
    replace TW : Hid (Tabs v2) := TW.out.below hb
    have Xa : Hid (RowE v2 2 (some ⟨ga, 0, none⟩) ga n (lfF LF)) := hra
    clear hb hra
    go_wp2_with fail
    refine (SO.out _ _ Xa.out.els).mono ?_
    rintro e v3 ⟨rfl, hb⟩
    replace A1 : Hid (Below w.heap.size w v3) := A1.out.trans (hb.mono A1.out.size)
    replace HE : Hid (Els v3 2 a n (lfF LF)) := HE.out.below hb
    replace TW : Hid (Tabs v3) := TW.out.below hb
    replace Xa : Hid (RowE v3 2 (some ⟨ga, 0, none⟩) ga n (lfF LF)) := Xa.out.below (by omega) hb
    clear hb SO
    clear Xa
    go_wp2_with fail
    refine (TO.out _ HE.out).mono ?_
    rintro e v4 ⟨⟨gb, rfl, hrb, hgb⟩, hb⟩
    replace A1 : Hid (Below w.heap.size w v4) := A1.out.trans (hb.mono A1.out.size)
    replace HE : Hid (Els v4 2 a n (lfF LF)) := HE.out.below hb
    replace TW : Hid (Tabs v4) := TW.out.below hb
    have Xb : Hid (RowE v4 2 (some ⟨gb, 0, none⟩) gb n (lfF LF)) := hrb
    clear hb hrb
    go_wp2_with fail
    refine (IY.out _ _ Xb.out.els TW.out).mono ?_
    rintro e v5 ⟨rfl, hb⟩
    replace A1 : Hid (Below w.heap.size w v5) := A1.out.trans (hb.mono A1.out.size)
    replace HE : Hid (Els v5 2 a n (lfF LF)) := HE.out.below hb
    replace TW : Hid (Tabs v5) := TW.out.below hb
    replace Xb : Hid (RowE v5 2 (some ⟨gb, 0, none⟩) gb n (lfF LF)) := Xb.out.below (by omega) hb
    clear hb IY
    go_wp2_with fail
    refine (TO.out _ HE.out).mono ?_
    rintro e v6 ⟨⟨gc, rfl, hrc, hgc⟩, hb⟩
    replace A1 : Hid (Below w.heap.size w v6) := A1.out.trans (hb.mono A1.out.size)
    replace HE : Hid (Els v6 2 a n (lfF LF)) := HE.out.below hb
    replace TW : Hid (Tabs v6) := TW.out.below hb
    replace Xb : Hid (RowE v6 2 (some ⟨gb, 0, none⟩) gb n (lfF LF)) := Xb.out.below (by omega) hb
    have Xc : Hid (RowE v6 2 (some ⟨gc, 0, none⟩) gc n (lfF LF)) := hrc
    clear hb hrc
    go_wp2_with fail
    refine (EQ.out _ _ _ _ _ Xb.out.els Xc.out.els).mono ?_
    rintro e v7 ⟨rfl, hb⟩
    replace A1 : Hid (Below w.heap.size w v7) := A1.out.trans (hb.mono A1.out.size)
    replace HE : Hid (Els v7 2 a n (lfF LF)) := HE.out.below hb
    replace TW : Hid (Tabs v7) := TW.out.below hb
    replace Xb : Hid (RowE v7 2 (some ⟨gb, 0, none⟩) gb n (lfF LF)) := Xb.out.below (by omega) hb
    replace Xc : Hid (RowE v7 2 (some ⟨gc, 0, none⟩) gc n (lfF LF)) := Xc.out.below (by omega) hb
    clear hb EQ
    clear HE Xb Xc TO rr TW
    go_wp2
    go_ret
    exact ⟨rfl, A1.out⟩
end Go.Proofs.YtpljdlgjeeikkabDoor
