/-
  The exact law of FreeBlocks (written by tools/suplaw.py).
-/
import Derived.Test.YtiagpeefambggabSupFr
import Derived.Test.YtiagpeefambggabSupTo
namespace Go.Proofs.Ytiagpeefambggab
open Go.ChangeShapes Go.WideShapes Go.ChangeAt Go.RowKit
set_option linter.unusedVariables false
set_option maxRecDepth 100000 in
set_option maxHeartbeats 8000000 in
theorem law_freeBlocks (z : Int) (a : Option Addr) (n c : Nat) (P : Nat → Plc) (r : ByteArray) (k1 : Int) (hm : n ≤ maxLen) (hr : r.size ≤ maxLen) (w : World) (hv : Els w 2 a n (pcF P)) :
    Calls Try.prog 3 #[.agg #[.int .i64 z, .slice a n c, .string r], .int .i64 k1] w fun e w' => e = .returned (.bool true) ∧ Below w.heap.size w w' := by
  have A1 : Hid (Below w.heap.size w (w.alloc (.cells #[.int .i64 z, .slice a n c, .string r] 24))) := (Below.refl _ _).alloc (Nat.le_refl _) _
  have X : Hid (Box3 (w.alloc (.cells #[.int .i64 z, .slice a n c, .string r] 24)) w.heap.size 24 (.int .i64 z) (.slice a n c) (.string r)) := Box3.made _ _ _ _ _
  have HE : Hid (Els w 2 a n (pcF P)) := hv
  have SZ : Hid (∀ w : World, Calls Try.prog 4 #[.agg #[.int .i64 z, .slice a n c, .string r], .int .i64 1048576] w fun e w' => (∃ y : Int, e = .returned (.int .i64 y) ∧ (0 ≤ y → n ≤ 1048576 ∧ r.size ≤ 1048576)) ∧ Below w.heap.size w w') := fun w => szSuper_any z a n c r hm hr w
  have SU : Hid (w.heap.size < ((w.alloc (.cells #[.int .i64 z, .slice a n c, .string r] 24))).heap.size) := by show w.heap.size < _; simp
  clear hv hm hr
  go_enter Try.func3, Try.ntmps3
  go_wp2_with fail
  generalize (w.alloc (.cells #[.int .i64 z, .slice a n c, .string r] 24)) = v1 at *
  obtain ⟨vb, hvb⟩ : ∃ x, x = w.heap.size := ⟨_, rfl⟩
  have VB : Hid (vb = w.heap.size) := hvb
  rw [← hvb] at X ⊢
  replace SU : Hid (vb < v1.heap.size) := by rw [hvb]; exact SU.out
  clear hvb
  refine (SZ.out _).mono ?_
  rintro e v2 ⟨⟨y, rfl, hy⟩, hb⟩
  replace A1 : Hid (Below w.heap.size w v2) := A1.out.trans (hb.mono A1.out.size)
  replace X : Hid (Box3 v2 vb 24 (.int .i64 z) (.slice a n c) (.string r)) := X.out.below hb
  replace SU : Hid (vb < v2.heap.size) := Nat.lt_of_lt_of_le SU.out hb.size
  clear hb SZ
  by_cases hy0 : y < 0
  · clear hy
    go_wp2
    go_ret
    exact ⟨rfl, A1.out⟩
  obtain ⟨hn, hrz⟩ := hy (by omega)
  clear hy
  obtain ⟨N, EL, cd, hN, hS, hI⟩ := freeBlocks_both z n P r k1 hn
  have SO : Hid (∀ (g : Nat) (w : World), Els w 2 (some ⟨g, 0, none⟩) n (pcF P) → Calls Try.prog 5 #[.agg #[.int .i64 z, .slice (some ⟨g, 0, none⟩) n n, .string r], .int .i64 k1] w fun e w' => (∃ (b : Option Addr) (x g : Nat), e = .returned (.tuple #[.slice b N x, .int .i64 cd]) ∧ RowE w' 1 b g N (inF EL) ∧ (0 < N → w.heap.size ≤ g ∧ g < w'.heap.size)) ∧ Below w.heap.size w w') := hS
  have IY : Hid (∀ (g : Nat) (w : World), Els w 2 (some ⟨g, 0, none⟩) n (pcF P) → Calls Try.prog 7 #[.agg #[.int .i64 z, .slice (some ⟨g, 0, none⟩) n n, .string r], .int .i64 k1] w fun e w' => (∃ (b : Option Addr) (x g : Nat), e = .returned (.tuple #[.slice b N x, .int .i64 cd]) ∧ RowE w' 1 b g N (inF EL) ∧ (0 < N → w.heap.size ≤ g ∧ g < w'.heap.size)) ∧ Below w.heap.size w w') := hI
  have TO : Hid (∀ w : World, Els w 2 a n (pcF P) → Calls Try.prog 6 #[.agg #[.int .i64 z, .slice a n c, .string r]] w fun e w' => (∃ g, e = .returned (.agg #[.int .i64 z, .slice (some ⟨g, 0, none⟩) n n, .string r]) ∧ RowE w' 2 (some ⟨g, 0, none⟩) g n (pcF P) ∧ w.heap.size ≤ g ∧ g < w'.heap.size) ∧ Below w.heap.size w w') := fun w h => toSuper_any z a n c P r hn w h
  have EQ : Hid (∀ (g g' : Nat) (w : World), Els w 2 (some ⟨g, 0, none⟩) n (pcF P) → Els w 2 (some ⟨g', 0, none⟩) n (pcF P) → Calls Try.prog 9 #[.agg #[.int .i64 z, .slice (some ⟨g, 0, none⟩) n n, .string r], .agg #[.int .i64 z, .slice (some ⟨g', 0, none⟩) n n, .string r]] w fun e w' => e = .returned (.bool true) ∧ Below w.heap.size w w') := fun g g' w h h' => eqSuper_yes z _ _ n n n P r hn w h h'
  have MR : Hid (∀ (g : Nat) (w : World), RowE w 2 (some ⟨g, 0, none⟩) g n (pcF P) → Calls Try.prog 10 #[.agg #[.int .i64 z, .slice (some ⟨g, 0, none⟩) n n, .string r], .int .i64 1] w fun e w' => e = .returned (.int .i64 ((1 + 2 * n : Nat) : Int)) ∧ TurnedE g n w w') := fun g w h => (markSuper_any z _ g n n 1 P r (by omega) (by omega) w h).mono fun _ _ q => ⟨q.1.1, q.2⟩
  have ES : Hid (∀ (b e : Option Addr) (x y : Nat) (w : World), Num w b N EL → Num w e N EL → Calls Try.prog 8 #[.slice b N x, .slice e N y] w fun e w' => e = .returned (.bool true) ∧ Below w.heap.size w w') := fun b e x y w h h' => eqNum_yes b e N x y EL w h h' (by omega)
  have MS : Hid (∀ (b : Option Addr) (g x : Nat) (w : World), RowE w 1 b g N (inF EL) → Calls Try.prog 11 #[.slice b N x, .int .i64 1] w fun e w' => (e = .returned (.int .i64 ((1 + N : Nat) : Int)) ∧ RowE w' 1 b g N (inF (mkC 1))) ∧ TurnedE g N w w') := fun b g x w h => (markIntK b g N x 1 EL (by omega) w h).mono fun _ _ q => ⟨⟨q.1, q.2.1⟩, q.2.2⟩
  have HD : Hid (∀ (b : Option Addr) (x : Nat) (w : World), Num w b N (mkC 1) → Calls Try.prog 12 #[.slice b N x, .int .i64 1] w fun e w' => e = .returned (.int .i64 ((1 + N : Nat) : Int)) ∧ Below w.heap.size w w') := fun b x w h => heldIntK b N x 1 (by omega) w h
  have kz : ¬ ((1 + N : Nat) : Int) < 0 := by omega
  have ke : (((1 + N : Nat) : Int) != ((1 + N : Nat) : Int)) = false := by simp
  have rr : (cd != cd) = false := by simp
  generalize ((1 + N : Nat) : Int) = K1 at *
  have NZ : ¬ ((1 + 2 * n : Nat) : Int) < 0 := by omega
  generalize ((1 + 2 * n : Nat) : Int) = N1 at *
  clear hN
  clear hS hI hn hrz
  have s0 := X.out.c0
  have s1 := X.out.c1
  have s2 := X.out.c2
  go_wp2_with fail
  clear s0 s1 s2
  have AP : Hid _ := A1.out.size
  have SP : Hid _ := SU.out
  refine (TO.out _ (HE.out.below A1.out)).mono ?_
  rintro e v3 ⟨⟨ga, rfl, hra, hga, hla⟩, hb⟩
  replace A1 : Hid (Below w.heap.size w v3) := A1.out.trans (hb.mono A1.out.size)
  replace X : Hid (Box3 v3 vb 24 (.int .i64 z) (.slice a n c) (.string r)) := X.out.below hb
  replace SU : Hid (vb < v3.heap.size) := Nat.lt_of_lt_of_le SU.out hb.size
  have Xa : Hid (RowE v3 2 (some ⟨ga, 0, none⟩) ga n (pcF P)) := hra
  have La : Hid (w.heap.size ≤ ga ∧ vb < ga) := ⟨Nat.le_trans AP.out hga, Nat.lt_of_lt_of_le SP.out hga⟩
  clear hb hra AP SP
  clear hga hla La
  go_wp2_with fail
  refine (SO.out _ _ Xa.out.els).mono ?_
  rintro e v4 ⟨⟨aw, cw, pw, rfl, hrw, hpw⟩, hb⟩
  replace A1 : Hid (Below w.heap.size w v4) := A1.out.trans (hb.mono A1.out.size)
  replace X : Hid (Box3 v4 vb 24 (.int .i64 z) (.slice a n c) (.string r)) := X.out.below hb
  replace SU : Hid (vb < v4.heap.size) := Nat.lt_of_lt_of_le SU.out hb.size
  replace Xa : Hid (RowE v4 2 (some ⟨ga, 0, none⟩) ga n (pcF P)) := Xa.out.below (by omega) hb
  have Rw : Hid (RowE v4 1 aw pw N (inF EL)) := hrw
  clear hb hrw
  clear Xa
  clear SO
  have PW : Hid (0 < N → pw < v4.heap.size) := fun z => (hpw z).2
  clear hpw
  have PWq : Hid _ := PW.out
  have s0 := X.out.c0
  have s1 := X.out.c1
  have s2 := X.out.c2
  go_wp2_with fail
  clear s0 s1 s2
  have AP : Hid _ := A1.out.size
  have SP : Hid _ := SU.out
  refine (TO.out _ (HE.out.below A1.out)).mono ?_
  rintro e v5 ⟨⟨gb, rfl, hrb, hgb, hlb⟩, hb⟩
  replace A1 : Hid (Below w.heap.size w v5) := A1.out.trans (hb.mono A1.out.size)
  replace X : Hid (Box3 v5 vb 24 (.int .i64 z) (.slice a n c) (.string r)) := X.out.below hb
  replace SU : Hid (vb < v5.heap.size) := Nat.lt_of_lt_of_le SU.out hb.size
  replace Rw : Hid (RowE v5 1 aw pw N (inF EL)) := Rw.out.below (by omega) hb
  replace PW : Hid (0 < N → pw < v5.heap.size) := fun z => Nat.lt_of_lt_of_le (PW.out z) hb.size
  have Xb : Hid (RowE v5 2 (some ⟨gb, 0, none⟩) gb n (pcF P)) := hrb
  have Lb : Hid (w.heap.size ≤ gb ∧ vb < gb) := ⟨Nat.le_trans AP.out hgb, Nat.lt_of_lt_of_le SP.out hgb⟩
  clear hb hrb AP SP
  have WB : Hid (0 < N → pw ≠ gb) := fun z => by have := PWq.out z; omega
  clear PWq
  have GB : Hid (gb < v5.heap.size) := hlb
  clear hgb hlb
  have hb : Below v5.heap.size v5 (v5.alloc (.cells #[.int .i64 z, .slice (some ⟨gb, 0, none⟩) n n, .string r] 31)) := (Below.refl _ _).alloc (Nat.le_refl _) _
  have Y : Hid (Box3 (v5.alloc (.cells #[.int .i64 z, .slice (some ⟨gb, 0, none⟩) n n, .string r] 31)) v5.heap.size 31 (.int .i64 z) (.slice (some ⟨gb, 0, none⟩) n n) (.string r)) := Box3.made _ _ _ _ _
  go_wp2_with fail
  generalize (v5.alloc (.cells #[.int .i64 z, .slice (some ⟨gb, 0, none⟩) n n, .string r] 31)) = v6 at *
  replace A1 : Hid (Below w.heap.size w v6) := A1.out.trans (hb.mono A1.out.size)
  replace X : Hid (Box3 v6 vb 24 (.int .i64 z) (.slice a n c) (.string r)) := X.out.below hb
  replace SU : Hid (vb < v6.heap.size) := Nat.lt_of_lt_of_le SU.out hb.size
  replace Rw : Hid (RowE v6 1 aw pw N (inF EL)) := Rw.out.below (by omega) hb
  replace PW : Hid (0 < N → pw < v6.heap.size) := fun z => Nat.lt_of_lt_of_le (PW.out z) hb.size
  replace Xb : Hid (RowE v6 2 (some ⟨gb, 0, none⟩) gb n (pcF P)) := Xb.out.below (by omega) hb
  replace GB : Hid (gb < v6.heap.size) := Nat.lt_of_lt_of_le GB.out hb.size
  clear hb 
  obtain ⟨yb, hyb⟩ : ∃ bx, bx = v5.heap.size := ⟨_, rfl⟩
  rw [← hyb] at Y ⊢
  clear hyb
  have PWq : Hid _ := PW.out
  have GBr : Hid _ := GB.out
  have AQ : Hid _ := A1.out.size
  have SP : Hid _ := SU.out
  refine (IY.out _ _ Xb.out.els).mono ?_
  rintro e v7 ⟨⟨ag, cg, pg, rfl, hrg, hpg⟩, hb⟩
  replace A1 : Hid (Below w.heap.size w v7) := A1.out.trans (hb.mono A1.out.size)
  replace X : Hid (Box3 v7 vb 24 (.int .i64 z) (.slice a n c) (.string r)) := X.out.below hb
  replace SU : Hid (vb < v7.heap.size) := Nat.lt_of_lt_of_le SU.out hb.size
  replace Rw : Hid (RowE v7 1 aw pw N (inF EL)) := Rw.out.below (by omega) hb
  replace PW : Hid (0 < N → pw < v7.heap.size) := fun z => Nat.lt_of_lt_of_le (PW.out z) hb.size
  replace Xb : Hid (RowE v7 2 (some ⟨gb, 0, none⟩) gb n (pcF P)) := Xb.out.below (by omega) hb
  replace GB : Hid (gb < v7.heap.size) := Nat.lt_of_lt_of_le GB.out hb.size
  replace Y : Hid (Box3 v7 yb 31 (.int .i64 z) (.slice (some ⟨gb, 0, none⟩) n n) (.string r)) := Y.out.below hb
  have Rg : Hid (RowE v7 1 ag pg N (inF EL)) := hrg
  clear hb hrg
  have GW : Hid (0 < N → pw ≠ pg) := fun z => by have := PWq.out z; have := (hpg z).1; omega
  have GX : Hid (0 < N → pg ≠ gb) := fun z => by have := GBr.out; have := (hpg z).1; omega
  have GL : Hid (0 < N → w.heap.size ≤ pg ∧ vb < pg) := fun z => ⟨Nat.le_trans AQ.out (hpg z).1, Nat.lt_of_lt_of_le SP.out (hpg z).1⟩
  clear PW GB
  clear hpg PWq GBr
  clear AQ SP
  go_wp2_with fail
  refine (ES.out _ _ _ _ _ Rg.out.els Rw.out.els).mono ?_
  rintro e v8 ⟨rfl, hb⟩
  replace A1 : Hid (Below w.heap.size w v8) := A1.out.trans (hb.mono A1.out.size)
  replace X : Hid (Box3 v8 vb 24 (.int .i64 z) (.slice a n c) (.string r)) := X.out.below hb
  replace SU : Hid (vb < v8.heap.size) := Nat.lt_of_lt_of_le SU.out hb.size
  replace Rw : Hid (RowE v8 1 aw pw N (inF EL)) := Rw.out.below (by omega) hb
  replace Xb : Hid (RowE v8 2 (some ⟨gb, 0, none⟩) gb n (pcF P)) := Xb.out.below (by omega) hb
  replace Y : Hid (Box3 v8 yb 31 (.int .i64 z) (.slice (some ⟨gb, 0, none⟩) n n) (.string r)) := Y.out.below hb
  replace Rg : Hid (RowE v8 1 ag pg N (inF EL)) := Rg.out.below (by omega) hb
  clear hb 
  go_wp2_with fail
  have hb : Below v8.heap.size v8 v8.drew := (Below.refl _ _).drew
  have H : (Box3 v8.drew vb 24 (.int .i64 z) (.slice a n c) (.string r)) ∧ (Box3 v8.drew yb 31 (.int .i64 z) (.slice (some ⟨gb, 0, none⟩) n n) (.string r)) := ⟨X.out.below hb, Y.out.below hb⟩
  replace A1 : Hid (Below w.heap.size w v8.drew) := A1.out.trans (hb.mono A1.out.size)
  replace SU : Hid (vb < v8.drew.heap.size) := Nat.lt_of_lt_of_le SU.out hb.size
  replace Rw : Hid (RowE v8.drew 1 aw pw N (inF EL)) := Rw.out.below (by omega) hb
  replace Xb : Hid (RowE v8.drew 2 (some ⟨gb, 0, none⟩) gb n (pcF P)) := Xb.out.below (by omega) hb
  replace Rg : Hid (RowE v8.drew 1 ag pg N (inF EL)) := Rg.out.below (by omega) hb
  clear hb X Y
  refine wp_region_noPanic ?_
  refine wp_region_held_drew (S := fun w' => (Box3 w' vb 24 (.int .i64 z) (.slice a n c) (.string r)) ∧ (Box3 w' yb 31 (.int .i64 z) (.slice (some ⟨gb, 0, none⟩) n n) (.string r))) (by kernel_rfl) H (fun _ => ?_)
  generalize v8.drew = v9 at *
  refine wpAnyH_take (i := 0) (v := .agg #[.int .i64 z, .slice (some ⟨gb, 0, none⟩) n n, .string r]) rfl (by kernel_rfl) (by kernel_rfl) (by kernel_rfl) (fun _ _ _ h => h) (Or.inl ⟨by rfl, ?_⟩) H ?_
  · intro w' hSw; have t0 := hSw.2.c0; have t1 := hSw.2.c1; have t2 := hSw.2.c2; clear hSw; go_simp
  change wpAnyH _ _ _ _ _ _ _ { tmps := #[_, _, _, _, _, _, _, _, _, _, _, _, _, _, _, _, _, _, _, _, _, _, _, _, _, _, _, _, _, _, _, _, _, _, _, _, _, _, _, _, _, _, _, _, _, _, _, _, _, _, _, _, _, _, _, _, _, _, _, _, _, _, _, _, _, _, _, _, _, _, _, _, _, _, _, _, _, _, _, _, _, _, _, _, _, _, _, _, _, _, _, _, _, _, _, _, _, _, _, _, _], defers := _ } _
  refine wpAnyH_take (i := 1) (v := .agg #[.int .i64 z, .slice a n c, .string r]) rfl (by kernel_rfl) (by kernel_rfl) (by kernel_rfl) (fun _ _ _ h => h) (Or.inl ⟨by rfl, ?_⟩) H ?_
  · intro w' hSw; have t0 := hSw.1.c0; have t1 := hSw.1.c1; have t2 := hSw.1.c2; clear hSw; go_simp
  change wpAnyH _ _ _ _ _ _ _ { tmps := #[_, _, _, _, _, _, _, _, _, _, _, _, _, _, _, _, _, _, _, _, _, _, _, _, _, _, _, _, _, _, _, _, _, _, _, _, _, _, _, _, _, _, _, _, _, _, _, _, _, _, _, _, _, _, _, _, _, _, _, _, _, _, _, _, _, _, _, _, _, _, _, _, _, _, _, _, _, _, _, _, _, _, _, _, _, _, _, _, _, _, _, _, _, _, _, _, _, _, _, _, _], defers := _ } _
  refine wpAnyH_ready (rs := [2]) (by kernel_rfl) (by simp) ?_
  refine AllReadyH.cons rfl (fun KK hK => ?_) AllReadyH.nil
  go_simp
  refine (TO.out _ (HE.out.below A1.out)).mono ?_
  rintro e v10 ⟨⟨gc, rfl, hrc, hgc, hlc⟩, hb⟩
  replace A1 : Hid (Below w.heap.size w v10) := A1.out.trans (hb.mono A1.out.size)
  replace SU : Hid (vb < v10.heap.size) := Nat.lt_of_lt_of_le SU.out hb.size
  replace Rw : Hid (RowE v10 1 aw pw N (inF EL)) := Rw.out.below (by omega) hb
  replace Xb : Hid (RowE v10 2 (some ⟨gb, 0, none⟩) gb n (pcF P)) := Xb.out.below (by omega) hb
  replace Rg : Hid (RowE v10 1 ag pg N (inF EL)) := Rg.out.below (by omega) hb
  replace H : (Box3 v10 vb 24 (.int .i64 z) (.slice a n c) (.string r)) ∧ (Box3 v10 yb 31 (.int .i64 z) (.slice (some ⟨gb, 0, none⟩) n n) (.string r)) := ⟨H.1.below hb, H.2.below hb⟩
  have Xc : Hid (RowE v10 2 (some ⟨gc, 0, none⟩) gc n (pcF P)) := hrc
  clear hb hrc hgc hlc
  refine hK.out _ _ H (fun _ => ?_)
  clear hK KK
  change wpAnyH _ _ _ _ _ _ _ { tmps := #[_, _, _, _, _, _, _, _, _, _, _, _, _, _, _, _, _, _, _, _, _, _, _, _, _, _, _, _, _, _, _, _, _, _, _, _, _, _, _, _, _, _, _, _, _, _, _, _, _, _, _, _, _, _, _, _, _, _, _, _, _, _, _, _, _, _, _, _, _, _, _, _, _, _, _, _, _, _, _, _, _, _, _, _, _, _, _, _, _, _, _, _, _, _, _, _, _, _, _, _, _], defers := _ } _
  refine wpAnyH_ready (rs := [3]) (by kernel_rfl) (by simp) ?_
  refine AllReadyH.cons rfl (fun KK hK => ?_) AllReadyH.nil
  go_simp
  refine (EQ.out _ _ _ Xb.out.els Xc.out.els).mono ?_
  rintro e v11 ⟨rfl, hb⟩
  replace A1 : Hid (Below w.heap.size w v11) := A1.out.trans (hb.mono A1.out.size)
  replace SU : Hid (vb < v11.heap.size) := Nat.lt_of_lt_of_le SU.out hb.size
  replace Rw : Hid (RowE v11 1 aw pw N (inF EL)) := Rw.out.below (by omega) hb
  replace Xb : Hid (RowE v11 2 (some ⟨gb, 0, none⟩) gb n (pcF P)) := Xb.out.below (by omega) hb
  replace Rg : Hid (RowE v11 1 ag pg N (inF EL)) := Rg.out.below (by omega) hb
  replace Xc : Hid (RowE v11 2 (some ⟨gc, 0, none⟩) gc n (pcF P)) := Xc.out.below (by omega) hb
  replace H : (Box3 v11 vb 24 (.int .i64 z) (.slice a n c) (.string r)) ∧ (Box3 v11 yb 31 (.int .i64 z) (.slice (some ⟨gb, 0, none⟩) n n) (.string r)) := ⟨H.1.below hb, H.2.below hb⟩
  clear hb 
  refine hK.out _ _ H (fun _ => ?_)
  clear hK KK
  change wpAnyH _ _ _ _ _ _ _ { tmps := #[_, _, _, _, _, _, _, _, _, _, _, _, _, _, _, _, _, _, _, _, _, _, _, _, _, _, _, _, _, _, _, _, _, _, _, _, _, _, _, _, _, _, _, _, _, _, _, _, _, _, _, _, _, _, _, _, _, _, _, _, _, _, _, _, _, _, _, _, _, _, _, _, _, _, _, _, _, _, _, _, _, _, _, _, _, _, _, _, _, _, _, _, _, _, _, _, _, _, _, _, _], defers := _ } _
  clear Xc
  refine wpAnyH_take (i := 4) (v := .bool false) rfl (by kernel_rfl) (by kernel_rfl) (by kernel_rfl) (fun _ _ _ h => h) (Or.inl ⟨by rfl, ?_⟩) H ?_
  · intro w' hSw; clear hSw; go_simp
  change wpAnyH _ _ _ _ _ _ _ { tmps := #[_, _, _, _, _, _, _, _, _, _, _, _, _, _, _, _, _, _, _, _, _, _, _, _, _, _, _, _, _, _, _, _, _, _, _, _, _, _, _, _, _, _, _, _, _, _, _, _, _, _, _, _, _, _, _, _, _, _, _, _, _, _, _, _, _, _, _, _, _, _, _, _, _, _, _, _, _, _, _, _, _, _, _, _, _, _, _, _, _, _, _, _, _, _, _, _, _, _, _, _, _], defers := _ } _
  have X : Hid (Box3 v11 vb 24 (.int .i64 z) (.slice a n c) (.string r)) := H.1
  have Y : Hid (Box3 v11 yb 31 (.int .i64 z) (.slice (some ⟨gb, 0, none⟩) n n) (.string r)) := H.2
  clear H
  refine wpAnyH_done (by kernel_rfl) ?_ _
  refine NoPanic.normal ?_
  clear EQ
  have t0 := Y.out.c0
  have t1 := Y.out.c1
  have t2 := Y.out.c2
  go_wp2_with fail
  clear t0 t1 t2
  refine (MR.out _ _ Xb.out).mono ?_
  rintro e v12 ⟨rfl, hto⟩
  replace A1 : Hid (Below w.heap.size w v12) := A1.out.trans (hto.toBelow (fun _ => Lb.out.1) A1.out.size)
  replace X : Hid (Box3 v12 vb 24 (.int .i64 z) (.slice a n c) (.string r)) := X.out.ofBlock (hto.block X.out.lt (fun _ => Nat.ne_of_lt Lb.out.2))
  replace SU : Hid (vb < v12.heap.size) := Nat.lt_of_lt_of_le SU.out hto.1.size
  replace Rw : Hid (RowE v12 1 aw pw N (inF EL)) := Rw.out.turned (by omega) hto (fun z _ => WB.out z)
  replace Rg : Hid (RowE v12 1 ag pg N (inF EL)) := Rg.out.turned (by omega) hto (fun z _ => GX.out z)
  clear hto MR Xb Y WB GX Lb
  go_wp2_with fail
  refine (ES.out _ _ _ _ _ Rg.out.els Rw.out.els).mono ?_
  rintro e v13 ⟨rfl, hb⟩
  replace A1 : Hid (Below w.heap.size w v13) := A1.out.trans (hb.mono A1.out.size)
  replace SU : Hid (vb < v13.heap.size) := Nat.lt_of_lt_of_le SU.out hb.size
  replace Rw : Hid (RowE v13 1 aw pw N (inF EL)) := Rw.out.below (by omega) hb
  replace Rg : Hid (RowE v13 1 ag pg N (inF EL)) := Rg.out.below (by omega) hb
  replace X : Hid (Box3 v13 vb 24 (.int .i64 z) (.slice a n c) (.string r)) := X.out.below hb
  clear hb 
  go_wp2_with fail
  refine (MS.out _ _ _ _ Rg.out).mono ?_
  rintro e v14 ⟨⟨rfl, hmr⟩, hto⟩
  replace A1 : Hid (Below w.heap.size w v14) := A1.out.trans (hto.toBelow (fun z => (GL.out z).1) A1.out.size)
  replace X : Hid (Box3 v14 vb 24 (.int .i64 z) (.slice a n c) (.string r)) := X.out.ofBlock (hto.block X.out.lt (fun z => Nat.ne_of_lt (GL.out z).2))
  replace SU : Hid (vb < v14.heap.size) := Nat.lt_of_lt_of_le SU.out hto.1.size
  replace Rw : Hid (RowE v14 1 aw pw N (inF EL)) := Rw.out.turned (by omega) hto (fun z _ => GW.out z)
  clear Rg
  have Rg : Hid (Num v14 ag N (mkC 1)) := hmr.els
  clear hto hmr MS GW GL
  go_wp2_with fail
  refine (HD.out _ _ _ Rg.out).mono ?_
  rintro e v15 ⟨rfl, hb⟩
  replace A1 : Hid (Below w.heap.size w v15) := A1.out.trans (hb.mono A1.out.size)
  replace SU : Hid (vb < v15.heap.size) := Nat.lt_of_lt_of_le SU.out hb.size
  replace Rw : Hid (RowE v15 1 aw pw N (inF EL)) := Rw.out.below (by omega) hb
  replace X : Hid (Box3 v15 vb 24 (.int .i64 z) (.slice a n c) (.string r)) := X.out.below hb
  replace Rg : Hid (Num v15 ag N (mkC 1)) := Rg.out.below hb
  clear hb 
  have s0 := X.out.c0
  have s1 := X.out.c1
  have s2 := X.out.c2
  go_wp2_with fail
  clear s0 s1 s2
  have AP : Hid _ := A1.out.size
  have SP : Hid _ := SU.out
  refine (TO.out _ (HE.out.below A1.out)).mono ?_
  rintro e v16 ⟨⟨gd, rfl, hrd, hgd, hld⟩, hb⟩
  replace A1 : Hid (Below w.heap.size w v16) := A1.out.trans (hb.mono A1.out.size)
  replace SU : Hid (vb < v16.heap.size) := Nat.lt_of_lt_of_le SU.out hb.size
  replace Rw : Hid (RowE v16 1 aw pw N (inF EL)) := Rw.out.below (by omega) hb
  replace X : Hid (Box3 v16 vb 24 (.int .i64 z) (.slice a n c) (.string r)) := X.out.below hb
  replace Rg : Hid (Num v16 ag N (mkC 1)) := Rg.out.below hb
  have Xd : Hid (RowE v16 2 (some ⟨gd, 0, none⟩) gd n (pcF P)) := hrd
  have Ld : Hid (w.heap.size ≤ gd ∧ vb < gd) := ⟨Nat.le_trans AP.out hgd, Nat.lt_of_lt_of_le SP.out hgd⟩
  clear hb hrd AP SP
  clear hgd hld Ld
  go_wp2_with fail
  refine (IY.out _ _ Xd.out.els).mono ?_
  rintro e v17 ⟨⟨ah, ch, ph, rfl, hrh, hph⟩, hb⟩
  replace A1 : Hid (Below w.heap.size w v17) := A1.out.trans (hb.mono A1.out.size)
  replace SU : Hid (vb < v17.heap.size) := Nat.lt_of_lt_of_le SU.out hb.size
  replace Rw : Hid (RowE v17 1 aw pw N (inF EL)) := Rw.out.below (by omega) hb
  replace X : Hid (Box3 v17 vb 24 (.int .i64 z) (.slice a n c) (.string r)) := X.out.below hb
  replace Rg : Hid (Num v17 ag N (mkC 1)) := Rg.out.below hb
  replace Xd : Hid (RowE v17 2 (some ⟨gd, 0, none⟩) gd n (pcF P)) := Xd.out.below (by omega) hb
  have Rh : Hid (RowE v17 1 ah ph N (inF EL)) := hrh
  clear hb hrh
  clear Xd
  clear hph IY
  go_wp2_with fail
  refine (ES.out _ _ _ _ _ Rh.out.els Rw.out.els).mono ?_
  rintro e v18 ⟨rfl, hb⟩
  replace A1 : Hid (Below w.heap.size w v18) := A1.out.trans (hb.mono A1.out.size)
  replace SU : Hid (vb < v18.heap.size) := Nat.lt_of_lt_of_le SU.out hb.size
  replace Rw : Hid (RowE v18 1 aw pw N (inF EL)) := Rw.out.below (by omega) hb
  replace X : Hid (Box3 v18 vb 24 (.int .i64 z) (.slice a n c) (.string r)) := X.out.below hb
  replace Rg : Hid (Num v18 ag N (mkC 1)) := Rg.out.below hb
  replace Rh : Hid (RowE v18 1 ah ph N (inF EL)) := Rh.out.below (by omega) hb
  clear hb ES
  clear Rh Rw
  go_wp2_with fail
  refine (HD.out _ _ _ Rg.out).mono ?_
  rintro e v19 ⟨rfl, hb⟩
  replace A1 : Hid (Below w.heap.size w v19) := A1.out.trans (hb.mono A1.out.size)
  replace SU : Hid (vb < v19.heap.size) := Nat.lt_of_lt_of_le SU.out hb.size
  replace X : Hid (Box3 v19 vb 24 (.int .i64 z) (.slice a n c) (.string r)) := X.out.below hb
  replace Rg : Hid (Num v19 ag N (mkC 1)) := Rg.out.below hb
  clear hb HD
  clear Rg rr HE TO X SU
  go_wp2
  go_ret
  exact ⟨rfl, A1.out⟩
end Go.Proofs.Ytiagpeefambggab
