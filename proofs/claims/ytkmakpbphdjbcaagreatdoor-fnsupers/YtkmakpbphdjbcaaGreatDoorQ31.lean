/-
  Texts of the proof, joined: SupI, SupB, IntE, IntK, NumsL, SupFr, SupCt.
-/
import Derived.Test.YtkmakpbphdjbcaaGreatDoorQ13
import Derived.Deep.Cut
import Derived.Test.YtkmakpbphdjbcaaGreatDoorQ30
import Derived.WalkKit
import Derived.ProofKit
import Derived.WalkSmall
import Derived.Lib.SliceRun
import Derived.Lib.AppendZeros
import Derived.Deep.QuietTactic
import Derived.BigQuiet
import Derived.Test.YtkmakpbphdjbcaaGreatDoorQ18
namespace Go.Proofs.YtkmakpbphdjbcaaGreatDoor
open Go.ChangeShapes Go.WideShapes Go.ChangeAt Go.RowKit
set_option linter.unusedVariables false
theorem below_ab {B : Nat} {w v u : World} (h : Below B w v) (h' : Below v.heap.size v u) (hB : B ≤ v.heap.size) : Below B w u := h.trans (h'.mono hB)
theorem pl_elem : Tryz.prog.elem 23 = 36 := by kernel_rfl
theorem pl_under : Tryz.prog.underlying 23 = some (.slice (Tryz.prog.elem 23)) := by rw [pl_elem]; exact Tryz.underlying23
theorem pl_size (w : World) : (sizeOf (Tryz.prog.elem 23)).run Tryz.prog w = .ok 2 w := by kernel_rfl
set_option maxRecDepth 100000 in
set_option maxHeartbeats 4000000 in
theorem implSupOK_any (z : Int) (a : Option Addr) (n c : Nat) (P : Nat → Plc) (r : ByteArray) (hsl : SlP a n c) (hn : n ≤ 1048576) (w : World) (h : Els w 2 a n (pcF P)) (y : Bool) (hy : y = gB (SupOk z n P r)) :
    Calls Tryz.prog 8 #[.agg #[.int .i64 z, .slice a n c, .string r]] w fun e w' => e = .returned (.bool y) ∧ Below w.heap.size w w' := by
  have A0 : Hid (Below w.heap.size w (w.alloc (.cells #[.int .i64 z, .slice a n c, .string r] 25))) := (Below.refl _ _).alloc (Nat.le_refl _) _
  have X : Hid (Box3 (w.alloc (.cells #[.int .i64 z, .slice a n c, .string r] 25)) w.heap.size 25 (.int .i64 z) (.slice a n c) (.string r)) := Box3.made _ _ _ _ _
  have E0 : Hid (Els (w.alloc (.cells #[.int .i64 z, .slice a n c, .string r] 25)) 2 a n (pcF P)) := h.below A0.out
  have HY : Hid (y = gB (SupOk z n P r)) := hy
  have HS : Hid (SlP a n c) := hsl
  have HN : Hid (n ≤ 1048576) := hn
  clear h hy hsl hn
  by_cases hz : 0 ≤ z ∧ z ≤ 1024
  · obtain ⟨m, rfl⟩ := Int.eq_ofNat_of_zero_le hz.1
    have hm : m ≤ 1024 := by omega
    have PC : Hid (∀ w : World, Calls Tryz.prog 25 #[.int .i64 (m : Int)] w fun e w' => e = .returned (.tuple #[.int .i64 ((pcsN m : Nat) : Int), .int .i64 0]) ∧ w = w') := fun w => implPc_ok m hm w
    by_cases h0 : pcsN m = 0
    · obtain rfl : y = false := by
        rw [HY.out]
        refine gB_no (fun q => ?_)
        have := q.1.1
        unfold pcsN at h0
        omega
      rw [h0] at PC
      have k0 := X.out.c0
      have k1 := X.out.c1
      have k2 := X.out.c2
      clear HY hz hm h0
      go_enter Tryz.func8, Tryz.ntmps8
      go_wp2_with fail
      refine (PC.out _).mono ?_
      rintro e _ ⟨rfl, rfl⟩
      go_wp2
      go_ret
      exact ⟨rfl, A0.out⟩
    · by_cases h1 : n = pcsN m
      · by_cases h2 : r.size = 32
        · have h2' : ((r.size : Int) != 32) = false := by simp; omega
          have h1' : ((n : Int) != (n : Int)) = false := by simp
          have h0' : ((n : Int) == 0) = false := by simp; omega
          have n16 : (n : Int) ≤ 16 := by have := pcsN_le hm; omega
          have HT : Hid ((∀ i, i < n → PlOne P i) → y = true) := fun q => by rw [HY.out]; exact gB_yes ⟨⟨by unfold pcsN at h0; omega, by omega, by rw [h1]; rfl, h2⟩, q⟩
          have HF : Hid (∀ i, i < n → ¬ PlOne P i → y = false) := fun i hi q => by rw [HY.out]; exact gB_no (fun t => q (t.2 i hi))
          rw [← h1] at PC
          have k0 := X.out.c0
          have k1 := X.out.c1
          have k2 := X.out.c2
          clear HY hz hm h0 h1 h2
          go_enter Tryz.func8, Tryz.ntmps8
          go_wp2_with fail
          refine (PC.out _).mono ?_
          rintro e _ ⟨rfl, rfl⟩
          go_upto_region 4 with fail
          clear k0 k1 k2 PC
          generalize (w.alloc (.cells #[.int .i64 (m : Int), .slice a n c, .string r] 25)) = v at *
          obtain ⟨vb, hvb⟩ : ∃ x, x = w.heap.size := ⟨_, rfl⟩
          have VB : Hid (vb = w.heap.size) := hvb
          rw [← hvb] at X ⊢
          clear hvb
          go_wp2
          go_loopw [33] (fun i wr => ∃ k : Nat, k ≤ n ∧ i = .int .i64 k ∧ (∀ j, j < k → PlOne P j) ∧ Below v.heap.size v wr) (fun i _ => n - (intOf i).toNat)
          case atStart => exact ⟨0, by omega, rfl, fun j hj => absurd hj (by omega), Below.refl _ _⟩
          case round =>
            obtain ⟨k, hk, rfl, hall, hb⟩ := hrel
            have HA : Hid (∀ j, j < k → PlOne P j) := hall
            have HB : Hid (Below v.heap.size v wr) := hb
            clear hall
            by_cases hlt : k < n
            · have hlt' : (k : Int) < (n : Int) := by omega
              have k0 : (0 : Int) ≤ (k : Int) := by omega
              have HK : Hid (k < n) := hlt
              obtain ⟨b, off, rfl, hc⟩ := (E0.out.below hb).opened (by omega)
              have c0 : wr.cell? ⟨b, off + k * 2, none⟩ = some (.int .i64 (P k).bk) := hc k hlt 0 (by omega)
              have c1 : wr.cell? ⟨b, off + k * 2 + 1, none⟩ = some (.int .i64 (P k).vs) := hc k hlt 1 (by omega)
              have x1 := (X.out.below hb).c1
              have CT : ∀ w : World, (Instr.slice 23 (.slice (some ⟨b, off, none⟩) n c) none (some (.int .i64 (k : Int))) none).run Tryz.prog w = .ok (.slice (some ⟨b, off, none⟩) k c) w := fun w => run_cut_to 23 pl_under 2 pl_size HS.out k (by have := HS.out.le; omega) w
              have HP : Hid (PlOne P k ↔ ((P k).Ok ∧ ∀ j, j < k → (P j).bk ≠ (P k).bk)) := Iff.rfl
              have HF2 : Hid (¬ ((P k).Ok ∧ ∀ j, j < k → (P j).bk ≠ (P k).bk) → y = false) := HF.out k hlt
              have HT2 : Hid ((P k).Ok ∧ (∀ j, j < k → (P j).bk ≠ (P k).bk) → ∀ j, j < k + 1 → PlOne P j) := fun q j hj => by
                by_cases e : j = k
                · subst e; exact q
                · exact HA.out j (by omega)
              have PK : Hid (∀ (q : Bool), q = gB ((P k).Ok) → ∀ w : World, Calls Tryz.prog 28 #[.agg #[.int .i64 (P k).bk, .int .i64 (P k).vs]] w fun e w' => e = .returned (.bool q) ∧ Below w.heap.size w w') := fun q hq w => placeOK_any _ _ q hq w
              have HBk : Hid (∀ (q : Bool), q = gB (∃ i, i < k ∧ (P i).bk = (P k).bk) → ∀ w : World, Els w 2 (some ⟨b, off, none⟩) n (pcF P) → Calls Tryz.prog 29 #[.slice (some ⟨b, off, none⟩) k c, .int .i64 (P k).bk] w fun e w' => e = .returned (.bool q) ∧ Below w.heap.size w w') := fun q hq w h => hasBlock_any _ k c P _ (by have := HN.out; omega) w (h.less (by omega)) q hq
              obtain ⟨bk, hbk⟩ : ∃ x, x = (P k).bk := ⟨_, rfl⟩
              obtain ⟨vs, hvs⟩ : ∃ x, x = (P k).vs := ⟨_, rfl⟩
              have DK : (P k).Ok ∨ ¬ (P k).Ok := Classical.em _
              have DH : (∃ i, i < k ∧ (P i).bk = (P k).bk) ∨ ¬ (∃ i, i < k ∧ (P i).bk = (P k).bk) := Classical.em _
              have HNN : Hid (¬ (∃ i, i < k ∧ (P i).bk = (P k).bk) → ∀ j, j < k → (P j).bk ≠ (P k).bk) := fun q j hj e => q ⟨j, hj, e⟩
              have HYY : Hid ((∃ i, i < k ∧ (P i).bk = (P k).bk) → ¬ ∀ j, j < k → (P j).bk ≠ (P k).bk) := fun ⟨i, hi, e⟩ q => q i hi e
              rw [← hbk, ← hvs] at PK
              rw [← hbk] at c0 HBk DH HNN HYY HF2 HT2
              rw [← hvs] at c1
              clear hbk hvs hc hlt hk HP HF
              have PT : (P k).Ok → Hid (∀ w : World, Calls Tryz.prog 28 #[.agg #[.int .i64 bk, .int .i64 vs]] w fun e w' => e = .returned (.bool true) ∧ Below w.heap.size w w') := fun q => PK.out true (gB_yes q).symm
              have PF : ¬ (P k).Ok → Hid (∀ w : World, Calls Tryz.prog 28 #[.agg #[.int .i64 bk, .int .i64 vs]] w fun e w' => e = .returned (.bool false) ∧ Below w.heap.size w w') := fun q => PK.out false (gB_no q).symm
              have HBT : (∃ i, i < k ∧ (P i).bk = bk) → Hid (∀ w : World, Els w 2 (some ⟨b, off, none⟩) n (pcF P) → Calls Tryz.prog 29 #[.slice (some ⟨b, off, none⟩) k c, .int .i64 bk] w fun e w' => e = .returned (.bool true) ∧ Below w.heap.size w w') := fun q => HBk.out true (gB_yes q).symm
              have HBF : ¬ (∃ i, i < k ∧ (P i).bk = bk) → Hid (∀ w : World, Els w 2 (some ⟨b, off, none⟩) n (pcF P) → Calls Tryz.prog 29 #[.slice (some ⟨b, off, none⟩) k c, .int .i64 bk] w fun e w' => e = .returned (.bool false) ∧ Below w.heap.size w w') := fun q => HBk.out false (gB_no q).symm
              have hb2 : Below wr.heap.size wr (wr.alloc (.cells #[.int .i64 bk, .int .i64 vs] 36)) := (Below.refl _ _).alloc (Nat.le_refl _) _
              have B2 : Hid (Box2 (wr.alloc (.cells #[.int .i64 bk, .int .i64 vs] 36)) wr.heap.size 36 (.int .i64 bk) (.int .i64 vs)) := Box2.made _ _ _ _
              have X2 : Hid (Box3 (wr.alloc (.cells #[.int .i64 bk, .int .i64 vs] 36)) vb 25 (.int .i64 (m : Int)) (.slice (some ⟨b, off, none⟩) n c) (.string r)) := (X.out.below hb).below hb2
              have E2 : Hid (Els (wr.alloc (.cells #[.int .i64 bk, .int .i64 vs] 36)) 2 (some ⟨b, off, none⟩) n (pcF P)) := (E0.out.below hb).below hb2
              have HB2 : Hid (Below v.heap.size v (wr.alloc (.cells #[.int .i64 bk, .int .i64 vs] 36))) := hb.trans (hb2.mono hb.size)
              clear hb hb2 HB PK HBk
              go_upto_region 8 with fail
              clear x1 c0 c1
              generalize (wr.alloc (.cells #[.int .i64 bk, .int .i64 vs] 36)) = v2 at *
              generalize wr.heap.size = pb at *
              rcases DK with DK | DK
              · replace PT := PT DK
                clear PF
                rcases DH with DH | DH
                · replace HBT := HBT DH
                  obtain rfl := HF2.out (fun q => HYY.out DH q.2)
                  clear HBF HF2 HT2 HNN HYY DK DH HT
                  have H : Below v2.heap.size v2 v2.drew := (Below.refl _ _).drew
                  refine wp_region_noPanic ?_
                  refine wp_region_held_drew (S := fun w' => Below v2.heap.size v2 w') (by kernel_rfl) H (fun _ => ?_)
                  generalize v2.drew = x0 at *
                  refine wpAnyH_take (i := 0) (v := .agg #[.int .i64 bk, .int .i64 vs]) rfl (by kernel_rfl) (by kernel_rfl) (by kernel_rfl) (fun _ _ _ h => h) (Or.inl ⟨by rfl, ?_⟩) H ?_
                  · intro w' hSw; have q0 := (B2.out.below hSw).c0; have q1 := (B2.out.below hSw).c1; clear hSw; go_simp
                  change wpAnyH _ _ _ _ _ _ _ { tmps := #[_,_,_,_,_,_,_,_,_,_,_,_,_,_,_,_,_,_,_,_,_,_,_,_,_,_,_,_,_,_,_,_,_,_,_,_,_,_,_,_,_,_,_,_,_,_,_,_,_,_,_,_,_,_], defers := _ } _
                  refine wpAnyH_ready (rs := [1]) (by kernel_rfl) (by simp) ?_
                  refine AllReadyH.cons rfl (fun KK hK => ?_) AllReadyH.nil
                  go_simp
                  refine (PT.out _).mono ?_
                  rintro e x1 ⟨rfl, hb⟩
                  replace H : Below v2.heap.size v2 x1 := H.trans (hb.mono H.size)
                  clear hb
                  refine hK.out _ _ H (fun _ => ?_)
                  clear hK KK
                  change wpAnyH _ _ _ _ _ _ _ { tmps := #[_,_,_,_,_,_,_,_,_,_,_,_,_,_,_,_,_,_,_,_,_,_,_,_,_,_,_,_,_,_,_,_,_,_,_,_,_,_,_,_,_,_,_,_,_,_,_,_,_,_,_,_,_,_], defers := _ } _
                  refine wpAnyH_take (i := 2) (v := .bool false) rfl (by kernel_rfl) (by kernel_rfl) (by kernel_rfl) (fun _ _ _ h => h) (Or.inl ⟨by rfl, ?_⟩) H ?_
                  · intro w' hSw; clear hSw; go_simp
                  change wpAnyH _ _ _ _ _ _ _ { tmps := #[_,_,_,_,_,_,_,_,_,_,_,_,_,_,_,_,_,_,_,_,_,_,_,_,_,_,_,_,_,_,_,_,_,_,_,_,_,_,_,_,_,_,_,_,_,_,_,_,_,_,_,_,_,_], defers := _ } _
                  refine wpAnyH_take (i := 3) (v := .bool false) rfl (by kernel_rfl) (by kernel_rfl) (by kernel_rfl) (fun _ _ _ h => h) (Or.inl ⟨by rfl, ?_⟩) H ?_
                  · intro w' hSw; clear hSw; go_simp
                  change wpAnyH _ _ _ _ _ _ _ { tmps := #[_,_,_,_,_,_,_,_,_,_,_,_,_,_,_,_,_,_,_,_,_,_,_,_,_,_,_,_,_,_,_,_,_,_,_,_,_,_,_,_,_,_,_,_,_,_,_,_,_,_,_,_,_,_], defers := _ } _
                  refine wpAnyH_take (i := 4) (v := .pointer (some ⟨vb, 1, none⟩)) rfl (by kernel_rfl) (by kernel_rfl) (by kernel_rfl) (fun _ _ _ h => h) (Or.inl ⟨by rfl, ?_⟩) H ?_
                  · intro w' hSw; clear hSw; go_simp
                  change wpAnyH _ _ _ _ _ _ _ { tmps := #[_,_,_,_,_,_,_,_,_,_,_,_,_,_,_,_,_,_,_,_,_,_,_,_,_,_,_,_,_,_,_,_,_,_,_,_,_,_,_,_,_,_,_,_,_,_,_,_,_,_,_,_,_,_], defers := _ } _
                  refine wpAnyH_take (i := 5) (v := .slice (some ⟨b, off, none⟩) n c) rfl (by kernel_rfl) (by kernel_rfl) (by kernel_rfl) (fun _ _ _ h => h) (Or.inl ⟨by rfl, ?_⟩) H ?_
                  · intro w' hSw; have q0 := (X2.out.below hSw).c1; clear hSw; go_simp
                  change wpAnyH _ _ _ _ _ _ _ { tmps := #[_,_,_,_,_,_,_,_,_,_,_,_,_,_,_,_,_,_,_,_,_,_,_,_,_,_,_,_,_,_,_,_,_,_,_,_,_,_,_,_,_,_,_,_,_,_,_,_,_,_,_,_,_,_], defers := _ } _
                  refine wpAnyH_take (i := 6) (v := .int .i64 (k : Int)) rfl (by kernel_rfl) (by kernel_rfl) (by kernel_rfl) (fun _ _ _ h => h) (Or.inl ⟨by rfl, ?_⟩) H ?_
                  · intro w' hSw; clear hSw; go_simp
                  change wpAnyH _ _ _ _ _ _ _ { tmps := #[_,_,_,_,_,_,_,_,_,_,_,_,_,_,_,_,_,_,_,_,_,_,_,_,_,_,_,_,_,_,_,_,_,_,_,_,_,_,_,_,_,_,_,_,_,_,_,_,_,_,_,_,_,_], defers := _ } _
                  refine wpAnyH_take (i := 7) (v := .slice (some ⟨b, off, none⟩) k c) rfl (by kernel_rfl) (by kernel_rfl) (by kernel_rfl) (fun _ _ _ h => h) (Or.inl ⟨by rfl, ?_⟩) H ?_
                  · intro w' hSw; clear hSw; go_simp
                  change wpAnyH _ _ _ _ _ _ _ { tmps := #[_,_,_,_,_,_,_,_,_,_,_,_,_,_,_,_,_,_,_,_,_,_,_,_,_,_,_,_,_,_,_,_,_,_,_,_,_,_,_,_,_,_,_,_,_,_,_,_,_,_,_,_,_,_], defers := _ } _
                  refine wpAnyH_take (i := 8) (v := .pointer (some ⟨pb, 0, none⟩)) rfl (by kernel_rfl) (by kernel_rfl) (by kernel_rfl) (fun _ _ _ h => h) (Or.inl ⟨by rfl, ?_⟩) H ?_
                  · intro w' hSw; clear hSw; go_simp
                  change wpAnyH _ _ _ _ _ _ _ { tmps := #[_,_,_,_,_,_,_,_,_,_,_,_,_,_,_,_,_,_,_,_,_,_,_,_,_,_,_,_,_,_,_,_,_,_,_,_,_,_,_,_,_,_,_,_,_,_,_,_,_,_,_,_,_,_], defers := _ } _
                  refine wpAnyH_take (i := 9) (v := .int .i64 bk) rfl (by kernel_rfl) (by kernel_rfl) (by kernel_rfl) (fun _ _ _ h => h) (Or.inl ⟨by rfl, ?_⟩) H ?_
                  · intro w' hSw; have q0 := (B2.out.below hSw).c0; clear hSw; go_simp
                  change wpAnyH _ _ _ _ _ _ _ { tmps := #[_,_,_,_,_,_,_,_,_,_,_,_,_,_,_,_,_,_,_,_,_,_,_,_,_,_,_,_,_,_,_,_,_,_,_,_,_,_,_,_,_,_,_,_,_,_,_,_,_,_,_,_,_,_], defers := _ } _
                  refine wpAnyH_ready (rs := [10]) (by kernel_rfl) (by simp) ?_
                  refine AllReadyH.cons rfl (fun KK hK => ?_) AllReadyH.nil
                  go_simp
                  refine (HBT.out _ (E2.out.below H)).mono ?_
                  rintro e x2 ⟨rfl, hb⟩
                  replace H : Below v2.heap.size v2 x2 := H.trans (hb.mono H.size)
                  clear hb
                  refine hK.out _ _ H (fun _ => ?_)
                  clear hK KK
                  change wpAnyH _ _ _ _ _ _ _ { tmps := #[_,_,_,_,_,_,_,_,_,_,_,_,_,_,_,_,_,_,_,_,_,_,_,_,_,_,_,_,_,_,_,_,_,_,_,_,_,_,_,_,_,_,_,_,_,_,_,_,_,_,_,_,_,_], defers := _ } _
                  refine wpAnyH_take (i := 11) (v := .bool true) rfl (by kernel_rfl) (by kernel_rfl) (by kernel_rfl) (fun _ _ _ h => h) (Or.inl ⟨by rfl, ?_⟩) H ?_
                  · intro w' hSw; clear hSw; go_simp
                  change wpAnyH _ _ _ _ _ _ _ { tmps := #[_,_,_,_,_,_,_,_,_,_,_,_,_,_,_,_,_,_,_,_,_,_,_,_,_,_,_,_,_,_,_,_,_,_,_,_,_,_,_,_,_,_,_,_,_,_,_,_,_,_,_,_,_,_], defers := _ } _
                  refine wpAnyH_done (by kernel_rfl) ?_ _
                  refine NoPanic.normal ?_
                  have B3 : Hid (Below w.heap.size w x2) := below_ab A0.out (below_ab HB2.out H HB2.out.size) A0.out.size
                  clear H
                  go_wp2
                  go_ret
                  exact ⟨rfl, B3.out⟩
                · replace HBF := HBF DH
                  have HT3 : Hid (∀ j, j < k + 1 → PlOne P j) := HT2.out ⟨DK, HNN.out DH⟩
                  clear HBT HF2 HT2 HNN HYY DK DH
                  have H : Below v2.heap.size v2 v2.drew := (Below.refl _ _).drew
                  refine wp_region_noPanic ?_
                  refine wp_region_held_drew (S := fun w' => Below v2.heap.size v2 w') (by kernel_rfl) H (fun _ => ?_)
                  generalize v2.drew = x0 at *
                  refine wpAnyH_take (i := 0) (v := .agg #[.int .i64 bk, .int .i64 vs]) rfl (by kernel_rfl) (by kernel_rfl) (by kernel_rfl) (fun _ _ _ h => h) (Or.inl ⟨by rfl, ?_⟩) H ?_
                  · intro w' hSw; have q0 := (B2.out.below hSw).c0; have q1 := (B2.out.below hSw).c1; clear hSw; go_simp
                  change wpAnyH _ _ _ _ _ _ _ { tmps := #[_,_,_,_,_,_,_,_,_,_,_,_,_,_,_,_,_,_,_,_,_,_,_,_,_,_,_,_,_,_,_,_,_,_,_,_,_,_,_,_,_,_,_,_,_,_,_,_,_,_,_,_,_,_], defers := _ } _
                  refine wpAnyH_ready (rs := [1]) (by kernel_rfl) (by simp) ?_
                  refine AllReadyH.cons rfl (fun KK hK => ?_) AllReadyH.nil
                  go_simp
                  refine (PT.out _).mono ?_
                  rintro e x1 ⟨rfl, hb⟩
                  replace H : Below v2.heap.size v2 x1 := H.trans (hb.mono H.size)
                  clear hb
                  refine hK.out _ _ H (fun _ => ?_)
                  clear hK KK
                  change wpAnyH _ _ _ _ _ _ _ { tmps := #[_,_,_,_,_,_,_,_,_,_,_,_,_,_,_,_,_,_,_,_,_,_,_,_,_,_,_,_,_,_,_,_,_,_,_,_,_,_,_,_,_,_,_,_,_,_,_,_,_,_,_,_,_,_], defers := _ } _
                  refine wpAnyH_take (i := 2) (v := .bool false) rfl (by kernel_rfl) (by kernel_rfl) (by kernel_rfl) (fun _ _ _ h => h) (Or.inl ⟨by rfl, ?_⟩) H ?_
                  · intro w' hSw; clear hSw; go_simp
                  change wpAnyH _ _ _ _ _ _ _ { tmps := #[_,_,_,_,_,_,_,_,_,_,_,_,_,_,_,_,_,_,_,_,_,_,_,_,_,_,_,_,_,_,_,_,_,_,_,_,_,_,_,_,_,_,_,_,_,_,_,_,_,_,_,_,_,_], defers := _ } _
                  refine wpAnyH_take (i := 3) (v := .bool false) rfl (by kernel_rfl) (by kernel_rfl) (by kernel_rfl) (fun _ _ _ h => h) (Or.inl ⟨by rfl, ?_⟩) H ?_
                  · intro w' hSw; clear hSw; go_simp
                  change wpAnyH _ _ _ _ _ _ _ { tmps := #[_,_,_,_,_,_,_,_,_,_,_,_,_,_,_,_,_,_,_,_,_,_,_,_,_,_,_,_,_,_,_,_,_,_,_,_,_,_,_,_,_,_,_,_,_,_,_,_,_,_,_,_,_,_], defers := _ } _
                  refine wpAnyH_take (i := 4) (v := .pointer (some ⟨vb, 1, none⟩)) rfl (by kernel_rfl) (by kernel_rfl) (by kernel_rfl) (fun _ _ _ h => h) (Or.inl ⟨by rfl, ?_⟩) H ?_
                  · intro w' hSw; clear hSw; go_simp
                  change wpAnyH _ _ _ _ _ _ _ { tmps := #[_,_,_,_,_,_,_,_,_,_,_,_,_,_,_,_,_,_,_,_,_,_,_,_,_,_,_,_,_,_,_,_,_,_,_,_,_,_,_,_,_,_,_,_,_,_,_,_,_,_,_,_,_,_], defers := _ } _
                  refine wpAnyH_take (i := 5) (v := .slice (some ⟨b, off, none⟩) n c) rfl (by kernel_rfl) (by kernel_rfl) (by kernel_rfl) (fun _ _ _ h => h) (Or.inl ⟨by rfl, ?_⟩) H ?_
                  · intro w' hSw; have q0 := (X2.out.below hSw).c1; clear hSw; go_simp
                  change wpAnyH _ _ _ _ _ _ _ { tmps := #[_,_,_,_,_,_,_,_,_,_,_,_,_,_,_,_,_,_,_,_,_,_,_,_,_,_,_,_,_,_,_,_,_,_,_,_,_,_,_,_,_,_,_,_,_,_,_,_,_,_,_,_,_,_], defers := _ } _
                  refine wpAnyH_take (i := 6) (v := .int .i64 (k : Int)) rfl (by kernel_rfl) (by kernel_rfl) (by kernel_rfl) (fun _ _ _ h => h) (Or.inl ⟨by rfl, ?_⟩) H ?_
                  · intro w' hSw; clear hSw; go_simp
                  change wpAnyH _ _ _ _ _ _ _ { tmps := #[_,_,_,_,_,_,_,_,_,_,_,_,_,_,_,_,_,_,_,_,_,_,_,_,_,_,_,_,_,_,_,_,_,_,_,_,_,_,_,_,_,_,_,_,_,_,_,_,_,_,_,_,_,_], defers := _ } _
                  refine wpAnyH_take (i := 7) (v := .slice (some ⟨b, off, none⟩) k c) rfl (by kernel_rfl) (by kernel_rfl) (by kernel_rfl) (fun _ _ _ h => h) (Or.inl ⟨by rfl, ?_⟩) H ?_
                  · intro w' hSw; clear hSw; go_simp
                  change wpAnyH _ _ _ _ _ _ _ { tmps := #[_,_,_,_,_,_,_,_,_,_,_,_,_,_,_,_,_,_,_,_,_,_,_,_,_,_,_,_,_,_,_,_,_,_,_,_,_,_,_,_,_,_,_,_,_,_,_,_,_,_,_,_,_,_], defers := _ } _
                  refine wpAnyH_take (i := 8) (v := .pointer (some ⟨pb, 0, none⟩)) rfl (by kernel_rfl) (by kernel_rfl) (by kernel_rfl) (fun _ _ _ h => h) (Or.inl ⟨by rfl, ?_⟩) H ?_
                  · intro w' hSw; clear hSw; go_simp
                  change wpAnyH _ _ _ _ _ _ _ { tmps := #[_,_,_,_,_,_,_,_,_,_,_,_,_,_,_,_,_,_,_,_,_,_,_,_,_,_,_,_,_,_,_,_,_,_,_,_,_,_,_,_,_,_,_,_,_,_,_,_,_,_,_,_,_,_], defers := _ } _
                  refine wpAnyH_take (i := 9) (v := .int .i64 bk) rfl (by kernel_rfl) (by kernel_rfl) (by kernel_rfl) (fun _ _ _ h => h) (Or.inl ⟨by rfl, ?_⟩) H ?_
                  · intro w' hSw; have q0 := (B2.out.below hSw).c0; clear hSw; go_simp
                  change wpAnyH _ _ _ _ _ _ _ { tmps := #[_,_,_,_,_,_,_,_,_,_,_,_,_,_,_,_,_,_,_,_,_,_,_,_,_,_,_,_,_,_,_,_,_,_,_,_,_,_,_,_,_,_,_,_,_,_,_,_,_,_,_,_,_,_], defers := _ } _
                  refine wpAnyH_ready (rs := [10]) (by kernel_rfl) (by simp) ?_
                  refine AllReadyH.cons rfl (fun KK hK => ?_) AllReadyH.nil
                  go_simp
                  refine (HBF.out _ (E2.out.below H)).mono ?_
                  rintro e x2 ⟨rfl, hb⟩
                  replace H : Below v2.heap.size v2 x2 := H.trans (hb.mono H.size)
                  clear hb
                  refine hK.out _ _ H (fun _ => ?_)
                  clear hK KK
                  change wpAnyH _ _ _ _ _ _ _ { tmps := #[_,_,_,_,_,_,_,_,_,_,_,_,_,_,_,_,_,_,_,_,_,_,_,_,_,_,_,_,_,_,_,_,_,_,_,_,_,_,_,_,_,_,_,_,_,_,_,_,_,_,_,_,_,_], defers := _ } _
                  refine wpAnyH_take (i := 11) (v := .bool false) rfl (by kernel_rfl) (by kernel_rfl) (by kernel_rfl) (fun _ _ _ h => h) (Or.inl ⟨by rfl, ?_⟩) H ?_
                  · intro w' hSw; clear hSw; go_simp
                  change wpAnyH _ _ _ _ _ _ _ { tmps := #[_,_,_,_,_,_,_,_,_,_,_,_,_,_,_,_,_,_,_,_,_,_,_,_,_,_,_,_,_,_,_,_,_,_,_,_,_,_,_,_,_,_,_,_,_,_,_,_,_,_,_,_,_,_], defers := _ } _
                  refine wpAnyH_done (by kernel_rfl) ?_ _
                  refine NoPanic.normal ?_
                  have B3 : Hid (Below v.heap.size v x2) := below_ab HB2.out H HB2.out.size
                  clear H
                  go_wp2
                  go_roundw
                  case rel => exact ⟨k + 1, by have := HK.out; omega, by go_num, HT3.out, B3.out⟩
                  case measure => have := HK.out; simp [intOf]; omega
              · replace PF := PF DK
                obtain rfl := HF2.out (fun q => DK q.1)
                clear PT HBT HBF HF2 HT2 HNN HYY DK DH HT
                have H : Below v2.heap.size v2 v2.drew := (Below.refl _ _).drew
                refine wp_region_noPanic ?_
                refine wp_region_held_drew (S := fun w' => Below v2.heap.size v2 w') (by kernel_rfl) H (fun _ => ?_)
                generalize v2.drew = x0 at *
                refine wpAnyH_take (i := 0) (v := .agg #[.int .i64 bk, .int .i64 vs]) rfl (by kernel_rfl) (by kernel_rfl) (by kernel_rfl) (fun _ _ _ h => h) (Or.inl ⟨by rfl, ?_⟩) H ?_
                · intro w' hSw; have q0 := (B2.out.below hSw).c0; have q1 := (B2.out.below hSw).c1; clear hSw; go_simp
                change wpAnyH _ _ _ _ _ _ _ { tmps := #[_,_,_,_,_,_,_,_,_,_,_,_,_,_,_,_,_,_,_,_,_,_,_,_,_,_,_,_,_,_,_,_,_,_,_,_,_,_,_,_,_,_,_,_,_,_,_,_,_,_,_,_,_,_], defers := _ } _
                refine wpAnyH_ready (rs := [1]) (by kernel_rfl) (by simp) ?_
                refine AllReadyH.cons rfl (fun KK hK => ?_) AllReadyH.nil
                go_simp
                refine (PF.out _).mono ?_
                rintro e x1 ⟨rfl, hb⟩
                replace H : Below v2.heap.size v2 x1 := H.trans (hb.mono H.size)
                clear hb
                refine hK.out _ _ H (fun _ => ?_)
                clear hK KK
                change wpAnyH _ _ _ _ _ _ _ { tmps := #[_,_,_,_,_,_,_,_,_,_,_,_,_,_,_,_,_,_,_,_,_,_,_,_,_,_,_,_,_,_,_,_,_,_,_,_,_,_,_,_,_,_,_,_,_,_,_,_,_,_,_,_,_,_], defers := _ } _
                refine wpAnyH_take (i := 2) (v := .bool true) rfl (by kernel_rfl) (by kernel_rfl) (by kernel_rfl) (fun _ _ _ h => h) (Or.inl ⟨by rfl, ?_⟩) H ?_
                · intro w' hSw; clear hSw; go_simp
                change wpAnyH _ _ _ _ _ _ _ { tmps := #[_,_,_,_,_,_,_,_,_,_,_,_,_,_,_,_,_,_,_,_,_,_,_,_,_,_,_,_,_,_,_,_,_,_,_,_,_,_,_,_,_,_,_,_,_,_,_,_,_,_,_,_,_,_], defers := _ } _
                refine wpAnyH_take (i := 3) (v := .bool true) rfl (by kernel_rfl) (by kernel_rfl) (by kernel_rfl) (fun _ _ _ h => h) (Or.inl ⟨by rfl, ?_⟩) H ?_
                · intro w' hSw; clear hSw; go_simp
                change wpAnyH _ _ _ _ _ _ _ { tmps := #[_,_,_,_,_,_,_,_,_,_,_,_,_,_,_,_,_,_,_,_,_,_,_,_,_,_,_,_,_,_,_,_,_,_,_,_,_,_,_,_,_,_,_,_,_,_,_,_,_,_,_,_,_,_], defers := _ } _
                refine wpAnyH_take (i := 4) (v := undef) rfl (by kernel_rfl) (by kernel_rfl) (by kernel_rfl) (fun _ _ _ h => h) (Or.inr ⟨by rfl, rfl⟩) H ?_
                change wpAnyH _ _ _ _ _ _ _ { tmps := #[_,_,_,_,_,_,_,_,_,_,_,_,_,_,_,_,_,_,_,_,_,_,_,_,_,_,_,_,_,_,_,_,_,_,_,_,_,_,_,_,_,_,_,_,_,_,_,_,_,_,_,_,_,_], defers := _ } _
                refine wpAnyH_take (i := 5) (v := undef) rfl (by kernel_rfl) (by kernel_rfl) (by kernel_rfl) (fun _ _ _ h => h) (Or.inr ⟨by rfl, rfl⟩) H ?_
                change wpAnyH _ _ _ _ _ _ _ { tmps := #[_,_,_,_,_,_,_,_,_,_,_,_,_,_,_,_,_,_,_,_,_,_,_,_,_,_,_,_,_,_,_,_,_,_,_,_,_,_,_,_,_,_,_,_,_,_,_,_,_,_,_,_,_,_], defers := _ } _
                refine wpAnyH_take (i := 6) (v := undef) rfl (by kernel_rfl) (by kernel_rfl) (by kernel_rfl) (fun _ _ _ h => h) (Or.inr ⟨by rfl, rfl⟩) H ?_
                change wpAnyH _ _ _ _ _ _ _ { tmps := #[_,_,_,_,_,_,_,_,_,_,_,_,_,_,_,_,_,_,_,_,_,_,_,_,_,_,_,_,_,_,_,_,_,_,_,_,_,_,_,_,_,_,_,_,_,_,_,_,_,_,_,_,_,_], defers := _ } _
                refine wpAnyH_take (i := 7) (v := undef) rfl (by kernel_rfl) (by kernel_rfl) (by kernel_rfl) (fun _ _ _ h => h) (Or.inr ⟨by rfl, rfl⟩) H ?_
                change wpAnyH _ _ _ _ _ _ _ { tmps := #[_,_,_,_,_,_,_,_,_,_,_,_,_,_,_,_,_,_,_,_,_,_,_,_,_,_,_,_,_,_,_,_,_,_,_,_,_,_,_,_,_,_,_,_,_,_,_,_,_,_,_,_,_,_], defers := _ } _
                refine wpAnyH_take (i := 8) (v := undef) rfl (by kernel_rfl) (by kernel_rfl) (by kernel_rfl) (fun _ _ _ h => h) (Or.inr ⟨by rfl, rfl⟩) H ?_
                change wpAnyH _ _ _ _ _ _ _ { tmps := #[_,_,_,_,_,_,_,_,_,_,_,_,_,_,_,_,_,_,_,_,_,_,_,_,_,_,_,_,_,_,_,_,_,_,_,_,_,_,_,_,_,_,_,_,_,_,_,_,_,_,_,_,_,_], defers := _ } _
                refine wpAnyH_take (i := 9) (v := undef) rfl (by kernel_rfl) (by kernel_rfl) (by kernel_rfl) (fun _ _ _ h => h) (Or.inr ⟨by rfl, rfl⟩) H ?_
                change wpAnyH _ _ _ _ _ _ _ { tmps := #[_,_,_,_,_,_,_,_,_,_,_,_,_,_,_,_,_,_,_,_,_,_,_,_,_,_,_,_,_,_,_,_,_,_,_,_,_,_,_,_,_,_,_,_,_,_,_,_,_,_,_,_,_,_], defers := _ } _
                refine wpAnyH_take (i := 10) (v := undef) rfl (by kernel_rfl) (by kernel_rfl) (by kernel_rfl) (fun _ _ _ h => h) (Or.inr ⟨by rfl, rfl⟩) H ?_
                change wpAnyH _ _ _ _ _ _ _ { tmps := #[_,_,_,_,_,_,_,_,_,_,_,_,_,_,_,_,_,_,_,_,_,_,_,_,_,_,_,_,_,_,_,_,_,_,_,_,_,_,_,_,_,_,_,_,_,_,_,_,_,_,_,_,_,_], defers := _ } _
                refine wpAnyH_take (i := 11) (v := .bool true) rfl (by kernel_rfl) (by kernel_rfl) (by kernel_rfl) (fun _ _ _ h => h) (Or.inl ⟨by rfl, ?_⟩) H ?_
                · intro w' hSw; clear hSw; go_simp
                change wpAnyH _ _ _ _ _ _ _ { tmps := #[_,_,_,_,_,_,_,_,_,_,_,_,_,_,_,_,_,_,_,_,_,_,_,_,_,_,_,_,_,_,_,_,_,_,_,_,_,_,_,_,_,_,_,_,_,_,_,_,_,_,_,_,_,_], defers := _ } _
                refine wpAnyH_done (by kernel_rfl) ?_ _
                refine NoPanic.normal ?_
                have B3 : Hid (Below w.heap.size w x1) := below_ab A0.out (below_ab HB2.out H HB2.out.size) A0.out.size
                clear H
                go_wp2
                go_ret
                exact ⟨rfl, B3.out⟩
            · obtain rfl : k = n := by omega
              obtain rfl := HT.out HA.out
              have B3 : Hid (Below w.heap.size w wr) := below_ab A0.out hb A0.out.size
              clear hb HB HT HF
              go_wp2
              go_ret
              exact ⟨rfl, B3.out⟩
        · have h2' : ((r.size : Int) != 32) = true := by simp; omega
          have h1' : ((n : Int) != (n : Int)) = false := by simp
          have h0' : ((n : Int) == 0) = false := by simp; omega
          obtain rfl : y = false := by rw [HY.out]; exact gB_no (fun q => h2 q.1.2.2.2)
          rw [← h1] at PC
          have k0 := X.out.c0
          have k1 := X.out.c1
          have k2 := X.out.c2
          clear HY hz hm h0 h1 h2
          go_enter Tryz.func8, Tryz.ntmps8
          go_wp2_with fail
          refine (PC.out _).mono ?_
          rintro e _ ⟨rfl, rfl⟩
          go_wp2
          go_ret
          exact ⟨rfl, A0.out⟩
      · obtain rfl : y = false := by rw [HY.out]; exact gB_no (fun q => h1 (by have := q.1.2.2.1; simpa using this))
        have h1' : ((n : Int) != ((pcsN m : Nat) : Int)) = true := by simp; omega
        have h0' : (((pcsN m : Nat) : Int) == 0) = false := by simp; omega
        have k0 := X.out.c0
        have k1 := X.out.c1
        have k2 := X.out.c2
        clear HY hz hm h0 h1
        generalize ((pcsN m : Nat) : Int) = M at *
        go_enter Tryz.func8, Tryz.ntmps8
        go_wp2_with fail
        refine (PC.out _).mono ?_
        rintro e _ ⟨rfl, rfl⟩
        go_wp2
        go_ret
        exact ⟨rfl, A0.out⟩
  · obtain rfl : y = false := by rw [HY.out]; exact gB_no (fun q => hz ⟨by have := q.1.1; omega, q.1.2.1⟩)
    have PC : Hid (∀ w : World, Calls Tryz.prog 25 #[.int .i64 z] w fun e w' => e = .returned (.tuple #[.int .i64 0, .int .i64 4]) ∧ w = w') := fun w => implPc_no z hz w
    have k0 := X.out.c0
    have k1 := X.out.c1
    have k2 := X.out.c2
    clear HY hz
    go_enter Tryz.func8, Tryz.ntmps8
    go_wp2_with fail
    refine (PC.out _).mono ?_
    rintro e _ ⟨rfl, rfl⟩
    go_wp2
    go_ret
    exact ⟨rfl, A0.out⟩
end Go.Proofs.YtkmakpbphdjbcaaGreatDoor
namespace Go.Proofs.YtkmakpbphdjbcaaGreatDoor
open Go.ChangeShapes Go.WideShapes Go.ChangeAt Go.RowKit
set_option linter.unusedVariables false
end Go.Proofs.YtkmakpbphdjbcaaGreatDoor
namespace Go.Proofs.YtkmakpbphdjbcaaGreatDoor
open Go.ChangeShapes Go.WideShapes Go.ChangeAt Go.RowKit
set_option linter.unusedVariables false
def inF (C : Nat → Int) (i j : Nat) : Value := .int .i64 (C i)
def IE (w : World) (B : Nat) (v : Value) (n : Nat) (C : Nat → Int) : Prop := EO w B 3 1 v n (inF C)
theorem Tryz.infoInE : (Tryz.prog.info? 3).map (fun i => (i.zero, i.size, i.bytes)) = some (some (.int .i64 0), 1, 8) := by kernel_rfl
theorem IE.congr {w : World} {B : Nat} {v : Value} {n : Nat} {C D : Nat → Int} (h : IE w B v n C) (e : ∀ i, i < n → C i = D i) : IE w B v n D := EO.congr h (fun i hi j hj => by unfold inF; rw [e i hi])
def Num (w : World) (a : Option Addr) (n : Nat) (C : Nat → Int) : Prop := Els w 1 a n (inF C)
theorem Num.opened {w : World} {a : Option Addr} {n : Nat} {C : Nat → Int} (h : Num w a n C) (hn : 0 < n) : ∃ b off, a = some ⟨b, off, none⟩ ∧ ∀ i, i < n → w.cell? ⟨b, off + i, none⟩ = some (.int .i64 (C i)) := by
  obtain ⟨b, off, ha, hc⟩ := Els.opened h hn
  exact ⟨b, off, ha, fun i hi => by
    have := hc i hi 0 (by omega)
    rwa [Nat.mul_one, Nat.add_zero] at this⟩
theorem Num.below {w w' : World} {a : Option Addr} {n : Nat} {C : Nat → Int} (h : Num w a n C) (hb : Below w.heap.size w w') : Num w' a n C := Els.below h hb
theorem IE.num {w : World} {B : Nat} {a : Option Addr} {n c : Nat} {C : Nat → Int} (h : IE w B (.slice a n c) n C) : Num w a n C := EO.els h
set_option maxRecDepth 100000 in
theorem IE.app (w : World) (B : Nat) (v : Value) (n q : Nat) (C : Nat → Int) (x : Int) (hB : B ≤ w.heap.size) (hn : n ≤ 100000) (h : IE w B v n C) (hx : w.cell? ⟨q, 0, none⟩ = some (.int .i64 x)) :
    ∃ v' w', (∀ ty, (Builtin.append_ #[32, 32] ty #[v, .slice (some ⟨q, 0, none⟩) 1 1]).run Tryz.prog w = .ok v' w') ∧ IE w' B v' (n + 1) (updE C n x) ∧ w.grownBy w' v.ownBlock ∧ (v'.ownBlock = v.ownBlock ∨ v'.ownBlock = some w.heap.size) := by
  obtain ⟨i, hi, hz, hsz, hby⟩ := info_parts Tryz.infoInE
  obtain ⟨v', w', hr, ho, hg, _, hloc⟩ := run_append_own_at (P := Tryz.prog) w B 32 32 3 i _ 1 8 Tryz.underlying32 hi hz hsz hby rfl (by decide) v n _ h ⟨q, 0, none⟩ 1 1 [.int .i64 x] (by simp) (fun j u hj => by
    match j, hj with
    | 0, hj =>
      have e : Value.int .i64 x = u := by simpa using hj
      subst e
      exact hx) (fun u hu => by
      rw [List.mem_singleton.1 hu]; rfl) (by unfold maxLen; omega) (by omega) hB
  refine ⟨v', w', fun ty => hr, ?_, hg, hloc⟩
  unfold IE EO
  rw [elv_snoc, elv_congr (G := inF C) (fun i hi j hj => by unfold inF updE; rw [if_neg (by omega)])]
  have e : (List.range 1).map (inF (updE C n x) n) = [.int .i64 x] := by unfold inF updE; simp
  rw [e]
  exact ho
set_option maxRecDepth 100000 in
set_option maxHeartbeats 1000000 in
theorem lawHas_any (a : Option Addr) (m c : Nat) (TK : Nat → Int) (q : Int) (r : Bool) (hr : r = true ↔ ∃ j, j < m ∧ TK j = q) (hm : m ≤ 1000) (w : World) (h : Num w a m TK) :
    Calls Tryz.prog 10 #[.slice a m c, .int .i64 q] w fun e w' => e = .returned (.bool r) ∧ w = w' := by
  have RF : Hid ((∀ j, j < m → ¬ TK j = q) → r = false) := fun z => by cases r with
    | false => rfl
    | true => obtain ⟨j, hj, e⟩ := hr.1 rfl; exact absurd e (z j hj)
  have RT : Hid (∀ j, j < m → TK j = q → r = true) := fun j hj e => hr.2 ⟨j, hj, e⟩
  have HN : Hid (Num w a m TK) := h
  clear hr h
  go_enter Tryz.func10, Tryz.ntmps10
  go_wp2
  go_loopw [5] (fun i wr => ∃ k : Nat, k ≤ m ∧ i = .int .i64 (k : Int) ∧ (∀ j, j < k → ¬ TK j = q) ∧ wr = w) (fun i _ => m - (intOf i).toNat)
  case atStart => exact ⟨0, by omega, rfl, fun j hj => by omega, rfl⟩
  case round =>
    obtain ⟨k, hk, rfl, hj, rfl⟩ := hrel
    have HJ : Hid (∀ j, j < k → ¬ TK j = q) := hj
    clear hj
    by_cases hlt : k < m
    · obtain ⟨b, off, rfl, hc'⟩ := HN.out.opened (by omega)
      have hc := hc' k hlt
      clear hc'
      have hlt' : (k : Int) < (m : Int) := by omega
      have k0 : (0 : Int) ≤ (k : Int) := by omega
      by_cases e : TK k = q
      · obtain rfl : r = true := RT.out k hlt e
        have e2 : (TK k == q) = true := by simp [e]
        clear e RF RT
        go_wp2
        go_ret
        exact ⟨rfl, rfl⟩
      · have e2 : (TK k == q) = false := by simp; omega
        have HE : Hid (¬ TK k = q) := e
        clear e
        go_wp2
        go_roundw
        case rel => exact ⟨k + 1, by omega, by go_num, fun j hj => by
          rcases (show j < k ∨ j = k by omega) with g | rfl
          · exact HJ.out j g
          · exact HE.out, by trivial⟩
        case measure => simp [intOf]; omega
    · have hlt' : ¬ (k : Int) < (m : Int) := by omega
      obtain rfl : r = false := RF.out (fun j hj => HJ.out j (by omega))
      clear RF RT
      go_wp2
      go_ret
      exact ⟨rfl, rfl⟩
end Go.Proofs.YtkmakpbphdjbcaaGreatDoor
namespace Go.Proofs.YtkmakpbphdjbcaaGreatDoor
open Go.ChangeShapes Go.WideShapes Go.ChangeAt Go.RowKit
set_option linter.unusedVariables false
end Go.Proofs.YtkmakpbphdjbcaaGreatDoor
namespace Go.Proofs.YtkmakpbphdjbcaaGreatDoor
open Go.ChangeShapes Go.WideShapes Go.ChangeAt Go.RowKit
set_option linter.unusedVariables false
open Classical in
noncomputable def dirL (P : Nat → Prop) : Nat → List Nat
  | 0 => []
  | k + 1 => if P k then dirL P k ++ [k] else dirL P k
theorem dirL_yes {P : Nat → Prop} {k : Nat} (h : P k) : dirL P (k + 1) = dirL P k ++ [k] := by
  simp [dirL, h]
theorem dirL_no {P : Nat → Prop} {k : Nat} (h : ¬ P k) : dirL P (k + 1) = dirL P k := by
  simp [dirL, h]
theorem dirL_le (P : Nat → Prop) : ∀ k, (dirL P k).length ≤ k
  | 0 => by simp [dirL]
  | k + 1 => by
    have := dirL_le P k
    by_cases h : P k
    · rw [dirL_yes h, List.length_append]; simp; omega
    · rw [dirL_no h]; omega
theorem dirL_mem (P : Nat → Prop) (i : Nat) : ∀ k, i ∈ dirL P k ↔ i < k ∧ P i
  | 0 => by simp [dirL]
  | k + 1 => by
    have ih := dirL_mem P i k
    by_cases h : P k
    · rw [dirL_yes h, List.mem_append, ih, List.mem_singleton]
      constructor
      · rintro (⟨h1, h2⟩ | rfl)
        · exact ⟨by omega, h2⟩
        · exact ⟨by omega, h⟩
      · rintro ⟨h1, h2⟩
        by_cases e : i = k
        · exact .inr e
        · exact .inl ⟨by omega, h2⟩
    · rw [dirL_no h, ih]
      constructor
      · rintro ⟨h1, h2⟩
        exact ⟨by omega, h2⟩
      · rintro ⟨h1, h2⟩
        refine ⟨?_, h2⟩
        by_cases e : i = k
        · subst e; exact absurd h2 h
        · omega
def nthI (L : List Nat) (i : Nat) : Int := ((L.getD i 0 : Nat) : Int)
theorem nthI_snoc (L : List Nat) (x : Nat) (i : Nat) (h : i < L.length + 1) : updE (nthI L) L.length (x : Int) i = nthI (L ++ [x]) i := by
  unfold updE nthI
  by_cases e : i = L.length
  · subst e; rw [if_pos rfl]; simp
  · rw [if_neg e, List.getD_eq_getElem?_getD, List.getD_eq_getElem?_getD, List.getElem?_append_left (by omega)]
theorem litInt (w : World) (x : Int) : (w.alloc (.cells #[.int .i64 x] 3)).cell? ⟨w.heap.size, 0, none⟩ = some (.int .i64 x) := (World.rowIs_alloc w #[.int .i64 x] 3 (fun _ => .int .i64 x) (fun i hi => by
    obtain rfl : i = 0 := by simpa using hi
    rfl)).cell (i := 0) (by simp)
theorem appNum {w wr : World} {a : Option Addr} {q c : Nat} {L : List Nat} (x : Nat) (hq : q = L.length) (hl : q ≤ 1000) (h : IE wr w.heap.size (.slice a q c) q (nthI L)) (hb : Below w.heap.size w wr) :
    ∃ a' c' w', (∀ ty, (Builtin.append_ #[32, 32] ty #[.slice a q c, .slice (some ⟨wr.heap.size, 0, none⟩) 1 1]).run Tryz.prog (wr.alloc (.cells #[.int .i64 (x : Int)] 3)) = .ok (.slice a' (q + 1) c') w') ∧ IE w' w.heap.size (.slice a' (q + 1) c') (q + 1) (nthI (L ++ [x])) ∧ Below w.heap.size w w' := by
  have hsz := hb.size
  have hl2 : q ≤ 100000 := Nat.le_trans hl (by decide)
  have WB : Below wr.heap.size wr (wr.alloc (.cells #[.int .i64 (x : Int)] 3)) := (Below.refl _ _).alloc (Nat.le_refl _) _
  obtain ⟨v', w', hr, ho, hg, hloc⟩ := IE.app (wr.alloc (.cells #[.int .i64 (x : Int)] 3)) w.heap.size _ q wr.heap.size (nthI L) x (by simp; omega) hl2 (EO.below h WB) (litInt wr x)
  obtain ⟨a', c', rfl⟩ := EO.form ho
  refine ⟨a', c', w', hr, ho.congr (fun i hi => ?_), ?_⟩
  · subst hq; exact nthI_snoc L x i hi
  · exact (hb.trans (WB.mono (by omega))).grown hg (by simp; omega) (fun g e => (EO.ge h g e).1)
end Go.Proofs.YtkmakpbphdjbcaaGreatDoor
namespace Go.Proofs.YtkmakpbphdjbcaaGreatDoor
open Go.ChangeShapes Go.WideShapes Go.ChangeAt Go.RowKit
set_option linter.unusedVariables false
def FreeAt (n : Nat) (P : Nat → Plc) (i : Nat) : Prop := 2 ≤ i ∧ ¬ ∃ j, j < n ∧ (P j).bk = (i : Int)
theorem free2 (n : Nat) (P : Nat → Plc) : dirL (FreeAt n P) 2 = [] := by
  rw [dirL_no (fun h => absurd h.1 (by omega)), dirL_no (fun h => absurd h.1 (by omega))]
  rfl
theorem free1 (n : Nat) (P : Nat → Plc) : dirL (FreeAt n P) 1 = [] := by
  rw [dirL_no (fun h => absurd h.1 (by omega))]
  rfl
def FbIs (z : Int) (n : Nat) (P : Nat → Plc) (r : ByteArray) (k : Int) (L : List Nat) (c : Int) : Prop :=
  (¬ SupOk z n P r ∧ c = 1 ∧ L = []) ∨ (SupOk z n P r ∧ ¬ (1 ≤ k ∧ k ≤ 64) ∧ c = 4 ∧ L = []) ∨ (SupOk z n P r ∧ (1 ≤ k ∧ k ≤ 64) ∧ c = 0 ∧ L = dirL (FreeAt n P) k.toNat)
set_option maxRecDepth 100000 in
set_option maxHeartbeats 4000000 in
theorem beside_any (a : Option Addr) (n c m : Nat) (P : Nat → Plc) (hm : m ≤ 64) (hn : n ≤ 1048576) (w : World) (h : Els w 2 a n (pcF P)) :
    Calls Tryz.prog 30 #[.slice a n c, .int .i64 (m : Int)] w fun e w' => (∃ a' c', e = .returned (.slice a' (dirL (FreeAt n P) m).length c') ∧ IE w' w.heap.size (.slice a' (dirL (FreeAt n P) m).length c') (dirL (FreeAt n P) m).length (nthI (dirL (FreeAt n P) m))) ∧ Below w.heap.size w w' := by
  have HM : Hid (m ≤ 64) := hm
  have HL : Hid (∀ k, (dirL (FreeAt n P) k).length ≤ k) := dirL_le _
  have HBk : Hid (∀ (i : Nat) (q : Bool), q = gB (∃ j, j < n ∧ (P j).bk = (i : Int)) → ∀ w : World, Els w 2 a n (pcF P) → Calls Tryz.prog 29 #[.slice a n c, .int .i64 (i : Int)] w fun e w' => e = .returned (.bool q) ∧ Below w.heap.size w w') := fun i q hq w h => hasBlock_any a n c P (i : Int) hn w h q hq
  have EW0 : Hid (Els w 2 a n (pcF P)) := h
  clear h hn hm
  go_enter Tryz.func30, Tryz.ntmps30
  go_wp2
  go_loopw [5, 8] (fun s i wr => ∃ (k q c2 : Nat) (a2 : Option Addr), k ≤ m ∧ q = (dirL (FreeAt n P) k).length ∧ i = .int .i64 k ∧ s = .slice a2 q c2 ∧ IE wr w.heap.size (.slice a2 q c2) q (nthI (dirL (FreeAt n P) k)) ∧ Below w.heap.size w wr) (fun _ i _ => m - (intOf i).toNat)
  case atStart => exact ⟨0, 0, 0, none, by omega, rfl, rfl, rfl, EO.nil _ _ _ _ _, Below.refl _ _⟩
  case round =>
    obtain ⟨k, q, c2, a2, hk, hq, rfl, rfl, ho, hb⟩ := hrel
    have HQ : Hid (q = (dirL (FreeAt n P) k).length) := hq
    by_cases hlt : k < m
    · have hlt' : (k : Int) < (m : Int) := by omega
      have kb : (k : Int) ≤ 64 := by have := HM.out; omega
      have q16 : q ≤ 1000 := by have := HL.out k; have := HM.out; omega
      have HK : Hid (k < m) := hlt
      have HO : Hid (IE wr w.heap.size (.slice a2 q c2) q (nthI (dirL (FreeAt n P) k))) := ho
      have HB : Hid (Below w.heap.size w wr) := hb
      have EW : Hid (Els wr 2 a n (pcF P)) := EW0.out.below hb
      clear ho hb hq
      by_cases h2 : 2 ≤ k
      · have e2 : (2 : Int) ≤ (k : Int) := by omega
        by_cases hh : ∃ j, j < n ∧ (P j).bk = (k : Int)
        · have HC : Hid _ := HBk.out k true (gB_yes hh).symm wr EW.out
          have ND : ¬ FreeAt n P k := fun t => t.2 hh
          have HQ2 : Hid (q = (dirL (FreeAt n P) (k + 1)).length) := by show _ = _; rw [dirL_no ND]; exact HQ.out
          have HO2 : Hid (IE wr w.heap.size (.slice a2 q c2) q (nthI (dirL (FreeAt n P) (k + 1)))) := by show IE _ _ _ _ _; rw [dirL_no ND]; exact HO.out
          clear hlt hk h2 hh ND HQ HO q16
          go_wp2_with fail
          refine Calls.mono HC.out ?_
          rintro e w1 ⟨rfl, hb⟩
          have HO3 : Hid (IE w1 w.heap.size (.slice a2 q c2) q (nthI (dirL (FreeAt n P) (k + 1)))) := EO.below HO2.out hb
          have HB3 : Hid (Below w.heap.size w w1) := HB.out.trans (hb.mono HB.out.size)
          clear hb HC HO2 HB EW
          go_wp2
          go_roundw
          case rel => exact ⟨k + 1, q, c2, a2, by have := HK.out; omega, HQ2.out, by go_num, rfl, HO3.out, HB3.out⟩
          case measure => have := HK.out; simp [intOf]; omega
        · have HC : Hid _ := HBk.out k false (gB_no hh).symm wr EW.out
          have YD : Hid (FreeAt n P k) := ⟨h2, hh⟩
          clear hlt hk h2 hh
          go_wp2_with fail
          refine Calls.mono HC.out ?_
          rintro e w1 ⟨rfl, hb⟩
          obtain ⟨a3, c3, w3, hr, hO3, hB3⟩ := appNum k HQ.out q16 (EO.below HO.out hb) (HB.out.trans (hb.mono HB.out.size))
          have HQ3 : Hid (q + 1 = (dirL (FreeAt n P) (k + 1)).length) := by show _ = _; rw [dirL_yes YD.out, List.length_append, ← HQ.out]; rfl
          have HO3 : Hid (IE w3 w.heap.size (.slice a3 (q + 1) c3) (q + 1) (nthI (dirL (FreeAt n P) (k + 1)))) := by show IE _ _ _ _ _; rw [dirL_yes YD.out]; exact hO3
          have HB3 : Hid (Below w.heap.size w w3) := hB3
          clear hb HC HO HB EW hO3 hB3 HQ YD q16
          go_wp2_with (at_builtin; refine Lib.wpList_append_run _ rfl (.tmp 19) (.tmp 21) 32 32 rfl (.slice a2 q c2) (.slice (some ⟨w1.heap.size, 0, none⟩) 1 1) rfl rfl _ _ (hr _) ?_)
          go_roundw
          case rel => exact ⟨k + 1, q + 1, c3, a3, by have := HK.out; omega, HQ3.out, by go_num, rfl, HO3.out, HB3.out⟩
          case measure => have := HK.out; simp [intOf]; omega
      · have e2 : ¬ (2 : Int) ≤ (k : Int) := by omega
        have ND : ¬ FreeAt n P k := fun t => h2 t.1
        have HQ2 : Hid (q = (dirL (FreeAt n P) (k + 1)).length) := by show _ = _; rw [dirL_no ND]; exact HQ.out
        have HO2 : Hid (IE wr w.heap.size (.slice a2 q c2) q (nthI (dirL (FreeAt n P) (k + 1)))) := by show IE _ _ _ _ _; rw [dirL_no ND]; exact HO.out
        clear hlt hk h2 ND HQ HO q16
        go_wp2
        go_roundw
        case rel => exact ⟨k + 1, q, c2, a2, by have := HK.out; omega, HQ2.out, by go_num, rfl, HO2.out, HB.out⟩
        case measure => have := HK.out; simp [intOf]; omega
    · obtain rfl : k = m := by omega
      subst hq
      have HR : Hid (IE wr w.heap.size (.slice a2 (dirL (FreeAt n P) k).length c2) (dirL (FreeAt n P) k).length (nthI (dirL (FreeAt n P) k))) := ho
      have HB : Hid (Below w.heap.size w wr) := hb
      clear ho hb hlt hk HL HQ
      go_wp2
      go_ret
      exact ⟨⟨a2, c2, rfl, HR.out⟩, HB.out⟩
set_option maxRecDepth 100000 in
set_option maxHeartbeats 4000000 in
theorem implFree_any (z : Int) (a : Option Addr) (n c : Nat) (P : Nat → Plc) (r : ByteArray) (k : Int) (L : List Nat) (cd : Int) (hA : FbIs z n P r k L cd) (hsl : SlP a n c) (hn : n ≤ 1048576) (w : World) (h : Els w 2 a n (pcF P)) :
    Calls Tryz.prog 9 #[.agg #[.int .i64 z, .slice a n c, .string r], .int .i64 k] w fun e w' => (∃ a' c', e = .returned (.tuple #[.slice a' L.length c', .int .i64 cd]) ∧ IE w' w.heap.size (.slice a' L.length c') L.length (nthI L)) ∧ Below w.heap.size w w' := by
  have A0 : Hid (Below w.heap.size w (w.alloc (.cells #[.int .i64 z, .slice a n c, .string r] 25))) := (Below.refl _ _).alloc (Nat.le_refl _) _
  have X : Hid (Box3 (w.alloc (.cells #[.int .i64 z, .slice a n c, .string r] 25)) w.heap.size 25 (.int .i64 z) (.slice a n c) (.string r)) := Box3.made _ _ _ _ _
  have E0 : Hid (Els (w.alloc (.cells #[.int .i64 z, .slice a n c, .string r] 25)) 2 a n (pcF P)) := h.below A0.out
  have SK : Hid (∀ q : Bool, q = gB (SupOk z n P r) → Calls Tryz.prog 8 #[.agg #[.int .i64 z, .slice a n c, .string r]] (w.alloc (.cells #[.int .i64 z, .slice a n c, .string r] 25)) fun e w' => e = .returned (.bool q) ∧ Below (w.alloc (.cells #[.int .i64 z, .slice a n c, .string r] 25)).heap.size (w.alloc (.cells #[.int .i64 z, .slice a n c, .string r] 25)) w') := fun q hq => implSupOK_any z a n c P r hsl hn _ E0.out q hq
  have k0 := X.out.c0
  have k1 := X.out.c1
  have k2 := X.out.c2
  rcases hA with ⟨hok, rfl, rfl⟩ | ⟨hok, hk, rfl, rfl⟩ | ⟨hok, hk, rfl, rfl⟩
  · have S1 : Hid _ := SK.out false (gB_no hok).symm
    clear h hok hn hsl SK
    go_enter Tryz.func9, Tryz.ntmps9
    go_wp2_with fail
    clear k0 k1 k2
    generalize (w.alloc (.cells #[.int .i64 z, .slice a n c, .string r] 25)) = v at *
    refine Calls.mono S1.out ?_
    rintro e v1 ⟨rfl, hb⟩
    have A1 : Hid (Below w.heap.size w v1) := A0.out.trans (hb.mono A0.out.size)
    clear hb S1 X A0 E0
    go_wp2
    exact bodyPost_ret (results_tmp2 Tryz.results9 _ _ _) rfl ⟨⟨none, 0, rfl, EO.nil _ _ _ _ _⟩, A1.out⟩
  · have S1 : Hid _ := SK.out true (gB_yes hok).symm
    clear h hok hn hsl SK
    go_enter Tryz.func9, Tryz.ntmps9
    go_wp2_with fail
    clear k0 k1 k2
    generalize (w.alloc (.cells #[.int .i64 z, .slice a n c, .string r] 25)) = v at *
    refine Calls.mono S1.out ?_
    rintro e v1 ⟨rfl, hb⟩
    have A1 : Hid (Below w.heap.size w v1) := A0.out.trans (hb.mono A0.out.size)
    clear hb S1 X A0 E0
    by_cases q : k < 1
    · clear hk
      go_wp2
      exact bodyPost_ret (results_tmp2 Tryz.results9 _ _ _) rfl ⟨⟨none, 0, rfl, EO.nil _ _ _ _ _⟩, A1.out⟩
    · have q2 : 64 < k := by omega
      clear hk
      go_wp2
      exact bodyPost_ret (results_tmp2 Tryz.results9 _ _ _) rfl ⟨⟨none, 0, rfl, EO.nil _ _ _ _ _⟩, A1.out⟩
  · have S1 : Hid _ := SK.out true (gB_yes hok).symm
    obtain ⟨m, rfl⟩ := Int.eq_ofNat_of_zero_le (show 0 ≤ k by omega)
    have hm : m ≤ 64 := by omega
    have q1 : ¬ (m : Int) < 1 := by omega
    have q2 : ¬ (64 : Int) < (m : Int) := by omega
    have HM : Hid (m ≤ 64) := hm
    have HL : Hid (∀ k, (dirL (FreeAt n P) k).length ≤ k) := dirL_le _
    have HBS : Hid (∀ w : World, Els w 2 a n (pcF P) → Calls Tryz.prog 30 #[.slice a n c, .int .i64 (m : Int)] w fun e w' => (∃ a' c', e = .returned (.slice a' (dirL (FreeAt n P) m).length c') ∧ IE w' w.heap.size (.slice a' (dirL (FreeAt n P) m).length c') (dirL (FreeAt n P) m).length (nthI (dirL (FreeAt n P) m))) ∧ Below w.heap.size w w') := fun w h => beside_any a n c m P hm hn w h
    have ET : Hid ((m : Int).toNat = m) := Int.toNat_natCast m
    rw [ET.out]
    generalize dirL (FreeAt n P) m = L at *
    clear h hok hn hsl SK hm hk HL
    go_enter Tryz.func9, Tryz.ntmps9
    go_wp2_with fail
    clear k0 k1 k2
    generalize (w.alloc (.cells #[.int .i64 z, .slice a n c, .string r] 25)) = v at *
    obtain ⟨vb, hvb⟩ : ∃ x, x = w.heap.size := ⟨_, rfl⟩
    rw [← hvb] at X ⊢
    clear hvb
    refine Calls.mono S1.out ?_
    rintro e v1 ⟨rfl, hb⟩
    have A1 : Hid (Below w.heap.size w v1) := A0.out.trans (hb.mono A0.out.size)
    have x1 := (X.out.below hb).c1
    have E1 : Hid (Els v1 2 a n (pcF P)) := E0.out.below hb
    clear hb S1 X A0 E0 ET
    go_wp2_with fail
    refine Calls.mono (HBS.out _ E1.out) ?_
    rintro e w1 ⟨⟨a2, c2, rfl, ho⟩, hb⟩
    have HR : Hid (IE w1 w.heap.size (.slice a2 L.length c2) L.length (nthI L)) := EO.mono ho A1.out.size
    have HB : Hid (Below w.heap.size w w1) := A1.out.trans (hb.mono A1.out.size)
    clear ho hb HBS E1 A1 x1
    go_wp2
    exact bodyPost_ret (results_tmp2 Tryz.results9 _ _ _) rfl ⟨⟨a2, c2, rfl, HR.out⟩, HB.out⟩
end Go.Proofs.YtkmakpbphdjbcaaGreatDoor
namespace Go.Proofs.YtkmakpbphdjbcaaGreatDoor
open Go.ChangeShapes Go.WideShapes Go.ChangeAt Go.RowKit
set_option linter.unusedVariables false
theorem dirL_congr {P Q : Nat → Prop} : ∀ k, (∀ i, i < k → (P i ↔ Q i)) → dirL P k = dirL Q k
  | 0, _ => rfl
  | k + 1, h => by
    have ih := dirL_congr k (fun i hi => h i (by omega))
    by_cases p : P k
    · rw [dirL_yes p, dirL_yes ((h k (by omega)).1 p), ih]
    · rw [dirL_no p, dirL_no (fun q => p ((h k (by omega)).2 q)), ih]
theorem dirL_less {P : Nat → Prop} {q : Nat} (hq : P q) : ∀ k, (dirL (fun i => P i ∧ i ≠ q) k).length + (if q < k then 1 else 0) = (dirL P k).length
  | 0 => by simp [dirL]
  | k + 1 => by
    have ih := dirL_less hq k
    by_cases p : P k
    · by_cases e : k = q
      · subst e
        rw [dirL_yes p, dirL_no (fun h => h.2 rfl), List.length_append, if_pos (by omega)]
        rw [if_neg (by omega)] at ih
        simp
        omega
      · rw [dirL_yes p, dirL_yes (P := fun i => P i ∧ i ≠ q) ⟨p, e⟩, List.length_append, List.length_append]
        by_cases l : q < k
        · rw [if_pos (by omega)]
          rw [if_pos l] at ih
          simp
          omega
        · rw [if_neg (by omega)]
          rw [if_neg l] at ih
          simp
          omega
    · have e : q ≠ k := fun e => p (e ▸ hq)
      rw [dirL_no p, dirL_no (P := fun i => P i ∧ i ≠ q) (fun h => p h.1)]
      by_cases l : q < k
      · rw [if_pos (by omega)]
        rw [if_pos l] at ih
        exact ih
      · rw [if_neg (by omega)]
        rw [if_neg l] at ih
        exact ih
theorem dirL_two : ∀ k, (dirL (fun i => 2 ≤ i) k).length = k - 2
  | 0 => rfl
  | k + 1 => by
    have ih := dirL_two k
    by_cases p : 2 ≤ k
    · rw [dirL_yes p, List.length_append, ih]
      simp
      omega
    · rw [dirL_no p, ih]
      omega
theorem free_count (P : Nat → Plc) : ∀ n, (∀ i, i < n → PlOne P i) → (dirL (FreeAt n P) 64).length + n = 62
  | 0, _ => by
    rw [dirL_congr (Q := fun i => 2 ≤ i) 64 (fun i _ => ⟨fun h => h.1, fun h => ⟨h, fun ⟨j, hj, _⟩ => absurd hj (by omega)⟩⟩), dirL_two]
  | n + 1, h => by
    have ih := free_count P n (fun i hi => h i (by omega))
    have one := h n (by omega)
    have ok := one.1
    unfold Plc.Ok at ok
    obtain ⟨q, hq⟩ : ∃ q : Nat, (P n).bk = (q : Int) := ⟨(P n).bk.toNat, by omega⟩
    have fq : FreeAt n P q := ⟨by omega, fun ⟨j, hj, e⟩ => one.2 j hj (by rw [e, hq])⟩
    have l := dirL_less fq 64
    rw [if_pos (by omega)] at l
    rw [dirL_congr (P := FreeAt (n + 1) P) (Q := fun i => FreeAt n P i ∧ i ≠ q) 64 (fun i _ => by
      constructor
      · rintro ⟨h2, hn⟩
        exact ⟨⟨h2, fun ⟨j, hj, e⟩ => hn ⟨j, by omega, e⟩⟩, fun e => hn ⟨n, by omega, by rw [hq, e]⟩⟩
      · rintro ⟨⟨h2, hn⟩, hne⟩
        refine ⟨h2, fun ⟨j, hj, e⟩ => ?_⟩
        by_cases hjn : j = n
        · subst hjn
          rw [hq] at e
          exact hne (by omega)
        · exact hn ⟨j, by omega, e⟩)]
    omega
theorem supOk_free {z : Int} {n : Nat} {P : Nat → Plc} {r : ByteArray} (h : SupOk z n P r) : (dirL (FreeAt n P) 64).length + n = 62 := free_count P n h.2
theorem supOk_apart {z : Int} {n : Nat} {P : Nat → Plc} {r : ByteArray} (h : SupOk z n P r) (i : Nat) (hi : i < n) (q : Nat) (hq : (P i).bk = (q : Int)) : q ∉ dirL (FreeAt n P) 64 := fun m => ((dirL_mem _ q 64).1 m).2.2 ⟨i, hi, hq⟩
end Go.Proofs.YtkmakpbphdjbcaaGreatDoor
