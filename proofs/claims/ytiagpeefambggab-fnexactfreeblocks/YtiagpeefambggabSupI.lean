/-
  Right supers: SuperOK of the program (written by tools/mksup2.py).
-/
import Derived.Test.YtiagpeefambggabSupM
import Derived.Deep.Cut
namespace Go.Proofs.Ytiagpeefambggab
open Go.ChangeShapes Go.WideShapes Go.ChangeAt Go.RowKit
set_option linter.unusedVariables false
theorem below_ab {B : Nat} {w v u : World} (h : Below B w v) (h' : Below v.heap.size v u) (hB : B ≤ v.heap.size) : Below B w u := h.trans (h'.mono hB)
theorem pl_elem : Try.prog.elem 29 = 48 := by kernel_rfl
theorem pl_under : Try.prog.underlying 29 = some (.slice (Try.prog.elem 29)) := by rw [pl_elem]; exact Try.underlying29
theorem pl_size (w : World) : (sizeOf (Try.prog.elem 29)).run Try.prog w = .ok 2 w := by kernel_rfl
set_option maxRecDepth 100000 in
set_option maxHeartbeats 4000000 in
theorem implSupOK_any (z : Int) (a : Option Addr) (n c : Nat) (P : Nat → Plc) (r : ByteArray) (hsl : SlP a n c) (hn : n ≤ 1048576) (w : World) (h : Els w 2 a n (pcF P)) (y : Bool) (hy : y = gB (SupOk z n P r)) :
    Calls Try.prog 18 #[.agg #[.int .i64 z, .slice a n c, .string r]] w fun e w' => e = .returned (.bool y) ∧ Below w.heap.size w w' := by
  have A0 : Hid (Below w.heap.size w (w.alloc (.cells #[.int .i64 z, .slice a n c, .string r] 31))) := (Below.refl _ _).alloc (Nat.le_refl _) _
  have X : Hid (Box3 (w.alloc (.cells #[.int .i64 z, .slice a n c, .string r] 31)) w.heap.size 31 (.int .i64 z) (.slice a n c) (.string r)) := Box3.made _ _ _ _ _
  have E0 : Hid (Els (w.alloc (.cells #[.int .i64 z, .slice a n c, .string r] 31)) 2 a n (pcF P)) := h.below A0.out
  have HY : Hid (y = gB (SupOk z n P r)) := hy
  have HS : Hid (SlP a n c) := hsl
  have HN : Hid (n ≤ 1048576) := hn
  clear h hy hsl hn
  by_cases hz : 0 ≤ z ∧ z ≤ 1024
  · obtain ⟨m, rfl⟩ := Int.eq_ofNat_of_zero_le hz.1
    have hm : m ≤ 1024 := by omega
    have PC : Hid (∀ w : World, Calls Try.prog 24 #[.int .i64 (m : Int)] w fun e w' => e = .returned (.tuple #[.int .i64 ((pcsN m : Nat) : Int), .int .i64 0]) ∧ w = w') := fun w => implPc_ok m hm w
    by_cases h0 : pcsN m = 0
    · obtain rfl : y = false := by
        rw [HY.out]
        refine gB_no (fun q => ?_)
        have := q.1.1
        unfold pcsN at h0
        omega
      rw [h0] at PC
      have k0 := X.out.c0
      have k1 := X.out.c1
      have k2 := X.out.c2
      clear HY hz hm h0
      go_enter Try.func18, Try.ntmps18
      go_wp2_with fail
      refine (PC.out _).mono ?_
      rintro e _ ⟨rfl, rfl⟩
      go_wp2
      go_ret
      exact ⟨rfl, A0.out⟩
    · by_cases h1 : n = pcsN m
      · by_cases h2 : r.size = 32
        · have h2' : ((r.size : Int) != 32) = false := by simp; omega
          have h1' : ((n : Int) != (n : Int)) = false := by simp
          have h0' : ((n : Int) == 0) = false := by simp; omega
          have n16 : (n : Int) ≤ 16 := by have := pcsN_le hm; omega
          have HT : Hid ((∀ i, i < n → PlOne P i) → y = true) := fun q => by rw [HY.out]; exact gB_yes ⟨⟨by unfold pcsN at h0; omega, by omega, by rw [h1]; rfl, h2⟩, q⟩
          have HF : Hid (∀ i, i < n → ¬ PlOne P i → y = false) := fun i hi q => by rw [HY.out]; exact gB_no (fun t => q (t.2 i hi))
          rw [← h1] at PC
          have k0 := X.out.c0
          have k1 := X.out.c1
          have k2 := X.out.c2
          clear HY hz hm h0 h1 h2
          go_enter Try.func18, Try.ntmps18
          go_wp2_with fail
          refine (PC.out _).mono ?_
          rintro e _ ⟨rfl, rfl⟩
          go_upto_region 4 with fail
          clear k0 k1 k2 PC
          generalize (w.alloc (.cells #[.int .i64 (m : Int), .slice a n c, .string r] 31)) = v at *
          obtain ⟨vb, hvb⟩ : ∃ x, x = w.heap.size := ⟨_, rfl⟩
          have VB : Hid (vb = w.heap.size) := hvb
          rw [← hvb] at X ⊢
          clear hvb
          go_wp2
          go_loopw [33] (fun i wr => ∃ k : Nat, k ≤ n ∧ i = .int .i64 k ∧ (∀ j, j < k → PlOne P j) ∧ Below v.heap.size v wr) (fun i _ => n - (intOf i).toNat)
          case atStart => exact ⟨0, by omega, rfl, fun j hj => absurd hj (by omega), Below.refl _ _⟩
          case round =>
            obtain ⟨k, hk, rfl, hall, hb⟩ := hrel
            have HA : Hid (∀ j, j < k → PlOne P j) := hall
            have HB : Hid (Below v.heap.size v wr) := hb
            clear hall
            by_cases hlt : k < n
            · have hlt' : (k : Int) < (n : Int) := by omega
              have k0 : (0 : Int) ≤ (k : Int) := by omega
              have HK : Hid (k < n) := hlt
              obtain ⟨b, off, rfl, hc⟩ := (E0.out.below hb).opened (by omega)
              have c0 : wr.cell? ⟨b, off + k * 2, none⟩ = some (.int .i64 (P k).bk) := hc k hlt 0 (by omega)
              have c1 : wr.cell? ⟨b, off + k * 2 + 1, none⟩ = some (.int .i64 (P k).vs) := hc k hlt 1 (by omega)
              have x1 := (X.out.below hb).c1
              have CT : ∀ w : World, (Instr.slice 29 (.slice (some ⟨b, off, none⟩) n c) none (some (.int .i64 (k : Int))) none).run Try.prog w = .ok (.slice (some ⟨b, off, none⟩) k c) w := fun w => run_cut_to 29 pl_under 2 pl_size HS.out k (by have := HS.out.le; omega) w
              have HP : Hid (PlOne P k ↔ ((P k).Ok ∧ ∀ j, j < k → (P j).bk ≠ (P k).bk)) := Iff.rfl
              have HF2 : Hid (¬ ((P k).Ok ∧ ∀ j, j < k → (P j).bk ≠ (P k).bk) → y = false) := HF.out k hlt
              have HT2 : Hid ((P k).Ok ∧ (∀ j, j < k → (P j).bk ≠ (P k).bk) → ∀ j, j < k + 1 → PlOne P j) := fun q j hj => by
                by_cases e : j = k
                · subst e; exact q
                · exact HA.out j (by omega)
              have PK : Hid (∀ (q : Bool), q = gB ((P k).Ok) → ∀ w : World, Calls Try.prog 25 #[.agg #[.int .i64 (P k).bk, .int .i64 (P k).vs]] w fun e w' => e = .returned (.bool q) ∧ Below w.heap.size w w') := fun q hq w => placeOK_any _ _ q hq w
              have HBk : Hid (∀ (q : Bool), q = gB (∃ i, i < k ∧ (P i).bk = (P k).bk) → ∀ w : World, Els w 2 (some ⟨b, off, none⟩) n (pcF P) → Calls Try.prog 26 #[.slice (some ⟨b, off, none⟩) k c, .int .i64 (P k).bk] w fun e w' => e = .returned (.bool q) ∧ Below w.heap.size w w') := fun q hq w h => hasBlock_any _ k c P _ (by have := HN.out; omega) w (h.less (by omega)) q hq
              obtain ⟨bk, hbk⟩ : ∃ x, x = (P k).bk := ⟨_, rfl⟩
              obtain ⟨vs, hvs⟩ : ∃ x, x = (P k).vs := ⟨_, rfl⟩
              have DK : (P k).Ok ∨ ¬ (P k).Ok := Classical.em _
              have DH : (∃ i, i < k ∧ (P i).bk = (P k).bk) ∨ ¬ (∃ i, i < k ∧ (P i).bk = (P k).bk) := Classical.em _
              have HNN : Hid (¬ (∃ i, i < k ∧ (P i).bk = (P k).bk) → ∀ j, j < k → (P j).bk ≠ (P k).bk) := fun q j hj e => q ⟨j, hj, e⟩
              have HYY : Hid ((∃ i, i < k ∧ (P i).bk = (P k).bk) → ¬ ∀ j, j < k → (P j).bk ≠ (P k).bk) := fun ⟨i, hi, e⟩ q => q i hi e
              rw [← hbk, ← hvs] at PK
              rw [← hbk] at c0 HBk DH HNN HYY HF2 HT2
              rw [← hvs] at c1
              clear hbk hvs hc hlt hk HP HF
              have PT : (P k).Ok → Hid (∀ w : World, Calls Try.prog 25 #[.agg #[.int .i64 bk, .int .i64 vs]] w fun e w' => e = .returned (.bool true) ∧ Below w.heap.size w w') := fun q => PK.out true (gB_yes q).symm
              have PF : ¬ (P k).Ok → Hid (∀ w : World, Calls Try.prog 25 #[.agg #[.int .i64 bk, .int .i64 vs]] w fun e w' => e = .returned (.bool false) ∧ Below w.heap.size w w') := fun q => PK.out false (gB_no q).symm
              have HBT : (∃ i, i < k ∧ (P i).bk = bk) → Hid (∀ w : World, Els w 2 (some ⟨b, off, none⟩) n (pcF P) → Calls Try.prog 26 #[.slice (some ⟨b, off, none⟩) k c, .int .i64 bk] w fun e w' => e = .returned (.bool true) ∧ Below w.heap.size w w') := fun q => HBk.out true (gB_yes q).symm
              have HBF : ¬ (∃ i, i < k ∧ (P i).bk = bk) → Hid (∀ w : World, Els w 2 (some ⟨b, off, none⟩) n (pcF P) → Calls Try.prog 26 #[.slice (some ⟨b, off, none⟩) k c, .int .i64 bk] w fun e w' => e = .returned (.bool false) ∧ Below w.heap.size w w') := fun q => HBk.out false (gB_no q).symm
              have hb2 : Below wr.heap.size wr (wr.alloc (.cells #[.int .i64 bk, .int .i64 vs] 48)) := (Below.refl _ _).alloc (Nat.le_refl _) _
              have B2 : Hid (Box2 (wr.alloc (.cells #[.int .i64 bk, .int .i64 vs] 48)) wr.heap.size 48 (.int .i64 bk) (.int .i64 vs)) := Box2.made _ _ _ _
              have X2 : Hid (Box3 (wr.alloc (.cells #[.int .i64 bk, .int .i64 vs] 48)) vb 31 (.int .i64 (m : Int)) (.slice (some ⟨b, off, none⟩) n c) (.string r)) := (X.out.below hb).below hb2
              have E2 : Hid (Els (wr.alloc (.cells #[.int .i64 bk, .int .i64 vs] 48)) 2 (some ⟨b, off, none⟩) n (pcF P)) := (E0.out.below hb).below hb2
              have HB2 : Hid (Below v.heap.size v (wr.alloc (.cells #[.int .i64 bk, .int .i64 vs] 48))) := hb.trans (hb2.mono hb.size)
              clear hb hb2 HB PK HBk
              go_upto_region 8 with fail
              clear x1 c0 c1
              generalize (wr.alloc (.cells #[.int .i64 bk, .int .i64 vs] 48)) = v2 at *
              generalize wr.heap.size = pb at *
              rcases DK with DK | DK
              · replace PT := PT DK
                clear PF
                rcases DH with DH | DH
                · replace HBT := HBT DH
                  obtain rfl := HF2.out (fun q => HYY.out DH q.2)
                  clear HBF HF2 HT2 HNN HYY DK DH HT
                  have H : Below v2.heap.size v2 v2.drew := (Below.refl _ _).drew
                  refine wp_region_noPanic ?_
                  refine wp_region_held_drew (S := fun w' => Below v2.heap.size v2 w') (by kernel_rfl) H (fun _ => ?_)
                  generalize v2.drew = x0 at *
                  refine wpAnyH_take (i := 0) (v := .agg #[.int .i64 bk, .int .i64 vs]) rfl (by kernel_rfl) (by kernel_rfl) (by kernel_rfl) (fun _ _ _ h => h) (Or.inl ⟨by rfl, ?_⟩) H ?_
                  · intro w' hSw; have q0 := (B2.out.below hSw).c0; have q1 := (B2.out.below hSw).c1; clear hSw; go_simp
                  change wpAnyH _ _ _ _ _ _ _ { tmps := #[_, _, _, _, _, _, _, _, _, _, _, _, _, _, _, _, _, _, _, _, _, _, _, _, _, _, _, _, _, _, _, _, _, _, _, _, _, _, _, _, _, _, _, _, _, _, _, _, _, _, _, _, _, _], defers := _ } _
                  refine wpAnyH_ready (rs := [1]) (by kernel_rfl) (by simp) ?_
                  refine AllReadyH.cons rfl (fun KK hK => ?_) AllReadyH.nil
                  go_simp
                  refine (PT.out _).mono ?_
                  rintro e x1 ⟨rfl, hb⟩
                  replace H : Below v2.heap.size v2 x1 := H.trans (hb.mono H.size)
                  clear hb
                  refine hK.out _ _ H (fun _ => ?_)
                  clear hK KK
                  change wpAnyH _ _ _ _ _ _ _ { tmps := #[_, _, _, _, _, _, _, _, _, _, _, _, _, _, _, _, _, _, _, _, _, _, _, _, _, _, _, _, _, _, _, _, _, _, _, _, _, _, _, _, _, _, _, _, _, _, _, _, _, _, _, _, _, _], defers := _ } _
                  refine wpAnyH_take (i := 2) (v := .bool false) rfl (by kernel_rfl) (by kernel_rfl) (by kernel_rfl) (fun _ _ _ h => h) (Or.inl ⟨by rfl, ?_⟩) H ?_
                  · intro w' hSw; clear hSw; go_simp
                  change wpAnyH _ _ _ _ _ _ _ { tmps := #[_, _, _, _, _, _, _, _, _, _, _, _, _, _, _, _, _, _, _, _, _, _, _, _, _, _, _, _, _, _, _, _, _, _, _, _, _, _, _, _, _, _, _, _, _, _, _, _, _, _, _, _, _, _], defers := _ } _
                  refine wpAnyH_take (i := 3) (v := .bool false) rfl (by kernel_rfl) (by kernel_rfl) (by kernel_rfl) (fun _ _ _ h => h) (Or.inl ⟨by rfl, ?_⟩) H ?_
                  · intro w' hSw; clear hSw; go_simp
                  change wpAnyH _ _ _ _ _ _ _ { tmps := #[_, _, _, _, _, _, _, _, _, _, _, _, _, _, _, _, _, _, _, _, _, _, _, _, _, _, _, _, _, _, _, _, _, _, _, _, _, _, _, _, _, _, _, _, _, _, _, _, _, _, _, _, _, _], defers := _ } _
                  refine wpAnyH_take (i := 4) (v := .pointer (some ⟨vb, 1, none⟩)) rfl (by kernel_rfl) (by kernel_rfl) (by kernel_rfl) (fun _ _ _ h => h) (Or.inl ⟨by rfl, ?_⟩) H ?_
                  · intro w' hSw; clear hSw; go_simp
                  change wpAnyH _ _ _ _ _ _ _ { tmps := #[_, _, _, _, _, _, _, _, _, _, _, _, _, _, _, _, _, _, _, _, _, _, _, _, _, _, _, _, _, _, _, _, _, _, _, _, _, _, _, _, _, _, _, _, _, _, _, _, _, _, _, _, _, _], defers := _ } _
                  refine wpAnyH_take (i := 5) (v := .slice (some ⟨b, off, none⟩) n c) rfl (by kernel_rfl) (by kernel_rfl) (by kernel_rfl) (fun _ _ _ h => h) (Or.inl ⟨by rfl, ?_⟩) H ?_
                  · intro w' hSw; have q0 := (X2.out.below hSw).c1; clear hSw; go_simp
                  change wpAnyH _ _ _ _ _ _ _ { tmps := #[_, _, _, _, _, _, _, _, _, _, _, _, _, _, _, _, _, _, _, _, _, _, _, _, _, _, _, _, _, _, _, _, _, _, _, _, _, _, _, _, _, _, _, _, _, _, _, _, _, _, _, _, _, _], defers := _ } _
                  refine wpAnyH_take (i := 6) (v := .int .i64 (k : Int)) rfl (by kernel_rfl) (by kernel_rfl) (by kernel_rfl) (fun _ _ _ h => h) (Or.inl ⟨by rfl, ?_⟩) H ?_
                  · intro w' hSw; clear hSw; go_simp
                  change wpAnyH _ _ _ _ _ _ _ { tmps := #[_, _, _, _, _, _, _, _, _, _, _, _, _, _, _, _, _, _, _, _, _, _, _, _, _, _, _, _, _, _, _, _, _, _, _, _, _, _, _, _, _, _, _, _, _, _, _, _, _, _, _, _, _, _], defers := _ } _
                  refine wpAnyH_take (i := 7) (v := .slice (some ⟨b, off, none⟩) k c) rfl (by kernel_rfl) (by kernel_rfl) (by kernel_rfl) (fun _ _ _ h => h) (Or.inl ⟨by rfl, ?_⟩) H ?_
                  · intro w' hSw; clear hSw; go_simp
                  change wpAnyH _ _ _ _ _ _ _ { tmps := #[_, _, _, _, _, _, _, _, _, _, _, _, _, _, _, _, _, _, _, _, _, _, _, _, _, _, _, _, _, _, _, _, _, _, _, _, _, _, _, _, _, _, _, _, _, _, _, _, _, _, _, _, _, _], defers := _ } _
                  refine wpAnyH_take (i := 8) (v := .pointer (some ⟨pb, 0, none⟩)) rfl (by kernel_rfl) (by kernel_rfl) (by kernel_rfl) (fun _ _ _ h => h) (Or.inl ⟨by rfl, ?_⟩) H ?_
                  · intro w' hSw; clear hSw; go_simp
                  change wpAnyH _ _ _ _ _ _ _ { tmps := #[_, _, _, _, _, _, _, _, _, _, _, _, _, _, _, _, _, _, _, _, _, _, _, _, _, _, _, _, _, _, _, _, _, _, _, _, _, _, _, _, _, _, _, _, _, _, _, _, _, _, _, _, _, _], defers := _ } _
                  refine wpAnyH_take (i := 9) (v := .int .i64 bk) rfl (by kernel_rfl) (by kernel_rfl) (by kernel_rfl) (fun _ _ _ h => h) (Or.inl ⟨by rfl, ?_⟩) H ?_
                  · intro w' hSw; have q0 := (B2.out.below hSw).c0; clear hSw; go_simp
                  change wpAnyH _ _ _ _ _ _ _ { tmps := #[_, _, _, _, _, _, _, _, _, _, _, _, _, _, _, _, _, _, _, _, _, _, _, _, _, _, _, _, _, _, _, _, _, _, _, _, _, _, _, _, _, _, _, _, _, _, _, _, _, _, _, _, _, _], defers := _ } _
                  refine wpAnyH_ready (rs := [10]) (by kernel_rfl) (by simp) ?_
                  refine AllReadyH.cons rfl (fun KK hK => ?_) AllReadyH.nil
                  go_simp
                  refine (HBT.out _ (E2.out.below H)).mono ?_
                  rintro e x2 ⟨rfl, hb⟩
                  replace H : Below v2.heap.size v2 x2 := H.trans (hb.mono H.size)
                  clear hb
                  refine hK.out _ _ H (fun _ => ?_)
                  clear hK KK
                  change wpAnyH _ _ _ _ _ _ _ { tmps := #[_, _, _, _, _, _, _, _, _, _, _, _, _, _, _, _, _, _, _, _, _, _, _, _, _, _, _, _, _, _, _, _, _, _, _, _, _, _, _, _, _, _, _, _, _, _, _, _, _, _, _, _, _, _], defers := _ } _
                  refine wpAnyH_take (i := 11) (v := .bool true) rfl (by kernel_rfl) (by kernel_rfl) (by kernel_rfl) (fun _ _ _ h => h) (Or.inl ⟨by rfl, ?_⟩) H ?_
                  · intro w' hSw; clear hSw; go_simp
                  change wpAnyH _ _ _ _ _ _ _ { tmps := #[_, _, _, _, _, _, _, _, _, _, _, _, _, _, _, _, _, _, _, _, _, _, _, _, _, _, _, _, _, _, _, _, _, _, _, _, _, _, _, _, _, _, _, _, _, _, _, _, _, _, _, _, _, _], defers := _ } _
                  refine wpAnyH_done (by kernel_rfl) ?_ _
                  refine NoPanic.normal ?_
                  have B3 : Hid (Below w.heap.size w x2) := below_ab A0.out (below_ab HB2.out H HB2.out.size) A0.out.size
                  clear H
                  go_wp2
                  go_ret
                  exact ⟨rfl, B3.out⟩
                · replace HBF := HBF DH
                  have HT3 : Hid (∀ j, j < k + 1 → PlOne P j) := HT2.out ⟨DK, HNN.out DH⟩
                  clear HBT HF2 HT2 HNN HYY DK DH
                  have H : Below v2.heap.size v2 v2.drew := (Below.refl _ _).drew
                  refine wp_region_noPanic ?_
                  refine wp_region_held_drew (S := fun w' => Below v2.heap.size v2 w') (by kernel_rfl) H (fun _ => ?_)
                  generalize v2.drew = x0 at *
                  refine wpAnyH_take (i := 0) (v := .agg #[.int .i64 bk, .int .i64 vs]) rfl (by kernel_rfl) (by kernel_rfl) (by kernel_rfl) (fun _ _ _ h => h) (Or.inl ⟨by rfl, ?_⟩) H ?_
                  · intro w' hSw; have q0 := (B2.out.below hSw).c0; have q1 := (B2.out.below hSw).c1; clear hSw; go_simp
                  change wpAnyH _ _ _ _ _ _ _ { tmps := #[_, _, _, _, _, _, _, _, _, _, _, _, _, _, _, _, _, _, _, _, _, _, _, _, _, _, _, _, _, _, _, _, _, _, _, _, _, _, _, _, _, _, _, _, _, _, _, _, _, _, _, _, _, _], defers := _ } _
                  refine wpAnyH_ready (rs := [1]) (by kernel_rfl) (by simp) ?_
                  refine AllReadyH.cons rfl (fun KK hK => ?_) AllReadyH.nil
                  go_simp
                  refine (PT.out _).mono ?_
                  rintro e x1 ⟨rfl, hb⟩
                  replace H : Below v2.heap.size v2 x1 := H.trans (hb.mono H.size)
                  clear hb
                  refine hK.out _ _ H (fun _ => ?_)
                  clear hK KK
                  change wpAnyH _ _ _ _ _ _ _ { tmps := #[_, _, _, _, _, _, _, _, _, _, _, _, _, _, _, _, _, _, _, _, _, _, _, _, _, _, _, _, _, _, _, _, _, _, _, _, _, _, _, _, _, _, _, _, _, _, _, _, _, _, _, _, _, _], defers := _ } _
                  refine wpAnyH_take (i := 2) (v := .bool false) rfl (by kernel_rfl) (by kernel_rfl) (by kernel_rfl) (fun _ _ _ h => h) (Or.inl ⟨by rfl, ?_⟩) H ?_
                  · intro w' hSw; clear hSw; go_simp
                  change wpAnyH _ _ _ _ _ _ _ { tmps := #[_, _, _, _, _, _, _, _, _, _, _, _, _, _, _, _, _, _, _, _, _, _, _, _, _, _, _, _, _, _, _, _, _, _, _, _, _, _, _, _, _, _, _, _, _, _, _, _, _, _, _, _, _, _], defers := _ } _
                  refine wpAnyH_take (i := 3) (v := .bool false) rfl (by kernel_rfl) (by kernel_rfl) (by kernel_rfl) (fun _ _ _ h => h) (Or.inl ⟨by rfl, ?_⟩) H ?_
                  · intro w' hSw; clear hSw; go_simp
                  change wpAnyH _ _ _ _ _ _ _ { tmps := #[_, _, _, _, _, _, _, _, _, _, _, _, _, _, _, _, _, _, _, _, _, _, _, _, _, _, _, _, _, _, _, _, _, _, _, _, _, _, _, _, _, _, _, _, _, _, _, _, _, _, _, _, _, _], defers := _ } _
                  refine wpAnyH_take (i := 4) (v := .pointer (some ⟨vb, 1, none⟩)) rfl (by kernel_rfl) (by kernel_rfl) (by kernel_rfl) (fun _ _ _ h => h) (Or.inl ⟨by rfl, ?_⟩) H ?_
                  · intro w' hSw; clear hSw; go_simp
                  change wpAnyH _ _ _ _ _ _ _ { tmps := #[_, _, _, _, _, _, _, _, _, _, _, _, _, _, _, _, _, _, _, _, _, _, _, _, _, _, _, _, _, _, _, _, _, _, _, _, _, _, _, _, _, _, _, _, _, _, _, _, _, _, _, _, _, _], defers := _ } _
                  refine wpAnyH_take (i := 5) (v := .slice (some ⟨b, off, none⟩) n c) rfl (by kernel_rfl) (by kernel_rfl) (by kernel_rfl) (fun _ _ _ h => h) (Or.inl ⟨by rfl, ?_⟩) H ?_
                  · intro w' hSw; have q0 := (X2.out.below hSw).c1; clear hSw; go_simp
                  change wpAnyH _ _ _ _ _ _ _ { tmps := #[_, _, _, _, _, _, _, _, _, _, _, _, _, _, _, _, _, _, _, _, _, _, _, _, _, _, _, _, _, _, _, _, _, _, _, _, _, _, _, _, _, _, _, _, _, _, _, _, _, _, _, _, _, _], defers := _ } _
                  refine wpAnyH_take (i := 6) (v := .int .i64 (k : Int)) rfl (by kernel_rfl) (by kernel_rfl) (by kernel_rfl) (fun _ _ _ h => h) (Or.inl ⟨by rfl, ?_⟩) H ?_
                  · intro w' hSw; clear hSw; go_simp
                  change wpAnyH _ _ _ _ _ _ _ { tmps := #[_, _, _, _, _, _, _, _, _, _, _, _, _, _, _, _, _, _, _, _, _, _, _, _, _, _, _, _, _, _, _, _, _, _, _, _, _, _, _, _, _, _, _, _, _, _, _, _, _, _, _, _, _, _], defers := _ } _
                  refine wpAnyH_take (i := 7) (v := .slice (some ⟨b, off, none⟩) k c) rfl (by kernel_rfl) (by kernel_rfl) (by kernel_rfl) (fun _ _ _ h => h) (Or.inl ⟨by rfl, ?_⟩) H ?_
                  · intro w' hSw; clear hSw; go_simp
                  change wpAnyH _ _ _ _ _ _ _ { tmps := #[_, _, _, _, _, _, _, _, _, _, _, _, _, _, _, _, _, _, _, _, _, _, _, _, _, _, _, _, _, _, _, _, _, _, _, _, _, _, _, _, _, _, _, _, _, _, _, _, _, _, _, _, _, _], defers := _ } _
                  refine wpAnyH_take (i := 8) (v := .pointer (some ⟨pb, 0, none⟩)) rfl (by kernel_rfl) (by kernel_rfl) (by kernel_rfl) (fun _ _ _ h => h) (Or.inl ⟨by rfl, ?_⟩) H ?_
                  · intro w' hSw; clear hSw; go_simp
                  change wpAnyH _ _ _ _ _ _ _ { tmps := #[_, _, _, _, _, _, _, _, _, _, _, _, _, _, _, _, _, _, _, _, _, _, _, _, _, _, _, _, _, _, _, _, _, _, _, _, _, _, _, _, _, _, _, _, _, _, _, _, _, _, _, _, _, _], defers := _ } _
                  refine wpAnyH_take (i := 9) (v := .int .i64 bk) rfl (by kernel_rfl) (by kernel_rfl) (by kernel_rfl) (fun _ _ _ h => h) (Or.inl ⟨by rfl, ?_⟩) H ?_
                  · intro w' hSw; have q0 := (B2.out.below hSw).c0; clear hSw; go_simp
                  change wpAnyH _ _ _ _ _ _ _ { tmps := #[_, _, _, _, _, _, _, _, _, _, _, _, _, _, _, _, _, _, _, _, _, _, _, _, _, _, _, _, _, _, _, _, _, _, _, _, _, _, _, _, _, _, _, _, _, _, _, _, _, _, _, _, _, _], defers := _ } _
                  refine wpAnyH_ready (rs := [10]) (by kernel_rfl) (by simp) ?_
                  refine AllReadyH.cons rfl (fun KK hK => ?_) AllReadyH.nil
                  go_simp
                  refine (HBF.out _ (E2.out.below H)).mono ?_
                  rintro e x2 ⟨rfl, hb⟩
                  replace H : Below v2.heap.size v2 x2 := H.trans (hb.mono H.size)
                  clear hb
                  refine hK.out _ _ H (fun _ => ?_)
                  clear hK KK
                  change wpAnyH _ _ _ _ _ _ _ { tmps := #[_, _, _, _, _, _, _, _, _, _, _, _, _, _, _, _, _, _, _, _, _, _, _, _, _, _, _, _, _, _, _, _, _, _, _, _, _, _, _, _, _, _, _, _, _, _, _, _, _, _, _, _, _, _], defers := _ } _
                  refine wpAnyH_take (i := 11) (v := .bool false) rfl (by kernel_rfl) (by kernel_rfl) (by kernel_rfl) (fun _ _ _ h => h) (Or.inl ⟨by rfl, ?_⟩) H ?_
                  · intro w' hSw; clear hSw; go_simp
                  change wpAnyH _ _ _ _ _ _ _ { tmps := #[_, _, _, _, _, _, _, _, _, _, _, _, _, _, _, _, _, _, _, _, _, _, _, _, _, _, _, _, _, _, _, _, _, _, _, _, _, _, _, _, _, _, _, _, _, _, _, _, _, _, _, _, _, _], defers := _ } _
                  refine wpAnyH_done (by kernel_rfl) ?_ _
                  refine NoPanic.normal ?_
                  have B3 : Hid (Below v.heap.size v x2) := below_ab HB2.out H HB2.out.size
                  clear H
                  go_wp2
                  go_roundw
                  case rel => exact ⟨k + 1, by have := HK.out; omega, by go_num, HT3.out, B3.out⟩
                  case measure => have := HK.out; simp [intOf]; omega
              · replace PF := PF DK
                obtain rfl := HF2.out (fun q => DK q.1)
                clear PT HBT HBF HF2 HT2 HNN HYY DK DH HT
                have H : Below v2.heap.size v2 v2.drew := (Below.refl _ _).drew
                refine wp_region_noPanic ?_
                refine wp_region_held_drew (S := fun w' => Below v2.heap.size v2 w') (by kernel_rfl) H (fun _ => ?_)
                generalize v2.drew = x0 at *
                refine wpAnyH_take (i := 0) (v := .agg #[.int .i64 bk, .int .i64 vs]) rfl (by kernel_rfl) (by kernel_rfl) (by kernel_rfl) (fun _ _ _ h => h) (Or.inl ⟨by rfl, ?_⟩) H ?_
                · intro w' hSw; have q0 := (B2.out.below hSw).c0; have q1 := (B2.out.below hSw).c1; clear hSw; go_simp
                change wpAnyH _ _ _ _ _ _ _ { tmps := #[_, _, _, _, _, _, _, _, _, _, _, _, _, _, _, _, _, _, _, _, _, _, _, _, _, _, _, _, _, _, _, _, _, _, _, _, _, _, _, _, _, _, _, _, _, _, _, _, _, _, _, _, _, _], defers := _ } _
                refine wpAnyH_ready (rs := [1]) (by kernel_rfl) (by simp) ?_
                refine AllReadyH.cons rfl (fun KK hK => ?_) AllReadyH.nil
                go_simp
                refine (PF.out _).mono ?_
                rintro e x1 ⟨rfl, hb⟩
                replace H : Below v2.heap.size v2 x1 := H.trans (hb.mono H.size)
                clear hb
                refine hK.out _ _ H (fun _ => ?_)
                clear hK KK
                change wpAnyH _ _ _ _ _ _ _ { tmps := #[_, _, _, _, _, _, _, _, _, _, _, _, _, _, _, _, _, _, _, _, _, _, _, _, _, _, _, _, _, _, _, _, _, _, _, _, _, _, _, _, _, _, _, _, _, _, _, _, _, _, _, _, _, _], defers := _ } _
                refine wpAnyH_take (i := 2) (v := .bool true) rfl (by kernel_rfl) (by kernel_rfl) (by kernel_rfl) (fun _ _ _ h => h) (Or.inl ⟨by rfl, ?_⟩) H ?_
                · intro w' hSw; clear hSw; go_simp
                change wpAnyH _ _ _ _ _ _ _ { tmps := #[_, _, _, _, _, _, _, _, _, _, _, _, _, _, _, _, _, _, _, _, _, _, _, _, _, _, _, _, _, _, _, _, _, _, _, _, _, _, _, _, _, _, _, _, _, _, _, _, _, _, _, _, _, _], defers := _ } _
                refine wpAnyH_take (i := 3) (v := .bool true) rfl (by kernel_rfl) (by kernel_rfl) (by kernel_rfl) (fun _ _ _ h => h) (Or.inl ⟨by rfl, ?_⟩) H ?_
                · intro w' hSw; clear hSw; go_simp
                change wpAnyH _ _ _ _ _ _ _ { tmps := #[_, _, _, _, _, _, _, _, _, _, _, _, _, _, _, _, _, _, _, _, _, _, _, _, _, _, _, _, _, _, _, _, _, _, _, _, _, _, _, _, _, _, _, _, _, _, _, _, _, _, _, _, _, _], defers := _ } _
                refine wpAnyH_take (i := 4) (v := undef) rfl (by kernel_rfl) (by kernel_rfl) (by kernel_rfl) (fun _ _ _ h => h) (Or.inr ⟨by rfl, rfl⟩) H ?_
                change wpAnyH _ _ _ _ _ _ _ { tmps := #[_, _, _, _, _, _, _, _, _, _, _, _, _, _, _, _, _, _, _, _, _, _, _, _, _, _, _, _, _, _, _, _, _, _, _, _, _, _, _, _, _, _, _, _, _, _, _, _, _, _, _, _, _, _], defers := _ } _
                refine wpAnyH_take (i := 5) (v := undef) rfl (by kernel_rfl) (by kernel_rfl) (by kernel_rfl) (fun _ _ _ h => h) (Or.inr ⟨by rfl, rfl⟩) H ?_
                change wpAnyH _ _ _ _ _ _ _ { tmps := #[_, _, _, _, _, _, _, _, _, _, _, _, _, _, _, _, _, _, _, _, _, _, _, _, _, _, _, _, _, _, _, _, _, _, _, _, _, _, _, _, _, _, _, _, _, _, _, _, _, _, _, _, _, _], defers := _ } _
                refine wpAnyH_take (i := 6) (v := undef) rfl (by kernel_rfl) (by kernel_rfl) (by kernel_rfl) (fun _ _ _ h => h) (Or.inr ⟨by rfl, rfl⟩) H ?_
                change wpAnyH _ _ _ _ _ _ _ { tmps := #[_, _, _, _, _, _, _, _, _, _, _, _, _, _, _, _, _, _, _, _, _, _, _, _, _, _, _, _, _, _, _, _, _, _, _, _, _, _, _, _, _, _, _, _, _, _, _, _, _, _, _, _, _, _], defers := _ } _
                refine wpAnyH_take (i := 7) (v := undef) rfl (by kernel_rfl) (by kernel_rfl) (by kernel_rfl) (fun _ _ _ h => h) (Or.inr ⟨by rfl, rfl⟩) H ?_
                change wpAnyH _ _ _ _ _ _ _ { tmps := #[_, _, _, _, _, _, _, _, _, _, _, _, _, _, _, _, _, _, _, _, _, _, _, _, _, _, _, _, _, _, _, _, _, _, _, _, _, _, _, _, _, _, _, _, _, _, _, _, _, _, _, _, _, _], defers := _ } _
                refine wpAnyH_take (i := 8) (v := undef) rfl (by kernel_rfl) (by kernel_rfl) (by kernel_rfl) (fun _ _ _ h => h) (Or.inr ⟨by rfl, rfl⟩) H ?_
                change wpAnyH _ _ _ _ _ _ _ { tmps := #[_, _, _, _, _, _, _, _, _, _, _, _, _, _, _, _, _, _, _, _, _, _, _, _, _, _, _, _, _, _, _, _, _, _, _, _, _, _, _, _, _, _, _, _, _, _, _, _, _, _, _, _, _, _], defers := _ } _
                refine wpAnyH_take (i := 9) (v := undef) rfl (by kernel_rfl) (by kernel_rfl) (by kernel_rfl) (fun _ _ _ h => h) (Or.inr ⟨by rfl, rfl⟩) H ?_
                change wpAnyH _ _ _ _ _ _ _ { tmps := #[_, _, _, _, _, _, _, _, _, _, _, _, _, _, _, _, _, _, _, _, _, _, _, _, _, _, _, _, _, _, _, _, _, _, _, _, _, _, _, _, _, _, _, _, _, _, _, _, _, _, _, _, _, _], defers := _ } _
                refine wpAnyH_take (i := 10) (v := undef) rfl (by kernel_rfl) (by kernel_rfl) (by kernel_rfl) (fun _ _ _ h => h) (Or.inr ⟨by rfl, rfl⟩) H ?_
                change wpAnyH _ _ _ _ _ _ _ { tmps := #[_, _, _, _, _, _, _, _, _, _, _, _, _, _, _, _, _, _, _, _, _, _, _, _, _, _, _, _, _, _, _, _, _, _, _, _, _, _, _, _, _, _, _, _, _, _, _, _, _, _, _, _, _, _], defers := _ } _
                refine wpAnyH_take (i := 11) (v := .bool true) rfl (by kernel_rfl) (by kernel_rfl) (by kernel_rfl) (fun _ _ _ h => h) (Or.inl ⟨by rfl, ?_⟩) H ?_
                · intro w' hSw; clear hSw; go_simp
                change wpAnyH _ _ _ _ _ _ _ { tmps := #[_, _, _, _, _, _, _, _, _, _, _, _, _, _, _, _, _, _, _, _, _, _, _, _, _, _, _, _, _, _, _, _, _, _, _, _, _, _, _, _, _, _, _, _, _, _, _, _, _, _, _, _, _, _], defers := _ } _
                refine wpAnyH_done (by kernel_rfl) ?_ _
                refine NoPanic.normal ?_
                have B3 : Hid (Below w.heap.size w x1) := below_ab A0.out (below_ab HB2.out H HB2.out.size) A0.out.size
                clear H
                go_wp2
                go_ret
                exact ⟨rfl, B3.out⟩
            · obtain rfl : k = n := by omega
              obtain rfl := HT.out HA.out
              have B3 : Hid (Below w.heap.size w wr) := below_ab A0.out hb A0.out.size
              clear hb HB HT HF
              go_wp2
              go_ret
              exact ⟨rfl, B3.out⟩
        · have h2' : ((r.size : Int) != 32) = true := by simp; omega
          have h1' : ((n : Int) != (n : Int)) = false := by simp
          have h0' : ((n : Int) == 0) = false := by simp; omega
          obtain rfl : y = false := by rw [HY.out]; exact gB_no (fun q => h2 q.1.2.2.2)
          rw [← h1] at PC
          have k0 := X.out.c0
          have k1 := X.out.c1
          have k2 := X.out.c2
          clear HY hz hm h0 h1 h2
          go_enter Try.func18, Try.ntmps18
          go_wp2_with fail
          refine (PC.out _).mono ?_
          rintro e _ ⟨rfl, rfl⟩
          go_wp2
          go_ret
          exact ⟨rfl, A0.out⟩
      · obtain rfl : y = false := by rw [HY.out]; exact gB_no (fun q => h1 (by have := q.1.2.2.1; simpa using this))
        have h1' : ((n : Int) != ((pcsN m : Nat) : Int)) = true := by simp; omega
        have h0' : (((pcsN m : Nat) : Int) == 0) = false := by simp; omega
        have k0 := X.out.c0
        have k1 := X.out.c1
        have k2 := X.out.c2
        clear HY hz hm h0 h1
        generalize ((pcsN m : Nat) : Int) = M at *
        go_enter Try.func18, Try.ntmps18
        go_wp2_with fail
        refine (PC.out _).mono ?_
        rintro e _ ⟨rfl, rfl⟩
        go_wp2
        go_ret
        exact ⟨rfl, A0.out⟩
  · obtain rfl : y = false := by rw [HY.out]; exact gB_no (fun q => hz ⟨by have := q.1.1; omega, q.1.2.1⟩)
    have PC : Hid (∀ w : World, Calls Try.prog 24 #[.int .i64 z] w fun e w' => e = .returned (.tuple #[.int .i64 0, .int .i64 4]) ∧ w = w') := fun w => implPc_no z hz w
    have k0 := X.out.c0
    have k1 := X.out.c1
    have k2 := X.out.c2
    clear HY hz
    go_enter Try.func18, Try.ntmps18
    go_wp2_with fail
    refine (PC.out _).mono ?_
    rintro e _ ⟨rfl, rfl⟩
    go_wp2
    go_ret
    exact ⟨rfl, A0.out⟩
end Go.Proofs.Ytiagpeefambggab
