/-
  Dirty pieces: DirtyPieces of the program and of the model.
-/
import Derived.Test.YtonccbgolbcjfaaImgK
import Derived.Test.YtonccbgolbcjfaaNumsL
namespace Go.Proofs.Ytonccbgolbcjfaa
open Go.ChangeShapes Go.WideShapes Go.ChangeAt Go.RowKit
set_option linter.unusedVariables false
/-- Piece i is not the same as before. -/
def DirtAt (n : Nat) (F G : Nat → ByteArray) (i : Nat) : Prop := ¬ (i < n ∧ F i = G i)
theorem Strs.dN {w wr : World} {a : Option Addr} {n : Nat} {f : Nat → ByteArray} (h : Strs w a n f) (hb : Below w.heap.size w wr) : Strs wr a n f := h.below hb
theorem textNeD {t s : ByteArray} (h : t ≠ s) : (t.toList == s.toList) = false := by
  cases e : (t.toList == s.toList) with
  | false => rfl
  | true =>
    have e2 : t.toList = s.toList := by simpa using e
    rw [ByteArray.toList_eq, ByteArray.toList_eq] at e2
    exact absurd (ByteArray.ext (Array.toList_inj.1 e2)) h
set_option maxRecDepth 100000 in
set_option maxHeartbeats 4000000 in
theorem l12Dirty_any (a b : Option Addr) (n m c d : Nat) (F G : Nat → ByteArray) (hn : n ≤ 16) (hm : m ≤ 16) (w : World) (h : Strs w a n F) (h' : Strs w b m G) :
    Calls Try.prog 38 #[.slice a n c, .slice b m d] w fun e w' => (∃ a' c', e = .returned (.slice a' (dirL (DirtAt n F G) m).length c') ∧ IE w' w.heap.size (.slice a' (dirL (DirtAt n F G) m).length c') (dirL (DirtAt n F G) m).length (nthI (dirL (DirtAt n F G) m))) ∧ Below w.heap.size w w' := by
  have HC : Hid (Strs w a n F) := h
  have HD : Hid (Strs w b m G) := h'
  have HM : Hid (m ≤ 16) := hm
  have n16 : (n : Int) ≤ 16 := by omega
  have HL : Hid (∀ k, (dirL (DirtAt n F G) k).length ≤ k) := dirL_le _
  clear h h' hm hn
  go_enter Try.func38, Try.ntmps38
  go_wp2
  go_loopw [5, 6] (fun v i wr => ∃ (k q c2 : Nat) (a2 : Option Addr), k ≤ m ∧ q = (dirL (DirtAt n F G) k).length ∧ i = .int .i64 k ∧ v = .slice a2 q c2 ∧ IE wr w.heap.size (.slice a2 q c2) q (nthI (dirL (DirtAt n F G) k)) ∧ Below w.heap.size w wr) (fun _ i _ => m - (intOf i).toNat)
  case atStart => exact ⟨0, 0, 0, _, by omega, rfl, rfl, rfl, EO.lit _ _ _ _ (Nat.le_refl _) _, (Below.refl _ _).alloc (Nat.le_refl _) _⟩
  case round =>
    obtain ⟨k, q, c2, a2, hk, hq, rfl, rfl, ho, hb⟩ := hrel
    have HQ : Hid (q = (dirL (DirtAt n F G) k).length) := hq
    by_cases hlt : k < m
    · have hlt' : (k : Int) < (m : Int) := by omega
      have k0 : (0 : Int) ≤ (k : Int) := by omega
      have kb : (k : Int) ≤ 16 := by have := HM.out; omega
      obtain ⟨b2, o2, rfl, hc2⟩ := (HD.out.below hb).opened (by omega)
      have d1 := hc2 k hlt
      have q16 : q ≤ 1000 := by have := HL.out k; have := HM.out; omega
      have HK : Hid (k < m) := hlt
      have HO : Hid (IE wr w.heap.size (.slice a2 q c2) q (nthI (dirL (DirtAt n F G) k))) := ho
      have HB : Hid (Below w.heap.size w wr) := hb
      clear ho hc2
      by_cases hkn : k < n
      · have e1 : ¬ (n : Int) ≤ (k : Int) := by omega
        have hkn' : (k : Int) < (n : Int) := by omega
        have HKN : Hid (k < n) := hkn
        obtain ⟨b1, o1, rfl, hc1⟩ := (HC.out.below hb).opened (by omega)
        have d0 := hc1 k hkn
        clear hc1
        by_cases he : F k = G k
        · have ND : ¬ DirtAt n F G k := fun z => z ⟨hkn, he⟩
          have HQ2 : Hid (q = (dirL (DirtAt n F G) (k + 1)).length) := by show _ = _; rw [dirL_no ND]; exact HQ.out
          have HO2 : Hid (IE wr w.heap.size (.slice a2 q c2) q (nthI (dirL (DirtAt n F G) (k + 1)))) := by show IE _ _ _ _ _; rw [dirL_no ND]; exact HO.out
          rw [he] at d0
          clear hq hb he hkn hlt hk q16 HQ HO ND
          generalize G k = V at *
          go_wp2_with fail
          have H : Below wr.heap.size wr wr.drew := (Below.refl _ _).drew
          refine wp_region_noPanic ?_
          refine wp_region_held_drew (S := fun w' => Below wr.heap.size wr w') (by kernel_rfl) H (fun _ => ?_)
          generalize wr.drew = x0 at *
          refine wpAnyH_take (i := 0) (v := .int .i64 (k : Int)) rfl (by kernel_rfl) (by kernel_rfl) (by kernel_rfl) (fun _ _ _ h => h) (Or.inl ⟨by rfl, ?_⟩) H ?_
          · intro w' hSw; clear hSw; go_simp
          change wpAnyH _ _ _ _ _ _ _ { tmps := #[_, _, _, _, _, _, _, _, _, _, _, _, _, _, _, _, _, _, _, _, _, _, _, _, _, _, _, _, _, _, _, _, _, _], defers := _ } _
          refine wpAnyH_take (i := 1) (v := .slice (some ⟨b1, o1, none⟩) n c) rfl (by kernel_rfl) (by kernel_rfl) (by kernel_rfl) (fun _ _ _ h => h) (Or.inl ⟨by rfl, ?_⟩) H ?_
          · intro w' hSw; clear hSw; go_simp
          change wpAnyH _ _ _ _ _ _ _ { tmps := #[_, _, _, _, _, _, _, _, _, _, _, _, _, _, _, _, _, _, _, _, _, _, _, _, _, _, _, _, _, _, _, _, _, _], defers := _ } _
          refine wpAnyH_take (i := 2) (v := .int .i64 (n : Int)) rfl (by kernel_rfl) (by kernel_rfl) (by kernel_rfl) (fun _ _ _ h => h) (Or.inl ⟨by rfl, ?_⟩) H ?_
          · intro w' hSw; clear hSw; go_simp
          change wpAnyH _ _ _ _ _ _ _ { tmps := #[_, _, _, _, _, _, _, _, _, _, _, _, _, _, _, _, _, _, _, _, _, _, _, _, _, _, _, _, _, _, _, _, _, _], defers := _ } _
          refine wpAnyH_take (i := 3) (v := .bool false) rfl (by kernel_rfl) (by kernel_rfl) (by kernel_rfl) (fun _ _ _ h => h) (Or.inl ⟨by rfl, ?_⟩) H ?_
          · intro w' hSw; clear hSw; go_simp; exact HKN.out
          change wpAnyH _ _ _ _ _ _ _ { tmps := #[_, _, _, _, _, _, _, _, _, _, _, _, _, _, _, _, _, _, _, _, _, _, _, _, _, _, _, _, _, _, _, _, _, _], defers := _ } _
          refine wpAnyH_take (i := 4) (v := .bool false) rfl (by kernel_rfl) (by kernel_rfl) (by kernel_rfl) (fun _ _ _ h => h) (Or.inl ⟨by rfl, ?_⟩) H ?_
          · intro w' hSw; clear hSw; go_simp
          change wpAnyH _ _ _ _ _ _ _ { tmps := #[_, _, _, _, _, _, _, _, _, _, _, _, _, _, _, _, _, _, _, _, _, _, _, _, _, _, _, _, _, _, _, _, _, _], defers := _ } _
          refine wpAnyH_take (i := 5) (v := .slice (some ⟨b1, o1, none⟩) n c) rfl (by kernel_rfl) (by kernel_rfl) (by kernel_rfl) (fun _ _ _ h => h) (Or.inl ⟨by rfl, ?_⟩) H ?_
          · intro w' hSw; clear hSw; go_simp
          change wpAnyH _ _ _ _ _ _ _ { tmps := #[_, _, _, _, _, _, _, _, _, _, _, _, _, _, _, _, _, _, _, _, _, _, _, _, _, _, _, _, _, _, _, _, _, _], defers := _ } _
          refine wpAnyH_take (i := 6) (v := .int .i64 (k : Int)) rfl (by kernel_rfl) (by kernel_rfl) (by kernel_rfl) (fun _ _ _ h => h) (Or.inl ⟨by rfl, ?_⟩) H ?_
          · intro w' hSw; clear hSw; go_simp
          change wpAnyH _ _ _ _ _ _ _ { tmps := #[_, _, _, _, _, _, _, _, _, _, _, _, _, _, _, _, _, _, _, _, _, _, _, _, _, _, _, _, _, _, _, _, _, _], defers := _ } _
          refine wpAnyH_take (i := 7) (v := .pointer (some ⟨b1, o1 + k, none⟩)) rfl (by kernel_rfl) (by kernel_rfl) (by kernel_rfl) (fun _ _ _ h => h) (Or.inl ⟨by rfl, ?_⟩) H ?_
          · intro w' hSw; clear hSw; go_simp
          change wpAnyH _ _ _ _ _ _ _ { tmps := #[_, _, _, _, _, _, _, _, _, _, _, _, _, _, _, _, _, _, _, _, _, _, _, _, _, _, _, _, _, _, _, _, _, _], defers := _ } _
          refine wpAnyH_take (i := 8) (v := .string V) rfl (by kernel_rfl) (by kernel_rfl) (by kernel_rfl) (fun _ _ _ h => h) (Or.inl ⟨by rfl, ?_⟩) H ?_
          · intro w' hSw; have q0 := (hSw.cell (strBlock d0)).trans d0; clear hSw; go_simp
          change wpAnyH _ _ _ _ _ _ _ { tmps := #[_, _, _, _, _, _, _, _, _, _, _, _, _, _, _, _, _, _, _, _, _, _, _, _, _, _, _, _, _, _, _, _, _, _], defers := _ } _
          refine wpAnyH_take (i := 9) (v := .slice (some ⟨b2, o2, none⟩) m d) rfl (by kernel_rfl) (by kernel_rfl) (by kernel_rfl) (fun _ _ _ h => h) (Or.inl ⟨by rfl, ?_⟩) H ?_
          · intro w' hSw; clear hSw; go_simp
          change wpAnyH _ _ _ _ _ _ _ { tmps := #[_, _, _, _, _, _, _, _, _, _, _, _, _, _, _, _, _, _, _, _, _, _, _, _, _, _, _, _, _, _, _, _, _, _], defers := _ } _
          refine wpAnyH_take (i := 10) (v := .int .i64 (k : Int)) rfl (by kernel_rfl) (by kernel_rfl) (by kernel_rfl) (fun _ _ _ h => h) (Or.inl ⟨by rfl, ?_⟩) H ?_
          · intro w' hSw; clear hSw; go_simp
          change wpAnyH _ _ _ _ _ _ _ { tmps := #[_, _, _, _, _, _, _, _, _, _, _, _, _, _, _, _, _, _, _, _, _, _, _, _, _, _, _, _, _, _, _, _, _, _], defers := _ } _
          refine wpAnyH_take (i := 11) (v := .pointer (some ⟨b2, o2 + k, none⟩)) rfl (by kernel_rfl) (by kernel_rfl) (by kernel_rfl) (fun _ _ _ h => h) (Or.inl ⟨by rfl, ?_⟩) H ?_
          · intro w' hSw; clear hSw; go_simp
          change wpAnyH _ _ _ _ _ _ _ { tmps := #[_, _, _, _, _, _, _, _, _, _, _, _, _, _, _, _, _, _, _, _, _, _, _, _, _, _, _, _, _, _, _, _, _, _], defers := _ } _
          refine wpAnyH_take (i := 12) (v := .string V) rfl (by kernel_rfl) (by kernel_rfl) (by kernel_rfl) (fun _ _ _ h => h) (Or.inl ⟨by rfl, ?_⟩) H ?_
          · intro w' hSw; have q0 := (hSw.cell (strBlock d1)).trans d1; clear hSw; go_simp
          change wpAnyH _ _ _ _ _ _ _ { tmps := #[_, _, _, _, _, _, _, _, _, _, _, _, _, _, _, _, _, _, _, _, _, _, _, _, _, _, _, _, _, _, _, _, _, _], defers := _ } _
          refine wpAnyH_take (i := 13) (v := .bool false) rfl (by kernel_rfl) (by kernel_rfl) (by kernel_rfl) (fun _ _ _ h => h) (Or.inl ⟨by rfl, ?_⟩) H ?_
          · intro w' hSw; clear hSw; go_simp
          change wpAnyH _ _ _ _ _ _ _ { tmps := #[_, _, _, _, _, _, _, _, _, _, _, _, _, _, _, _, _, _, _, _, _, _, _, _, _, _, _, _, _, _, _, _, _, _], defers := _ } _
          refine wpAnyH_take (i := 14) (v := .bool false) rfl (by kernel_rfl) (by kernel_rfl) (by kernel_rfl) (fun _ _ _ h => h) (Or.inl ⟨by rfl, ?_⟩) H ?_
          · intro w' hSw; clear hSw; go_simp
          change wpAnyH _ _ _ _ _ _ _ { tmps := #[_, _, _, _, _, _, _, _, _, _, _, _, _, _, _, _, _, _, _, _, _, _, _, _, _, _, _, _, _, _, _, _, _, _], defers := _ } _
          refine wpAnyH_done (by kernel_rfl) ?_ _
          refine NoPanic.normal ?_
          have HB2 : Hid (Below w.heap.size w x0) := HB.out.trans (H.mono HB.out.size)
          have HO3 : Hid (IE x0 w.heap.size (.slice a2 q c2) q (nthI (dirL (DirtAt n F G) (k + 1)))) := EO.below HO2.out H
          clear H HO2 HB
          go_wp2
          go_roundw
          case rel => exact ⟨k + 1, q, c2, a2, by have := HK.out; omega, HQ2.out, by go_num, rfl, HO3.out, HB2.out⟩
          case measure => have := HK.out; simp [intOf]; omega
        · have YD : Hid (DirtAt n F G k) := fun z => he z.2
          have he1 := textNeD he
          clear hq hb he hkn hlt hk
          generalize F k = U at *
          generalize G k = V at *
          go_wp2_with fail
          have H : Below wr.heap.size wr wr.drew := (Below.refl _ _).drew
          refine wp_region_noPanic ?_
          refine wp_region_held_drew (S := fun w' => Below wr.heap.size wr w') (by kernel_rfl) H (fun _ => ?_)
          generalize wr.drew = x0 at *
          refine wpAnyH_take (i := 0) (v := .int .i64 (k : Int)) rfl (by kernel_rfl) (by kernel_rfl) (by kernel_rfl) (fun _ _ _ h => h) (Or.inl ⟨by rfl, ?_⟩) H ?_
          · intro w' hSw; clear hSw; go_simp
          change wpAnyH _ _ _ _ _ _ _ { tmps := #[_, _, _, _, _, _, _, _, _, _, _, _, _, _, _, _, _, _, _, _, _, _, _, _, _, _, _, _, _, _, _, _, _, _], defers := _ } _
          refine wpAnyH_take (i := 1) (v := .slice (some ⟨b1, o1, none⟩) n c) rfl (by kernel_rfl) (by kernel_rfl) (by kernel_rfl) (fun _ _ _ h => h) (Or.inl ⟨by rfl, ?_⟩) H ?_
          · intro w' hSw; clear hSw; go_simp
          change wpAnyH _ _ _ _ _ _ _ { tmps := #[_, _, _, _, _, _, _, _, _, _, _, _, _, _, _, _, _, _, _, _, _, _, _, _, _, _, _, _, _, _, _, _, _, _], defers := _ } _
          refine wpAnyH_take (i := 2) (v := .int .i64 (n : Int)) rfl (by kernel_rfl) (by kernel_rfl) (by kernel_rfl) (fun _ _ _ h => h) (Or.inl ⟨by rfl, ?_⟩) H ?_
          · intro w' hSw; clear hSw; go_simp
          change wpAnyH _ _ _ _ _ _ _ { tmps := #[_, _, _, _, _, _, _, _, _, _, _, _, _, _, _, _, _, _, _, _, _, _, _, _, _, _, _, _, _, _, _, _, _, _], defers := _ } _
          refine wpAnyH_take (i := 3) (v := .bool false) rfl (by kernel_rfl) (by kernel_rfl) (by kernel_rfl) (fun _ _ _ h => h) (Or.inl ⟨by rfl, ?_⟩) H ?_
          · intro w' hSw; clear hSw; go_simp; exact HKN.out
          change wpAnyH _ _ _ _ _ _ _ { tmps := #[_, _, _, _, _, _, _, _, _, _, _, _, _, _, _, _, _, _, _, _, _, _, _, _, _, _, _, _, _, _, _, _, _, _], defers := _ } _
          refine wpAnyH_take (i := 4) (v := .bool false) rfl (by kernel_rfl) (by kernel_rfl) (by kernel_rfl) (fun _ _ _ h => h) (Or.inl ⟨by rfl, ?_⟩) H ?_
          · intro w' hSw; clear hSw; go_simp
          change wpAnyH _ _ _ _ _ _ _ { tmps := #[_, _, _, _, _, _, _, _, _, _, _, _, _, _, _, _, _, _, _, _, _, _, _, _, _, _, _, _, _, _, _, _, _, _], defers := _ } _
          refine wpAnyH_take (i := 5) (v := .slice (some ⟨b1, o1, none⟩) n c) rfl (by kernel_rfl) (by kernel_rfl) (by kernel_rfl) (fun _ _ _ h => h) (Or.inl ⟨by rfl, ?_⟩) H ?_
          · intro w' hSw; clear hSw; go_simp
          change wpAnyH _ _ _ _ _ _ _ { tmps := #[_, _, _, _, _, _, _, _, _, _, _, _, _, _, _, _, _, _, _, _, _, _, _, _, _, _, _, _, _, _, _, _, _, _], defers := _ } _
          refine wpAnyH_take (i := 6) (v := .int .i64 (k : Int)) rfl (by kernel_rfl) (by kernel_rfl) (by kernel_rfl) (fun _ _ _ h => h) (Or.inl ⟨by rfl, ?_⟩) H ?_
          · intro w' hSw; clear hSw; go_simp
          change wpAnyH _ _ _ _ _ _ _ { tmps := #[_, _, _, _, _, _, _, _, _, _, _, _, _, _, _, _, _, _, _, _, _, _, _, _, _, _, _, _, _, _, _, _, _, _], defers := _ } _
          refine wpAnyH_take (i := 7) (v := .pointer (some ⟨b1, o1 + k, none⟩)) rfl (by kernel_rfl) (by kernel_rfl) (by kernel_rfl) (fun _ _ _ h => h) (Or.inl ⟨by rfl, ?_⟩) H ?_
          · intro w' hSw; clear hSw; go_simp
          change wpAnyH _ _ _ _ _ _ _ { tmps := #[_, _, _, _, _, _, _, _, _, _, _, _, _, _, _, _, _, _, _, _, _, _, _, _, _, _, _, _, _, _, _, _, _, _], defers := _ } _
          refine wpAnyH_take (i := 8) (v := .string U) rfl (by kernel_rfl) (by kernel_rfl) (by kernel_rfl) (fun _ _ _ h => h) (Or.inl ⟨by rfl, ?_⟩) H ?_
          · intro w' hSw; have q0 := (hSw.cell (strBlock d0)).trans d0; clear hSw; go_simp
          change wpAnyH _ _ _ _ _ _ _ { tmps := #[_, _, _, _, _, _, _, _, _, _, _, _, _, _, _, _, _, _, _, _, _, _, _, _, _, _, _, _, _, _, _, _, _, _], defers := _ } _
          refine wpAnyH_take (i := 9) (v := .slice (some ⟨b2, o2, none⟩) m d) rfl (by kernel_rfl) (by kernel_rfl) (by kernel_rfl) (fun _ _ _ h => h) (Or.inl ⟨by rfl, ?_⟩) H ?_
          · intro w' hSw; clear hSw; go_simp
          change wpAnyH _ _ _ _ _ _ _ { tmps := #[_, _, _, _, _, _, _, _, _, _, _, _, _, _, _, _, _, _, _, _, _, _, _, _, _, _, _, _, _, _, _, _, _, _], defers := _ } _
          refine wpAnyH_take (i := 10) (v := .int .i64 (k : Int)) rfl (by kernel_rfl) (by kernel_rfl) (by kernel_rfl) (fun _ _ _ h => h) (Or.inl ⟨by rfl, ?_⟩) H ?_
          · intro w' hSw; clear hSw; go_simp
          change wpAnyH _ _ _ _ _ _ _ { tmps := #[_, _, _, _, _, _, _, _, _, _, _, _, _, _, _, _, _, _, _, _, _, _, _, _, _, _, _, _, _, _, _, _, _, _], defers := _ } _
          refine wpAnyH_take (i := 11) (v := .pointer (some ⟨b2, o2 + k, none⟩)) rfl (by kernel_rfl) (by kernel_rfl) (by kernel_rfl) (fun _ _ _ h => h) (Or.inl ⟨by rfl, ?_⟩) H ?_
          · intro w' hSw; clear hSw; go_simp
          change wpAnyH _ _ _ _ _ _ _ { tmps := #[_, _, _, _, _, _, _, _, _, _, _, _, _, _, _, _, _, _, _, _, _, _, _, _, _, _, _, _, _, _, _, _, _, _], defers := _ } _
          refine wpAnyH_take (i := 12) (v := .string V) rfl (by kernel_rfl) (by kernel_rfl) (by kernel_rfl) (fun _ _ _ h => h) (Or.inl ⟨by rfl, ?_⟩) H ?_
          · intro w' hSw; have q0 := (hSw.cell (strBlock d1)).trans d1; clear hSw; go_simp
          change wpAnyH _ _ _ _ _ _ _ { tmps := #[_, _, _, _, _, _, _, _, _, _, _, _, _, _, _, _, _, _, _, _, _, _, _, _, _, _, _, _, _, _, _, _, _, _], defers := _ } _
          refine wpAnyH_take (i := 13) (v := .bool true) rfl (by kernel_rfl) (by kernel_rfl) (by kernel_rfl) (fun _ _ _ h => h) (Or.inl ⟨by rfl, ?_⟩) H ?_
          · intro w' hSw; clear hSw; go_simp
          change wpAnyH _ _ _ _ _ _ _ { tmps := #[_, _, _, _, _, _, _, _, _, _, _, _, _, _, _, _, _, _, _, _, _, _, _, _, _, _, _, _, _, _, _, _, _, _], defers := _ } _
          refine wpAnyH_take (i := 14) (v := .bool true) rfl (by kernel_rfl) (by kernel_rfl) (by kernel_rfl) (fun _ _ _ h => h) (Or.inl ⟨by rfl, ?_⟩) H ?_
          · intro w' hSw; clear hSw; go_simp
          change wpAnyH _ _ _ _ _ _ _ { tmps := #[_, _, _, _, _, _, _, _, _, _, _, _, _, _, _, _, _, _, _, _, _, _, _, _, _, _, _, _, _, _, _, _, _, _], defers := _ } _
          refine wpAnyH_done (by kernel_rfl) ?_ _
          refine NoPanic.normal ?_
          have HB2 : Hid (Below w.heap.size w x0) := HB.out.trans (H.mono HB.out.size)
          have HO2 : Hid (IE x0 w.heap.size (.slice a2 q c2) q (nthI (dirL (DirtAt n F G) k))) := EO.below HO.out H
          obtain ⟨a3, c3, w3, hr, hO3, hB3⟩ := appNum k HQ.out q16 HO2.out HB2.out
          have HQ3 : Hid (q + 1 = (dirL (DirtAt n F G) (k + 1)).length) := by show _ = _; rw [dirL_yes YD.out, List.length_append, ← HQ.out]; rfl
          have HO3 : Hid (IE w3 w.heap.size (.slice a3 (q + 1) c3) (q + 1) (nthI (dirL (DirtAt n F G) (k + 1)))) := by show IE _ _ _ _ _; rw [dirL_yes YD.out]; exact hO3
          have HB3 : Hid (Below w.heap.size w w3) := hB3
          clear H HB2 HO2 hO3 hB3 HQ HO HB YD q16
          go_wp2_with (at_builtin; refine Lib.wpList_append_run _ rfl (.tmp 29) (.tmp 31) 31 31 rfl (.slice a2 q c2) (.slice (some ⟨x0.heap.size, 0, none⟩) 1 1) rfl rfl _ _ (hr _) ?_)
          go_roundw
          case rel => exact ⟨k + 1, q + 1, c3, a3, by have := HK.out; omega, HQ3.out, by go_num, rfl, HO3.out, HB3.out⟩
          case measure => have := HK.out; simp [intOf]; omega
      · have e1 : (n : Int) ≤ (k : Int) := by omega
        have YD : Hid (DirtAt n F G k) := fun z => hkn z.1
        clear hq hb hkn hlt hk
        go_wp2_with fail
        have H : Below wr.heap.size wr wr.drew := (Below.refl _ _).drew
        refine wp_region_noPanic ?_
        refine wp_region_held_drew (S := fun w' => Below wr.heap.size wr w') (by kernel_rfl) H (fun _ => ?_)
        generalize wr.drew = x0 at *
        refine wpAnyH_take (i := 0) (v := .int .i64 (k : Int)) rfl (by kernel_rfl) (by kernel_rfl) (by kernel_rfl) (fun _ _ _ h => h) (Or.inl ⟨by rfl, ?_⟩) H ?_
        · intro w' hSw; clear hSw; go_simp
        change wpAnyH _ _ _ _ _ _ _ { tmps := #[_, _, _, _, _, _, _, _, _, _, _, _, _, _, _, _, _, _, _, _, _, _, _, _, _, _, _, _, _, _, _, _, _, _], defers := _ } _
        refine wpAnyH_take (i := 1) (v := .slice a n c) rfl (by kernel_rfl) (by kernel_rfl) (by kernel_rfl) (fun _ _ _ h => h) (Or.inl ⟨by rfl, ?_⟩) H ?_
        · intro w' hSw; clear hSw; go_simp
        change wpAnyH _ _ _ _ _ _ _ { tmps := #[_, _, _, _, _, _, _, _, _, _, _, _, _, _, _, _, _, _, _, _, _, _, _, _, _, _, _, _, _, _, _, _, _, _], defers := _ } _
        refine wpAnyH_take (i := 2) (v := .int .i64 (n : Int)) rfl (by kernel_rfl) (by kernel_rfl) (by kernel_rfl) (fun _ _ _ h => h) (Or.inl ⟨by rfl, ?_⟩) H ?_
        · intro w' hSw; clear hSw; go_simp
        change wpAnyH _ _ _ _ _ _ _ { tmps := #[_, _, _, _, _, _, _, _, _, _, _, _, _, _, _, _, _, _, _, _, _, _, _, _, _, _, _, _, _, _, _, _, _, _], defers := _ } _
        refine wpAnyH_take (i := 3) (v := .bool true) rfl (by kernel_rfl) (by kernel_rfl) (by kernel_rfl) (fun _ _ _ h => h) (Or.inl ⟨by rfl, ?_⟩) H ?_
        · intro w' hSw; clear hSw; go_simp
        change wpAnyH _ _ _ _ _ _ _ { tmps := #[_, _, _, _, _, _, _, _, _, _, _, _, _, _, _, _, _, _, _, _, _, _, _, _, _, _, _, _, _, _, _, _, _, _], defers := _ } _
        refine wpAnyH_take (i := 4) (v := .bool true) rfl (by kernel_rfl) (by kernel_rfl) (by kernel_rfl) (fun _ _ _ h => h) (Or.inl ⟨by rfl, ?_⟩) H ?_
        · intro w' hSw; clear hSw; go_simp
        change wpAnyH _ _ _ _ _ _ _ { tmps := #[_, _, _, _, _, _, _, _, _, _, _, _, _, _, _, _, _, _, _, _, _, _, _, _, _, _, _, _, _, _, _, _, _, _], defers := _ } _
        refine wpAnyH_take (i := 5) (v := undef) rfl (by kernel_rfl) (by kernel_rfl) (by kernel_rfl) (fun _ _ _ h => h) (Or.inr ⟨by rfl, rfl⟩) H ?_
        change wpAnyH _ _ _ _ _ _ _ { tmps := #[_, _, _, _, _, _, _, _, _, _, _, _, _, _, _, _, _, _, _, _, _, _, _, _, _, _, _, _, _, _, _, _, _, _], defers := _ } _
        refine wpAnyH_take (i := 6) (v := undef) rfl (by kernel_rfl) (by kernel_rfl) (by kernel_rfl) (fun _ _ _ h => h) (Or.inr ⟨by rfl, rfl⟩) H ?_
        change wpAnyH _ _ _ _ _ _ _ { tmps := #[_, _, _, _, _, _, _, _, _, _, _, _, _, _, _, _, _, _, _, _, _, _, _, _, _, _, _, _, _, _, _, _, _, _], defers := _ } _
        refine wpAnyH_take (i := 7) (v := undef) rfl (by kernel_rfl) (by kernel_rfl) (by kernel_rfl) (fun _ _ _ h => h) (Or.inr ⟨by rfl, rfl⟩) H ?_
        change wpAnyH _ _ _ _ _ _ _ { tmps := #[_, _, _, _, _, _, _, _, _, _, _, _, _, _, _, _, _, _, _, _, _, _, _, _, _, _, _, _, _, _, _, _, _, _], defers := _ } _
        refine wpAnyH_take (i := 8) (v := undef) rfl (by kernel_rfl) (by kernel_rfl) (by kernel_rfl) (fun _ _ _ h => h) (Or.inr ⟨by rfl, rfl⟩) H ?_
        change wpAnyH _ _ _ _ _ _ _ { tmps := #[_, _, _, _, _, _, _, _, _, _, _, _, _, _, _, _, _, _, _, _, _, _, _, _, _, _, _, _, _, _, _, _, _, _], defers := _ } _
        refine wpAnyH_take (i := 9) (v := undef) rfl (by kernel_rfl) (by kernel_rfl) (by kernel_rfl) (fun _ _ _ h => h) (Or.inr ⟨by rfl, rfl⟩) H ?_
        change wpAnyH _ _ _ _ _ _ _ { tmps := #[_, _, _, _, _, _, _, _, _, _, _, _, _, _, _, _, _, _, _, _, _, _, _, _, _, _, _, _, _, _, _, _, _, _], defers := _ } _
        refine wpAnyH_take (i := 10) (v := undef) rfl (by kernel_rfl) (by kernel_rfl) (by kernel_rfl) (fun _ _ _ h => h) (Or.inr ⟨by rfl, rfl⟩) H ?_
        change wpAnyH _ _ _ _ _ _ _ { tmps := #[_, _, _, _, _, _, _, _, _, _, _, _, _, _, _, _, _, _, _, _, _, _, _, _, _, _, _, _, _, _, _, _, _, _], defers := _ } _
        refine wpAnyH_take (i := 11) (v := undef) rfl (by kernel_rfl) (by kernel_rfl) (by kernel_rfl) (fun _ _ _ h => h) (Or.inr ⟨by rfl, rfl⟩) H ?_
        change wpAnyH _ _ _ _ _ _ _ { tmps := #[_, _, _, _, _, _, _, _, _, _, _, _, _, _, _, _, _, _, _, _, _, _, _, _, _, _, _, _, _, _, _, _, _, _], defers := _ } _
        refine wpAnyH_take (i := 12) (v := undef) rfl (by kernel_rfl) (by kernel_rfl) (by kernel_rfl) (fun _ _ _ h => h) (Or.inr ⟨by rfl, rfl⟩) H ?_
        change wpAnyH _ _ _ _ _ _ _ { tmps := #[_, _, _, _, _, _, _, _, _, _, _, _, _, _, _, _, _, _, _, _, _, _, _, _, _, _, _, _, _, _, _, _, _, _], defers := _ } _
        refine wpAnyH_take (i := 13) (v := undef) rfl (by kernel_rfl) (by kernel_rfl) (by kernel_rfl) (fun _ _ _ h => h) (Or.inr ⟨by rfl, rfl⟩) H ?_
        change wpAnyH _ _ _ _ _ _ _ { tmps := #[_, _, _, _, _, _, _, _, _, _, _, _, _, _, _, _, _, _, _, _, _, _, _, _, _, _, _, _, _, _, _, _, _, _], defers := _ } _
        refine wpAnyH_take (i := 14) (v := .bool true) rfl (by kernel_rfl) (by kernel_rfl) (by kernel_rfl) (fun _ _ _ h => h) (Or.inl ⟨by rfl, ?_⟩) H ?_
        · intro w' hSw; clear hSw; go_simp
        change wpAnyH _ _ _ _ _ _ _ { tmps := #[_, _, _, _, _, _, _, _, _, _, _, _, _, _, _, _, _, _, _, _, _, _, _, _, _, _, _, _, _, _, _, _, _, _], defers := _ } _
        refine wpAnyH_done (by kernel_rfl) ?_ _
        refine NoPanic.normal ?_
        have HB2 : Hid (Below w.heap.size w x0) := HB.out.trans (H.mono HB.out.size)
        have HO2 : Hid (IE x0 w.heap.size (.slice a2 q c2) q (nthI (dirL (DirtAt n F G) k))) := EO.below HO.out H
        obtain ⟨a3, c3, w3, hr, hO3, hB3⟩ := appNum k HQ.out q16 HO2.out HB2.out
        have HQ3 : Hid (q + 1 = (dirL (DirtAt n F G) (k + 1)).length) := by show _ = _; rw [dirL_yes YD.out, List.length_append, ← HQ.out]; rfl
        have HO3 : Hid (IE w3 w.heap.size (.slice a3 (q + 1) c3) (q + 1) (nthI (dirL (DirtAt n F G) (k + 1)))) := by show IE _ _ _ _ _; rw [dirL_yes YD.out]; exact hO3
        have HB3 : Hid (Below w.heap.size w w3) := hB3
        clear H HB2 HO2 hO3 hB3 HQ HO HB YD q16
        go_wp2_with (at_builtin; refine Lib.wpList_append_run _ rfl (.tmp 29) (.tmp 31) 31 31 rfl (.slice a2 q c2) (.slice (some ⟨x0.heap.size, 0, none⟩) 1 1) rfl rfl _ _ (hr _) ?_)
        go_roundw
        case rel => exact ⟨k + 1, q + 1, c3, a3, by have := HK.out; omega, HQ3.out, by go_num, rfl, HO3.out, HB3.out⟩
        case measure => have := HK.out; simp [intOf]; omega
    · obtain rfl : k = m := by omega
      subst hq
      have HR : Hid (IE wr w.heap.size (.slice a2 (dirL (DirtAt n F G) k).length c2) (dirL (DirtAt n F G) k).length (nthI (dirL (DirtAt n F G) k))) := ho
      have HB : Hid (Below w.heap.size w wr) := hb
      clear ho hb hlt hk HL HQ
      go_wp2
      go_ret
      exact ⟨⟨a2, c2, rfl, HR.out⟩, HB.out⟩
set_option maxRecDepth 100000 in
theorem lists2 (w : World) (u v : Value) (t : TypeId) : ∀ j, j < 2 → (w.alloc (.cells #[u, v] t)).cell? ⟨w.heap.size, j, none⟩ = some (if j = 0 then u else v) := fun j hj => 
  (World.rowIs_alloc w #[u, v] t (fun j => if j = 0 then u else v) (fun i hi => by
    rcases (show i = 0 ∨ i = 1 by simpa using (by have : i < 2 := by simpa using hi
                                                  omega)) with rfl | rfl <;> rfl)).cell (i := j) hj
theorem PfIs.two {n m : Nat} {F G : Nat → ByteArray} {x : Int} {A : Nat → Nat} {FF : Nat → Nat → ByteArray} (h : PfIs 2 A FF x) (e0 : A 0 = n) (e1 : A 1 = m) (f0 : FF 0 = F) (f1 : FF 1 = G) :
    (x = 2 ∧ (4096 < n ∨ 4096 < m)) ∨ (x = 1 ∧ (¬ 4096 < n ∧ ¬ 4096 < m) ∧ ¬ (PcsOk n F ∧ PcsOk m G)) ∨ (x = 0 ∧ PcsOk n F ∧ PcsOk m G) := by
  have two : ∀ j, j < 2 → j = 0 ∨ j = 1 := fun j hj => by omega
  subst e0 e1 f0 f1
  rcases h with ⟨rfl, j, hj, q⟩ | ⟨rfl, q1, j, hj, q⟩ | ⟨rfl, q⟩
  · rcases two j hj with rfl | rfl
    · exact .inl ⟨rfl, .inl q⟩
    · exact .inl ⟨rfl, .inr q⟩
  · refine .inr (.inl ⟨rfl, ⟨q1 0 (by omega), q1 1 (by omega)⟩, fun z => ?_⟩)
    rcases two j hj with rfl | rfl
    · exact q z.1
    · exact q z.2
  · exact .inr (.inr ⟨rfl, q 0 (by omega), q 1 (by omega)⟩)
/-- What DirtyPieces answers. -/
def DpIs (n m : Nat) (F G : Nat → ByteArray) (L : List Nat) (c : Int) : Prop := (c = 2 ∧ (4096 < n ∨ 4096 < m) ∧ L = []) ∨ (c = 1 ∧ (¬ 4096 < n ∧ ¬ 4096 < m) ∧ ¬ (PcsOk n F ∧ PcsOk m G) ∧ L = []) ∨ (c = 0 ∧ (PcsOk n F ∧ PcsOk m G) ∧ L = dirL (DirtAt n F G) m)
set_option maxRecDepth 100000 in
set_option maxHeartbeats 4000000 in
theorem implDirty_any (a b : Option Addr) (n m c d : Nat) (F G : Nat → ByteArray) (L : List Nat) (cd : Int) (hA : DpIs n m F G L cd) (w : World) (h : Strs w a n F) (h' : Strs w b m G) :
    Calls Try.prog 13 #[.slice a n c, .slice b m d] w fun e w' => (∃ a' c', e = .returned (.tuple #[.slice a' L.length c', .int .i64 cd]) ∧ IE w' w.heap.size (.slice a' L.length c') L.length (nthI L)) ∧ Below w.heap.size w w' := by
  have hb : Below w.heap.size w (w.alloc (.cells #[.slice a n c, .slice b m d] 24)) := (Below.refl _ _).alloc (Nat.le_refl _) _
  have PF : Hid (Calls Try.prog 35 #[.slice (some ⟨w.heap.size, 0, none⟩) 2 2] (w.alloc (.cells #[.slice a n c, .slice b m d] 24)) fun e w' => RetPF 2 (fun j => if j = 0 then n else m) (fun j => if j = 0 then F else G) e ∧ (w.alloc (.cells #[.slice a n c, .slice b m d] 24)) = w') := piecesFault_any w.heap.size 2 (fun j => if j = 0 then a else b) (fun j => if j = 0 then n else m) (fun j => if j = 0 then c else d) (fun j => if j = 0 then F else G) (by omega) _ (fun j hj => by
    rw [lists2 w _ _ _ j hj]
    by_cases e : j = 0
    · subst e; rfl
    · simp only [if_neg e]) (fun j hj => by
    by_cases e : j = 0
    · subst e; exact h.below hb
    · simp only [if_neg e]; exact h'.below hb)
  have HB0 : Hid (Below w.heap.size w (w.alloc (.cells #[.slice a n c, .slice b m d] 24))) := hb
  have HC0 : Hid (Strs (w.alloc (.cells #[.slice a n c, .slice b m d] 24)) a n F) := h.below hb
  have HD0 : Hid (Strs (w.alloc (.cells #[.slice a n c, .slice b m d] 24)) b m G) := h'.below hb
  have HA : Hid (DpIs n m F G L cd) := hA
  clear hb h h' hA
  go_enter Try.func13, Try.ntmps13
  go_wp2_with fail
  generalize (w.alloc (.cells #[.slice a n c, .slice b m d] 24)) = u0 at *
  refine PF.out.mono ?_
  rintro e _ ⟨⟨x, rfl, hx⟩, rfl⟩
  clear PF
  have hcs : (x = cd ∧ ¬ x = 0 ∧ L = []) ∨ (x = 0 ∧ cd = 0 ∧ (PcsOk n F ∧ PcsOk m G) ∧ L = dirL (DirtAt n F G) m) := by
    have hx2 := hx.two (n := n) (m := m) (F := F) (G := G) rfl rfl rfl rfl
    rcases HA.out with ⟨rfl, h4, hL⟩ | ⟨rfl, h4, hp, hL⟩ | ⟨rfl, hp, hL⟩ <;> rcases hx2 with ⟨rfl, q⟩ | ⟨rfl, q1, q⟩ | ⟨rfl, q⟩
    · exact .inl ⟨rfl, by omega, hL⟩
    · rcases h4 with h4 | h4
      · exact absurd h4 q1.1
      · exact absurd h4 q1.2
    · have := q.1.1; have := q.2.1; omega
    · rcases q with q | q
      · exact absurd q h4.1
      · exact absurd q h4.2
    · exact .inl ⟨rfl, by omega, hL⟩
    · exact absurd q hp
    · have := hp.1.1; have := hp.2.1; omega
    · exact absurd hp q
    · exact .inr ⟨rfl, rfl, hp, hL⟩
  clear hx HA
  rcases hcs with ⟨rfl, hx, rfl⟩ | ⟨rfl, rfl, hp, rfl⟩
  · have e1 : (x != 0) = true := by simp [hx]
    clear hx
    go_wp2
    exact bodyPost_ret (results_tmp2 Try.results13 _ _ _) rfl ⟨⟨none, 0, rfl, EO.nil _ _ _ _ _⟩, HB0.out⟩
  · have HE : Hid (∀ (wr : World) (v' : Value) (q : Nat), IE wr u0.heap.size v' q (nthI (dirL (DirtAt n F G) m)) → IE wr w.heap.size v' q (nthI (dirL (DirtAt n F G) m))) := fun wr v' q z => EO.mono z HB0.out.size
    have HF : Hid (∀ wr : World, Below u0.heap.size u0 wr → Below w.heap.size w wr) := fun wr z => HB0.out.trans (z.mono HB0.out.size)
    have HC : Hid (Strs u0 a n F) := HC0.out
    have HD : Hid (Strs u0 b m G) := HD0.out
    have HM : Hid (m ≤ 16) := hp.2.1
    have n16 : (n : Int) ≤ 16 := by have := hp.1.1; omega
    have HL : Hid (∀ k, (dirL (DirtAt n F G) k).length ≤ k) := dirL_le _
    clear hp HC0 HD0 HB0
    go_wp2
    go_loopw [7, 18] (fun v i wr => ∃ (k q c2 : Nat) (a2 : Option Addr), k ≤ m ∧ q = (dirL (DirtAt n F G) k).length ∧ i = .int .i64 k ∧ v = .slice a2 q c2 ∧ IE wr u0.heap.size (.slice a2 q c2) q (nthI (dirL (DirtAt n F G) k)) ∧ Below u0.heap.size u0 wr) (fun _ i _ => m - (intOf i).toNat)
    case atStart => exact ⟨0, 0, 0, none, by omega, rfl, rfl, rfl, EO.nil _ _ _ _ _, Below.refl _ _⟩
    case round =>
      obtain ⟨k, q, c2, a2, hk, hq, rfl, rfl, ho, hb⟩ := hrel
      have HQ : Hid (q = (dirL (DirtAt n F G) k).length) := hq
      by_cases hlt : k < m
      · have hlt' : (k : Int) < (m : Int) := by omega
        have k0 : (0 : Int) ≤ (k : Int) := by omega
        have kb : (k : Int) ≤ 16 := by have := HM.out; omega
        obtain ⟨b2, o2, rfl, hc2⟩ := (HD.out.below hb).opened (by omega)
        have d1 := hc2 k hlt
        have q16 : q ≤ 1000 := by have := HL.out k; have := HM.out; omega
        have HK : Hid (k < m) := hlt
        have HO : Hid (IE wr u0.heap.size (.slice a2 q c2) q (nthI (dirL (DirtAt n F G) k))) := ho
        have HB : Hid (Below u0.heap.size u0 wr) := hb
        clear ho hc2
        by_cases hkn : k < n
        · have e1 : ¬ (n : Int) ≤ (k : Int) := by omega
          have hkn' : (k : Int) < (n : Int) := by omega
          have HKN : Hid (k < n) := hkn
          obtain ⟨b1, o1, rfl, hc1⟩ := (HC.out.below hb).opened (by omega)
          have d0 := hc1 k hkn
          clear hc1
          by_cases he : F k = G k
          · have ND : ¬ DirtAt n F G k := fun z => z ⟨hkn, he⟩
            have HQ2 : Hid (q = (dirL (DirtAt n F G) (k + 1)).length) := by show _ = _; rw [dirL_no ND]; exact HQ.out
            have HO2 : Hid (IE wr u0.heap.size (.slice a2 q c2) q (nthI (dirL (DirtAt n F G) (k + 1)))) := by show IE _ _ _ _ _; rw [dirL_no ND]; exact HO.out
            rw [he] at d0
            clear hq hb he hkn hlt hk q16 HQ HO ND
            generalize G k = V at *
            go_wp2_with fail
            have H : Below wr.heap.size wr wr.drew := (Below.refl _ _).drew
            refine wp_region_noPanic ?_
            refine wp_region_held_drew (S := fun w' => Below wr.heap.size wr w') (by kernel_rfl) H (fun _ => ?_)
            generalize wr.drew = x0 at *
            refine wpAnyH_take (i := 0) (v := .int .i64 (k : Int)) rfl (by kernel_rfl) (by kernel_rfl) (by kernel_rfl) (fun _ _ _ h => h) (Or.inl ⟨by rfl, ?_⟩) H ?_
            · intro w' hSw; clear hSw; go_simp
            change wpAnyH _ _ _ _ _ _ _ { tmps := #[_, _, _, _, _, _, _, _, _, _, _, _, _, _, _, _, _, _, _, _, _, _, _, _, _, _, _, _, _, _, _, _, _, _, _, _, _, _, _, _, _, _], defers := _ } _
            refine wpAnyH_take (i := 1) (v := .slice (some ⟨b1, o1, none⟩) n c) rfl (by kernel_rfl) (by kernel_rfl) (by kernel_rfl) (fun _ _ _ h => h) (Or.inl ⟨by rfl, ?_⟩) H ?_
            · intro w' hSw; clear hSw; go_simp
            change wpAnyH _ _ _ _ _ _ _ { tmps := #[_, _, _, _, _, _, _, _, _, _, _, _, _, _, _, _, _, _, _, _, _, _, _, _, _, _, _, _, _, _, _, _, _, _, _, _, _, _, _, _, _, _], defers := _ } _
            refine wpAnyH_take (i := 2) (v := .int .i64 (n : Int)) rfl (by kernel_rfl) (by kernel_rfl) (by kernel_rfl) (fun _ _ _ h => h) (Or.inl ⟨by rfl, ?_⟩) H ?_
            · intro w' hSw; clear hSw; go_simp
            change wpAnyH _ _ _ _ _ _ _ { tmps := #[_, _, _, _, _, _, _, _, _, _, _, _, _, _, _, _, _, _, _, _, _, _, _, _, _, _, _, _, _, _, _, _, _, _, _, _, _, _, _, _, _, _], defers := _ } _
            refine wpAnyH_take (i := 3) (v := .bool false) rfl (by kernel_rfl) (by kernel_rfl) (by kernel_rfl) (fun _ _ _ h => h) (Or.inl ⟨by rfl, ?_⟩) H ?_
            · intro w' hSw; clear hSw; go_simp; exact HKN.out
            change wpAnyH _ _ _ _ _ _ _ { tmps := #[_, _, _, _, _, _, _, _, _, _, _, _, _, _, _, _, _, _, _, _, _, _, _, _, _, _, _, _, _, _, _, _, _, _, _, _, _, _, _, _, _, _], defers := _ } _
            refine wpAnyH_take (i := 4) (v := .bool false) rfl (by kernel_rfl) (by kernel_rfl) (by kernel_rfl) (fun _ _ _ h => h) (Or.inl ⟨by rfl, ?_⟩) H ?_
            · intro w' hSw; clear hSw; go_simp
            change wpAnyH _ _ _ _ _ _ _ { tmps := #[_, _, _, _, _, _, _, _, _, _, _, _, _, _, _, _, _, _, _, _, _, _, _, _, _, _, _, _, _, _, _, _, _, _, _, _, _, _, _, _, _, _], defers := _ } _
            refine wpAnyH_take (i := 5) (v := .slice (some ⟨b1, o1, none⟩) n c) rfl (by kernel_rfl) (by kernel_rfl) (by kernel_rfl) (fun _ _ _ h => h) (Or.inl ⟨by rfl, ?_⟩) H ?_
            · intro w' hSw; clear hSw; go_simp
            change wpAnyH _ _ _ _ _ _ _ { tmps := #[_, _, _, _, _, _, _, _, _, _, _, _, _, _, _, _, _, _, _, _, _, _, _, _, _, _, _, _, _, _, _, _, _, _, _, _, _, _, _, _, _, _], defers := _ } _
            refine wpAnyH_take (i := 6) (v := .int .i64 (k : Int)) rfl (by kernel_rfl) (by kernel_rfl) (by kernel_rfl) (fun _ _ _ h => h) (Or.inl ⟨by rfl, ?_⟩) H ?_
            · intro w' hSw; clear hSw; go_simp
            change wpAnyH _ _ _ _ _ _ _ { tmps := #[_, _, _, _, _, _, _, _, _, _, _, _, _, _, _, _, _, _, _, _, _, _, _, _, _, _, _, _, _, _, _, _, _, _, _, _, _, _, _, _, _, _], defers := _ } _
            refine wpAnyH_take (i := 7) (v := .pointer (some ⟨b1, o1 + k, none⟩)) rfl (by kernel_rfl) (by kernel_rfl) (by kernel_rfl) (fun _ _ _ h => h) (Or.inl ⟨by rfl, ?_⟩) H ?_
            · intro w' hSw; clear hSw; go_simp
            change wpAnyH _ _ _ _ _ _ _ { tmps := #[_, _, _, _, _, _, _, _, _, _, _, _, _, _, _, _, _, _, _, _, _, _, _, _, _, _, _, _, _, _, _, _, _, _, _, _, _, _, _, _, _, _], defers := _ } _
            refine wpAnyH_take (i := 8) (v := .string V) rfl (by kernel_rfl) (by kernel_rfl) (by kernel_rfl) (fun _ _ _ h => h) (Or.inl ⟨by rfl, ?_⟩) H ?_
            · intro w' hSw; have q0 := (hSw.cell (strBlock d0)).trans d0; clear hSw; go_simp
            change wpAnyH _ _ _ _ _ _ _ { tmps := #[_, _, _, _, _, _, _, _, _, _, _, _, _, _, _, _, _, _, _, _, _, _, _, _, _, _, _, _, _, _, _, _, _, _, _, _, _, _, _, _, _, _], defers := _ } _
            refine wpAnyH_take (i := 9) (v := .slice (some ⟨b2, o2, none⟩) m d) rfl (by kernel_rfl) (by kernel_rfl) (by kernel_rfl) (fun _ _ _ h => h) (Or.inl ⟨by rfl, ?_⟩) H ?_
            · intro w' hSw; clear hSw; go_simp
            change wpAnyH _ _ _ _ _ _ _ { tmps := #[_, _, _, _, _, _, _, _, _, _, _, _, _, _, _, _, _, _, _, _, _, _, _, _, _, _, _, _, _, _, _, _, _, _, _, _, _, _, _, _, _, _], defers := _ } _
            refine wpAnyH_take (i := 10) (v := .int .i64 (k : Int)) rfl (by kernel_rfl) (by kernel_rfl) (by kernel_rfl) (fun _ _ _ h => h) (Or.inl ⟨by rfl, ?_⟩) H ?_
            · intro w' hSw; clear hSw; go_simp
            change wpAnyH _ _ _ _ _ _ _ { tmps := #[_, _, _, _, _, _, _, _, _, _, _, _, _, _, _, _, _, _, _, _, _, _, _, _, _, _, _, _, _, _, _, _, _, _, _, _, _, _, _, _, _, _], defers := _ } _
            refine wpAnyH_take (i := 11) (v := .pointer (some ⟨b2, o2 + k, none⟩)) rfl (by kernel_rfl) (by kernel_rfl) (by kernel_rfl) (fun _ _ _ h => h) (Or.inl ⟨by rfl, ?_⟩) H ?_
            · intro w' hSw; clear hSw; go_simp
            change wpAnyH _ _ _ _ _ _ _ { tmps := #[_, _, _, _, _, _, _, _, _, _, _, _, _, _, _, _, _, _, _, _, _, _, _, _, _, _, _, _, _, _, _, _, _, _, _, _, _, _, _, _, _, _], defers := _ } _
            refine wpAnyH_take (i := 12) (v := .string V) rfl (by kernel_rfl) (by kernel_rfl) (by kernel_rfl) (fun _ _ _ h => h) (Or.inl ⟨by rfl, ?_⟩) H ?_
            · intro w' hSw; have q0 := (hSw.cell (strBlock d1)).trans d1; clear hSw; go_simp
            change wpAnyH _ _ _ _ _ _ _ { tmps := #[_, _, _, _, _, _, _, _, _, _, _, _, _, _, _, _, _, _, _, _, _, _, _, _, _, _, _, _, _, _, _, _, _, _, _, _, _, _, _, _, _, _], defers := _ } _
            refine wpAnyH_take (i := 13) (v := .bool false) rfl (by kernel_rfl) (by kernel_rfl) (by kernel_rfl) (fun _ _ _ h => h) (Or.inl ⟨by rfl, ?_⟩) H ?_
            · intro w' hSw; clear hSw; go_simp
            change wpAnyH _ _ _ _ _ _ _ { tmps := #[_, _, _, _, _, _, _, _, _, _, _, _, _, _, _, _, _, _, _, _, _, _, _, _, _, _, _, _, _, _, _, _, _, _, _, _, _, _, _, _, _, _], defers := _ } _
            refine wpAnyH_take (i := 14) (v := .bool false) rfl (by kernel_rfl) (by kernel_rfl) (by kernel_rfl) (fun _ _ _ h => h) (Or.inl ⟨by rfl, ?_⟩) H ?_
            · intro w' hSw; clear hSw; go_simp
            change wpAnyH _ _ _ _ _ _ _ { tmps := #[_, _, _, _, _, _, _, _, _, _, _, _, _, _, _, _, _, _, _, _, _, _, _, _, _, _, _, _, _, _, _, _, _, _, _, _, _, _, _, _, _, _], defers := _ } _
            refine wpAnyH_done (by kernel_rfl) ?_ _
            refine NoPanic.normal ?_
            have HB2 : Hid (Below u0.heap.size u0 x0) := HB.out.trans (H.mono HB.out.size)
            have HO3 : Hid (IE x0 u0.heap.size (.slice a2 q c2) q (nthI (dirL (DirtAt n F G) (k + 1)))) := EO.below HO2.out H
            clear H HO2 HB
            go_wp2
            go_roundw
            case rel => exact ⟨k + 1, q, c2, a2, by have := HK.out; omega, HQ2.out, by go_num, rfl, HO3.out, HB2.out⟩
            case measure => have := HK.out; simp [intOf]; omega
          · have YD : Hid (DirtAt n F G k) := fun z => he z.2
            have he1 := textNeD he
            clear hq hb he hkn hlt hk
            generalize F k = U at *
            generalize G k = V at *
            go_wp2_with fail
            have H : Below wr.heap.size wr wr.drew := (Below.refl _ _).drew
            refine wp_region_noPanic ?_
            refine wp_region_held_drew (S := fun w' => Below wr.heap.size wr w') (by kernel_rfl) H (fun _ => ?_)
            generalize wr.drew = x0 at *
            refine wpAnyH_take (i := 0) (v := .int .i64 (k : Int)) rfl (by kernel_rfl) (by kernel_rfl) (by kernel_rfl) (fun _ _ _ h => h) (Or.inl ⟨by rfl, ?_⟩) H ?_
            · intro w' hSw; clear hSw; go_simp
            change wpAnyH _ _ _ _ _ _ _ { tmps := #[_, _, _, _, _, _, _, _, _, _, _, _, _, _, _, _, _, _, _, _, _, _, _, _, _, _, _, _, _, _, _, _, _, _, _, _, _, _, _, _, _, _], defers := _ } _
            refine wpAnyH_take (i := 1) (v := .slice (some ⟨b1, o1, none⟩) n c) rfl (by kernel_rfl) (by kernel_rfl) (by kernel_rfl) (fun _ _ _ h => h) (Or.inl ⟨by rfl, ?_⟩) H ?_
            · intro w' hSw; clear hSw; go_simp
            change wpAnyH _ _ _ _ _ _ _ { tmps := #[_, _, _, _, _, _, _, _, _, _, _, _, _, _, _, _, _, _, _, _, _, _, _, _, _, _, _, _, _, _, _, _, _, _, _, _, _, _, _, _, _, _], defers := _ } _
            refine wpAnyH_take (i := 2) (v := .int .i64 (n : Int)) rfl (by kernel_rfl) (by kernel_rfl) (by kernel_rfl) (fun _ _ _ h => h) (Or.inl ⟨by rfl, ?_⟩) H ?_
            · intro w' hSw; clear hSw; go_simp
            change wpAnyH _ _ _ _ _ _ _ { tmps := #[_, _, _, _, _, _, _, _, _, _, _, _, _, _, _, _, _, _, _, _, _, _, _, _, _, _, _, _, _, _, _, _, _, _, _, _, _, _, _, _, _, _], defers := _ } _
            refine wpAnyH_take (i := 3) (v := .bool false) rfl (by kernel_rfl) (by kernel_rfl) (by kernel_rfl) (fun _ _ _ h => h) (Or.inl ⟨by rfl, ?_⟩) H ?_
            · intro w' hSw; clear hSw; go_simp; exact HKN.out
            change wpAnyH _ _ _ _ _ _ _ { tmps := #[_, _, _, _, _, _, _, _, _, _, _, _, _, _, _, _, _, _, _, _, _, _, _, _, _, _, _, _, _, _, _, _, _, _, _, _, _, _, _, _, _, _], defers := _ } _
            refine wpAnyH_take (i := 4) (v := .bool false) rfl (by kernel_rfl) (by kernel_rfl) (by kernel_rfl) (fun _ _ _ h => h) (Or.inl ⟨by rfl, ?_⟩) H ?_
            · intro w' hSw; clear hSw; go_simp
            change wpAnyH _ _ _ _ _ _ _ { tmps := #[_, _, _, _, _, _, _, _, _, _, _, _, _, _, _, _, _, _, _, _, _, _, _, _, _, _, _, _, _, _, _, _, _, _, _, _, _, _, _, _, _, _], defers := _ } _
            refine wpAnyH_take (i := 5) (v := .slice (some ⟨b1, o1, none⟩) n c) rfl (by kernel_rfl) (by kernel_rfl) (by kernel_rfl) (fun _ _ _ h => h) (Or.inl ⟨by rfl, ?_⟩) H ?_
            · intro w' hSw; clear hSw; go_simp
            change wpAnyH _ _ _ _ _ _ _ { tmps := #[_, _, _, _, _, _, _, _, _, _, _, _, _, _, _, _, _, _, _, _, _, _, _, _, _, _, _, _, _, _, _, _, _, _, _, _, _, _, _, _, _, _], defers := _ } _
            refine wpAnyH_take (i := 6) (v := .int .i64 (k : Int)) rfl (by kernel_rfl) (by kernel_rfl) (by kernel_rfl) (fun _ _ _ h => h) (Or.inl ⟨by rfl, ?_⟩) H ?_
            · intro w' hSw; clear hSw; go_simp
            change wpAnyH _ _ _ _ _ _ _ { tmps := #[_, _, _, _, _, _, _, _, _, _, _, _, _, _, _, _, _, _, _, _, _, _, _, _, _, _, _, _, _, _, _, _, _, _, _, _, _, _, _, _, _, _], defers := _ } _
            refine wpAnyH_take (i := 7) (v := .pointer (some ⟨b1, o1 + k, none⟩)) rfl (by kernel_rfl) (by kernel_rfl) (by kernel_rfl) (fun _ _ _ h => h) (Or.inl ⟨by rfl, ?_⟩) H ?_
            · intro w' hSw; clear hSw; go_simp
            change wpAnyH _ _ _ _ _ _ _ { tmps := #[_, _, _, _, _, _, _, _, _, _, _, _, _, _, _, _, _, _, _, _, _, _, _, _, _, _, _, _, _, _, _, _, _, _, _, _, _, _, _, _, _, _], defers := _ } _
            refine wpAnyH_take (i := 8) (v := .string U) rfl (by kernel_rfl) (by kernel_rfl) (by kernel_rfl) (fun _ _ _ h => h) (Or.inl ⟨by rfl, ?_⟩) H ?_
            · intro w' hSw; have q0 := (hSw.cell (strBlock d0)).trans d0; clear hSw; go_simp
            change wpAnyH _ _ _ _ _ _ _ { tmps := #[_, _, _, _, _, _, _, _, _, _, _, _, _, _, _, _, _, _, _, _, _, _, _, _, _, _, _, _, _, _, _, _, _, _, _, _, _, _, _, _, _, _], defers := _ } _
            refine wpAnyH_take (i := 9) (v := .slice (some ⟨b2, o2, none⟩) m d) rfl (by kernel_rfl) (by kernel_rfl) (by kernel_rfl) (fun _ _ _ h => h) (Or.inl ⟨by rfl, ?_⟩) H ?_
            · intro w' hSw; clear hSw; go_simp
            change wpAnyH _ _ _ _ _ _ _ { tmps := #[_, _, _, _, _, _, _, _, _, _, _, _, _, _, _, _, _, _, _, _, _, _, _, _, _, _, _, _, _, _, _, _, _, _, _, _, _, _, _, _, _, _], defers := _ } _
            refine wpAnyH_take (i := 10) (v := .int .i64 (k : Int)) rfl (by kernel_rfl) (by kernel_rfl) (by kernel_rfl) (fun _ _ _ h => h) (Or.inl ⟨by rfl, ?_⟩) H ?_
            · intro w' hSw; clear hSw; go_simp
            change wpAnyH _ _ _ _ _ _ _ { tmps := #[_, _, _, _, _, _, _, _, _, _, _, _, _, _, _, _, _, _, _, _, _, _, _, _, _, _, _, _, _, _, _, _, _, _, _, _, _, _, _, _, _, _], defers := _ } _
            refine wpAnyH_take (i := 11) (v := .pointer (some ⟨b2, o2 + k, none⟩)) rfl (by kernel_rfl) (by kernel_rfl) (by kernel_rfl) (fun _ _ _ h => h) (Or.inl ⟨by rfl, ?_⟩) H ?_
            · intro w' hSw; clear hSw; go_simp
            change wpAnyH _ _ _ _ _ _ _ { tmps := #[_, _, _, _, _, _, _, _, _, _, _, _, _, _, _, _, _, _, _, _, _, _, _, _, _, _, _, _, _, _, _, _, _, _, _, _, _, _, _, _, _, _], defers := _ } _
            refine wpAnyH_take (i := 12) (v := .string V) rfl (by kernel_rfl) (by kernel_rfl) (by kernel_rfl) (fun _ _ _ h => h) (Or.inl ⟨by rfl, ?_⟩) H ?_
            · intro w' hSw; have q0 := (hSw.cell (strBlock d1)).trans d1; clear hSw; go_simp
            change wpAnyH _ _ _ _ _ _ _ { tmps := #[_, _, _, _, _, _, _, _, _, _, _, _, _, _, _, _, _, _, _, _, _, _, _, _, _, _, _, _, _, _, _, _, _, _, _, _, _, _, _, _, _, _], defers := _ } _
            refine wpAnyH_take (i := 13) (v := .bool true) rfl (by kernel_rfl) (by kernel_rfl) (by kernel_rfl) (fun _ _ _ h => h) (Or.inl ⟨by rfl, ?_⟩) H ?_
            · intro w' hSw; clear hSw; go_simp
            change wpAnyH _ _ _ _ _ _ _ { tmps := #[_, _, _, _, _, _, _, _, _, _, _, _, _, _, _, _, _, _, _, _, _, _, _, _, _, _, _, _, _, _, _, _, _, _, _, _, _, _, _, _, _, _], defers := _ } _
            refine wpAnyH_take (i := 14) (v := .bool true) rfl (by kernel_rfl) (by kernel_rfl) (by kernel_rfl) (fun _ _ _ h => h) (Or.inl ⟨by rfl, ?_⟩) H ?_
            · intro w' hSw; clear hSw; go_simp
            change wpAnyH _ _ _ _ _ _ _ { tmps := #[_, _, _, _, _, _, _, _, _, _, _, _, _, _, _, _, _, _, _, _, _, _, _, _, _, _, _, _, _, _, _, _, _, _, _, _, _, _, _, _, _, _], defers := _ } _
            refine wpAnyH_done (by kernel_rfl) ?_ _
            refine NoPanic.normal ?_
            have HB2 : Hid (Below u0.heap.size u0 x0) := HB.out.trans (H.mono HB.out.size)
            have HO2 : Hid (IE x0 u0.heap.size (.slice a2 q c2) q (nthI (dirL (DirtAt n F G) k))) := EO.below HO.out H
            obtain ⟨a3, c3, w3, hr, hO3, hB3⟩ := appNum k HQ.out q16 HO2.out HB2.out
            have HQ3 : Hid (q + 1 = (dirL (DirtAt n F G) (k + 1)).length) := by show _ = _; rw [dirL_yes YD.out, List.length_append, ← HQ.out]; rfl
            have HO3 : Hid (IE w3 u0.heap.size (.slice a3 (q + 1) c3) (q + 1) (nthI (dirL (DirtAt n F G) (k + 1)))) := by show IE _ _ _ _ _; rw [dirL_yes YD.out]; exact hO3
            have HB3 : Hid (Below u0.heap.size u0 w3) := hB3
            clear H HB2 HO2 hO3 hB3 HQ HO HB YD q16
            go_wp2_with (at_builtin; refine Lib.wpList_append_run _ rfl (.tmp 36) (.tmp 38) 31 31 rfl (.slice a2 q c2) (.slice (some ⟨x0.heap.size, 0, none⟩) 1 1) rfl rfl _ _ (hr _) ?_)
            go_roundw
            case rel => exact ⟨k + 1, q + 1, c3, a3, by have := HK.out; omega, HQ3.out, by go_num, rfl, HO3.out, HB3.out⟩
            case measure => have := HK.out; simp [intOf]; omega
        · have e1 : (n : Int) ≤ (k : Int) := by omega
          have YD : Hid (DirtAt n F G k) := fun z => hkn z.1
          clear hq hb hkn hlt hk
          go_wp2_with fail
          have H : Below wr.heap.size wr wr.drew := (Below.refl _ _).drew
          refine wp_region_noPanic ?_
          refine wp_region_held_drew (S := fun w' => Below wr.heap.size wr w') (by kernel_rfl) H (fun _ => ?_)
          generalize wr.drew = x0 at *
          refine wpAnyH_take (i := 0) (v := .int .i64 (k : Int)) rfl (by kernel_rfl) (by kernel_rfl) (by kernel_rfl) (fun _ _ _ h => h) (Or.inl ⟨by rfl, ?_⟩) H ?_
          · intro w' hSw; clear hSw; go_simp
          change wpAnyH _ _ _ _ _ _ _ { tmps := #[_, _, _, _, _, _, _, _, _, _, _, _, _, _, _, _, _, _, _, _, _, _, _, _, _, _, _, _, _, _, _, _, _, _, _, _, _, _, _, _, _, _], defers := _ } _
          refine wpAnyH_take (i := 1) (v := .slice a n c) rfl (by kernel_rfl) (by kernel_rfl) (by kernel_rfl) (fun _ _ _ h => h) (Or.inl ⟨by rfl, ?_⟩) H ?_
          · intro w' hSw; clear hSw; go_simp
          change wpAnyH _ _ _ _ _ _ _ { tmps := #[_, _, _, _, _, _, _, _, _, _, _, _, _, _, _, _, _, _, _, _, _, _, _, _, _, _, _, _, _, _, _, _, _, _, _, _, _, _, _, _, _, _], defers := _ } _
          refine wpAnyH_take (i := 2) (v := .int .i64 (n : Int)) rfl (by kernel_rfl) (by kernel_rfl) (by kernel_rfl) (fun _ _ _ h => h) (Or.inl ⟨by rfl, ?_⟩) H ?_
          · intro w' hSw; clear hSw; go_simp
          change wpAnyH _ _ _ _ _ _ _ { tmps := #[_, _, _, _, _, _, _, _, _, _, _, _, _, _, _, _, _, _, _, _, _, _, _, _, _, _, _, _, _, _, _, _, _, _, _, _, _, _, _, _, _, _], defers := _ } _
          refine wpAnyH_take (i := 3) (v := .bool true) rfl (by kernel_rfl) (by kernel_rfl) (by kernel_rfl) (fun _ _ _ h => h) (Or.inl ⟨by rfl, ?_⟩) H ?_
          · intro w' hSw; clear hSw; go_simp
          change wpAnyH _ _ _ _ _ _ _ { tmps := #[_, _, _, _, _, _, _, _, _, _, _, _, _, _, _, _, _, _, _, _, _, _, _, _, _, _, _, _, _, _, _, _, _, _, _, _, _, _, _, _, _, _], defers := _ } _
          refine wpAnyH_take (i := 4) (v := .bool true) rfl (by kernel_rfl) (by kernel_rfl) (by kernel_rfl) (fun _ _ _ h => h) (Or.inl ⟨by rfl, ?_⟩) H ?_
          · intro w' hSw; clear hSw; go_simp
          change wpAnyH _ _ _ _ _ _ _ { tmps := #[_, _, _, _, _, _, _, _, _, _, _, _, _, _, _, _, _, _, _, _, _, _, _, _, _, _, _, _, _, _, _, _, _, _, _, _, _, _, _, _, _, _], defers := _ } _
          refine wpAnyH_take (i := 5) (v := undef) rfl (by kernel_rfl) (by kernel_rfl) (by kernel_rfl) (fun _ _ _ h => h) (Or.inr ⟨by rfl, rfl⟩) H ?_
          change wpAnyH _ _ _ _ _ _ _ { tmps := #[_, _, _, _, _, _, _, _, _, _, _, _, _, _, _, _, _, _, _, _, _, _, _, _, _, _, _, _, _, _, _, _, _, _, _, _, _, _, _, _, _, _], defers := _ } _
          refine wpAnyH_take (i := 6) (v := undef) rfl (by kernel_rfl) (by kernel_rfl) (by kernel_rfl) (fun _ _ _ h => h) (Or.inr ⟨by rfl, rfl⟩) H ?_
          change wpAnyH _ _ _ _ _ _ _ { tmps := #[_, _, _, _, _, _, _, _, _, _, _, _, _, _, _, _, _, _, _, _, _, _, _, _, _, _, _, _, _, _, _, _, _, _, _, _, _, _, _, _, _, _], defers := _ } _
          refine wpAnyH_take (i := 7) (v := undef) rfl (by kernel_rfl) (by kernel_rfl) (by kernel_rfl) (fun _ _ _ h => h) (Or.inr ⟨by rfl, rfl⟩) H ?_
          change wpAnyH _ _ _ _ _ _ _ { tmps := #[_, _, _, _, _, _, _, _, _, _, _, _, _, _, _, _, _, _, _, _, _, _, _, _, _, _, _, _, _, _, _, _, _, _, _, _, _, _, _, _, _, _], defers := _ } _
          refine wpAnyH_take (i := 8) (v := undef) rfl (by kernel_rfl) (by kernel_rfl) (by kernel_rfl) (fun _ _ _ h => h) (Or.inr ⟨by rfl, rfl⟩) H ?_
          change wpAnyH _ _ _ _ _ _ _ { tmps := #[_, _, _, _, _, _, _, _, _, _, _, _, _, _, _, _, _, _, _, _, _, _, _, _, _, _, _, _, _, _, _, _, _, _, _, _, _, _, _, _, _, _], defers := _ } _
          refine wpAnyH_take (i := 9) (v := undef) rfl (by kernel_rfl) (by kernel_rfl) (by kernel_rfl) (fun _ _ _ h => h) (Or.inr ⟨by rfl, rfl⟩) H ?_
          change wpAnyH _ _ _ _ _ _ _ { tmps := #[_, _, _, _, _, _, _, _, _, _, _, _, _, _, _, _, _, _, _, _, _, _, _, _, _, _, _, _, _, _, _, _, _, _, _, _, _, _, _, _, _, _], defers := _ } _
          refine wpAnyH_take (i := 10) (v := undef) rfl (by kernel_rfl) (by kernel_rfl) (by kernel_rfl) (fun _ _ _ h => h) (Or.inr ⟨by rfl, rfl⟩) H ?_
          change wpAnyH _ _ _ _ _ _ _ { tmps := #[_, _, _, _, _, _, _, _, _, _, _, _, _, _, _, _, _, _, _, _, _, _, _, _, _, _, _, _, _, _, _, _, _, _, _, _, _, _, _, _, _, _], defers := _ } _
          refine wpAnyH_take (i := 11) (v := undef) rfl (by kernel_rfl) (by kernel_rfl) (by kernel_rfl) (fun _ _ _ h => h) (Or.inr ⟨by rfl, rfl⟩) H ?_
          change wpAnyH _ _ _ _ _ _ _ { tmps := #[_, _, _, _, _, _, _, _, _, _, _, _, _, _, _, _, _, _, _, _, _, _, _, _, _, _, _, _, _, _, _, _, _, _, _, _, _, _, _, _, _, _], defers := _ } _
          refine wpAnyH_take (i := 12) (v := undef) rfl (by kernel_rfl) (by kernel_rfl) (by kernel_rfl) (fun _ _ _ h => h) (Or.inr ⟨by rfl, rfl⟩) H ?_
          change wpAnyH _ _ _ _ _ _ _ { tmps := #[_, _, _, _, _, _, _, _, _, _, _, _, _, _, _, _, _, _, _, _, _, _, _, _, _, _, _, _, _, _, _, _, _, _, _, _, _, _, _, _, _, _], defers := _ } _
          refine wpAnyH_take (i := 13) (v := undef) rfl (by kernel_rfl) (by kernel_rfl) (by kernel_rfl) (fun _ _ _ h => h) (Or.inr ⟨by rfl, rfl⟩) H ?_
          change wpAnyH _ _ _ _ _ _ _ { tmps := #[_, _, _, _, _, _, _, _, _, _, _, _, _, _, _, _, _, _, _, _, _, _, _, _, _, _, _, _, _, _, _, _, _, _, _, _, _, _, _, _, _, _], defers := _ } _
          refine wpAnyH_take (i := 14) (v := .bool true) rfl (by kernel_rfl) (by kernel_rfl) (by kernel_rfl) (fun _ _ _ h => h) (Or.inl ⟨by rfl, ?_⟩) H ?_
          · intro w' hSw; clear hSw; go_simp
          change wpAnyH _ _ _ _ _ _ _ { tmps := #[_, _, _, _, _, _, _, _, _, _, _, _, _, _, _, _, _, _, _, _, _, _, _, _, _, _, _, _, _, _, _, _, _, _, _, _, _, _, _, _, _, _], defers := _ } _
          refine wpAnyH_done (by kernel_rfl) ?_ _
          refine NoPanic.normal ?_
          have HB2 : Hid (Below u0.heap.size u0 x0) := HB.out.trans (H.mono HB.out.size)
          have HO2 : Hid (IE x0 u0.heap.size (.slice a2 q c2) q (nthI (dirL (DirtAt n F G) k))) := EO.below HO.out H
          obtain ⟨a3, c3, w3, hr, hO3, hB3⟩ := appNum k HQ.out q16 HO2.out HB2.out
          have HQ3 : Hid (q + 1 = (dirL (DirtAt n F G) (k + 1)).length) := by show _ = _; rw [dirL_yes YD.out, List.length_append, ← HQ.out]; rfl
          have HO3 : Hid (IE w3 u0.heap.size (.slice a3 (q + 1) c3) (q + 1) (nthI (dirL (DirtAt n F G) (k + 1)))) := by show IE _ _ _ _ _; rw [dirL_yes YD.out]; exact hO3
          have HB3 : Hid (Below u0.heap.size u0 w3) := hB3
          clear H HB2 HO2 hO3 hB3 HQ HO HB YD q16
          go_wp2_with (at_builtin; refine Lib.wpList_append_run _ rfl (.tmp 36) (.tmp 38) 31 31 rfl (.slice a2 q c2) (.slice (some ⟨x0.heap.size, 0, none⟩) 1 1) rfl rfl _ _ (hr _) ?_)
          go_roundw
          case rel => exact ⟨k + 1, q + 1, c3, a3, by have := HK.out; omega, HQ3.out, by go_num, rfl, HO3.out, HB3.out⟩
          case measure => have := HK.out; simp [intOf]; omega
      · obtain rfl : k = m := by omega
        subst hq
        have HR : Hid (IE wr u0.heap.size (.slice a2 (dirL (DirtAt n F G) k).length c2) (dirL (DirtAt n F G) k).length (nthI (dirL (DirtAt n F G) k))) := ho
        have HB : Hid (Below u0.heap.size u0 wr) := hb
        clear ho hb hlt hk HL HQ
        go_wp2
        exact bodyPost_ret (results_tmp2 Try.results13 _ _ _) rfl ⟨⟨a2, c2, rfl, HE.out _ _ _ HR.out⟩, HF.out _ HB.out⟩
set_option maxRecDepth 100000 in
set_option maxHeartbeats 2000000 in
theorem specDirty_any (a b : Option Addr) (n m c d : Nat) (F G : Nat → ByteArray) (L : List Nat) (cd : Int) (hA : DpIs n m F G L cd) (w : World) (h : Strs w a n F) (h' : Strs w b m G) :
    Calls Try.prog 14 #[.slice a n c, .slice b m d] w fun e w' => (∃ a' c', e = .returned (.tuple #[.slice a' L.length c', .int .i64 cd]) ∧ IE w' w.heap.size (.slice a' L.length c') L.length (nthI L)) ∧ Below w.heap.size w w' := by
  have L1 : Hid (Calls Try.prog 37 #[.slice a n c] w fun e w' => e = .returned (.bool (gB (PcsOk n F))) ∧ w = w') := l12Pieces_any a n c F w h _ rfl
  have L2 : Hid (Calls Try.prog 37 #[.slice b m d] w fun e w' => e = .returned (.bool (gB (PcsOk m G))) ∧ w = w') := l12Pieces_any b m d G w h' _ rfl
  rcases hA with ⟨rfl, h4, rfl⟩ | ⟨rfl, ⟨h4, h5⟩, hp, rfl⟩ | ⟨rfl, ⟨hp, hq⟩, rfl⟩
  · by_cases hn : 4096 < n
    · have n0 : (4096 : Int) < (n : Int) := by omega
      clear h h' h4
      go_enter Try.func14, Try.ntmps14
      go_wp2
      exact bodyPost_ret (results_tmp2 Try.results14 _ _ _) rfl ⟨⟨_, 0, rfl, EO.lit _ _ _ _ (Nat.le_refl _) _⟩, (Below.refl _ _).alloc (Nat.le_refl _) _⟩
    · have n0 : ¬ (4096 : Int) < (n : Int) := by omega
      have m0 : (4096 : Int) < (m : Int) := by rcases h4 with h4 | h4 <;> omega
      clear h h' h4
      go_enter Try.func14, Try.ntmps14
      go_wp2
      exact bodyPost_ret (results_tmp2 Try.results14 _ _ _) rfl ⟨⟨_, 0, rfl, EO.lit _ _ _ _ (Nat.le_refl _) _⟩, (Below.refl _ _).alloc (Nat.le_refl _) _⟩
  · have n0 : ¬ (4096 : Int) < (n : Int) := by omega
    have m0 : ¬ (4096 : Int) < (m : Int) := by omega
    by_cases h1 : PcsOk n F
    · rw [gB_yes h1] at L1
      rw [gB_no (fun z => hp ⟨h1, z⟩)] at L2
      clear h h' hp h1
      go_enter Try.func14, Try.ntmps14
      go_wp2_with fail
      refine L1.out.mono ?_
      rintro e _ ⟨rfl, rfl⟩
      go_wp2_with fail
      refine L2.out.mono ?_
      rintro e _ ⟨rfl, rfl⟩
      go_wp2
      exact bodyPost_ret (results_tmp2 Try.results14 _ _ _) rfl ⟨⟨_, 0, rfl, EO.lit _ _ _ _ (Nat.le_refl _) _⟩, (Below.refl _ _).alloc (Nat.le_refl _) _⟩
    · rw [gB_no h1] at L1
      clear h h' hp h1 L2
      go_enter Try.func14, Try.ntmps14
      go_wp2_with fail
      refine L1.out.mono ?_
      rintro e _ ⟨rfl, rfl⟩
      go_wp2
      exact bodyPost_ret (results_tmp2 Try.results14 _ _ _) rfl ⟨⟨_, 0, rfl, EO.lit _ _ _ _ (Nat.le_refl _) _⟩, (Below.refl _ _).alloc (Nat.le_refl _) _⟩
  · have n0 : ¬ (4096 : Int) < (n : Int) := by have := hp.1; omega
    have m0 : ¬ (4096 : Int) < (m : Int) := by have := hq.1; omega
    rw [gB_yes hp] at L1
    rw [gB_yes hq] at L2
    have LD : Hid (Calls Try.prog 38 #[.slice a n c, .slice b m d] w fun e w' => (∃ a' c', e = .returned (.slice a' (dirL (DirtAt n F G) m).length c') ∧ IE w' w.heap.size (.slice a' (dirL (DirtAt n F G) m).length c') (dirL (DirtAt n F G) m).length (nthI (dirL (DirtAt n F G) m))) ∧ Below w.heap.size w w') := l12Dirty_any a b n m c d F G hp.1 hq.1 w h h'
    clear h h' hp hq
    go_enter Try.func14, Try.ntmps14
    go_wp2_with fail
    refine L1.out.mono ?_
    rintro e _ ⟨rfl, rfl⟩
    go_wp2_with fail
    refine L2.out.mono ?_
    rintro e _ ⟨rfl, rfl⟩
    go_wp2_with fail
    refine LD.out.mono ?_
    rintro e v2 ⟨⟨a', c', rfl, ho⟩, hb⟩
    have HO : Hid (IE v2 w.heap.size (.slice a' (dirL (DirtAt n F G) m).length c') (dirL (DirtAt n F G) m).length (nthI (dirL (DirtAt n F G) m))) := ho
    have HB2 : Hid (Below w.heap.size w v2) := hb
    clear ho hb LD L1 L2
    go_wp2
    exact bodyPost_ret (results_tmp2 Try.results14 _ _ _) rfl ⟨⟨a', c', rfl, HO.out⟩, HB2.out⟩
/-- Both answer alike. -/
theorem dirty_both (n m : Nat) (F G : Nat → ByteArray) : ∃ (N : Nat) (EL : Nat → Int) (cd : Int), N ≤ 16 ∧
    (∀ (g0 g1 : Nat) (w : World), Strs w (some ⟨g0, 0, none⟩) n F → Strs w (some ⟨g1, 0, none⟩) m G → Calls Try.prog 14 #[.slice (some ⟨g0, 0, none⟩) n n, .slice (some ⟨g1, 0, none⟩) m m] w fun e w' => (∃ (b : Option Addr) (x g : Nat), e = .returned (.tuple #[.slice b N x, .int .i64 cd]) ∧ RowE w' 1 b g N (inF EL) ∧ (0 < N → w.heap.size ≤ g ∧ g < w'.heap.size)) ∧ Below w.heap.size w w') ∧
    (∀ (g0 g1 : Nat) (w : World), Strs w (some ⟨g0, 0, none⟩) n F → Strs w (some ⟨g1, 0, none⟩) m G → Calls Try.prog 13 #[.slice (some ⟨g0, 0, none⟩) n n, .slice (some ⟨g1, 0, none⟩) m m] w fun e w' => (∃ (b : Option Addr) (x g : Nat), e = .returned (.tuple #[.slice b N x, .int .i64 cd]) ∧ RowE w' 1 b g N (inF EL) ∧ (0 < N → w.heap.size ≤ g ∧ g < w'.heap.size)) ∧ Below w.heap.size w w') := by
  obtain ⟨L, cd, hA, hl⟩ : ∃ (L : List Nat) (cd : Int), DpIs n m F G L cd ∧ L.length ≤ 16 := by
    by_cases h4 : 4096 < n ∨ 4096 < m
    · exact ⟨[], 2, .inl ⟨rfl, h4, rfl⟩, by simp⟩
    · by_cases hp : PcsOk n F ∧ PcsOk m G
      · exact ⟨_, 0, .inr (.inr ⟨rfl, hp, rfl⟩), Nat.le_trans (dirL_le _ m) hp.2.1⟩
      · exact ⟨[], 1, .inr (.inl ⟨rfl, ⟨fun z => h4 (.inl z), fun z => h4 (.inr z)⟩, hp, rfl⟩), by simp⟩
  refine ⟨L.length, nthI L, cd, hl, fun g0 g1 w h h' => (specDirty_any _ _ n m n m F G L cd hA w h h').mono ?_, fun g0 g1 w h h' => (implDirty_any _ _ n m n m F G L cd hA w h h').mono ?_⟩
  · rintro e w' ⟨⟨a', c', rfl, ho⟩, hb⟩
    obtain ⟨g, hr, hg⟩ := EO.rowE ho
    exact ⟨⟨a', c', g, rfl, hr, fun z => ⟨hg z, hr.lt (by omega) z⟩⟩, hb⟩
  · rintro e w' ⟨⟨a', c', rfl, ho⟩, hb⟩
    obtain ⟨g, hr, hg⟩ := EO.rowE ho
    exact ⟨⟨a', c', g, rfl, hr, fun z => ⟨hg z, hr.lt (by omega) z⟩⟩, hb⟩
end Go.Proofs.Ytonccbgolbcjfaa
