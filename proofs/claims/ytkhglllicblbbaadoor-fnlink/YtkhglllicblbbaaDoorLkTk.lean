/-
  Links that take: takeFault and LinkTake of the program.
-/
import Derived.Test.YtkhglllicblbbaaDoorLkSd2
import Derived.Test.YtkhglllicblbbaaDoorEqual
namespace Go.Proofs.YtkhglllicblbbaaDoor
open Go.ChangeShapes Go.WideShapes Go.ChangeAt Go.RowKit
set_option linter.unusedVariables false
theorem strB_inj {s t : ByteArray} (h : s.size = t.size) (e : ∀ i, i < s.size → strB s i = strB t i) : s = t := by
  rw [← kstr_self s, ← kstr_self t, ← h]
  exact kstr_congr (fun i hi => by rw [Nat.zero_add]; exact e i hi)
theorem eqI_txt (s t : ByteArray) (hs : s.size = 16) (a b : Option Addr) (c d : Nat) (w : World) (h : Code8 w a 16 (strB s)) (h' : Code8 w b t.size (strB t)) :
    ∃ code : Int, Calls Tryd.prog 104 #[.slice a 16 c, .slice b t.size d] w fun e w' => e = .returned (.tuple #[.bool (decide (s = t)), .int .i64 code]) ∧ Below w.heap.size w w' := by
  by_cases h1 : 65536 < t.size
  · refine ⟨2, ?_⟩
    have e : decide (s = t) = false := by simp; intro e; rw [← e] at h1; omega
    rw [e]
    exact eqI_long a b 16 t.size c d (.inr h1) w
  · by_cases h2 : 16 = t.size
    · refine ⟨0, ?_⟩
      have := eqI_same a b 16 c d (strB s) (strB t) (strB_lt s) (strB_lt t) (by omega) w h (by rw [h2]; exact h')
      rw [← h2]
      have e : (((difF (strB s) (strB t) 0 16 : Nat) : Int) == 0) = decide (s = t) := by
        have e1 : (((difF (strB s) (strB t) 0 16 : Nat) : Int) == 0) = true ↔ s = t := by
          rw [beq_iff_eq]
          have e2 : ((difF (strB s) (strB t) 0 16 : Nat) : Int) = 0 ↔ difF (strB s) (strB t) 0 16 = 0 := by omega
          rw [e2, difF_zero]
          constructor
          · intro q
            exact strB_inj (by omega) (fun i hi => q.2 i (by omega))
          · rintro rfl
            exact ⟨rfl, fun _ _ => rfl⟩
        by_cases g : s = t
        · rw [e1.2 g]; simp [g]
        · have : ¬ (((difF (strB s) (strB t) 0 16 : Nat) : Int) == 0) = true := fun q => g (e1.1 q)
          simp only [Bool.not_eq_true] at this
          rw [this]; simp [g]
      rw [e] at this
      exact this
    · refine ⟨0, ?_⟩
      have e : decide (s = t) = false := by simp; intro e; rw [← e] at h2; omega
      rw [e]
      exact eqI_ne a b 16 t.size c d (by omega) (by omega) h2 w
/-- The code of a packet that comes to a right link. -/
def TkC (K : ByteArray) (tp : Int) (f : Nat → Bool) (q : Int) (B T : ByteArray) (code : Int) : Prop :=
  (¬ (1 ≤ q ∧ q ≤ 1000000) ∧ code = 4) ∨
  ((1 ≤ q ∧ q ≤ 1000000) ∧ ptag K B q.toNat ≠ T ∧ code = 10) ∨
  ((1 ≤ q ∧ q ≤ 1000000) ∧ ptag K B q.toNat = T ∧ q ≤ tp - 32 ∧ code = 15) ∨
  ((1 ≤ q ∧ q ≤ 1000000) ∧ ptag K B q.toNat = T ∧ ¬ q ≤ tp - 32 ∧ q ≤ tp ∧ f (tp - q).toNat = true ∧ code = 14) ∨
  ((1 ≤ q ∧ q ≤ 1000000) ∧ ptag K B q.toNat = T ∧ ¬ q ≤ tp - 32 ∧ ¬ (q ≤ tp ∧ f (tp - q).toNat = true) ∧ code = 0)
theorem tkC_ex (K : ByteArray) (tp : Int) (f : Nat → Bool) (q : Int) (B T : ByteArray) : ∃ code, TkC K tp f q B T code := by
  by_cases h1 : 1 ≤ q ∧ q ≤ 1000000
  · by_cases h2 : ptag K B q.toNat = T
    · by_cases h3 : q ≤ tp - 32
      · exact ⟨_, .inr (.inr (.inl ⟨h1, h2, h3, rfl⟩))⟩
      · by_cases h4 : q ≤ tp ∧ f (tp - q).toNat = true
        · exact ⟨_, .inr (.inr (.inr (.inl ⟨h1, h2, h3, h4.1, h4.2, rfl⟩)))⟩
        · exact ⟨_, .inr (.inr (.inr (.inr ⟨h1, h2, h3, h4, rfl⟩)))⟩
    · exact ⟨_, .inr (.inl ⟨h1, h2, rfl⟩)⟩
  · exact ⟨_, .inl ⟨h1, rfl⟩⟩

set_option maxRecDepth 100000 in
set_option maxHeartbeats 8000000 in
theorem takeFault_any (K : ByteArray) (se tp : Int) (a : Option Addr) (c : Nat) (f : Nat → Bool) (q : Int) (B T : ByteArray) (code : Int) (hK : K.size = 32) (ht : 0 ≤ tp ∧ tp ≤ 1000000) (hB : B.size ≤ 1048576) (hA : TkC K tp f q B T code) (w : World) (hT : Tabs w) :
    Calls Tryd.prog 71 #[.agg #[.string K, .int .i64 se, .int .i64 tp, .slice a 32 c], .int .u32 ((winN f 32 : Nat) : Int), .agg #[.int .i64 q, .string B, .string T]] w fun e w' => e = .returned (.int .i64 code) ∧ Below w.heap.size w w' := by
  have A0 : Hid (Below w.heap.size w ((w.alloc (.cells #[.string K, .int .i64 se, .int .i64 tp, .slice a 32 c] 52)).alloc (.cells #[.int .i64 q, .string B, .string T] 57))) := ((Below.refl w.heap.size w).alloc (Nat.le_refl _) _).alloc (by simp) _
  have X0 : Hid (Box4 ((w.alloc (.cells #[.string K, .int .i64 se, .int .i64 tp, .slice a 32 c] 52)).alloc (.cells #[.int .i64 q, .string B, .string T] 57)) w.heap.size 52 (.string K) (.int .i64 se) (.int .i64 tp) (.slice a 32 c)) := (Box4.madeAt rfl _ _ _ _ _).alloc _
  have P0 : Hid (BoxP ((w.alloc (.cells #[.string K, .int .i64 se, .int .i64 tp, .slice a 32 c] 52)).alloc (.cells #[.int .i64 q, .string B, .string T] 57)) (w.heap.size + 1) 57 (.int .i64 q) (.string B) (.string T)) := BoxP.madeAt (by simp) _ _ _ _
  have HT : Hid (Tabs w) := hT
  clear hT
  have HA : Hid (∀ (i : Nat) (w : World), i < 32 → Calls Tryd.prog 74 #[.int .u32 ((winN f 32 : Nat) : Int), .int .i64 (i : Int)] w fun e w' => e = .returned (.bool (f i)) ∧ w = w') := fun i w hi => by
    have := has_any (winN f 32) i (winN_lt f 32) (by omega) w
    rw [winN_bit] at this
    simpa [hi] using this
  generalize winN f 32 = X at *
  by_cases hq : 1 ≤ q ∧ q ≤ 1000000
  · obtain ⟨x, rfl⟩ : ∃ x : Nat, q = (x : Int) := ⟨q.toNat, by omega⟩
    have IS : Hid (∀ w : World, Calls Tryd.prog 68 #[.int .i64 (x : Int)] w fun e w' => e = .returned (.bool true) ∧ w = w') := fun w => isSeq_any x true (by simp; omega) w
    obtain ⟨PT, hPT⟩ : ∃ PT, PT = ptag K B x := ⟨_, rfl⟩
    have hPs : PT.size = 16 := by rw [hPT]; exact ptag_size _ _ _
    have TG : Hid (∀ w : World, Tabs w → Calls Tryd.prog 67 #[.string K, .int .i64 (x : Int), .string B] w fun e w' => e = .returned (.string PT) ∧ Below w.heap.size w w') := fun w h => by
      rw [hPT]
      exact packetTag_any K B x hK (by omega) hB w h
    have EQ : Hid (∀ (a b : Option Addr) (c d : Nat) (w : World), Code8 w a 16 (strB PT) → Code8 w b T.size (strB T) → ∃ code : Int, Calls Tryd.prog 104 #[.slice a 16 c, .slice b T.size d] w fun e w' => e = .returned (.tuple #[.bool (decide (PT = T)), .int .i64 code]) ∧ Below w.heap.size w w') := fun a b c d w h h' => eqI_txt PT T hPs a b c d w h h'
    unfold TkC at hA
    rw [Int.toNat_natCast, ← hPT] at hA
    have HP : Hid (PT.size = 16) := hPs
    have HQ : Hid (1 ≤ (x : Int) ∧ (x : Int) ≤ 1000000) := hq
    obtain ⟨r, hr⟩ : ∃ r, r = decide (PT = T) := ⟨_, rfl⟩
    rw [← hr] at EQ
    have HR : Hid (r = decide (PT = T)) := hr
    have HAA : Hid _ := hA
    clear hA hK hB hPT hPs hq hr
    go_enter Tryd.func71, Tryd.ntmps71
    go_wp2_with fail
    generalize ((w.alloc (.cells #[.string K, .int .i64 se, .int .i64 tp, .slice a 32 c] 52)).alloc (.cells #[.int .i64 (x : Int), .string B, .string T] 57)) = u at *
    refine (IS.out _).mono ?_
    rintro e u1 ⟨rfl, rfl⟩
    clear IS
    go_wp2_with fail
    have A1 := A0
    clear A0
    have hb : Below u.heap.size u u.drew := (Below.refl _ _).drew
    have H : (Box4 u.drew w.heap.size 52 (.string K) (.int .i64 se) (.int .i64 tp) (.slice a 32 c)) ∧ (BoxP u.drew (w.heap.size + 1) 57 (.int .i64 (x : Int)) (.string B) (.string T)) := ⟨X0.out.below hb, P0.out.below hb⟩
    replace A1 : Hid (Below w.heap.size w u.drew) := A1.out.trans (hb.mono A1.out.size)
    clear hb X0 P0
    refine wp_region_noPanic ?_
    refine wp_region_held_drew (S := fun w' => (Box4 w' w.heap.size 52 (.string K) (.int .i64 se) (.int .i64 tp) (.slice a 32 c)) ∧ (BoxP w' (w.heap.size + 1) 57 (.int .i64 (x : Int)) (.string B) (.string T))) (by kernel_rfl) H (fun _ => ?_)
    generalize u.drew = v11 at *
    refine wpAnyH_take (i := 0) (v := .pointer (some ⟨w.heap.size, 0, none⟩)) rfl (by kernel_rfl) (by kernel_rfl) (by kernel_rfl) (fun _ _ _ h => h) (Or.inl ⟨by rfl, ?_⟩) H ?_
    · intro w' hSw; go_simp
    change wpAnyH _ _ _ _ _ _ _ { tmps := #[_, _, _, _, _, _, _, _, _, _, _, _, _, _, _, _, _, _, _, _, _, _, _, _, _, _, _, _, _, _, _, _, _, _, _, _, _, _, _, _, _, _, _, _, _, _, _, _, _, _], defers := _ } _
    refine wpAnyH_take (i := 1) (v := .string K) rfl (by kernel_rfl) (by kernel_rfl) (by kernel_rfl) (fun _ _ _ h => h) (Or.inl ⟨by rfl, ?_⟩) H ?_
    · intro w' hSw; have t0 := hSw.1.c0; clear hSw; go_simp
    change wpAnyH _ _ _ _ _ _ _ { tmps := #[_, _, _, _, _, _, _, _, _, _, _, _, _, _, _, _, _, _, _, _, _, _, _, _, _, _, _, _, _, _, _, _, _, _, _, _, _, _, _, _, _, _, _, _, _, _, _, _, _, _], defers := _ } _
    refine wpAnyH_take (i := 2) (v := .pointer (some ⟨w.heap.size + 1, 0, none⟩)) rfl (by kernel_rfl) (by kernel_rfl) (by kernel_rfl) (fun _ _ _ h => h) (Or.inl ⟨by rfl, ?_⟩) H ?_
    · intro w' hSw; go_simp
    change wpAnyH _ _ _ _ _ _ _ { tmps := #[_, _, _, _, _, _, _, _, _, _, _, _, _, _, _, _, _, _, _, _, _, _, _, _, _, _, _, _, _, _, _, _, _, _, _, _, _, _, _, _, _, _, _, _, _, _, _, _, _, _], defers := _ } _
    refine wpAnyH_take (i := 3) (v := .int .i64 (x : Int)) rfl (by kernel_rfl) (by kernel_rfl) (by kernel_rfl) (fun _ _ _ h => h) (Or.inl ⟨by rfl, ?_⟩) H ?_
    · intro w' hSw; have t0 := hSw.2.c0; clear hSw; go_simp
    change wpAnyH _ _ _ _ _ _ _ { tmps := #[_, _, _, _, _, _, _, _, _, _, _, _, _, _, _, _, _, _, _, _, _, _, _, _, _, _, _, _, _, _, _, _, _, _, _, _, _, _, _, _, _, _, _, _, _, _, _, _, _, _], defers := _ } _
    refine wpAnyH_take (i := 4) (v := .pointer (some ⟨w.heap.size + 1, 1, none⟩)) rfl (by kernel_rfl) (by kernel_rfl) (by kernel_rfl) (fun _ _ _ h => h) (Or.inl ⟨by rfl, ?_⟩) H ?_
    · intro w' hSw; go_simp
    change wpAnyH _ _ _ _ _ _ _ { tmps := #[_, _, _, _, _, _, _, _, _, _, _, _, _, _, _, _, _, _, _, _, _, _, _, _, _, _, _, _, _, _, _, _, _, _, _, _, _, _, _, _, _, _, _, _, _, _, _, _, _, _], defers := _ } _
    refine wpAnyH_take (i := 5) (v := .string B) rfl (by kernel_rfl) (by kernel_rfl) (by kernel_rfl) (fun _ _ _ h => h) (Or.inl ⟨by rfl, ?_⟩) H ?_
    · intro w' hSw; have t0 := hSw.2.c1; clear hSw; go_simp
    change wpAnyH _ _ _ _ _ _ _ { tmps := #[_, _, _, _, _, _, _, _, _, _, _, _, _, _, _, _, _, _, _, _, _, _, _, _, _, _, _, _, _, _, _, _, _, _, _, _, _, _, _, _, _, _, _, _, _, _, _, _, _, _], defers := _ } _
    refine wpAnyH_take (i := 8) (v := .pointer (some ⟨w.heap.size + 1, 2, none⟩)) rfl (by kernel_rfl) (by kernel_rfl) (by kernel_rfl) (fun _ _ _ h => h) (Or.inl ⟨by rfl, ?_⟩) H ?_
    · intro w' hSw; go_simp
    change wpAnyH _ _ _ _ _ _ _ { tmps := #[_, _, _, _, _, _, _, _, _, _, _, _, _, _, _, _, _, _, _, _, _, _, _, _, _, _, _, _, _, _, _, _, _, _, _, _, _, _, _, _, _, _, _, _, _, _, _, _, _, _], defers := _ } _
    refine wpAnyH_take (i := 9) (v := .string T) rfl (by kernel_rfl) (by kernel_rfl) (by kernel_rfl) (fun _ _ _ h => h) (Or.inl ⟨by rfl, ?_⟩) H ?_
    · intro w' hSw; have t0 := hSw.2.c2; clear hSw; go_simp
    change wpAnyH _ _ _ _ _ _ _ { tmps := #[_, _, _, _, _, _, _, _, _, _, _, _, _, _, _, _, _, _, _, _, _, _, _, _, _, _, _, _, _, _, _, _, _, _, _, _, _, _, _, _, _, _, _, _, _, _, _, _, _, _], defers := _ } _
    refine wpAnyH_ready (rs := [6, 10]) (by kernel_rfl) (by simp) ?_
    refine (AllReadyH.cons rfl (fun KK hK => ?_) (AllReadyH.cons rfl (fun KK hK => ?_) AllReadyH.nil))
    · skip
      go_simp
      refine (TG.out _ (HT.out.below A1.out)).mono ?_
      rintro e v12 ⟨rfl, hb⟩
      replace A1 : Hid (Below w.heap.size w v12) := A1.out.trans (hb.mono A1.out.size)
      replace H : (Box4 v12 w.heap.size 52 (.string K) (.int .i64 se) (.int .i64 tp) (.slice a 32 c)) ∧ (BoxP v12 (w.heap.size + 1) 57 (.int .i64 (x : Int)) (.string B) (.string T)) := ⟨(H.1).below hb, (H.2).below hb⟩
      clear hb
      refine hK.out _ _ H (fun _ => ?_)
      clear hK KK
      change wpAnyH _ _ _ _ _ _ _ { tmps := #[_, _, _, _, _, _, _, _, _, _, _, _, _, _, _, _, _, _, _, _, _, _, _, _, _, _, _, _, _, _, _, _, _, _, _, _, _, _, _, _, _, _, _, _, _, _, _, _, _, _], defers := _ } _
      refine wpAnyH_ready (rs := [7, 10]) (by kernel_rfl) (by simp) ?_
      refine (AllReadyH.cons rfl (fun KK hK => ?_) (AllReadyH.cons rfl (fun KK hK => ?_) AllReadyH.nil))
      · skip
        obtain ⟨v13, gbc, hcv, hx, hb, hgc⟩ := bytesOfM PT v12
        rw [HP.out] at hcv hx
        go_simp
        replace A1 : Hid (Below w.heap.size w v13) := A1.out.trans (hb.mono A1.out.size)
        replace H : (Box4 v13 w.heap.size 52 (.string K) (.int .i64 se) (.int .i64 tp) (.slice a 32 c)) ∧ (BoxP v13 (w.heap.size + 1) 57 (.int .i64 (x : Int)) (.string B) (.string T)) := ⟨(H.1).below hb, (H.2).below hb⟩
        have CG : Hid (Code8 v13 (some ⟨v12.heap.size, 0, none⟩) 16 (strB PT)) := hx
        obtain ⟨gb, hgb⟩ : ∃ x, x = v12.heap.size := ⟨_, rfl⟩
        rw [← hgb] at CG ⊢
        clear hcv hx hb hgb hgc
        refine hK.out _ _ H (fun _ => ?_)
        clear hK KK
        change wpAnyH _ _ _ _ _ _ _ { tmps := #[_, _, _, _, _, _, _, _, _, _, _, _, _, _, _, _, _, _, _, _, _, _, _, _, _, _, _, _, _, _, _, _, _, _, _, _, _, _, _, _, _, _, _, _, _, _, _, _, _, _], defers := _ } _
        refine wpAnyH_ready (rs := [10]) (by kernel_rfl) (by simp) ?_
        refine (AllReadyH.cons rfl (fun KK hK => ?_) AllReadyH.nil)
        obtain ⟨v14, tbc, hcv, hx, hb, hgc⟩ := bytesOfM T v13
        go_simp
        replace A1 : Hid (Below w.heap.size w v14) := A1.out.trans (hb.mono A1.out.size)
        replace CG : Hid (Code8 v14 (some ⟨gb, 0, none⟩) 16 (strB PT)) := CG.out.below hb
        replace H : (Box4 v14 w.heap.size 52 (.string K) (.int .i64 se) (.int .i64 tp) (.slice a 32 c)) ∧ (BoxP v14 (w.heap.size + 1) 57 (.int .i64 (x : Int)) (.string B) (.string T)) := ⟨(H.1).below hb, (H.2).below hb⟩
        have CT : Hid (Code8 v14 (some ⟨v13.heap.size, 0, none⟩) T.size (strB T)) := hx
        obtain ⟨tb, htb⟩ : ∃ x, x = v13.heap.size := ⟨_, rfl⟩
        rw [← htb] at CT ⊢
        clear hcv hx hb htb hgc
        refine hK.out _ _ H (fun _ => ?_)
        clear hK KK
        change wpAnyH _ _ _ _ _ _ _ { tmps := #[_, _, _, _, _, _, _, _, _, _, _, _, _, _, _, _, _, _, _, _, _, _, _, _, _, _, _, _, _, _, _, _, _, _, _, _, _, _, _, _, _, _, _, _, _, _, _, _, _, _], defers := _ } _
        refine wpAnyH_ready (rs := [11]) (by kernel_rfl) (by simp) ?_
        refine (AllReadyH.cons rfl (fun KK hK => ?_) AllReadyH.nil)
        obtain ⟨ec, hec⟩ := EQ.out (some ⟨gb, 0, none⟩) (some ⟨tb, 0, none⟩) gbc tbc v14 CG.out CT.out
        go_simp
        refine (Calls.mono hec) ?_
        rintro e v15 ⟨rfl, hb⟩
        replace A1 : Hid (Below w.heap.size w v15) := A1.out.trans (hb.mono A1.out.size)
        replace CG : Hid (Code8 v15 (some ⟨gb, 0, none⟩) 16 (strB PT)) := CG.out.below hb
        replace CT : Hid (Code8 v15 (some ⟨tb, 0, none⟩) T.size (strB T)) := CT.out.below hb
        replace H : (Box4 v15 w.heap.size 52 (.string K) (.int .i64 se) (.int .i64 tp) (.slice a 32 c)) ∧ (BoxP v15 (w.heap.size + 1) 57 (.int .i64 (x : Int)) (.string B) (.string T)) := ⟨(H.1).below hb, (H.2).below hb⟩
        clear hb hec
        refine hK.out _ _ H (fun _ => ?_)
        clear hK KK
        change wpAnyH _ _ _ _ _ _ _ { tmps := #[_, _, _, _, _, _, _, _, _, _, _, _, _, _, _, _, _, _, _, _, _, _, _, _, _, _, _, _, _, _, _, _, _, _, _, _, _, _, _, _, _, _, _, _, _, _, _, _, _, _], defers := _ } _
        refine wpAnyH_take (i := 12) (v := .tuple #[.bool r, .int .i64 ec]) rfl (by kernel_rfl) (by kernel_rfl) (by kernel_rfl) (fun _ _ _ h => h) (Or.inl ⟨by rfl, ?_⟩) H ?_
        · intro w' hSw; go_simp
        change wpAnyH _ _ _ _ _ _ _ { tmps := #[_, _, _, _, _, _, _, _, _, _, _, _, _, _, _, _, _, _, _, _, _, _, _, _, _, _, _, _, _, _, _, _, _, _, _, _, _, _, _, _, _, _, _, _, _, _, _, _, _, _], defers := _ } _
        refine wpAnyH_take (i := 13) (v := .bool r) rfl (by kernel_rfl) (by kernel_rfl) (by kernel_rfl) (fun _ _ _ h => h) (Or.inl ⟨by rfl, ?_⟩) H ?_
        · intro w' hSw; go_simp
        change wpAnyH _ _ _ _ _ _ _ { tmps := #[_, _, _, _, _, _, _, _, _, _, _, _, _, _, _, _, _, _, _, _, _, _, _, _, _, _, _, _, _, _, _, _, _, _, _, _, _, _, _, _, _, _, _, _, _, _, _, _, _, _], defers := _ } _
        refine wpAnyH_take (i := 14) (v := .int .i64 ec) rfl (by kernel_rfl) (by kernel_rfl) (by kernel_rfl) (fun _ _ _ h => h) (Or.inl ⟨by rfl, ?_⟩) H ?_
        · intro w' hSw; go_simp
        change wpAnyH _ _ _ _ _ _ _ { tmps := #[_, _, _, _, _, _, _, _, _, _, _, _, _, _, _, _, _, _, _, _, _, _, _, _, _, _, _, _, _, _, _, _, _, _, _, _, _, _, _, _, _, _, _, _, _, _, _, _, _, _], defers := _ } _
        refine wpAnyH_take (i := 15) (v := .bool r) rfl (by kernel_rfl) (by kernel_rfl) (by kernel_rfl) (fun _ _ _ h => h) (Or.inl ⟨by rfl, ?_⟩) H ?_
        · intro w' hSw; go_simp
        change wpAnyH _ _ _ _ _ _ _ { tmps := #[_, _, _, _, _, _, _, _, _, _, _, _, _, _, _, _, _, _, _, _, _, _, _, _, _, _, _, _, _, _, _, _, _, _, _, _, _, _, _, _, _, _, _, _, _, _, _, _, _, _], defers := _ } _
        refine wpAnyH_take (i := 16) (v := .int .i64 ec) rfl (by kernel_rfl) (by kernel_rfl) (by kernel_rfl) (fun _ _ _ h => h) (Or.inl ⟨by rfl, ?_⟩) H ?_
        · intro w' hSw; go_simp
        change wpAnyH _ _ _ _ _ _ _ { tmps := #[_, _, _, _, _, _, _, _, _, _, _, _, _, _, _, _, _, _, _, _, _, _, _, _, _, _, _, _, _, _, _, _, _, _, _, _, _, _, _, _, _, _, _, _, _, _, _, _, _, _], defers := _ } _
        refine wpAnyH_done (by kernel_rfl) ?_ _
        refine NoPanic.normal ?_
        obtain ⟨x1, p1⟩ := H
        have X5 : Hid (Box4 v15 w.heap.size 52 (.string K) (.int .i64 se) (.int .i64 tp) (.slice a 32 c)) := x1
        have P5 : Hid (BoxP v15 (w.heap.size + 1) 57 (.int .i64 (x : Int)) (.string B) (.string T)) := p1
        have hx2 := x1.c2
        have hp0 := p1.c0
        clear x1 p1 CG CT EQ TG HT HP
        have x0 : (0 : Int) ≤ (x : Int) := by omega
        have x1 : (x : Int) ≤ 1000000 := HQ.out.2
        have t0 := ht.1
        have t1 := ht.2
        rcases HAA.out with ⟨g1, rfl⟩ | ⟨g1, g2, rfl⟩ | ⟨g1, g2, g3, rfl⟩ | ⟨g1, g2, g3, g4, g5, rfl⟩ | ⟨g1, g2, g3, g4, rfl⟩
        · exact absurd HQ.out g1
        · obtain rfl : r = false := by rw [HR.out]; simp [g2]
          clear HAA HR HQ HA g1 g2
          go_wp2
          go_ret
          exact ⟨rfl, A1.out⟩
        · obtain rfl : r = true := by rw [HR.out]; simp [g2]
          clear HAA HR HQ HA g1 g2
          go_wp2
          go_ret
          exact ⟨rfl, A1.out⟩
        · obtain rfl : r = true := by rw [HR.out]; simp [g2]
          obtain ⟨j, hj⟩ : ∃ j : Nat, tp - (x : Int) = (j : Int) := ⟨(tp - (x : Int)).toNat, by omega⟩
          have hj32 : j < 32 := by omega
          have fj : f j = true := by rw [hj, Int.toNat_natCast] at g5; exact g5
          have HJ : Hid (∀ w : World, Calls Tryd.prog 74 #[.int .u32 ((X : Nat) : Int), .int .i64 (j : Int)] w fun e w' => e = .returned (.bool true) ∧ w = w') := fun w => by have := HA.out j w hj32; rw [fj] at this; exact this
          clear HAA HR HQ HA g1 g2 g5 fj hj32
          go_wp2_with fail
          refine (HJ.out _).mono ?_
          rintro e z1 ⟨rfl, rfl⟩
          go_wp2
          go_ret
          exact ⟨rfl, A1.out⟩
        · obtain rfl : r = true := by rw [HR.out]; simp [g2]
          by_cases g5 : (x : Int) ≤ tp
          · obtain ⟨j, hj⟩ : ∃ j : Nat, tp - (x : Int) = (j : Int) := ⟨(tp - (x : Int)).toNat, by omega⟩
            have hj32 : j < 32 := by omega
            have fj : f j = false := by
              have := fun z => g4 ⟨g5, z⟩
              rw [hj, Int.toNat_natCast] at this
              simpa using this
            have HJ : Hid (∀ w : World, Calls Tryd.prog 74 #[.int .u32 ((X : Nat) : Int), .int .i64 (j : Int)] w fun e w' => e = .returned (.bool false) ∧ w = w') := fun w => by have := HA.out j w hj32; rw [fj] at this; exact this
            clear HAA HR HQ HA g1 g2 g4 fj hj32
            go_wp2_with fail
            refine (HJ.out _).mono ?_
            rintro e z1 ⟨rfl, rfl⟩
            go_wp2
            go_ret
            exact ⟨rfl, A1.out⟩
          · clear HAA HR HQ HA g1 g2 g4
            go_wp2
            go_ret
            exact ⟨rfl, A1.out⟩
      · skip
        obtain ⟨v16, tbc, hcv, hx, hb, hgc⟩ := bytesOfM T v12
        go_simp
        replace A1 : Hid (Below w.heap.size w v16) := A1.out.trans (hb.mono A1.out.size)
        replace H : (Box4 v16 w.heap.size 52 (.string K) (.int .i64 se) (.int .i64 tp) (.slice a 32 c)) ∧ (BoxP v16 (w.heap.size + 1) 57 (.int .i64 (x : Int)) (.string B) (.string T)) := ⟨(H.1).below hb, (H.2).below hb⟩
        have CT : Hid (Code8 v16 (some ⟨v12.heap.size, 0, none⟩) T.size (strB T)) := hx
        obtain ⟨tb, htb⟩ : ∃ x, x = v12.heap.size := ⟨_, rfl⟩
        rw [← htb] at CT ⊢
        clear hcv hx hb htb hgc
        refine hK.out _ _ H (fun _ => ?_)
        clear hK KK
        change wpAnyH _ _ _ _ _ _ _ { tmps := #[_, _, _, _, _, _, _, _, _, _, _, _, _, _, _, _, _, _, _, _, _, _, _, _, _, _, _, _, _, _, _, _, _, _, _, _, _, _, _, _, _, _, _, _, _, _, _, _, _, _], defers := _ } _
        refine wpAnyH_ready (rs := [7]) (by kernel_rfl) (by simp) ?_
        refine (AllReadyH.cons rfl (fun KK hK => ?_) AllReadyH.nil)
        obtain ⟨v17, gbc, hcv, hx, hb, hgc⟩ := bytesOfM PT v16
        rw [HP.out] at hcv hx
        go_simp
        replace A1 : Hid (Below w.heap.size w v17) := A1.out.trans (hb.mono A1.out.size)
        replace CT : Hid (Code8 v17 (some ⟨tb, 0, none⟩) T.size (strB T)) := CT.out.below hb
        replace H : (Box4 v17 w.heap.size 52 (.string K) (.int .i64 se) (.int .i64 tp) (.slice a 32 c)) ∧ (BoxP v17 (w.heap.size + 1) 57 (.int .i64 (x : Int)) (.string B) (.string T)) := ⟨(H.1).below hb, (H.2).below hb⟩
        have CG : Hid (Code8 v17 (some ⟨v16.heap.size, 0, none⟩) 16 (strB PT)) := hx
        obtain ⟨gb, hgb⟩ : ∃ x, x = v16.heap.size := ⟨_, rfl⟩
        rw [← hgb] at CG ⊢
        clear hcv hx hb hgb hgc
        refine hK.out _ _ H (fun _ => ?_)
        clear hK KK
        change wpAnyH _ _ _ _ _ _ _ { tmps := #[_, _, _, _, _, _, _, _, _, _, _, _, _, _, _, _, _, _, _, _, _, _, _, _, _, _, _, _, _, _, _, _, _, _, _, _, _, _, _, _, _, _, _, _, _, _, _, _, _, _], defers := _ } _
        refine wpAnyH_ready (rs := [11]) (by kernel_rfl) (by simp) ?_
        refine (AllReadyH.cons rfl (fun KK hK => ?_) AllReadyH.nil)
        obtain ⟨ec, hec⟩ := EQ.out (some ⟨gb, 0, none⟩) (some ⟨tb, 0, none⟩) gbc tbc v17 CG.out CT.out
        go_simp
        refine (Calls.mono hec) ?_
        rintro e v18 ⟨rfl, hb⟩
        replace A1 : Hid (Below w.heap.size w v18) := A1.out.trans (hb.mono A1.out.size)
        replace CT : Hid (Code8 v18 (some ⟨tb, 0, none⟩) T.size (strB T)) := CT.out.below hb
        replace CG : Hid (Code8 v18 (some ⟨gb, 0, none⟩) 16 (strB PT)) := CG.out.below hb
        replace H : (Box4 v18 w.heap.size 52 (.string K) (.int .i64 se) (.int .i64 tp) (.slice a 32 c)) ∧ (BoxP v18 (w.heap.size + 1) 57 (.int .i64 (x : Int)) (.string B) (.string T)) := ⟨(H.1).below hb, (H.2).below hb⟩
        clear hb hec
        refine hK.out _ _ H (fun _ => ?_)
        clear hK KK
        change wpAnyH _ _ _ _ _ _ _ { tmps := #[_, _, _, _, _, _, _, _, _, _, _, _, _, _, _, _, _, _, _, _, _, _, _, _, _, _, _, _, _, _, _, _, _, _, _, _, _, _, _, _, _, _, _, _, _, _, _, _, _, _], defers := _ } _
        refine wpAnyH_take (i := 12) (v := .tuple #[.bool r, .int .i64 ec]) rfl (by kernel_rfl) (by kernel_rfl) (by kernel_rfl) (fun _ _ _ h => h) (Or.inl ⟨by rfl, ?_⟩) H ?_
        · intro w' hSw; go_simp
        change wpAnyH _ _ _ _ _ _ _ { tmps := #[_, _, _, _, _, _, _, _, _, _, _, _, _, _, _, _, _, _, _, _, _, _, _, _, _, _, _, _, _, _, _, _, _, _, _, _, _, _, _, _, _, _, _, _, _, _, _, _, _, _], defers := _ } _
        refine wpAnyH_take (i := 13) (v := .bool r) rfl (by kernel_rfl) (by kernel_rfl) (by kernel_rfl) (fun _ _ _ h => h) (Or.inl ⟨by rfl, ?_⟩) H ?_
        · intro w' hSw; go_simp
        change wpAnyH _ _ _ _ _ _ _ { tmps := #[_, _, _, _, _, _, _, _, _, _, _, _, _, _, _, _, _, _, _, _, _, _, _, _, _, _, _, _, _, _, _, _, _, _, _, _, _, _, _, _, _, _, _, _, _, _, _, _, _, _], defers := _ } _
        refine wpAnyH_take (i := 14) (v := .int .i64 ec) rfl (by kernel_rfl) (by kernel_rfl) (by kernel_rfl) (fun _ _ _ h => h) (Or.inl ⟨by rfl, ?_⟩) H ?_
        · intro w' hSw; go_simp
        change wpAnyH _ _ _ _ _ _ _ { tmps := #[_, _, _, _, _, _, _, _, _, _, _, _, _, _, _, _, _, _, _, _, _, _, _, _, _, _, _, _, _, _, _, _, _, _, _, _, _, _, _, _, _, _, _, _, _, _, _, _, _, _], defers := _ } _
        refine wpAnyH_take (i := 15) (v := .bool r) rfl (by kernel_rfl) (by kernel_rfl) (by kernel_rfl) (fun _ _ _ h => h) (Or.inl ⟨by rfl, ?_⟩) H ?_
        · intro w' hSw; go_simp
        change wpAnyH _ _ _ _ _ _ _ { tmps := #[_, _, _, _, _, _, _, _, _, _, _, _, _, _, _, _, _, _, _, _, _, _, _, _, _, _, _, _, _, _, _, _, _, _, _, _, _, _, _, _, _, _, _, _, _, _, _, _, _, _], defers := _ } _
        refine wpAnyH_take (i := 16) (v := .int .i64 ec) rfl (by kernel_rfl) (by kernel_rfl) (by kernel_rfl) (fun _ _ _ h => h) (Or.inl ⟨by rfl, ?_⟩) H ?_
        · intro w' hSw; go_simp
        change wpAnyH _ _ _ _ _ _ _ { tmps := #[_, _, _, _, _, _, _, _, _, _, _, _, _, _, _, _, _, _, _, _, _, _, _, _, _, _, _, _, _, _, _, _, _, _, _, _, _, _, _, _, _, _, _, _, _, _, _, _, _, _], defers := _ } _
        refine wpAnyH_done (by kernel_rfl) ?_ _
        refine NoPanic.normal ?_
        obtain ⟨x1, p1⟩ := H
        have X5 : Hid (Box4 v18 w.heap.size 52 (.string K) (.int .i64 se) (.int .i64 tp) (.slice a 32 c)) := x1
        have P5 : Hid (BoxP v18 (w.heap.size + 1) 57 (.int .i64 (x : Int)) (.string B) (.string T)) := p1
        have hx2 := x1.c2
        have hp0 := p1.c0
        clear x1 p1 CG CT EQ TG HT HP
        have x0 : (0 : Int) ≤ (x : Int) := by omega
        have x1 : (x : Int) ≤ 1000000 := HQ.out.2
        have t0 := ht.1
        have t1 := ht.2
        rcases HAA.out with ⟨g1, rfl⟩ | ⟨g1, g2, rfl⟩ | ⟨g1, g2, g3, rfl⟩ | ⟨g1, g2, g3, g4, g5, rfl⟩ | ⟨g1, g2, g3, g4, rfl⟩
        · exact absurd HQ.out g1
        · obtain rfl : r = false := by rw [HR.out]; simp [g2]
          clear HAA HR HQ HA g1 g2
          go_wp2
          go_ret
          exact ⟨rfl, A1.out⟩
        · obtain rfl : r = true := by rw [HR.out]; simp [g2]
          clear HAA HR HQ HA g1 g2
          go_wp2
          go_ret
          exact ⟨rfl, A1.out⟩
        · obtain rfl : r = true := by rw [HR.out]; simp [g2]
          obtain ⟨j, hj⟩ : ∃ j : Nat, tp - (x : Int) = (j : Int) := ⟨(tp - (x : Int)).toNat, by omega⟩
          have hj32 : j < 32 := by omega
          have fj : f j = true := by rw [hj, Int.toNat_natCast] at g5; exact g5
          have HJ : Hid (∀ w : World, Calls Tryd.prog 74 #[.int .u32 ((X : Nat) : Int), .int .i64 (j : Int)] w fun e w' => e = .returned (.bool true) ∧ w = w') := fun w => by have := HA.out j w hj32; rw [fj] at this; exact this
          clear HAA HR HQ HA g1 g2 g5 fj hj32
          go_wp2_with fail
          refine (HJ.out _).mono ?_
          rintro e z1 ⟨rfl, rfl⟩
          go_wp2
          go_ret
          exact ⟨rfl, A1.out⟩
        · obtain rfl : r = true := by rw [HR.out]; simp [g2]
          by_cases g5 : (x : Int) ≤ tp
          · obtain ⟨j, hj⟩ : ∃ j : Nat, tp - (x : Int) = (j : Int) := ⟨(tp - (x : Int)).toNat, by omega⟩
            have hj32 : j < 32 := by omega
            have fj : f j = false := by
              have := fun z => g4 ⟨g5, z⟩
              rw [hj, Int.toNat_natCast] at this
              simpa using this
            have HJ : Hid (∀ w : World, Calls Tryd.prog 74 #[.int .u32 ((X : Nat) : Int), .int .i64 (j : Int)] w fun e w' => e = .returned (.bool false) ∧ w = w') := fun w => by have := HA.out j w hj32; rw [fj] at this; exact this
            clear HAA HR HQ HA g1 g2 g4 fj hj32
            go_wp2_with fail
            refine (HJ.out _).mono ?_
            rintro e z1 ⟨rfl, rfl⟩
            go_wp2
            go_ret
            exact ⟨rfl, A1.out⟩
          · clear HAA HR HQ HA g1 g2 g4
            go_wp2
            go_ret
            exact ⟨rfl, A1.out⟩
    · skip
      obtain ⟨v19, tbc, hcv, hx, hb, hgc⟩ := bytesOfM T v11
      go_simp
      replace A1 : Hid (Below w.heap.size w v19) := A1.out.trans (hb.mono A1.out.size)
      replace H : (Box4 v19 w.heap.size 52 (.string K) (.int .i64 se) (.int .i64 tp) (.slice a 32 c)) ∧ (BoxP v19 (w.heap.size + 1) 57 (.int .i64 (x : Int)) (.string B) (.string T)) := ⟨(H.1).below hb, (H.2).below hb⟩
      have CT : Hid (Code8 v19 (some ⟨v11.heap.size, 0, none⟩) T.size (strB T)) := hx
      obtain ⟨tb, htb⟩ : ∃ x, x = v11.heap.size := ⟨_, rfl⟩
      rw [← htb] at CT ⊢
      clear hcv hx hb htb hgc
      refine hK.out _ _ H (fun _ => ?_)
      clear hK KK
      change wpAnyH _ _ _ _ _ _ _ { tmps := #[_, _, _, _, _, _, _, _, _, _, _, _, _, _, _, _, _, _, _, _, _, _, _, _, _, _, _, _, _, _, _, _, _, _, _, _, _, _, _, _, _, _, _, _, _, _, _, _, _, _], defers := _ } _
      refine wpAnyH_ready (rs := [6]) (by kernel_rfl) (by simp) ?_
      refine (AllReadyH.cons rfl (fun KK hK => ?_) AllReadyH.nil)
      go_simp
      refine (TG.out _ (HT.out.below A1.out)).mono ?_
      rintro e v20 ⟨rfl, hb⟩
      replace A1 : Hid (Below w.heap.size w v20) := A1.out.trans (hb.mono A1.out.size)
      replace CT : Hid (Code8 v20 (some ⟨tb, 0, none⟩) T.size (strB T)) := CT.out.below hb
      replace H : (Box4 v20 w.heap.size 52 (.string K) (.int .i64 se) (.int .i64 tp) (.slice a 32 c)) ∧ (BoxP v20 (w.heap.size + 1) 57 (.int .i64 (x : Int)) (.string B) (.string T)) := ⟨(H.1).below hb, (H.2).below hb⟩
      clear hb
      refine hK.out _ _ H (fun _ => ?_)
      clear hK KK
      change wpAnyH _ _ _ _ _ _ _ { tmps := #[_, _, _, _, _, _, _, _, _, _, _, _, _, _, _, _, _, _, _, _, _, _, _, _, _, _, _, _, _, _, _, _, _, _, _, _, _, _, _, _, _, _, _, _, _, _, _, _, _, _], defers := _ } _
      refine wpAnyH_ready (rs := [7]) (by kernel_rfl) (by simp) ?_
      refine (AllReadyH.cons rfl (fun KK hK => ?_) AllReadyH.nil)
      obtain ⟨v21, gbc, hcv, hx, hb, hgc⟩ := bytesOfM PT v20
      rw [HP.out] at hcv hx
      go_simp
      replace A1 : Hid (Below w.heap.size w v21) := A1.out.trans (hb.mono A1.out.size)
      replace CT : Hid (Code8 v21 (some ⟨tb, 0, none⟩) T.size (strB T)) := CT.out.below hb
      replace H : (Box4 v21 w.heap.size 52 (.string K) (.int .i64 se) (.int .i64 tp) (.slice a 32 c)) ∧ (BoxP v21 (w.heap.size + 1) 57 (.int .i64 (x : Int)) (.string B) (.string T)) := ⟨(H.1).below hb, (H.2).below hb⟩
      have CG : Hid (Code8 v21 (some ⟨v20.heap.size, 0, none⟩) 16 (strB PT)) := hx
      obtain ⟨gb, hgb⟩ : ∃ x, x = v20.heap.size := ⟨_, rfl⟩
      rw [← hgb] at CG ⊢
      clear hcv hx hb hgb hgc
      refine hK.out _ _ H (fun _ => ?_)
      clear hK KK
      change wpAnyH _ _ _ _ _ _ _ { tmps := #[_, _, _, _, _, _, _, _, _, _, _, _, _, _, _, _, _, _, _, _, _, _, _, _, _, _, _, _, _, _, _, _, _, _, _, _, _, _, _, _, _, _, _, _, _, _, _, _, _, _], defers := _ } _
      refine wpAnyH_ready (rs := [11]) (by kernel_rfl) (by simp) ?_
      refine (AllReadyH.cons rfl (fun KK hK => ?_) AllReadyH.nil)
      obtain ⟨ec, hec⟩ := EQ.out (some ⟨gb, 0, none⟩) (some ⟨tb, 0, none⟩) gbc tbc v21 CG.out CT.out
      go_simp
      refine (Calls.mono hec) ?_
      rintro e v22 ⟨rfl, hb⟩
      replace A1 : Hid (Below w.heap.size w v22) := A1.out.trans (hb.mono A1.out.size)
      replace CT : Hid (Code8 v22 (some ⟨tb, 0, none⟩) T.size (strB T)) := CT.out.below hb
      replace CG : Hid (Code8 v22 (some ⟨gb, 0, none⟩) 16 (strB PT)) := CG.out.below hb
      replace H : (Box4 v22 w.heap.size 52 (.string K) (.int .i64 se) (.int .i64 tp) (.slice a 32 c)) ∧ (BoxP v22 (w.heap.size + 1) 57 (.int .i64 (x : Int)) (.string B) (.string T)) := ⟨(H.1).below hb, (H.2).below hb⟩
      clear hb hec
      refine hK.out _ _ H (fun _ => ?_)
      clear hK KK
      change wpAnyH _ _ _ _ _ _ _ { tmps := #[_, _, _, _, _, _, _, _, _, _, _, _, _, _, _, _, _, _, _, _, _, _, _, _, _, _, _, _, _, _, _, _, _, _, _, _, _, _, _, _, _, _, _, _, _, _, _, _, _, _], defers := _ } _
      refine wpAnyH_take (i := 12) (v := .tuple #[.bool r, .int .i64 ec]) rfl (by kernel_rfl) (by kernel_rfl) (by kernel_rfl) (fun _ _ _ h => h) (Or.inl ⟨by rfl, ?_⟩) H ?_
      · intro w' hSw; go_simp
      change wpAnyH _ _ _ _ _ _ _ { tmps := #[_, _, _, _, _, _, _, _, _, _, _, _, _, _, _, _, _, _, _, _, _, _, _, _, _, _, _, _, _, _, _, _, _, _, _, _, _, _, _, _, _, _, _, _, _, _, _, _, _, _], defers := _ } _
      refine wpAnyH_take (i := 13) (v := .bool r) rfl (by kernel_rfl) (by kernel_rfl) (by kernel_rfl) (fun _ _ _ h => h) (Or.inl ⟨by rfl, ?_⟩) H ?_
      · intro w' hSw; go_simp
      change wpAnyH _ _ _ _ _ _ _ { tmps := #[_, _, _, _, _, _, _, _, _, _, _, _, _, _, _, _, _, _, _, _, _, _, _, _, _, _, _, _, _, _, _, _, _, _, _, _, _, _, _, _, _, _, _, _, _, _, _, _, _, _], defers := _ } _
      refine wpAnyH_take (i := 14) (v := .int .i64 ec) rfl (by kernel_rfl) (by kernel_rfl) (by kernel_rfl) (fun _ _ _ h => h) (Or.inl ⟨by rfl, ?_⟩) H ?_
      · intro w' hSw; go_simp
      change wpAnyH _ _ _ _ _ _ _ { tmps := #[_, _, _, _, _, _, _, _, _, _, _, _, _, _, _, _, _, _, _, _, _, _, _, _, _, _, _, _, _, _, _, _, _, _, _, _, _, _, _, _, _, _, _, _, _, _, _, _, _, _], defers := _ } _
      refine wpAnyH_take (i := 15) (v := .bool r) rfl (by kernel_rfl) (by kernel_rfl) (by kernel_rfl) (fun _ _ _ h => h) (Or.inl ⟨by rfl, ?_⟩) H ?_
      · intro w' hSw; go_simp
      change wpAnyH _ _ _ _ _ _ _ { tmps := #[_, _, _, _, _, _, _, _, _, _, _, _, _, _, _, _, _, _, _, _, _, _, _, _, _, _, _, _, _, _, _, _, _, _, _, _, _, _, _, _, _, _, _, _, _, _, _, _, _, _], defers := _ } _
      refine wpAnyH_take (i := 16) (v := .int .i64 ec) rfl (by kernel_rfl) (by kernel_rfl) (by kernel_rfl) (fun _ _ _ h => h) (Or.inl ⟨by rfl, ?_⟩) H ?_
      · intro w' hSw; go_simp
      change wpAnyH _ _ _ _ _ _ _ { tmps := #[_, _, _, _, _, _, _, _, _, _, _, _, _, _, _, _, _, _, _, _, _, _, _, _, _, _, _, _, _, _, _, _, _, _, _, _, _, _, _, _, _, _, _, _, _, _, _, _, _, _], defers := _ } _
      refine wpAnyH_done (by kernel_rfl) ?_ _
      refine NoPanic.normal ?_
      obtain ⟨x1, p1⟩ := H
      have X5 : Hid (Box4 v22 w.heap.size 52 (.string K) (.int .i64 se) (.int .i64 tp) (.slice a 32 c)) := x1
      have P5 : Hid (BoxP v22 (w.heap.size + 1) 57 (.int .i64 (x : Int)) (.string B) (.string T)) := p1
      have hx2 := x1.c2
      have hp0 := p1.c0
      clear x1 p1 CG CT EQ TG HT HP
      have x0 : (0 : Int) ≤ (x : Int) := by omega
      have x1 : (x : Int) ≤ 1000000 := HQ.out.2
      have t0 := ht.1
      have t1 := ht.2
      rcases HAA.out with ⟨g1, rfl⟩ | ⟨g1, g2, rfl⟩ | ⟨g1, g2, g3, rfl⟩ | ⟨g1, g2, g3, g4, g5, rfl⟩ | ⟨g1, g2, g3, g4, rfl⟩
      · exact absurd HQ.out g1
      · obtain rfl : r = false := by rw [HR.out]; simp [g2]
        clear HAA HR HQ HA g1 g2
        go_wp2
        go_ret
        exact ⟨rfl, A1.out⟩
      · obtain rfl : r = true := by rw [HR.out]; simp [g2]
        clear HAA HR HQ HA g1 g2
        go_wp2
        go_ret
        exact ⟨rfl, A1.out⟩
      · obtain rfl : r = true := by rw [HR.out]; simp [g2]
        obtain ⟨j, hj⟩ : ∃ j : Nat, tp - (x : Int) = (j : Int) := ⟨(tp - (x : Int)).toNat, by omega⟩
        have hj32 : j < 32 := by omega
        have fj : f j = true := by rw [hj, Int.toNat_natCast] at g5; exact g5
        have HJ : Hid (∀ w : World, Calls Tryd.prog 74 #[.int .u32 ((X : Nat) : Int), .int .i64 (j : Int)] w fun e w' => e = .returned (.bool true) ∧ w = w') := fun w => by have := HA.out j w hj32; rw [fj] at this; exact this
        clear HAA HR HQ HA g1 g2 g5 fj hj32
        go_wp2_with fail
        refine (HJ.out _).mono ?_
        rintro e z1 ⟨rfl, rfl⟩
        go_wp2
        go_ret
        exact ⟨rfl, A1.out⟩
      · obtain rfl : r = true := by rw [HR.out]; simp [g2]
        by_cases g5 : (x : Int) ≤ tp
        · obtain ⟨j, hj⟩ : ∃ j : Nat, tp - (x : Int) = (j : Int) := ⟨(tp - (x : Int)).toNat, by omega⟩
          have hj32 : j < 32 := by omega
          have fj : f j = false := by
            have := fun z => g4 ⟨g5, z⟩
            rw [hj, Int.toNat_natCast] at this
            simpa using this
          have HJ : Hid (∀ w : World, Calls Tryd.prog 74 #[.int .u32 ((X : Nat) : Int), .int .i64 (j : Int)] w fun e w' => e = .returned (.bool false) ∧ w = w') := fun w => by have := HA.out j w hj32; rw [fj] at this; exact this
          clear HAA HR HQ HA g1 g2 g4 fj hj32
          go_wp2_with fail
          refine (HJ.out _).mono ?_
          rintro e z1 ⟨rfl, rfl⟩
          go_wp2
          go_ret
          exact ⟨rfl, A1.out⟩
        · clear HAA HR HQ HA g1 g2 g4
          go_wp2
          go_ret
          exact ⟨rfl, A1.out⟩
  · have IS : Hid (∀ w : World, Calls Tryd.prog 68 #[.int .i64 q] w fun e w' => e = .returned (.bool false) ∧ w = w') := fun w => isSeq_any q false (by simp; omega) w
    obtain rfl : code = 4 := by
      rcases hA with ⟨_, h⟩ | ⟨h, _⟩ | ⟨h, _⟩ | ⟨h, _⟩ | ⟨h, _⟩
      · exact h
      all_goals exact absurd h hq
    clear hA hK hB hq HT HA ht
    go_enter Tryd.func71, Tryd.ntmps71
    go_wp2_with fail
    generalize ((w.alloc (.cells #[.string K, .int .i64 se, .int .i64 tp, .slice a 32 c] 52)).alloc (.cells #[.int .i64 q, .string B, .string T] 57)) = u at *
    refine (IS.out _).mono ?_
    rintro e u1 ⟨rfl, rfl⟩
    go_wp2
    go_ret
    exact ⟨rfl, A0.out⟩
end Go.Proofs.YtkhglllicblbbaaDoor
