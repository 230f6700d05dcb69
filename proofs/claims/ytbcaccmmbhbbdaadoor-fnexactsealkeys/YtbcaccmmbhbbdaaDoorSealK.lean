/-
  The exact law of SealKeys; its contracts.
-/
import Derived.Test.YtbcaccmmbhbbdaaDoorForget
import Derived.Test.YtbcaccmmbhbbdaaDoorKeysS
namespace Go.Proofs.YtbcaccmmbhbbdaaDoor
open Go.ChangeShapes Go.WideShapes Go.ChangeAt Go.RowKit
theorem Row8.part {w : World} {b n : Nat} {t : TypeId} {f : Nat → Nat} (h : Row8 w b t n f) (o m : Nat) (hm : o + m ≤ n) : Code8 w (some ⟨b, o, none⟩) m (fun i => f (o + i)) := code8_of (fun _ hi => h.cell (by omega))
theorem implKeysS_no (k : ByteArray) (code : Int) (h : (65536 < k.size ∧ code = 2) ∨ (k.size ≤ 65536 ∧ k.size ≠ 32 ∧ code = 1)) (w : World) :
    Calls Tryd.prog 16 #[.string k] w fun e w' => e = .returned (.tuple #[.string ⟨#[]⟩, .string ⟨#[]⟩, .int .i64 code]) ∧ w = w' := by
  rcases h with ⟨h, rfl⟩ | ⟨h, h2, rfl⟩
  · have e1 : (65536 : Int) < k.size := by omega
    go_enter_defers Tryd.func16, Tryd.ntmps16
    go_wp2
    exact ⟨_, results_tmp3 rfl _ _ _, rfl, rfl⟩
  · have e1 : ¬ (65536 : Int) < k.size := by omega
    have e2 : ((k.size : Int) != 32) = true := by rw [bne_iff_ne]; omega
    go_enter_defers Tryd.func16, Tryd.ntmps16
    go_wp2
    exact ⟨_, results_tmp3 rfl _ _ _, rfl, rfl⟩
set_option maxRecDepth 100000 in
set_option maxHeartbeats 2000000 in
theorem implKeysS_yes (k : ByteArray) (hk : k.size = 32) (w : World) (ht : Tabs w) :
    Calls Tryd.prog 16 #[.string k] w fun e w' => e = .returned (.tuple #[.string (encS k), .string (tagS k), .int .i64 0]) ∧ Below w.heap.size w w' := by
  have z1 := Tryd.zeroKp
  have e1 : ¬ (65536 : Int) < k.size := by omega
  have e2 : ((k.size : Int) != 32) = false := by rw [hk]; rfl
  have KO : Hid (∀ w : World, Tabs w → Calls Tryd.prog 32 #[.string k] w fun e w' => e = .returned (.agg (bA 64 (pairF k))) ∧ Below w.heap.size w w') := fun w ht => keysOf_any k hk w ht
  have HT : Hid (Tabs w) := ht
  have hE : encS k = kstr (fun i => pairF k (0 + i)) 0 32 := kstr_congr (fun i _ => by rw [Nat.zero_add, Nat.zero_add])
  have hT : tagS k = kstr (fun i => pairF k (32 + i)) 0 32 := kstr_congr (fun i _ => by rw [Nat.zero_add])
  rw [hE, hT]
  clear hE hT ht hk
  generalize pairF k = G at *
  generalize hS1 : kstr (fun i => G (0 + i)) 0 32 = S1
  generalize hS2 : kstr (fun i => G (32 + i)) 0 32 = S2
  have HS1 : Hid (kstr (fun i => G (0 + i)) 0 32 = S1) := hS1
  have HS2 : Hid (kstr (fun i => G (32 + i)) 0 32 = S2) := hS2
  clear hS1 hS2
  go_enter_defers Tryd.func16, Tryd.ntmps16
  go_wp2_with fail
  refine (KO.out _ HT.out).mono ?_
  rintro e w1 ⟨rfl, hb1⟩
  have B1 : Hid (Below w.heap.size w w1) := hb1
  have Z1 : Hid (Row8 (w1.alloc (.cells (Array.replicate 64 (.int .u8 0)) 49)) w1.heap.size 49 64 (fun _ => 0)) := Row8.zerosAt rfl _ _
  have B2 : Hid (Below w.heap.size w (w1.alloc (.cells (Array.replicate 64 (.int .u8 0)) 49))) := B1.out.alloc B1.out.size _
  have R2 : Hid (Row8 ((w1.alloc (.cells (Array.replicate 64 (.int .u8 0)) 49)).setCells w1.heap.size 0 (bv 64 G)) w1.heap.size 49 64 G) := Z1.out.stored G
  have B3 : Hid (Below w.heap.size w ((w1.alloc (.cells (Array.replicate 64 (.int .u8 0)) 49)).setCells w1.heap.size 0 (bv 64 G))) := below_setCells B1.out.size _ _ _ B2.out
  have hq : w.heap.size ≤ w1.heap.size := B1.out.size
  clear hb1 KO HT
  go_wp2_with (refine wpList_store_mid rfl 49 (.tmp 5) (.tmp 13) rfl w1.heap.size 0 (bA 64 G) rfl rfl (by rw [bA_size]; exact Z1.out.there) (by rw [bA_size]; exact Tryd.sizeKp) (bA_one _ _) ?_; rw [bA_toList]; generalize (w1.alloc (.cells (Array.replicate 64 (.int .u8 0)) 49)).setCells w1.heap.size 0 (bv 64 G) = w2 at *)
  have R3 : Row8 w2.drew w1.heap.size 49 64 G := R2.out.drewK
  have B4 : Hid (Below w.heap.size w w2.drew) := B3.out.drew
  clear B3 B2 Z1 R2
  generalize w1.heap.size = q at *
  generalize bA 64 G = AG at *
  refine wp_region_noPanic ?_
  refine wp_region_held_drew (S := fun w' => Row8 w' q 49 64 G) (by kernel_rfl) R3 (fun _ => ?_)
  refine wpAnyH_take (i := 0) (v := .pointer (some ⟨q, 0, none⟩)) rfl (by kernel_rfl) (by kernel_rfl) (by kernel_rfl) (fun _ _ _ h => h) (Or.inl ⟨by rfl, ?_⟩) R3 ?_
  · intro w' hSw; go_simp
  change wpAnyH _ _ _ _ _ _ _ { tmps := #[_, _, _, _, _, _, _, _, _, _, _, _, _, _, _, _, _, _, _, _], defers := _ } _
  refine wpAnyH_take (i := 1) (v := .slice (some ⟨q, 0, none⟩) 32 32) rfl (by kernel_rfl) (by kernel_rfl) (by kernel_rfl) (fun _ _ _ h => h) (Or.inl ⟨by rfl, ?_⟩) R3 ?_
  · intro w' hSw; go_simp
  change wpAnyH _ _ _ _ _ _ _ { tmps := #[_, _, _, _, _, _, _, _, _, _, _, _, _, _, _, _, _, _, _, _], defers := _ } _
  refine wpAnyH_take (i := 2) (v := .string S1) rfl (by kernel_rfl) (by kernel_rfl) (by kernel_rfl) (fun _ _ _ h => h) (Or.inl ⟨by rfl, ?_⟩) R3 ?_
  · intro w' hSw; have := kstr_of_code (c := 32) (hSw.part 0 32 (by omega)); rw [HS1.out] at this; clear hSw; go_simp
  change wpAnyH _ _ _ _ _ _ _ { tmps := #[_, _, _, _, _, _, _, _, _, _, _, _, _, _, _, _, _, _, _, _], defers := _ } _
  refine wpAnyH_take (i := 3) (v := .pointer (some ⟨q, 32, none⟩)) rfl (by kernel_rfl) (by kernel_rfl) (by kernel_rfl) (fun _ _ _ h => h) (Or.inl ⟨by rfl, ?_⟩) R3 ?_
  · intro w' hSw; go_simp
  change wpAnyH _ _ _ _ _ _ _ { tmps := #[_, _, _, _, _, _, _, _, _, _, _, _, _, _, _, _, _, _, _, _], defers := _ } _
  refine wpAnyH_take (i := 4) (v := .slice (some ⟨q, 32, none⟩) 32 32) rfl (by kernel_rfl) (by kernel_rfl) (by kernel_rfl) (fun _ _ _ h => h) (Or.inl ⟨by rfl, ?_⟩) R3 ?_
  · intro w' hSw; go_simp
  change wpAnyH _ _ _ _ _ _ _ { tmps := #[_, _, _, _, _, _, _, _, _, _, _, _, _, _, _, _, _, _, _, _], defers := _ } _
  refine wpAnyH_take (i := 5) (v := .string S2) rfl (by kernel_rfl) (by kernel_rfl) (by kernel_rfl) (fun _ _ _ h => h) (Or.inl ⟨by rfl, ?_⟩) R3 ?_
  · intro w' hSw; have := kstr_of_code (c := 32) (hSw.part 32 32 (by omega)); rw [HS2.out] at this; clear hSw; go_simp
  change wpAnyH _ _ _ _ _ _ _ { tmps := #[_, _, _, _, _, _, _, _, _, _, _, _, _, _, _, _, _, _, _, _], defers := _ } _
  refine wpAnyH_take (i := 6) (v := .string S1) rfl (by kernel_rfl) (by kernel_rfl) (by kernel_rfl) (fun _ _ _ h => h) (Or.inl ⟨by rfl, ?_⟩) R3 ?_
  · intro w' hSw; go_simp
  change wpAnyH _ _ _ _ _ _ _ { tmps := #[_, _, _, _, _, _, _, _, _, _, _, _, _, _, _, _, _, _, _, _], defers := _ } _
  refine wpAnyH_take (i := 7) (v := .string S2) rfl (by kernel_rfl) (by kernel_rfl) (by kernel_rfl) (fun _ _ _ h => h) (Or.inl ⟨by rfl, ?_⟩) R3 ?_
  · intro w' hSw; go_simp
  change wpAnyH _ _ _ _ _ _ _ { tmps := #[_, _, _, _, _, _, _, _, _, _, _, _, _, _, _, _, _, _, _, _], defers := _ } _
  refine wpAnyH_take (i := 8) (v := .int .i64 0) rfl (by kernel_rfl) (by kernel_rfl) (by kernel_rfl) (fun _ _ _ h => h) (Or.inl ⟨by rfl, ?_⟩) R3 ?_
  · intro w' hSw; go_simp
  change wpAnyH _ _ _ _ _ _ _ { tmps := #[_, _, _, _, _, _, _, _, _, _, _, _, _, _, _, _, _, _, _, _], defers := _ } _
  have TH : Hid (w2.drew.there q 0 64) := R3.there
  clear R3 HS1 HS2
  generalize w2.drew = w3 at *
  refine wpAnyH_done (by kernel_rfl) ?_ _
  refine NoPanic.normal ?_
  go_wp2
  refine leaves_cons (f := 33) (args := #[.pointer (some ⟨q, 0, none⟩)]) (by simp) (by simp [go_sem]) ?_
  refine (forget_deferred q .returning _ TH.out).mono ?_
  rintro e u' w4 ⟨rfl, rfl, ho⟩
  exact ⟨_, results_tmp3 rfl _ _ _, rfl, B4.out.trans (ho.toBelow hq B4.out.size)⟩
theorem specKeysS_no (k : ByteArray) (code : Int) (h : (65536 < k.size ∧ code = 2) ∨ (k.size ≤ 65536 ∧ k.size ≠ 32 ∧ code = 1)) (w : World) :
    Calls Tryd.prog 17 #[.string k] w fun e w' => e = .returned (.tuple #[.string ⟨#[]⟩, .string ⟨#[]⟩, .int .i64 code]) ∧ w = w' := by
  rcases h with ⟨h, rfl⟩ | ⟨h, h2, rfl⟩
  · have e1 : (65536 : Int) < k.size := by omega
    go_enter Tryd.func17, Tryd.ntmps17
    go_wp2
    go_ret3
    exact ⟨rfl, rfl⟩
  · have e1 : ¬ (65536 : Int) < k.size := by omega
    have e2 : ((k.size : Int) != 32) = true := by rw [bne_iff_ne]; omega
    go_enter Tryd.func17, Tryd.ntmps17
    go_wp2
    go_ret3
    exact ⟨rfl, rfl⟩
theorem specKeysS_yes (k : ByteArray) (hk : k.size = 32) (w : World) :
    Calls Tryd.prog 17 #[.string k] w fun e w' => e = .returned (.tuple #[.string (encS k), .string (tagS k), .int .i64 0]) ∧ Below w.heap.size w w' := by
  have e1 : ¬ (65536 : Int) < k.size := by omega
  have e2 : ((k.size : Int) != 32) = false := by rw [hk]; rfl
  have KO : Hid (∀ w : World, Calls Tryd.prog 39 #[.string k] w fun e w' => e = .returned (.tuple #[.string (encS k), .string (tagS k)]) ∧ Below w.heap.size w w') := fun w => l04Keys_any k hk w
  generalize encS k = S1 at *
  generalize tagS k = S2 at *
  clear hk
  go_enter Tryd.func17, Tryd.ntmps17
  go_wp2_with fail
  refine (KO.out _).mono ?_
  rintro e w1 ⟨rfl, hb⟩
  have B1 : Hid (Below w.heap.size w w1) := hb
  clear hb
  go_wp2
  go_ret3
  exact ⟨rfl, B1.out⟩
theorem law_sealKeys (k : ByteArray) (w : World) (ht : Tabs w) :
    Calls Tryd.prog 4 #[.string k] w fun e w' => e = .returned (.bool true) ∧ Below w.heap.size w w' := by
  by_cases h0 : k.size ≤ 1048576
  · have e0 : ¬ (1048576 : Int) < k.size := by omega
    obtain ⟨A, B, code, SP, IM⟩ : ∃ (A B : ByteArray) (code : Int), Hid (∀ w : World, Calls Tryd.prog 17 #[.string k] w fun e w' => e = .returned (.tuple #[.string A, .string B, .int .i64 code]) ∧ Below w.heap.size w w') ∧ Hid (∀ w : World, Tabs w → Calls Tryd.prog 16 #[.string k] w fun e w' => e = .returned (.tuple #[.string A, .string B, .int .i64 code]) ∧ Below w.heap.size w w') := by
      by_cases h1 : k.size = 32
      · exact ⟨_, _, _, fun w => specKeysS_yes k h1 w, fun w ht => implKeysS_yes k h1 w ht⟩
      · obtain ⟨code, hc⟩ : ∃ code : Int, (65536 < k.size ∧ code = 2) ∨ (k.size ≤ 65536 ∧ k.size ≠ 32 ∧ code = 1) := by
          by_cases h2 : 65536 < k.size
          · exact ⟨2, .inl ⟨h2, rfl⟩⟩
          · exact ⟨1, .inr ⟨by omega, h1, rfl⟩⟩
        exact ⟨_, _, code, fun w => (specKeysS_no k code hc w).mono fun _ _ h => ⟨h.1, h.2 ▸ Below.refl _ _⟩, fun w _ => (implKeysS_no k code hc w).mono fun _ _ h => ⟨h.1, h.2 ▸ Below.refl _ _⟩⟩
    have hcc : (code != code) = false := by simp
    have HT : Hid (Tabs w) := ht
    clear ht
    go_enter Tryd.func4, Tryd.ntmps4
    go_wp2_with fail
    refine (SP.out _).mono ?_
    rintro e w1 ⟨rfl, hb⟩
    have B1 : Hid (Below w.heap.size w w1) := hb
    clear hb
    go_wp2_with fail
    refine (IM.out _ (HT.out.below B1.out)).mono ?_
    rintro e w2 ⟨rfl, hb⟩
    have B2 : Hid (Below w.heap.size w w2) := B1.out.trans (hb.mono B1.out.size)
    clear hb B1 SP IM HT
    go_wp2
    go_ret
    exact ⟨rfl, B2.out⟩
  · have e0 : (1048576 : Int) < k.size := by omega
    go_enter Tryd.func4, Tryd.ntmps4
    go_wp2
    go_ret
    exact ⟨rfl, Below.refl _ _⟩
end Go.Proofs.YtbcaccmmbhbbdaaDoor
