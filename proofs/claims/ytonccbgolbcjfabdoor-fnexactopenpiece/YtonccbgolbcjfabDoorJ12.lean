/-
  The model's own test whether a number lies between two.
-/
import Derived.Test.YtonccbgolbcjfabDoorRows
import Derived.WalkKit
import Derived.ProofKit
import Derived.Below
import Derived.WalkSmall
import Derived.Test.YtonccbgolbcjfabDoorRowM
import Derived.Test.YtonccbgolbcjfabDoorJ01
import Derived.Deep.Cut
import Derived.Deep.CutRange
import Derived.Deep.DeepCutAuto
import Derived.BigRegion
import Derived.Test.YtonccbgolbcjfabDoorJ11
namespace Go.Proofs.YtonccbgolbcjfabDoor
open Go.ChangeShapes Go.WideShapes Go.ChangeAt Go.RowKit
theorem in_any (x a b : Int) (r : Bool) (hr : r = decide (a ≤ x ∧ x ≤ b)) (w : World) :
    Calls Tryd.prog 10 #[.int .i64 x, .int .i64 a, .int .i64 b] w fun e w' => e = .returned (.bool r) ∧ w = w' := by
  by_cases h1 : a ≤ x
  · by_cases h2 : x ≤ b
    · obtain rfl : r = true := by rw [hr]; simp; omega
      clear hr
      go_enter Tryd.func10, Tryd.ntmps10
      go_wp2
      go_ret
      exact ⟨rfl, rfl⟩
    · obtain rfl : r = false := by rw [hr]; simp; omega
      clear hr
      go_enter Tryd.func10, Tryd.ntmps10
      go_wp2
      go_ret
      exact ⟨rfl, rfl⟩
  · obtain rfl : r = false := by rw [hr]; simp; omega
    clear hr
    go_enter Tryd.func10, Tryd.ntmps10
    go_wp2
    go_ret
    exact ⟨rfl, rfl⟩
end Go.Proofs.YtonccbgolbcjfabDoor

/-
  Nonces of a place and a version: SealNonce of the program and of the model, and its exact law.
-/
namespace Go.Proofs.YtonccbgolbcjfabDoor
open Go.ChangeShapes Go.WideShapes Go.ChangeAt Go.RowKit
def fourF (k j : Nat) : Nat := k / 256 ^ (3 - j) % 256
theorem fourF_lt (k j : Nat) : fourF k j < 256 := Nat.mod_lt _ (by omega)
/-- The bytes of a nonce. -/
def nonceF (p v : Nat) : Nat → Nat := numF 8 4 v (numF 4 4 p (fun _ => 0))
theorem four_num (k x : Nat) (f : Nat → Nat) (i : Nat) : numF k 4 x f (k + i) = fourF x i := by
  unfold numF fourF
  rw [if_neg (by omega), show k + i - k = i from by omega, show (4 : Nat) - 1 - i = 3 - i from by omega, Nat.pow_mul]
theorem nonce_text (p v : Nat) : kstr (fourF 0) 0 4 ++ kstr (fourF p) 0 4 ++ kstr (fourF v) 0 4 = kstr (nonceF p v) 0 12 := by
  have e0 : kstr (fourF 0) 0 4 = kstr (nonceF p v) 0 4 := kstr_congr (fun i hi => by
    unfold nonceF
    rw [Nat.zero_add]
    show fourF 0 i = if i < 8 then (if i < 4 then 0 else _) else _
    rw [if_pos (by omega), if_pos hi]
    unfold fourF
    rw [Nat.zero_div])
  have e1 : kstr (fourF p) 0 4 = kstr (nonceF p v) 4 4 := kstr_congr (fun i hi => by
    rw [Nat.zero_add]
    show fourF p i = if 4 + i < 8 then numF 4 4 p (fun _ => 0) (4 + i) else _
    rw [if_pos (by omega), four_num])
  have e2 : kstr (fourF v) 0 4 = kstr (nonceF p v) 8 4 := kstr_congr (fun i hi => by
    rw [Nat.zero_add]
    exact (four_num 8 v _ i).symm)
  rw [e0, e1, e2, kstr_append, kstr_append]
theorem nonceF_lt (p v j : Nat) : nonceF p v j < 256 := by
  unfold nonceF numF
  split
  · split
    · exact (by decide : (0 : Nat) < 256)
    · exact Nat.mod_lt _ (by omega)
  · exact Nat.mod_lt _ (by omega)
theorem l02FourB_any (k : Nat) (hk : k < 4294967296) (w : World) :
    Calls Tryd.prog 33 #[.int .i64 (k : Int)] w fun e w' => e = .returned (.slice (some ⟨w.heap.size, 0, none⟩) 4 4) ∧ Own8 w' w.heap.size 4 (fourF k) ∧ Below w.heap.size w w' := by
  go_enter Tryd.func33, Tryd.ntmps33
  go_wp2
  go_ret
  refine ⟨rfl, Own8.ofRow (World.rowIs_alloc w #[.int .u8 ((k : Int) / 16777216), .int .u8 ((k : Int) / 65536 % 256), .int .u8 ((k : Int) / 256 % 256), .int .u8 ((k : Int) % 256)] 5 _ (fun i hi => ?_)), (Below.refl _ _).alloc (Nat.le_refl _) _⟩
  have hi' : i < 4 := by simpa using hi
  rcases (show i = 0 ∨ i = 1 ∨ i = 2 ∨ i = 3 by omega) with rfl | rfl | rfl | rfl
  · exact congrArg some (numEq8 (by show (k : Int) / 16777216 = ((k / 16777216 % 256 : Nat) : Int); omega))
  · exact congrArg some (numEq8 (by show (k : Int) / 65536 % 256 = ((k / 65536 % 256 : Nat) : Int); omega))
  · exact congrArg some (numEq8 (by show (k : Int) / 256 % 256 = ((k / 256 % 256 : Nat) : Int); omega))
  · exact congrArg some (numEq8 (by show (k : Int) % 256 = ((k / 1 % 256 : Nat) : Int); omega))
set_option maxRecDepth 100000 in
set_option maxHeartbeats 1000000 in
theorem l04Nonce_any (p v : Nat) (hp : p < 4294967296) (hv : v < 4294967296) (w : World) :
    Calls Tryd.prog 19 #[.int .i64 (p : Int), .int .i64 (v : Int)] w fun e w' => e = .returned (.string (kstr (nonceF p v) 0 12)) ∧ Below w.heap.size w w' := by
  have FO : Hid (∀ (k : Nat) (w : World), k < 4294967296 → Calls Tryd.prog 33 #[.int .i64 (k : Int)] w fun e w' => e = .returned (.slice (some ⟨w.heap.size, 0, none⟩) 4 4) ∧ Own8 w' w.heap.size 4 (fourF k) ∧ Below w.heap.size w w') := fun k w h => l02FourB_any k h w
  have F0 : Hid (∀ (w : World), Calls Tryd.prog 33 #[.int .i64 0] w fun e w' => e = .returned (.slice (some ⟨w.heap.size, 0, none⟩) 4 4) ∧ Own8 w' w.heap.size 4 (fourF 0) ∧ Below w.heap.size w w') := fun w => FO.out 0 w (by omega)
  rw [← nonce_text]
  have z0 : (kstr (fourF 0) 0 4).size = 4 := kstr_size _ _ _
  have z1 : (kstr (fourF p) 0 4).size = 4 := kstr_size _ _ _
  have z2 : (kstr (fourF v) 0 4).size = 4 := kstr_size _ _ _
  generalize hg0 : kstr (fourF 0) 0 4 = s0 at *
  generalize hg1 : kstr (fourF p) 0 4 = s1 at *
  generalize hg2 : kstr (fourF v) 0 4 = s2 at *
  go_enter Tryd.func19, Tryd.ntmps19
  go_upto_region 1 with fail
  refine wp_region_noPanic ?_
  refine wp_region_held_drew (S := fun _ => True) (by kernel_rfl) trivial (fun _ => ?_)
  refine wpAnyH_take (i := 2) (v := .int .i64 (p : Int)) rfl (by kernel_rfl) (by kernel_rfl) (by kernel_rfl) (fun _ _ _ h => h) (Or.inl ⟨by rfl, ?_⟩) trivial ?_
  · intro w hSw; go_simp
  change wpAnyH _ _ _ _ _ _ _ { tmps := #[_, _, _, _, _, _, _, _, _, _, _, _, _, _, _], defers := [] } _
  refine wpAnyH_take (i := 6) (v := .int .i64 (v : Int)) rfl (by kernel_rfl) (by kernel_rfl) (by kernel_rfl) (fun _ _ _ h => h) (Or.inl ⟨by rfl, ?_⟩) trivial ?_
  · intro w hSw; go_simp
  change wpAnyH _ _ _ _ _ _ _ { tmps := #[_, _, _, _, _, _, _, _, _, _, _, _, _, _, _], defers := [] } _
  refine wpAnyH_ready (rs := [0]) (by kernel_rfl) (by simp) ?_
  refine AllReadyH.cons rfl (fun KK hK => ?_) AllReadyH.nil
  go_simp
  refine (F0.out _).mono ?_
  rintro e w1 ⟨rfl, ho1, hb1⟩
  refine hK.out _ _ trivial (fun _ => ?_)
  clear hK KK
  change wpAnyH _ _ _ _ _ _ _ { tmps := #[_, _, _, _, _, _, _, _, _, _, _, _, _, _, _], defers := [] } _
  have HB1 : Hid (Below w.heap.size w w1) := (Below.refl _ w).drew.trans hb1
  change Own8 w1 w.heap.size 4 (fourF 0) at ho1
  change wpAnyH _ _ _ _ _ _ _ { tmps := #[_, _, _, _, _, .slice (some ⟨w.heap.size, 0, none⟩) 4 4, _, _, _, _, _, _, _, _, _], defers := [] } _
  clear hb1
  refine wpAnyH_strong (S' := fun w' => Own8 w' w.heap.size 4 (fourF 0)) (fun _ _ => trivial) _ _ _ _ ?_
  refine wpAnyH_take (i := 1) (v := .string s0) rfl (by kernel_rfl) (by kernel_rfl) (by kernel_rfl) (fun _ _ _ h => h) (Or.inl ⟨by rfl, ?_⟩) ho1 ?_
  · intro w' hSw
    have := kstr_of_code (c := 4) hSw.code
    rw [hg0] at this
    go_simp
  change wpAnyH _ _ _ _ _ _ _ { tmps := #[_, _, _, _, _, _, _, _, _, _, _, _, _, _, _], defers := [] } _
  refine wpAnyH_ready (rs := [3]) (by kernel_rfl) (by simp) ?_
  refine AllReadyH.cons rfl (fun KK hK => ?_) AllReadyH.nil
  go_simp
  refine (FO.out p _ hp).mono ?_
  rintro e w2 ⟨rfl, ho2, hb2⟩
  have hk2 : Own8 w2 w.heap.size 4 (fourF 0) := ho1.below hb2
  refine hK.out _ _ hk2 (fun _ => ?_)
  clear hK KK
  change wpAnyH _ _ _ _ _ _ _ { tmps := #[_, _, _, _, _, _, _, _, _, _, _, _, _, _, _], defers := [] } _
  have HB2 : Hid (Below w.heap.size w w2) := HB1.out.trans (hb2.mono HB1.out.size)
  clear hb2 HB1 ho1
  generalize w1.heap.size = b1 at *
  refine wpAnyH_strong (S' := fun w' => Own8 w' b1 4 (fourF p) ∧ Own8 w' w.heap.size 4 (fourF 0)) (fun _ h => h.2) _ _ _ _ ?_
  refine wpAnyH_take (i := 4) (v := .string s1) rfl (by kernel_rfl) (by kernel_rfl) (by kernel_rfl) (fun _ _ _ h => h) (Or.inl ⟨by rfl, ?_⟩) ⟨ho2, hk2⟩ ?_
  · intro w' hSw
    have := kstr_of_code (c := 4) hSw.1.code
    rw [hg1] at this
    go_simp
  change wpAnyH _ _ _ _ _ _ _ { tmps := #[_, _, _, _, _, _, _, _, _, _, _, _, _, _, _], defers := [] } _
  refine wpAnyH_take (i := 5) (v := .string (s0 ++ s1)) rfl (by kernel_rfl) (by kernel_rfl) (by kernel_rfl) (fun _ _ _ h => h) (Or.inl ⟨by rfl, ?_⟩) ⟨ho2, hk2⟩ ?_
  · intro w' hSw; go_simp
  change wpAnyH _ _ _ _ _ _ _ { tmps := #[_, _, _, _, _, _, _, _, _, _, _, _, _, _, _], defers := [] } _
  refine wpAnyH_ready (rs := [7]) (by kernel_rfl) (by simp) ?_
  refine AllReadyH.cons rfl (fun KK hK => ?_) AllReadyH.nil
  go_simp
  refine (FO.out v _ hv).mono ?_
  rintro e w3 ⟨rfl, ho3, hb3⟩
  refine hK.out _ _ ⟨ho2.below hb3, hk2.below hb3⟩ (fun _ => ?_)
  clear hK KK
  change wpAnyH _ _ _ _ _ _ _ { tmps := #[_, _, _, _, _, _, _, _, _, _, _, _, _, _, _], defers := [] } _
  have HB3 : Hid (Below w.heap.size w w3) := HB2.out.trans (hb3.mono HB2.out.size)
  have hS3 : Own8 w3 b1 4 (fourF p) ∧ Own8 w3 w.heap.size 4 (fourF 0) := ⟨ho2.below hb3, hk2.below hb3⟩
  clear hb3 HB2 ho2 hk2
  generalize w2.heap.size = b2 at *
  refine wpAnyH_strong (S' := fun w' => Own8 w' b2 4 (fourF v) ∧ Own8 w' b1 4 (fourF p) ∧ Own8 w' w.heap.size 4 (fourF 0)) (fun _ h => h.2) _ _ _ _ ?_
  refine wpAnyH_take (i := 8) (v := .string s2) rfl (by kernel_rfl) (by kernel_rfl) (by kernel_rfl) (fun _ _ _ h => h) (Or.inl ⟨by rfl, ?_⟩) ⟨ho3, hS3⟩ ?_
  · intro w' hSw
    have := kstr_of_code (c := 4) hSw.1.code
    rw [hg2] at this
    go_simp
  change wpAnyH _ _ _ _ _ _ _ { tmps := #[_, _, _, _, _, _, _, _, _, _, _, _, _, _, _], defers := [] } _
  refine wpAnyH_take (i := 9) (v := .string (s0 ++ s1 ++ s2)) rfl (by kernel_rfl) (by kernel_rfl) (by kernel_rfl) (fun _ _ _ h => h) (Or.inl ⟨by rfl, ?_⟩) ⟨ho3, hS3⟩ ?_
  · intro w' hSw; go_simp
  change wpAnyH _ _ _ _ _ _ _ { tmps := #[_, _, _, _, _, _, _, _, _, _, _, _, _, _, _], defers := [] } _
  refine wpAnyH_take (i := 10) (v := .string (s0 ++ s1 ++ s2)) rfl (by kernel_rfl) (by kernel_rfl) (by kernel_rfl) (fun _ _ _ h => h) (Or.inl ⟨by rfl, ?_⟩) ⟨ho3, hS3⟩ ?_
  · intro w' hSw; go_simp
  change wpAnyH _ _ _ _ _ _ _ { tmps := #[_, _, _, _, _, _, _, _, _, _, _, _, _, _, _], defers := [] } _
  clear hS3 ho3
  refine wpAnyH_done (by kernel_rfl) ?_ _
  refine NoPanic.normal ?_
  go_wp2
  go_ret
  exact ⟨rfl, HB3.out⟩
theorem isWord_any (x : Int) (r : Bool) (hr : r = decide (0 ≤ x ∧ x ≤ 4294967295)) (w : World) :
    Calls Tryd.prog 40 #[.int .i64 x] w fun e w' => e = .returned (.bool r) ∧ w = w' := by
  by_cases h1 : 0 ≤ x
  · by_cases h2 : x ≤ 4294967295
    · obtain rfl : r = true := by rw [hr]; simp; omega
      clear hr
      go_enter Tryd.func40, Tryd.ntmps40
      go_wp2
      go_ret
      exact ⟨rfl, rfl⟩
    · obtain rfl : r = false := by rw [hr]; simp; omega
      clear hr
      go_enter Tryd.func40, Tryd.ntmps40
      go_wp2
      go_ret
      exact ⟨rfl, rfl⟩
  · obtain rfl : r = false := by rw [hr]; simp; omega
    clear hr
    go_enter Tryd.func40, Tryd.ntmps40
    go_wp2
    go_ret
    exact ⟨rfl, rfl⟩
theorem implNonce_no (p v : Int) (h : ¬ (0 ≤ p ∧ p ≤ 4294967295 ∧ 0 ≤ v ∧ v ≤ 4294967295)) (w : World) :
    Calls Tryd.prog 27 #[.int .i64 p, .int .i64 v] w fun e w' => e = .returned (.tuple #[.string ⟨#[]⟩, .int .i64 4]) ∧ w = w' := by
  by_cases h1 : 0 ≤ p ∧ p ≤ 4294967295
  · have L1 : Hid (∀ w : World, Calls Tryd.prog 40 #[.int .i64 p] w fun e w' => e = .returned (.bool true) ∧ w = w') := fun w => isWord_any p true (by simp; omega) w
    have L2 : Hid (∀ w : World, Calls Tryd.prog 40 #[.int .i64 v] w fun e w' => e = .returned (.bool false) ∧ w = w') := fun w => isWord_any v false (by simp; omega) w
    clear h h1
    go_enter Tryd.func27, Tryd.ntmps27
    go_wp2_with fail
    refine (L1.out _).mono ?_
    rintro e w1 ⟨rfl, rfl⟩
    go_wp2_with fail
    refine (L2.out _).mono ?_
    rintro e w1 ⟨rfl, rfl⟩
    go_wp2
    go_ret2
    exact ⟨rfl, rfl⟩
  · have L1 : Hid (∀ w : World, Calls Tryd.prog 40 #[.int .i64 p] w fun e w' => e = .returned (.bool false) ∧ w = w') := fun w => isWord_any p false (by simp; omega) w
    clear h h1
    go_enter Tryd.func27, Tryd.ntmps27
    go_wp2_with fail
    refine (L1.out _).mono ?_
    rintro e w1 ⟨rfl, rfl⟩
    go_wp2
    go_ret2
    exact ⟨rfl, rfl⟩
theorem mkFour (w : World) : ∃ w', (Instr.makeSlice 30 (.int .i64 4) (.int .i64 12)).run Tryd.prog w = .ok (.slice (some ⟨w.heap.size, 0, none⟩) 4 12) w' ∧ RowM w' w.heap.size 4 12 (fun _ => 0) ∧ Below w.heap.size w w' := by
  obtain ⟨i0, h1, h2, h3, h4⟩ := info_parts Tryd.info8
  have hr := run_make (P := Tryd.prog) w 30 5 i0 (.int .u8 0) Tryd.underlying30 h1 h2 .i64 .i64 4 12 (by omega) (by omega) (by rw [h4]; omega) (by omega)
  rw [h3] at hr
  have hrow := World.rowIs_made w (.int .u8 0) 12 5
  exact ⟨_, hr, ⟨by omega, fun i hi => hrow.cell (by omega), fun i hi => ⟨by rw [show (w.alloc (.cells (madeCells (Value.cells (.int .u8 0)) ((12 : Int).toNat * 1)) 5)).cell? ⟨w.heap.size, i, none⟩ = some (.int .u8 0) from hrow.cell hi]; rfl, hrow.frozen i⟩, hrow.lt⟩, (Below.refl _ _).alloc (Nat.le_refl _) _⟩
set_option maxRecDepth 100000 in
theorem implNonce_yes (p v : Nat) (hp : p < 4294967296) (hv : v < 4294967296) (w : World) :
    Calls Tryd.prog 27 #[.int .i64 (p : Int), .int .i64 (v : Int)] w fun e w' => e = .returned (.tuple #[.string (kstr (nonceF p v) 0 12), .int .i64 0]) ∧ Below w.heap.size w w' := by
  have L1 : Hid (∀ w : World, Calls Tryd.prog 40 #[.int .i64 (p : Int)] w fun e w' => e = .returned (.bool true) ∧ w = w') := fun w => isWord_any p true (by simp; omega) w
  have L2 : Hid (∀ w : World, Calls Tryd.prog 40 #[.int .i64 (v : Int)] w fun e w' => e = .returned (.bool true) ∧ w = w') := fun w => isWord_any v true (by simp; omega) w
  have AN : Hid (∀ (g k c x : Nat) (f : Nat → Nat) (w1 : World), k ≤ 1000 → w.heap.size ≤ g → w.heap.size ≤ w1.heap.size → RowM w1 g k c f → Calls Tryd.prog 38 #[.slice (some ⟨g, 0, none⟩) k c, .int .i64 (x : Int), .int .i64 4] w1 fun e w' => RetM w.heap.size w' e (k + 4) (numF k 4 x f) ∧ Below w.heap.size w1 w') := fun g k c x f w1 hk h1 h2 h => appendNumberM_any w.heap.size g k c x 4 f (by omega) (by omega) w1 h1 h2 h
  obtain ⟨X, hX⟩ : ∃ X, X = kstr (nonceF p v) 0 12 := ⟨_, rfl⟩
  rw [← hX]
  have HX : Hid (X = kstr (nonceF p v) 0 12) := hX
  clear hX
  obtain ⟨w0, hmk, hr0, hb0⟩ := mkFour w
  have R0 : Hid (RowM w0 w.heap.size 4 12 (fun _ => 0)) := hr0
  have B0 : Hid (Below w.heap.size w w0) := hb0
  clear hp hv hr0 hb0
  go_enter Tryd.func27, Tryd.ntmps27
  go_wp2_with fail
  refine (L1.out _).mono ?_
  rintro e w1 ⟨rfl, rfl⟩
  go_wp2_with fail
  refine (L2.out _).mono ?_
  rintro e w1 ⟨rfl, rfl⟩
  go_wp2_with fail
  refine (AN.out w.heap.size 4 12 p _ w0 (by omega) (Nat.le_refl _) B0.out.size R0.out).mono ?_
  rintro e w1 ⟨⟨g1, c1, rfl, hg1, hr1⟩, hb1⟩
  have R1 : Hid (RowM w1 g1 (4 + 4) c1 (numF 4 4 p (fun _ => 0))) := hr1
  have B1 : Hid (Below w.heap.size w w1) := B0.out.trans hb1
  have G1 : Hid (w.heap.size ≤ g1) := hg1
  clear hr1 hb1 hg1 R0 B0 hmk
  go_wp2_with fail
  refine (AN.out g1 8 c1 v _ w1 (by omega) G1.out B1.out.size R1.out).mono ?_
  rintro e w2 ⟨⟨g2, c2, rfl, hg2, hr2⟩, hb2⟩
  have B2 : Hid (Below w.heap.size w w2) := B1.out.trans hb2
  have hcv := kstr_of_code (c := c2) hr2.code
  change (convert 30 9 (.slice (some ⟨g2, 0, none⟩) 12 c2)).run Tryd.prog w2 = .ok (.string (kstr (nonceF p v) 0 12)) w2 at hcv
  rw [← HX.out] at hcv
  clear hr2 hb2 hg2 R1 B1 G1 AN
  go_wp2
  go_ret2
  exact ⟨rfl, B2.out⟩
end Go.Proofs.YtonccbgolbcjfabDoor

/-
  The model's tag: l04Tag.
-/
namespace Go.Proofs.YtonccbgolbcjfabDoor
open Go.ChangeShapes Go.WideShapes Go.ChangeAt Go.RowKit
set_option maxRecDepth 100000 in
set_option maxHeartbeats 4000000 in
theorem l04Tag_any (k s : ByteArray) (xb xo m xc b o n c : Nat) (fx f : Nat → Nat) (hs : s.size = 12) (hm : m ≤ 65536) (hn : n ≤ 65536) (hfx : ∀ i, fx i < 256) (hf : ∀ i, f i < 256) (w : World) (hx : Code8 w (some ⟨xb, xo, none⟩) m fx) (hc : Code8 w (some ⟨b, o, none⟩) n f) :
    Calls Tryd.prog 32 #[.string (tagS k), .string s, .slice (some ⟨xb, xo, none⟩) m xc, .slice (some ⟨b, o, none⟩) n c] w fun e w' => e = .returned (.string (tagT k s m fx n f)) ∧ Below w.heap.size w w' := by
  have FO : Hid (∀ w : World, Calls Tryd.prog 33 #[.int .i64 (m : Int)] w fun e w' => e = .returned (.slice (some ⟨w.heap.size, 0, none⟩) 4 4) ∧ Own8 w' w.heap.size 4 (fourF m) ∧ Below w.heap.size w w') := fun w => l02FourB_any m (by omega) w
  have HM : Hid (∀ (b0 c0 b1 c1 : Nat) (w : World), Code8 w (some ⟨b0, 0, none⟩) 32 (strB (tagS k)) → Code8 w (some ⟨b1, 0, none⟩) (16 + m + n) (Sha.cat 16 (numF 12 4 m (strB s)) (Sha.cat m fx f)) → Calls Tryd.prog 42 #[.slice (some ⟨b0, 0, none⟩) 32 c0, .slice (some ⟨b1, 0, none⟩) (16 + m + n) c1] w fun e w' => e = .returned (.string (kstr (macT k s m fx n f) 0 32)) ∧ Below w.heap.size w w') := fun b0 c0 b1 c1 w h0 h1 => l03Hmac_any b0 0 32 c0 b1 0 (16 + m + n) c1 _ _ (strB_lt _) (Sha.cat_lt (numF_lt (strB_lt s)) (Sha.cat_lt hfx hf)) (by omega) (by omega) w h0 h1
  have hex : (kstr (macT k s m fx n f) 0 32).extract 0 16 = tagT k s m fx n f := by
    have := kstr_extract (kstr (macT k s m fx n f) 0 32) 0 16 (by rw [kstr_size]; omega)
    rw [Nat.zero_add] at this
    rw [this]
    exact kstr_congr (fun i hi => by rw [Nat.zero_add, strB_kstr _ 0 32 i (by rw [Nat.zero_add]; exact macT_lt _ _ _ _ _ _ _) (by omega), Nat.zero_add])
  have hms : (kstr (macT k s m fx n f) 0 32).size = 32 := kstr_size _ _ _
  have hks : (tagS k).size = 32 := tagS_size k
  generalize kstr (macT k s m fx n f) 0 32 = MS at *
  generalize tagT k s m fx n f = TT at *
  generalize tagS k = TK at *
  obtain ⟨w1, c1, hcv, hr1, hb1⟩ := bytesOfR s w
  rw [hs] at hcv hr1
  have R1 : Hid (RowM w1 w.heap.size 12 c1 (strB s)) := hr1
  have B1 : Hid (Below w.heap.size w w1) := hb1
  have HX : Hid (Code8 w (some ⟨xb, xo, none⟩) m fx) := hx
  have HC : Hid (Code8 w (some ⟨b, o, none⟩) n f) := hc
  clear hx hc hr1 hb1 hfx hf hs
  go_enter Tryd.func32, Tryd.ntmps32
  go_wp2_with fail
  refine (FO.out _).mono ?_
  rintro e w2 ⟨rfl, ho2, hb2⟩
  have B2 := B1.out.trans (hb2.mono B1.out.size)
  obtain ⟨g3, c3, w3, ha3, hr3, hb3, hg3⟩ := appendM w2 w.heap.size w.heap.size 12 c1 (strB s) w1.heap.size 0 4 4 (fourF m) (Nat.le_refl _) B2.size (by omega) (R1.out.below hb2) ho2.code 30
  have B3 := B2.trans hb3
  obtain ⟨g4, c4, w4, ha4, hr4, hb4, hg4⟩ := appendM w3 w.heap.size g3 (12 + 4) c3 _ xb xo m xc fx hg3 B3.size (by omega) hr3 (HX.out.below B3) 30
  have B4 := B3.trans hb4
  obtain ⟨g5, c5, w5, ha5, hr5, hb5, hg5⟩ := appendM w4 w.heap.size g4 (12 + 4 + m) c4 _ b o n c f hg4 B4.size (by omega) hr4 (HC.out.below B4) 30
  have B5 : Hid (Below w.heap.size w w5) := B4.trans hb5
  obtain ⟨w6, c6, hcv6, hk6, hb6, _⟩ := bytesOfM TK w5
  rw [hks] at hcv6 hk6
  have K6 : Hid (Code8 w6 (some ⟨w5.heap.size, 0, none⟩) 32 (strB TK)) := hk6
  have R6 : Hid (Code8 w6 (some ⟨g5, 0, none⟩) (16 + m + n) (Sha.cat 16 (numF 12 4 m (strB s)) (Sha.cat m fx f))) := (hr5.code.below hb6).congr (fun i hi => by
    unfold Sha.cat
    by_cases h0 : i < 12
    · rw [if_pos (by omega), if_pos (by omega), if_pos h0, if_pos (by omega)]
      unfold numF
      rw [if_pos h0]
    · by_cases h1 : i < 16
      · rw [if_pos (by omega), if_pos (by omega), if_neg h0, if_pos h1]
        have := four_num 12 m (strB s) (i - 12)
        rw [show 12 + (i - 12) = i from by omega] at this
        exact this.symm
      · rw [if_neg h1]
        by_cases h2 : i < 16 + m
        · rw [if_pos (by omega), if_neg (by omega), if_pos (by omega)]
        · rw [if_neg (show ¬ i < 12 + 4 + m by omega), if_neg h1, if_neg (show ¬ i - 16 < m by omega), show i - 16 - m = i - (12 + 4 + m) from by omega])
  have B6 : Hid (Below w.heap.size w w6) := B5.out.trans (hb6.mono B5.out.size)
  have A3 : Hid _ := ha3
  have A4 : Hid _ := ha4
  have A5 : Hid _ := ha5
  clear ho2 hb2 B2 hr3 hb3 hg3 B3 hr4 hb4 hg4 B4 hr5 hb5 hg5 hk6 hb6 ha3 ha4 ha5 HX HC B5 R1 B1 FO
  generalize w5.heap.size = b5 at *
  go_wp2_with (first
    | (at_builtin; refine Lib.wpList_append_run _ rfl (.tmp 11) (.tmp 14) _ _ rfl _ _ rfl rfl _ _ A3.out ?_)
    | (at_builtin; refine Lib.wpList_append_run _ rfl (.tmp 16) (.tmp 17) _ _ rfl _ _ rfl rfl _ _ A4.out ?_)
    | (at_builtin; refine Lib.wpList_append_run _ rfl (.tmp 18) (.tmp 19) _ _ rfl _ _ rfl rfl _ _ A5.out ?_))
  refine (HM.out _ c6 g5 c5 w6 K6.out R6.out).mono ?_
  rintro e w7 ⟨rfl, hb7⟩
  have B7 : Hid (Below w.heap.size w w7) := B6.out.trans (hb7.mono B6.out.size)
  clear hb7 B6 R6 K6 A3 A4 A5 HM
  go_wp2
  go_ret
  exact ⟨rfl, B7.out⟩
end Go.Proofs.YtonccbgolbcjfabDoor
