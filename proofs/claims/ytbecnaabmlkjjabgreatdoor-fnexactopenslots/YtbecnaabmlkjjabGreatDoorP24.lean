/-
  Texts of the proof, joined: Nonce, SlotB, OpenB, OpenAt, SlotOk.
-/
import Derived.Test.YtbecnaabmlkjjabGreatDoorP23
import Derived.Test.YtbecnaabmlkjjabGreatDoorP12
import Derived.Test.YtbecnaabmlkjjabGreatDoorP13
import Derived.Deep.Cut
import Derived.Deep.CutRange
import Derived.Deep.DeepCutAuto
import Derived.BigRegion
import Derived.Test.YtbecnaabmlkjjabGreatDoorP05
import Derived.Test.YtbecnaabmlkjjabGreatDoorP06
import Derived.Test.YtbecnaabmlkjjabGreatDoorP01
import Derived.Laws.ResultCell
import Derived.Below
import Derived.ChangeOld
namespace Go.Proofs.YtbecnaabmlkjjabGreatDoor
open Go.ChangeShapes Go.WideShapes Go.ChangeAt Go.RowKit
def fourF (k j : Nat) : Nat := k / 256 ^ (3 - j) % 256
/-- The bytes of a nonce. -/
def nonceF (p v : Nat) : Nat → Nat := numF 8 4 v (numF 4 4 p (fun _ => 0))
theorem four_num (k x : Nat) (f : Nat → Nat) (i : Nat) : numF k 4 x f (k + i) = fourF x i := by
  unfold numF fourF
  rw [if_neg (by omega), show k + i - k = i from by omega, show (4 : Nat) - 1 - i = 3 - i from by omega, Nat.pow_mul]
theorem nonce_text (p v : Nat) : kstr (fourF 0) 0 4 ++ kstr (fourF p) 0 4 ++ kstr (fourF v) 0 4 = kstr (nonceF p v) 0 12 := by
  have e0 : kstr (fourF 0) 0 4 = kstr (nonceF p v) 0 4 := kstr_congr (fun i hi => by
    unfold nonceF
    rw [Nat.zero_add]
    show fourF 0 i = if i < 8 then (if i < 4 then 0 else _) else _
    rw [if_pos (by omega), if_pos hi]
    unfold fourF
    rw [Nat.zero_div])
  have e1 : kstr (fourF p) 0 4 = kstr (nonceF p v) 4 4 := kstr_congr (fun i hi => by
    rw [Nat.zero_add]
    show fourF p i = if 4 + i < 8 then numF 4 4 p (fun _ => 0) (4 + i) else _
    rw [if_pos (by omega), four_num])
  have e2 : kstr (fourF v) 0 4 = kstr (nonceF p v) 8 4 := kstr_congr (fun i hi => by
    rw [Nat.zero_add]
    exact (four_num 8 v _ i).symm)
  rw [e0, e1, e2, kstr_append, kstr_append]
theorem l02FourB_any (k : Nat) (hk : k < 4294967296) (w : World) :
    Calls Tryz.prog 76 #[.int .i64 (k : Int)] w fun e w' => e = .returned (.slice (some ⟨w.heap.size, 0, none⟩) 4 4) ∧ Own8 w' w.heap.size 4 (fourF k) ∧ Below w.heap.size w w' := by
  go_enter Tryz.func76, Tryz.ntmps76
  go_wp2
  go_ret
  refine ⟨rfl, Own8.ofRow (World.rowIs_alloc w #[.int .u8 ((k : Int) / 16777216), .int .u8 ((k : Int) / 65536 % 256), .int .u8 ((k : Int) / 256 % 256), .int .u8 ((k : Int) % 256)] 5 _ (fun i hi => ?_)), (Below.refl _ _).alloc (Nat.le_refl _) _⟩
  have hi' : i < 4 := by simpa using hi
  rcases (show i = 0 ∨ i = 1 ∨ i = 2 ∨ i = 3 by omega) with rfl | rfl | rfl | rfl
  · exact congrArg some (numEq8 (by show (k : Int) / 16777216 = ((k / 16777216 % 256 : Nat) : Int); omega))
  · exact congrArg some (numEq8 (by show (k : Int) / 65536 % 256 = ((k / 65536 % 256 : Nat) : Int); omega))
  · exact congrArg some (numEq8 (by show (k : Int) / 256 % 256 = ((k / 256 % 256 : Nat) : Int); omega))
  · exact congrArg some (numEq8 (by show (k : Int) % 256 = ((k / 1 % 256 : Nat) : Int); omega))
set_option maxRecDepth 100000 in
set_option maxHeartbeats 1000000 in
theorem l04Nonce_any (p v : Nat) (hp : p < 4294967296) (hv : v < 4294967296) (w : World) :
    Calls Tryz.prog 69 #[.int .i64 (p : Int), .int .i64 (v : Int)] w fun e w' => e = .returned (.string (kstr (nonceF p v) 0 12)) ∧ Below w.heap.size w w' := by
  have FO : Hid (∀ (k : Nat) (w : World), k < 4294967296 → Calls Tryz.prog 76 #[.int .i64 (k : Int)] w fun e w' => e = .returned (.slice (some ⟨w.heap.size, 0, none⟩) 4 4) ∧ Own8 w' w.heap.size 4 (fourF k) ∧ Below w.heap.size w w') := fun k w h => l02FourB_any k h w
  have F0 : Hid (∀ (w : World), Calls Tryz.prog 76 #[.int .i64 0] w fun e w' => e = .returned (.slice (some ⟨w.heap.size, 0, none⟩) 4 4) ∧ Own8 w' w.heap.size 4 (fourF 0) ∧ Below w.heap.size w w') := fun w => FO.out 0 w (by omega)
  rw [← nonce_text]
  have z0 : (kstr (fourF 0) 0 4).size = 4 := kstr_size _ _ _
  have z1 : (kstr (fourF p) 0 4).size = 4 := kstr_size _ _ _
  have z2 : (kstr (fourF v) 0 4).size = 4 := kstr_size _ _ _
  generalize hg0 : kstr (fourF 0) 0 4 = s0 at *
  generalize hg1 : kstr (fourF p) 0 4 = s1 at *
  generalize hg2 : kstr (fourF v) 0 4 = s2 at *
  go_enter Tryz.func69, Tryz.ntmps69
  go_upto_region 1 with fail
  refine wp_region_noPanic ?_
  refine wp_region_held_drew (S := fun _ => True) (by kernel_rfl) trivial (fun _ => ?_)
  refine wpAnyH_take (i := 2) (v := .int .i64 (p : Int)) rfl (by kernel_rfl) (by kernel_rfl) (by kernel_rfl) (fun _ _ _ h => h) (Or.inl ⟨by rfl, ?_⟩) trivial ?_
  · intro w hSw; go_simp
  change wpAnyH _ _ _ _ _ _ _ { tmps := #[_, _, _, _, _, _, _, _, _, _, _, _, _, _, _], defers := [] } _
  refine wpAnyH_take (i := 6) (v := .int .i64 (v : Int)) rfl (by kernel_rfl) (by kernel_rfl) (by kernel_rfl) (fun _ _ _ h => h) (Or.inl ⟨by rfl, ?_⟩) trivial ?_
  · intro w hSw; go_simp
  change wpAnyH _ _ _ _ _ _ _ { tmps := #[_, _, _, _, _, _, _, _, _, _, _, _, _, _, _], defers := [] } _
  refine wpAnyH_ready (rs := [0]) (by kernel_rfl) (by simp) ?_
  refine AllReadyH.cons rfl (fun KK hK => ?_) AllReadyH.nil
  go_simp
  refine (F0.out _).mono ?_
  rintro e w1 ⟨rfl, ho1, hb1⟩
  refine hK.out _ _ trivial (fun _ => ?_)
  clear hK KK
  change wpAnyH _ _ _ _ _ _ _ { tmps := #[_, _, _, _, _, _, _, _, _, _, _, _, _, _, _], defers := [] } _
  have HB1 : Hid (Below w.heap.size w w1) := (Below.refl _ w).drew.trans hb1
  change Own8 w1 w.heap.size 4 (fourF 0) at ho1
  change wpAnyH _ _ _ _ _ _ _ { tmps := #[_, _, _, _, _, .slice (some ⟨w.heap.size, 0, none⟩) 4 4, _, _, _, _, _, _, _, _, _], defers := [] } _
  clear hb1
  refine wpAnyH_strong (S' := fun w' => Own8 w' w.heap.size 4 (fourF 0)) (fun _ _ => trivial) _ _ _ _ ?_
  refine wpAnyH_take (i := 1) (v := .string s0) rfl (by kernel_rfl) (by kernel_rfl) (by kernel_rfl) (fun _ _ _ h => h) (Or.inl ⟨by rfl, ?_⟩) ho1 ?_
  · intro w' hSw
    have := kstr_of_code (c := 4) hSw.code
    rw [hg0] at this
    go_simp
  change wpAnyH _ _ _ _ _ _ _ { tmps := #[_, _, _, _, _, _, _, _, _, _, _, _, _, _, _], defers := [] } _
  refine wpAnyH_ready (rs := [3]) (by kernel_rfl) (by simp) ?_
  refine AllReadyH.cons rfl (fun KK hK => ?_) AllReadyH.nil
  go_simp
  refine (FO.out p _ hp).mono ?_
  rintro e w2 ⟨rfl, ho2, hb2⟩
  have hk2 : Own8 w2 w.heap.size 4 (fourF 0) := ho1.below hb2
  refine hK.out _ _ hk2 (fun _ => ?_)
  clear hK KK
  change wpAnyH _ _ _ _ _ _ _ { tmps := #[_, _, _, _, _, _, _, _, _, _, _, _, _, _, _], defers := [] } _
  have HB2 : Hid (Below w.heap.size w w2) := HB1.out.trans (hb2.mono HB1.out.size)
  clear hb2 HB1 ho1
  generalize w1.heap.size = b1 at *
  refine wpAnyH_strong (S' := fun w' => Own8 w' b1 4 (fourF p) ∧ Own8 w' w.heap.size 4 (fourF 0)) (fun _ h => h.2) _ _ _ _ ?_
  refine wpAnyH_take (i := 4) (v := .string s1) rfl (by kernel_rfl) (by kernel_rfl) (by kernel_rfl) (fun _ _ _ h => h) (Or.inl ⟨by rfl, ?_⟩) ⟨ho2, hk2⟩ ?_
  · intro w' hSw
    have := kstr_of_code (c := 4) hSw.1.code
    rw [hg1] at this
    go_simp
  change wpAnyH _ _ _ _ _ _ _ { tmps := #[_, _, _, _, _, _, _, _, _, _, _, _, _, _, _], defers := [] } _
  refine wpAnyH_take (i := 5) (v := .string (s0 ++ s1)) rfl (by kernel_rfl) (by kernel_rfl) (by kernel_rfl) (fun _ _ _ h => h) (Or.inl ⟨by rfl, ?_⟩) ⟨ho2, hk2⟩ ?_
  · intro w' hSw; go_simp
  change wpAnyH _ _ _ _ _ _ _ { tmps := #[_, _, _, _, _, _, _, _, _, _, _, _, _, _, _], defers := [] } _
  refine wpAnyH_ready (rs := [7]) (by kernel_rfl) (by simp) ?_
  refine AllReadyH.cons rfl (fun KK hK => ?_) AllReadyH.nil
  go_simp
  refine (FO.out v _ hv).mono ?_
  rintro e w3 ⟨rfl, ho3, hb3⟩
  refine hK.out _ _ ⟨ho2.below hb3, hk2.below hb3⟩ (fun _ => ?_)
  clear hK KK
  change wpAnyH _ _ _ _ _ _ _ { tmps := #[_, _, _, _, _, _, _, _, _, _, _, _, _, _, _], defers := [] } _
  have HB3 : Hid (Below w.heap.size w w3) := HB2.out.trans (hb3.mono HB2.out.size)
  have hS3 : Own8 w3 b1 4 (fourF p) ∧ Own8 w3 w.heap.size 4 (fourF 0) := ⟨ho2.below hb3, hk2.below hb3⟩
  clear hb3 HB2 ho2 hk2
  generalize w2.heap.size = b2 at *
  refine wpAnyH_strong (S' := fun w' => Own8 w' b2 4 (fourF v) ∧ Own8 w' b1 4 (fourF p) ∧ Own8 w' w.heap.size 4 (fourF 0)) (fun _ h => h.2) _ _ _ _ ?_
  refine wpAnyH_take (i := 8) (v := .string s2) rfl (by kernel_rfl) (by kernel_rfl) (by kernel_rfl) (fun _ _ _ h => h) (Or.inl ⟨by rfl, ?_⟩) ⟨ho3, hS3⟩ ?_
  · intro w' hSw
    have := kstr_of_code (c := 4) hSw.1.code
    rw [hg2] at this
    go_simp
  change wpAnyH _ _ _ _ _ _ _ { tmps := #[_, _, _, _, _, _, _, _, _, _, _, _, _, _, _], defers := [] } _
  refine wpAnyH_take (i := 9) (v := .string (s0 ++ s1 ++ s2)) rfl (by kernel_rfl) (by kernel_rfl) (by kernel_rfl) (fun _ _ _ h => h) (Or.inl ⟨by rfl, ?_⟩) ⟨ho3, hS3⟩ ?_
  · intro w' hSw; go_simp
  change wpAnyH _ _ _ _ _ _ _ { tmps := #[_, _, _, _, _, _, _, _, _, _, _, _, _, _, _], defers := [] } _
  refine wpAnyH_take (i := 10) (v := .string (s0 ++ s1 ++ s2)) rfl (by kernel_rfl) (by kernel_rfl) (by kernel_rfl) (fun _ _ _ h => h) (Or.inl ⟨by rfl, ?_⟩) ⟨ho3, hS3⟩ ?_
  · intro w' hSw; go_simp
  change wpAnyH _ _ _ _ _ _ _ { tmps := #[_, _, _, _, _, _, _, _, _, _, _, _, _, _, _], defers := [] } _
  clear hS3 ho3
  refine wpAnyH_done (by kernel_rfl) ?_ _
  refine NoPanic.normal ?_
  go_wp2
  go_ret
  exact ⟨rfl, HB3.out⟩
theorem isWord_any (x : Int) (r : Bool) (hr : r = decide (0 ≤ x ∧ x ≤ 4294967295)) (w : World) :
    Calls Tryz.prog 87 #[.int .i64 x] w fun e w' => e = .returned (.bool r) ∧ w = w' := by
  by_cases h1 : 0 ≤ x
  · by_cases h2 : x ≤ 4294967295
    · obtain rfl : r = true := by rw [hr]; simp; omega
      clear hr
      go_enter Tryz.func87, Tryz.ntmps87
      go_wp2
      go_ret
      exact ⟨rfl, rfl⟩
    · obtain rfl : r = false := by rw [hr]; simp; omega
      clear hr
      go_enter Tryz.func87, Tryz.ntmps87
      go_wp2
      go_ret
      exact ⟨rfl, rfl⟩
  · obtain rfl : r = false := by rw [hr]; simp; omega
    clear hr
    go_enter Tryz.func87, Tryz.ntmps87
    go_wp2
    go_ret
    exact ⟨rfl, rfl⟩
theorem mkFour (w : World) : ∃ w', (Instr.makeSlice 88 (.int .i64 4) (.int .i64 12)).run Tryz.prog w = .ok (.slice (some ⟨w.heap.size, 0, none⟩) 4 12) w' ∧ RowM w' w.heap.size 4 12 (fun _ => 0) ∧ Below w.heap.size w w' := by
  obtain ⟨i0, h1, h2, h3, h4⟩ := info_parts Tryz.info8
  have hr := run_make (P := Tryz.prog) w 88 5 i0 (.int .u8 0) Tryz.underlying88 h1 h2 .i64 .i64 4 12 (by omega) (by omega) (by rw [h4]; omega) (by omega)
  rw [h3] at hr
  have hrow := World.rowIs_made w (.int .u8 0) 12 5
  exact ⟨_, hr, ⟨by omega, fun i hi => hrow.cell (by omega), fun i hi => ⟨by rw [show (w.alloc (.cells (madeCells (Value.cells (.int .u8 0)) ((12 : Int).toNat * 1)) 5)).cell? ⟨w.heap.size, i, none⟩ = some (.int .u8 0) from hrow.cell hi]; rfl, hrow.frozen i⟩, hrow.lt⟩, (Below.refl _ _).alloc (Nat.le_refl _) _⟩
set_option maxRecDepth 100000 in
theorem implNonce_yes (p v : Nat) (hp : p < 4294967296) (hv : v < 4294967296) (w : World) :
    Calls Tryz.prog 74 #[.int .i64 (p : Int), .int .i64 (v : Int)] w fun e w' => e = .returned (.tuple #[.string (kstr (nonceF p v) 0 12), .int .i64 0]) ∧ Below w.heap.size w w' := by
  have L1 : Hid (∀ w : World, Calls Tryz.prog 87 #[.int .i64 (p : Int)] w fun e w' => e = .returned (.bool true) ∧ w = w') := fun w => isWord_any p true (by simp; omega) w
  have L2 : Hid (∀ w : World, Calls Tryz.prog 87 #[.int .i64 (v : Int)] w fun e w' => e = .returned (.bool true) ∧ w = w') := fun w => isWord_any v true (by simp; omega) w
  have AN : Hid (∀ (g k c x : Nat) (f : Nat → Nat) (w1 : World), k ≤ 1000 → w.heap.size ≤ g → w.heap.size ≤ w1.heap.size → RowM w1 g k c f → Calls Tryz.prog 79 #[.slice (some ⟨g, 0, none⟩) k c, .int .i64 (x : Int), .int .i64 4] w1 fun e w' => RetM w.heap.size w' e (k + 4) (numF k 4 x f) ∧ Below w.heap.size w1 w') := fun g k c x f w1 hk h1 h2 h => appendNumberM_any w.heap.size g k c x 4 f (by omega) (by omega) w1 h1 h2 h
  obtain ⟨X, hX⟩ : ∃ X, X = kstr (nonceF p v) 0 12 := ⟨_, rfl⟩
  rw [← hX]
  have HX : Hid (X = kstr (nonceF p v) 0 12) := hX
  clear hX
  obtain ⟨w0, hmk, hr0, hb0⟩ := mkFour w
  have R0 : Hid (RowM w0 w.heap.size 4 12 (fun _ => 0)) := hr0
  have B0 : Hid (Below w.heap.size w w0) := hb0
  clear hp hv hr0 hb0
  go_enter Tryz.func74, Tryz.ntmps74
  go_wp2_with fail
  refine (L1.out _).mono ?_
  rintro e w1 ⟨rfl, rfl⟩
  go_wp2_with fail
  refine (L2.out _).mono ?_
  rintro e w1 ⟨rfl, rfl⟩
  go_wp2_with fail
  refine (AN.out w.heap.size 4 12 p _ w0 (by omega) (Nat.le_refl _) B0.out.size R0.out).mono ?_
  rintro e w1 ⟨⟨g1, c1, rfl, hg1, hr1⟩, hb1⟩
  have R1 : Hid (RowM w1 g1 (4 + 4) c1 (numF 4 4 p (fun _ => 0))) := hr1
  have B1 : Hid (Below w.heap.size w w1) := B0.out.trans hb1
  have G1 : Hid (w.heap.size ≤ g1) := hg1
  clear hr1 hb1 hg1 R0 B0 hmk
  go_wp2_with fail
  refine (AN.out g1 8 c1 v _ w1 (by omega) G1.out B1.out.size R1.out).mono ?_
  rintro e w2 ⟨⟨g2, c2, rfl, hg2, hr2⟩, hb2⟩
  have B2 : Hid (Below w.heap.size w w2) := B1.out.trans hb2
  have hcv := kstr_of_code (c := c2) hr2.code
  change (convert 88 9 (.slice (some ⟨g2, 0, none⟩) 12 c2)).run Tryz.prog w2 = .ok (.string (kstr (nonceF p v) 0 12)) w2 at hcv
  rw [← HX.out] at hcv
  clear hr2 hb2 hg2 R1 B1 G1 AN
  go_wp2
  go_ret2
  exact ⟨rfl, B2.out⟩
end Go.Proofs.YtbecnaabmlkjjabGreatDoor
namespace Go.Proofs.YtbecnaabmlkjjabGreatDoor
open Go.ChangeShapes Go.WideShapes Go.ChangeAt Go.RowKit
set_option linter.unusedVariables false
/-- The bytes of "slot". -/
def slotX (i : Nat) : Nat := if i = 0 then 115 else if i = 1 then 108 else if i = 2 then 111 else 116
theorem slotX_lt (i : Nat) : slotX i < 256 := by unfold slotX; split; omega; split; omega; split; omega; omega
theorem slot_code (w : World) : Code8 (w.alloc (.cells #[.int .u8 115, .int .u8 108, .int .u8 111, .int .u8 116] 5 (4, 5))) (some ⟨w.heap.size, 0, none⟩) 4 slotX := code8_of (fun i hi => by
  rw [Nat.zero_add, World.cell?_alloc_mark]
  rcases (show i = 0 ∨ i = 1 ∨ i = 2 ∨ i = 3 by omega) with rfl | rfl | rfl | rfl <;> (simp [slotX]))
end Go.Proofs.YtbecnaabmlkjjabGreatDoor
namespace Go.Proofs.YtbecnaabmlkjjabGreatDoor
open Go.ChangeShapes Go.WideShapes Go.ChangeAt Go.RowKit
theorem implOpen_form (k s : ByteArray) (a b : Option Addr) (m x n c : Nat) (hn : n < 16) (hf : ∀ w : World, Calls Tryz.prog 88 #[.string k, .string s, .int .i64 (m : Int), .int .i64 (n : Int), .int .i64 65536] w fun e w' => e = .returned (.int .i64 0) ∧ w = w') (w : World) :
    Calls Tryz.prog 75 #[.string k, .string s, .slice a m x, .slice b n c] w fun e w' => e = .returned (.tuple #[.slice none 0 0, .int .i64 3]) ∧ w = w' := by
  have FA : Hid (∀ w : World, Calls Tryz.prog 88 #[.string k, .string s, .int .i64 (m : Int), .int .i64 (n : Int), .int .i64 65536] w fun e w' => e = .returned (.int .i64 0) ∧ w = w') := hf
  have e1 : (n : Int) < 16 := by omega
  clear hf hn
  go_enter_defers Tryz.func75, Tryz.ntmps75
  go_wp2_with fail
  refine (FA.out _).mono ?_
  rintro e w' ⟨rfl, rfl⟩
  go_wp2
  exact ⟨_, results_tmp2 rfl _ _ _, rfl, rfl⟩
/-- Whether the tag behind n bytes is right. -/
def okT (k s : ByteArray) (m : Nat) (fx : Nat → Nat) (n : Nat) (f : Nat → Nat) : Bool := (((difF (strB (tagT k s m fx n f)) (fun i => f (n + i)) 0 16 : Nat) : Int) == 0)
def RetOpen (w w' : World) (e : Ending) (n : Nat) (F : Nat → Nat) (r : Bool) : Prop := if r then RetB2 w w' e n F (.int .i64 0) else e = .returned (.tuple #[.slice none 0 0, .int .i64 10])
theorem RetOpen.no {w w' : World} {e : Ending} {n : Nat} {F : Nat → Nat} (h : e = .returned (.tuple #[.slice none 0 0, .int .i64 10])) : RetOpen w w' e n F false := by unfold RetOpen; rw [if_neg (by decide)]; exact h
theorem RetOpen.yes {w w' : World} {e : Ending} {n : Nat} {F : Nat → Nat} (h : RetB2 w w' e n F (.int .i64 0)) : RetOpen w w' e n F true := by unfold RetOpen; rw [if_pos rfl]; exact h
end Go.Proofs.YtbecnaabmlkjjabGreatDoor
namespace Go.Proofs.YtbecnaabmlkjjabGreatDoor
open Go.ChangeShapes Go.WideShapes Go.ChangeAt Go.RowKit
set_option maxRecDepth 100000 in
set_option maxHeartbeats 4000000 in
theorem implOpen_at (k s : ByteArray) (xb xo m xc b o n c : Nat) (fx f : Nat → Nat) (hk : k.size = 32) (hs : s.size = 12) (hm : m ≤ 65536) (hn : n + 16 ≤ 65536) (hcap : n + 16 ≤ c) (hfx : ∀ i, fx i < 256) (hf : ∀ i, f i < 256) (w : World) (hx : Code8 w (some ⟨xb, xo, none⟩) m fx) (hc : Code8 w (some ⟨b, o, none⟩) (n + 16) f) (ht : Tabs w) :
    Calls Tryz.prog 75 #[.string k, .string s, .slice (some ⟨xb, xo, none⟩) m xc, .slice (some ⟨b, o, none⟩) (n + 16) c] w fun e w' => RetOpen w w' e n (streamF k s f) (okT k s m fx n f) ∧ Below w.heap.size w w' := by
  obtain ⟨Z, z0, hZ, -⟩ := Tryz.zeroSl
  have FA : Hid (∀ w : World, Calls Tryz.prog 88 #[.string k, .string s, .int .i64 (m : Int), .int .i64 ((n + 16 : Nat) : Int), .int .i64 65536] w fun e w' => e = .returned (.int .i64 0) ∧ w = w') := sfault_ok k s m (n + 16) 65536 hk hs hm (by omega)
  have KO : Hid (∀ w : World, Tabs w → Calls Tryz.prog 89 #[.string k] w fun e w' => e = .returned (.agg (bA 64 (pairF k))) ∧ Below w.heap.size w w') := fun w ht => keysOf_any k hk w ht
  have ST : Hid (∀ (q : Nat) (w : World), SealAt w q (pairF k) s (.slice (some ⟨xb, xo, none⟩) m xc) → Code8 w (some ⟨b, o, none⟩) n f → Calls Tryz.prog 93 #[.pointer (some ⟨q, 0, none⟩), .slice (some ⟨b, o, none⟩) n c] w fun e w' => RetC w w' e n (streamF k s f) ∧ Below w.heap.size w w') := fun q w h hc => streamed_any k s _ q b o n c f hs (by omega) hf w h hc
  have TG : Hid (∀ (q : Nat) (w : World), SealAt w q (pairF k) s (.slice (some ⟨xb, xo, none⟩) m xc) → Code8 w (some ⟨xb, xo, none⟩) m fx → Code8 w (some ⟨b, o, none⟩) n f → Tabs w → Calls Tryz.prog 92 #[.pointer (some ⟨q, 0, none⟩), .slice (some ⟨b, o, none⟩) n c] w fun e w' => RetM w.heap.size w' e 16 (strB (tagT k s m fx n f)) ∧ Below w.heap.size w w') := fun q w h hx hc ht => tag_any k s q xb xo m xc b o n c fx f hs hm (by omega) hfx hf w h hx hc ht
  have EB : Hid (∀ (tg tc d : Nat) (w : World), Code8 w (some ⟨tg, 0, none⟩) 16 (strB (tagT k s m fx n f)) → Code8 w (some ⟨b, o + n, none⟩) 16 (fun i => f (n + i)) → Calls Tryz.prog 91 #[.slice (some ⟨tg, 0, none⟩) 16 tc, .slice (some ⟨b, o + n, none⟩) 16 d] w fun e w' => e = .returned (.tuple #[.bool (okT k s m fx n f), .int .i64 0]) ∧ Below w.heap.size w w') := fun tg tc d w h1 h2 => eqI_same _ _ 16 tc d _ _ (strB_lt _) (fun i => hf _) (by omega) w h1 h2
  have BU : Hid (Tryz.prog.built 128 [(0, .agg (bA 64 (pairF k))), (1, .string s), (2, .slice (some ⟨xb, xo, none⟩) m xc)] = some (slA (pairF k) s (.slice (some ⟨xb, xo, none⟩) m xc))) := built_sealer (pairF k) s (some ⟨xb, xo, none⟩) m xc
  have SS : Hid (∀ w : World, SealAt ((w.alloc (.cells Z 128)).setCells w.heap.size 0 (slA (pairF k) s (.slice (some ⟨xb, xo, none⟩) m xc)).toList) w.heap.size (pairF k) s (.slice (some ⟨xb, xo, none⟩) m xc)) := fun w => sealAt_stored w Z hZ _ _ _
  have SO : Hid ((slA (pairF k) s (.slice (some ⟨xb, xo, none⟩) m xc)).all (·.oneCell') = true) := slA_one _ _ _ _ _
  have SN : Hid ((slA (pairF k) s (.slice (some ⟨xb, xo, none⟩) m xc)).size = 66) := slA_size _ _ _
  have TH : Hid (∀ w : World, (w.alloc (.cells Z 128)).there w.heap.size 0 66) := fun w => there_big w Z _ hZ
  generalize slA (pairF k) s (.slice (some ⟨xb, xo, none⟩) m xc) = SA at *
  generalize bA 64 (pairF k) = AG at *
  generalize pairF k = G at *
  generalize okT k s m fx n f = OKB at *
  generalize tagT k s m fx n f = TT at *
  generalize streamF k s f = F at *
  have HX : Hid (Code8 w (some ⟨xb, xo, none⟩) m fx) := hx
  have HC : Hid (Code8 w (some ⟨b, o, none⟩) n f) := fun i hi => hc i (by omega)
  have HE : Hid (Code8 w (some ⟨b, o + n, none⟩) 16 (fun i => f (n + i))) := code8_of (fun i hi => by
    obtain ⟨b', o', e, hcc⟩ := hc (n + i) (by omega)
    cases e
    rw [← Nat.add_assoc] at hcc
    exact hcc)
  have HT : Hid (Tabs w) := ht
  have x1 : ¬ ((n + 16 : Nat) : Int) < 16 := by omega
  have x2 : ((n + 16 : Nat) : Int) - 16 = (n : Int) := by omega
  have x3 : (n : Int) ≤ (c : Int) := by omega
  have x4 : (n : Int) ≤ ((n + 16 : Nat) : Int) := by omega
  have x5 : n + 16 - n = 16 := by omega
  clear hx hc ht hfx hf hk hs hZ
  obtain ⟨L, hL⟩ : ∃ L, L = n + 16 := ⟨_, rfl⟩
  rw [← hL] at FA x1 x2 x4 x5 ⊢
  have x6 : (L : Int) ≤ (c : Int) := by omega
  have HL : Hid (L = n + 16) := hL
  clear hL
  go_enter_defers Tryz.func75, Tryz.ntmps75
  go_upto_region 6 with (go_at_call 88; refine (FA.out _).mono ?_; rintro e w' ⟨rfl, rfl⟩)
  refine wp_region_lit ?_
  refine wpList_plain rfl fun K1 hK1 => ?_
  go_simp
  refine hK1 _ _ ?_
  clear hK1 K1
  refine wpList_plain rfl fun K1 hK1 => ?_
  go_simp
  refine (KO.out _ HT.out).mono ?_
  rintro e w1 ⟨rfl, hb1⟩
  refine hK1 _ _ ?_
  clear hK1 K1
  refine wpList_plain rfl fun K1 hK1 => ?_
  go_simp
  refine hK1 _ _ ?_
  clear hK1 K1
  refine wpList_plain rfl fun K1 hK1 => ?_
  go_simp
  refine hK1 _ _ ?_
  clear hK1 K1
  refine wpList_buildS rfl 128 #[(0, .tmp 29), (1, .tmp 30), (2, .tmp 31)] rfl [(0, .agg AG), (1, .string s), (2, .slice (some ⟨xb, xo, none⟩) m xc)] (by simp only [List.map_toArray, List.map_cons, List.map_nil]; rfl) SA BU.out ?_
  refine wpList_plain rfl fun K1 hK1 => ?_
  go_simp
  refine hK1 _ _ ?_
  clear hK1 K1
  have B1 : Hid (Below w.heap.size w w1) := hb1
  have S2 : Hid (SealAt ((w1.alloc (.cells Z 128)).setCells w1.heap.size 0 SA.toList) w1.heap.size G s (.slice (some ⟨xb, xo, none⟩) m xc)) := SS.out w1
  have B2 : Hid (Below w.heap.size w ((w1.alloc (.cells Z 128)).setCells w1.heap.size 0 SA.toList)) := below_setCells B1.out.size _ _ _ (B1.out.alloc B1.out.size _)
  have hq : w.heap.size ≤ w1.heap.size := B1.out.size
  clear hb1 KO FA B1
  refine wpList_store_mid rfl 128 (.tmp 11) (.tmp 32) rfl w1.heap.size 0 SA rfl rfl (by rw [SN.out]; exact TH.out w1) (by rw [SN.out]; exact Tryz.sizeSl) SO.out ?_
  generalize (w1.alloc (.cells Z 128)).setCells w1.heap.size 0 SA.toList = w2 at *
  generalize w1.heap.size = q at *
  clear BU SS SO SN TH z0
  go_upto_region 9 with fail
  have H := S2.out.drew
  have B3 : Hid (Below w.heap.size w w2.drew) := B2.out.drew
  have xc0 : ¬ c - n = 0 := by have := HL.out; omega
  refine wp_region_noPanic ?_
  refine wp_region_held_drew (S := fun w' => SealAt w' q G s (.slice (some ⟨xb, xo, none⟩) m xc)) (by kernel_rfl) H (fun _ => ?_)
  clear S2 B2
  refine wpAnyH_take (i := 0) (v := .slice (some ⟨b, o, none⟩) L c) rfl (by kernel_rfl) (by kernel_rfl) (by kernel_rfl) (fun _ _ _ h => h) (Or.inl ⟨by rfl, ?_⟩) H ?_
  · intro w' hSw; go_simp
  change wpAnyH _ _ _ _ _ _ _ { tmps := #[_, _, _, _, _, _, _, _, _, _, _, _, _, _, _, _, _, _, _, _, _, _, _, _, _, _, _, _, _, _, _, _, _, _, _, _, _, _, _, _, _, _, _, _, _, _, _, _, _, _, _, _, _, _], defers := _ } _
  refine wpAnyH_take (i := 1) (v := .int .i64 (n : Int)) rfl (by kernel_rfl) (by kernel_rfl) (by kernel_rfl) (fun _ _ _ h => h) (Or.inl ⟨by rfl, ?_⟩) H ?_
  · intro w' hSw; go_simp
  change wpAnyH _ _ _ _ _ _ _ { tmps := #[_, _, _, _, _, _, _, _, _, _, _, _, _, _, _, _, _, _, _, _, _, _, _, _, _, _, _, _, _, _, _, _, _, _, _, _, _, _, _, _, _, _, _, _, _, _, _, _, _, _, _, _, _, _], defers := _ } _
  refine wpAnyH_take (i := 2) (v := .slice (some ⟨b, o, none⟩) n c) rfl (by kernel_rfl) (by kernel_rfl) (by kernel_rfl) (fun _ _ _ h => h) (Or.inl ⟨by rfl, ?_⟩) H ?_
  · intro w' hSw; go_simp
  change wpAnyH _ _ _ _ _ _ _ { tmps := #[_, _, _, _, _, _, _, _, _, _, _, _, _, _, _, _, _, _, _, _, _, _, _, _, _, _, _, _, _, _, _, _, _, _, _, _, _, _, _, _, _, _, _, _, _, _, _, _, _, _, _, _, _, _], defers := _ } _
  refine wpAnyH_take (i := 4) (v := .slice (some ⟨b, o, none⟩) L c) rfl (by kernel_rfl) (by kernel_rfl) (by kernel_rfl) (fun _ _ _ h => h) (Or.inl ⟨by rfl, ?_⟩) H ?_
  · intro w' hSw; go_simp
  change wpAnyH _ _ _ _ _ _ _ { tmps := #[_, _, _, _, _, _, _, _, _, _, _, _, _, _, _, _, _, _, _, _, _, _, _, _, _, _, _, _, _, _, _, _, _, _, _, _, _, _, _, _, _, _, _, _, _, _, _, _, _, _, _, _, _, _], defers := _ } _
  refine wpAnyH_take (i := 5) (v := .int .i64 (n : Int)) rfl (by kernel_rfl) (by kernel_rfl) (by kernel_rfl) (fun _ _ _ h => h) (Or.inl ⟨by rfl, ?_⟩) H ?_
  · intro w' hSw; go_simp
  change wpAnyH _ _ _ _ _ _ _ { tmps := #[_, _, _, _, _, _, _, _, _, _, _, _, _, _, _, _, _, _, _, _, _, _, _, _, _, _, _, _, _, _, _, _, _, _, _, _, _, _, _, _, _, _, _, _, _, _, _, _, _, _, _, _, _, _], defers := _ } _
  refine wpAnyH_take (i := 6) (v := .slice (some ⟨b, o + n, none⟩) 16 (c - n)) rfl (by kernel_rfl) (by kernel_rfl) (by kernel_rfl) (fun _ _ _ h => h) (Or.inl ⟨by rfl, ?_⟩) H ?_
  · intro w' hSw; go_simp; intro h; omega
  change wpAnyH _ _ _ _ _ _ _ { tmps := #[_, _, _, _, _, _, _, _, _, _, _, _, _, _, _, _, _, _, _, _, _, _, _, _, _, _, _, _, _, _, _, _, _, _, _, _, _, _, _, _, _, _, _, _, _, _, _, _, _, _, _, _, _, _], defers := _ } _
  refine wpAnyH_ready (rs := [3]) (by kernel_rfl) (by simp) ?_
  refine AllReadyH.cons rfl (fun KK hK => ?_) AllReadyH.nil
  go_simp
  refine (TG.out q w2.drew H (HX.out.below B3.out) (HC.out.below B3.out) (HT.out.below B3.out)).mono ?_
  rintro e w4 ⟨⟨tg, tc, rfl, htg, hr4⟩, hb4⟩
  have B4 : Hid (Below w.heap.size w w4) := B3.out.trans (hb4.mono B3.out.size)
  have R4 : Hid (Code8 w4 (some ⟨tg, 0, none⟩) 16 (strB TT)) := hr4.code
  replace H : SealAt w4 q G s (.slice (some ⟨xb, xo, none⟩) m xc) := H.below hb4
  clear hr4 hb4 htg B3 TG HX HT
  refine hK.out _ _ H (fun _ => ?_)
  clear hK KK
  change wpAnyH _ _ _ _ _ _ _ { tmps := #[_, _, _, _, _, _, _, _, _, _, _, _, _, _, _, _, _, _, _, _, _, _, _, _, _, _, _, _, _, _, _, _, _, _, _, _, _, _, _, _, _, _, _, _, _, _, _, _, _, _, _, _, _, _], defers := _ } _
  refine wpAnyH_ready (rs := [7]) (by kernel_rfl) (by simp) ?_
  refine AllReadyH.cons rfl (fun KK hK => ?_) AllReadyH.nil
  go_simp
  refine (EB.out tg tc (c - n) w4 R4.out (HE.out.below B4.out)).mono ?_
  rintro e w5 ⟨rfl, hb5⟩
  have B5 : Hid (Below w.heap.size w w5) := B4.out.trans (hb5.mono B4.out.size)
  replace H : SealAt w5 q G s (.slice (some ⟨xb, xo, none⟩) m xc) := H.below hb5
  clear hb5 B4 R4 EB HE
  refine hK.out _ _ H (fun _ => ?_)
  clear hK KK
  change wpAnyH _ _ _ _ _ _ _ { tmps := #[_, _, _, _, _, _, _, _, _, _, _, _, _, _, _, _, _, _, _, _, _, _, _, _, _, _, _, _, _, _, _, _, _, _, _, _, _, _, _, _, _, _, _, _, _, _, _, _, _, _, _, _, _, _], defers := _ } _
  refine wpAnyH_take (i := 8) (v := .tuple #[.bool OKB, .int .i64 0]) rfl (by kernel_rfl) (by kernel_rfl) (by kernel_rfl) (fun _ _ _ h => h) (Or.inl ⟨by rfl, ?_⟩) H ?_
  · intro w' hSw; go_simp
  change wpAnyH _ _ _ _ _ _ _ { tmps := #[_, _, _, _, _, _, _, _, _, _, _, _, _, _, _, _, _, _, _, _, _, _, _, _, _, _, _, _, _, _, _, _, _, _, _, _, _, _, _, _, _, _, _, _, _, _, _, _, _, _, _, _, _, _], defers := _ } _
  refine wpAnyH_take (i := 9) (v := .bool OKB) rfl (by kernel_rfl) (by kernel_rfl) (by kernel_rfl) (fun _ _ _ h => h) (Or.inl ⟨by rfl, ?_⟩) H ?_
  · intro w' hSw; go_simp
  change wpAnyH _ _ _ _ _ _ _ { tmps := #[_, _, _, _, _, _, _, _, _, _, _, _, _, _, _, _, _, _, _, _, _, _, _, _, _, _, _, _, _, _, _, _, _, _, _, _, _, _, _, _, _, _, _, _, _, _, _, _, _, _, _, _, _, _], defers := _ } _
  refine wpAnyH_take (i := 10) (v := .int .i64 0) rfl (by kernel_rfl) (by kernel_rfl) (by kernel_rfl) (fun _ _ _ h => h) (Or.inl ⟨by rfl, ?_⟩) H ?_
  · intro w' hSw; go_simp
  change wpAnyH _ _ _ _ _ _ _ { tmps := #[_, _, _, _, _, _, _, _, _, _, _, _, _, _, _, _, _, _, _, _, _, _, _, _, _, _, _, _, _, _, _, _, _, _, _, _, _, _, _, _, _, _, _, _, _, _, _, _, _, _, _, _, _, _], defers := _ } _
  refine wpAnyH_take (i := 11) (v := .bool OKB) rfl (by kernel_rfl) (by kernel_rfl) (by kernel_rfl) (fun _ _ _ h => h) (Or.inl ⟨by rfl, ?_⟩) H ?_
  · intro w' hSw; go_simp
  change wpAnyH _ _ _ _ _ _ _ { tmps := #[_, _, _, _, _, _, _, _, _, _, _, _, _, _, _, _, _, _, _, _, _, _, _, _, _, _, _, _, _, _, _, _, _, _, _, _, _, _, _, _, _, _, _, _, _, _, _, _, _, _, _, _, _, _], defers := _ } _
  refine wpAnyH_take (i := 12) (v := .int .i64 0) rfl (by kernel_rfl) (by kernel_rfl) (by kernel_rfl) (fun _ _ _ h => h) (Or.inl ⟨by rfl, ?_⟩) H ?_
  · intro w' hSw; go_simp
  change wpAnyH _ _ _ _ _ _ _ { tmps := #[_, _, _, _, _, _, _, _, _, _, _, _, _, _, _, _, _, _, _, _, _, _, _, _, _, _, _, _, _, _, _, _, _, _, _, _, _, _, _, _, _, _, _, _, _, _, _, _, _, _, _, _, _, _], defers := _ } _
  have H5 : Hid (SealAt w5 q G s (.slice (some ⟨xb, xo, none⟩) m xc)) := H
  have T5 : Hid (w5.there q 0 64) := H.there
  clear H
  refine wpAnyH_done (by kernel_rfl) ?_ _
  refine NoPanic.normal ?_
  cases OKB with
  | false =>
    go_wp2
    refine leaves_cons (f := 90) (args := #[.pointer (some ⟨q, 0, none⟩)]) (by simp) (by simp [go_sem]) ?_
    refine (forget_deferred q .returning _ T5.out).mono ?_
    rintro e u' w6 ⟨rfl, rfl, ho⟩
    exact ⟨_, results_tmp2 rfl _ _ _, RetOpen.no rfl, B5.out.trans (ho.toBelow hq B5.out.size)⟩
  | true =>
    go_wp2_with fail
    refine (ST.out q w5 H5.out (HC.out.below B5.out)).mono ?_
    rintro e w6 ⟨⟨g, cg, ⟨hg, hcg⟩, rfl, ho⟩, hb6⟩
    have S6 : SealAt w6 q G s (.slice (some ⟨xb, xo, none⟩) m xc) := H5.out.below hb6
    have B6 : Hid (Below w.heap.size w w6) := B5.out.trans (hb6.mono B5.out.size)
    have O6 : Hid (Own8 w6 g n F) := ho.own
    have hne : g ≠ q := by have := H5.out.lt; omega
    have hgw : w.heap.size ≤ g := Nat.le_trans B5.out.size hg
    have T6 : Hid (w6.there q 0 64) := S6.there
    clear ho hb6 S6 H5 T5 B5 HC ST hg
    go_wp2
    refine leaves_cons (f := 90) (args := #[.pointer (some ⟨q, 0, none⟩)]) (by simp) (by simp [go_sem]) ?_
    refine (forget_deferred q .returning _ T6.out).mono ?_
    rintro e u' w7 ⟨rfl, rfl, ho⟩
    exact ⟨_, results_tmp2 rfl _ _ _, RetOpen.yes ⟨g, cg, ⟨hgw, hcg⟩, rfl, O6.out.onlyB ho hne⟩, B6.out.trans (ho.toBelow hq B6.out.size)⟩
end Go.Proofs.YtbecnaabmlkjjabGreatDoor
namespace Go.Proofs.YtbecnaabmlkjjabGreatDoor
open Go.ChangeShapes Go.WideShapes Go.ChangeAt Go.RowKit
set_option linter.unusedVariables false
/-- A slot is right. -/
def SlotR (ep : Int) (s : ByteArray) : Prop := 1 ≤ ep ∧ ep ≤ 4294967295 ∧ s.size ≤ 170
theorem retCell1 {P : Program} {fn : Func} {p : Tmp} {ty : TypeId} {tmps : Array Value} {w : World} {b : Nat} {v : Value} {Post : Ending → World → Prop} (h : fn.results = #[.cell p ty]) (hp : tmps.getD p undef = .pointer (some ⟨b, 0, none⟩)) (hl : (loadVar ty ⟨b, 0, none⟩).run P w = .ok v w) (hq : Post (.returned v) w) : bodyPost P fn Post .ret { tmps := tmps, defers := [] } w :=
  bodyPost_ret (results_cell_one h tmps P w hp hl) rfl hq
theorem retCell2 {P : Program} {fn : Func} {p u : Tmp} {ty : TypeId} {tmps : Array Value} {w : World} {b : Nat} {v x : Value} {Post : Ending → World → Prop} (h : fn.results = #[.cell p ty, .tmp u]) (hp : tmps.getD p undef = .pointer (some ⟨b, 0, none⟩)) (hu : tmps.getD u undef = x) (hl : (loadVar ty ⟨b, 0, none⟩).run P w = .ok v w) (hq : Post (.returned (.tuple #[v, x])) w) : bodyPost P fn Post .ret { tmps := tmps, defers := [] } w := by
  refine bodyPost_ret (v := .tuple #[v, x]) ?_ rfl hq
  rw [results_cell_tmp h, hp, hu]
  simp [asAddr, hl, Result.andThen]
theorem slot0 (w : World) (ep : Int) (s : ByteArray) (t : TypeId) : (w.alloc (.cells #[.int .i64 ep, .string s] t)).cell? ⟨w.heap.size, 0, none⟩ = some (.int .i64 ep) := by simp
theorem slot1 (w : World) (ep : Int) (s : ByteArray) (t : TypeId) : (w.alloc (.cells #[.int .i64 ep, .string s] t)).cell? ⟨w.heap.size, 1, none⟩ = some (.string s) := by simp
set_option maxRecDepth 100000 in
theorem implSlotOK_any (ep : Int) (s : ByteArray) (r : Bool) (hr : r = true ↔ SlotR ep s) (w : World) :
    Calls Tryz.prog 32 #[.agg #[.int .i64 ep, .string s]] w fun e w' => e = .returned (.bool r) ∧ Below w.heap.size w w' := by
  have A1 : Hid (Below w.heap.size w (w.alloc (.cells #[.int .i64 ep, .string s] 28))) := (Below.refl _ _).alloc (Nat.le_refl _) _
  unfold SlotR at hr
  by_cases h1 : 1 ≤ ep
  · by_cases h2 : ep ≤ 4294967295
    · by_cases h3 : s.size ≤ 170
      · obtain rfl : r = true := hr.2 (by omega)
        have h3' : (s.size : Int) ≤ 170 := by omega
        clear hr h3
        go_enter Tryz.func32, Tryz.ntmps32
        go_wp2
        go_ret
        exact ⟨rfl, A1.out⟩
      · obtain rfl : r = false := Bool.eq_false_iff.2 (fun h => by have := hr.1 h; omega)
        have h3' : ¬ (s.size : Int) ≤ 170 := by omega
        clear hr h3
        go_enter Tryz.func32, Tryz.ntmps32
        go_wp2
        go_ret
        exact ⟨rfl, A1.out⟩
    · obtain rfl : r = false := Bool.eq_false_iff.2 (fun h => by have := hr.1 h; omega)
      clear hr
      go_enter Tryz.func32, Tryz.ntmps32
      go_wp2
      go_ret
      exact ⟨rfl, A1.out⟩
  · obtain rfl : r = false := Bool.eq_false_iff.2 (fun h => by have := hr.1 h; omega)
    clear hr
    go_enter Tryz.func32, Tryz.ntmps32
    go_wp2
    go_ret
    exact ⟨rfl, A1.out⟩
set_option maxRecDepth 100000 in
theorem specSlotOK_any (ep : Int) (s : ByteArray) (r : Bool) (hr : r = true ↔ SlotR ep s) (w : World) :
    Calls Tryz.prog 70 #[.agg #[.int .i64 ep, .string s]] w fun e w' => e = .returned (.bool r) ∧ Below w.heap.size w w' := by
  have A1 : Hid (Below w.heap.size w (w.alloc (.cells #[.int .i64 ep, .string s] 28))) := (Below.refl _ _).alloc (Nat.le_refl _) _
  unfold SlotR at hr
  obtain ⟨q, hq⟩ : ∃ q : Bool, q = decide (1 ≤ ep ∧ ep ≤ 4294967295) := ⟨_, rfl⟩
  have IN : Hid (∀ w : World, Calls Tryz.prog 66 #[.int .i64 ep, .int .i64 1, .int .i64 4294967295] w fun e w' => e = .returned (.bool q) ∧ w = w') := fun w => in_any ep 1 4294967295 q hq w
  cases q with
  | true =>
    have hq' := of_decide_eq_true hq.symm
    by_cases h3 : s.size ≤ 170
    · obtain rfl : r = true := hr.2 (by omega)
      have h3' : (s.size : Int) ≤ 170 := by omega
      have h4 : decide ((s.size : Int) ≤ 170) = true := decide_eq_true h3'
      clear hr h3 hq hq'
      go_enter Tryz.func70, Tryz.ntmps70
      go_wp2_with fail
      refine (IN.out _).mono ?_
      rintro e v1 ⟨rfl, rfl⟩
      go_wp2
      go_ret
      exact ⟨rfl, A1.out⟩
    · obtain rfl : r = false := Bool.eq_false_iff.2 (fun h => by have := hr.1 h; omega)
      have h3' : ¬ (s.size : Int) ≤ 170 := by omega
      have h4 : decide ((s.size : Int) ≤ 170) = false := decide_eq_false h3'
      clear hr h3 hq hq'
      go_enter Tryz.func70, Tryz.ntmps70
      go_wp2_with fail
      refine (IN.out _).mono ?_
      rintro e v1 ⟨rfl, rfl⟩
      go_wp2
      go_ret
      exact ⟨rfl, A1.out⟩
  | false =>
    have hq' := of_decide_eq_false hq.symm
    obtain rfl : r = false := Bool.eq_false_iff.2 (fun h => by have := hr.1 h; omega)
    clear hr hq hq'
    go_enter Tryz.func70, Tryz.ntmps70
    go_wp2_with fail
    refine (IN.out _).mono ?_
    rintro e v1 ⟨rfl, rfl⟩
    go_wp2
    go_ret
    exact ⟨rfl, A1.out⟩
end Go.Proofs.YtbecnaabmlkjjabGreatDoor
