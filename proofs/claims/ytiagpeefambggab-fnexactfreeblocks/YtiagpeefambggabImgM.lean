/-
  Images: how many pieces there are, which pieces are right; PieceCount.
-/
import Derived.Test.YtiagpeefambggabStrS
import Derived.Test.YtiagpeefambggabInAny
namespace Go.Proofs.Ytiagpeefambggab
open Go.ChangeShapes Go.WideShapes Go.ChangeAt Go.RowKit
set_option linter.unusedVariables false
open Classical in
noncomputable def gB (P : Prop) : Bool := decide P
theorem gB_yes {P : Prop} (h : P) : gB P = true := by unfold gB; simp [h]
theorem gB_no {P : Prop} (h : ¬ P) : gB P = false := by unfold gB; simp [h]
/-- How many pieces n bytes have. -/
def pcsN (n : Nat) : Nat := (n + 63) / 64
theorem pcsN_le {n : Nat} (h : n ≤ 1024) : pcsN n ≤ 16 := by unfold pcsN; omega
theorem pcsN_div (n : Nat) : ((n : Int) + 63).tdiv 64 = ((pcsN n : Nat) : Int) := by
  unfold pcsN
  have e : ((n : Int) + 63) = ((n + 63 : Nat) : Int) := by omega
  rw [e]
  exact (Int.ofNat_tdiv _ _).symm
/-- Texts are the pieces of an image. -/
def PcsOk (n : Nat) (F : Nat → ByteArray) : Prop := n ≤ 16 ∧ ∀ i, i < n → (1 ≤ (F i).size ∧ (F i).size ≤ 64) ∧ (i + 1 < n → (F i).size = 64)
set_option maxRecDepth 100000 in
theorem implPc_no (z : Int) (h : ¬ (0 ≤ z ∧ z ≤ 1024)) (w : World) :
    Calls Try.prog 24 #[.int .i64 z] w fun e w' => e = .returned (.tuple #[.int .i64 0, .int .i64 4]) ∧ w = w' := by
  by_cases h0 : z < 0
  · clear h
    go_enter Try.func24, Try.ntmps24
    go_wp2
    exact bodyPost_ret (results_tmp2 Try.results24 _ _ _) rfl ⟨rfl, rfl⟩
  · have h1 : 1024 < z := by omega
    clear h
    go_enter Try.func24, Try.ntmps24
    go_wp2
    exact bodyPost_ret (results_tmp2 Try.results24 _ _ _) rfl ⟨rfl, rfl⟩
set_option maxRecDepth 100000 in
theorem implPc_ok (n : Nat) (h : n ≤ 1024) (w : World) :
    Calls Try.prog 24 #[.int .i64 (n : Int)] w fun e w' => e = .returned (.tuple #[.int .i64 ((pcsN n : Nat) : Int), .int .i64 0]) ∧ w = w' := by
  have h0 : ¬ (n : Int) < 0 := by omega
  have h1 : ¬ (1024 : Int) < (n : Int) := by omega
  have h2 := pcsN_div n
  have h3 : ((n : Int) + 63) / 64 = ((pcsN n : Nat) : Int) := by unfold pcsN; omega
  have h4 : (n : Int) + 64 - 1 = (n : Int) + 63 := by omega
  go_enter Try.func24, Try.ntmps24
  go_wp2
  exact bodyPost_ret (results_tmp2 Try.results24 _ _ _) rfl ⟨rfl, rfl⟩
set_option maxRecDepth 100000 in
theorem l12Count_any (n : Nat) (h : n ≤ 70000) (w : World) :
    Calls Try.prog 22 #[.int .i64 (n : Int)] w fun e w' => e = .returned (.int .i64 ((pcsN n : Nat) : Int)) ∧ w = w' := by
  have h2 := pcsN_div n
  have h3 : ((n : Int) + 63) / 64 = ((pcsN n : Nat) : Int) := by unfold pcsN; omega
  have h4 : (n : Int) + 64 - 1 = (n : Int) + 63 := by omega
  go_enter Try.func22, Try.ntmps22
  go_wp2
  go_ret
  exact ⟨rfl, rfl⟩
end Go.Proofs.Ytiagpeefambggab
