/-
  Links in the laws: copied, sized, compared, marked and held.
-/
import Derived.Test.YtkhglllicblbbaaBoolB
import Derived.Test.YtkhglllicblbbaaBox4
import Derived.Test.YtkhglllicblbbaaRetCell
namespace Go.Proofs.Ytkhglllicblbbaa
open Go.ChangeShapes Go.WideShapes Go.ChangeAt Go.RowKit
set_option linter.unusedVariables false
set_option maxRecDepth 100000 in
set_option maxHeartbeats 2000000 in
theorem eqLink_yes (K : ByteArray) (se to : Int) (a b : Option Addr) (n c d : Nat) (f : Nat → Bool) (hn : n ≤ 1048576) (w : World) (h : Bools w a n f) (h' : Bools w b n f) :
    Calls Try.prog 6 #[.agg #[.string K, .int .i64 se, .int .i64 to, .slice a n c], .agg #[.string K, .int .i64 se, .int .i64 to, .slice b n d]] w fun e w' => e = .returned (.bool true) ∧ Below w.heap.size w w' := by
  obtain ⟨W2, hW2⟩ : ∃ W2, W2 = ((w.alloc (.cells #[.string K, .int .i64 se, .int .i64 to, .slice a n c] 24)).alloc (.cells #[.string K, .int .i64 se, .int .i64 to, .slice b n d] 24)) := ⟨_, rfl⟩
  have A1 : Below w.heap.size w W2 := by rw [hW2]; exact ((Below.refl w.heap.size w).alloc (Nat.le_refl _) _).alloc (by simp) _
  have CC : Hid (Calls Try.prog 11 #[.slice a n c, .slice b n d] W2 fun e w' => e = .returned (.bool true) ∧ ∃ q, w' = W2.drewN q) := eqBoolS_yes a b n c d f f W2 (h.below A1) (h'.below A1) (fun _ _ => rfl) hn
  have AA1 : Hid (Below w.heap.size w W2) := A1
  have HW : Hid (W2 = _) := hW2
  have k2 : (se == se) = true := by simp
  have k3 : (to == to) = true := by simp
  clear h h' A1 hW2
  go_enter Try.func6, Try.ntmps6
  go_wp2_with fail
  rw [← HW.out]
  clear HW
  refine (Calls.mono CC.out) ?_
  rintro e w1 ⟨rfl, q, rfl⟩
  clear CC
  go_wp2
  go_ret
  exact ⟨rfl, ⟨AA1.out.os, AA1.out.tape, AA1.out.output, AA1.out.size, AA1.out.block⟩⟩
end Go.Proofs.Ytkhglllicblbbaa
