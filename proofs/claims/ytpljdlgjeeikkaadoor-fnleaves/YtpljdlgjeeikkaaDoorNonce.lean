/-
  Nonces of a place and a version: SealNonce of the program and of the model, and its exact law.
-/
import Derived.Test.YtpljdlgjeeikkaaDoorInAny
import Derived.Test.YtpljdlgjeeikkaaDoorRowM
import Derived.Test.YtpljdlgjeeikkaaDoorAnyH
import Derived.Deep.Cut
import Derived.Deep.CutRange
import Derived.Deep.DeepCutAuto
import Derived.BigRegion
namespace Go.Proofs.YtpljdlgjeeikkaaDoor
open Go.ChangeShapes Go.WideShapes Go.ChangeAt Go.RowKit
def fourF (k j : Nat) : Nat := k / 256 ^ (3 - j) % 256
theorem fourF_lt (k j : Nat) : fourF k j < 256 := Nat.mod_lt _ (by omega)
/-- The bytes of a nonce. -/
def nonceF (p v : Nat) : Nat → Nat := numF 8 4 v (numF 4 4 p (fun _ => 0))
theorem four_num (k x : Nat) (f : Nat → Nat) (i : Nat) : numF k 4 x f (k + i) = fourF x i := by
  unfold numF fourF
  rw [if_neg (by omega), show k + i - k = i from by omega, show (4 : Nat) - 1 - i = 3 - i from by omega, Nat.pow_mul]
theorem nonce_text (p v : Nat) : kstr (fourF 0) 0 4 ++ kstr (fourF p) 0 4 ++ kstr (fourF v) 0 4 = kstr (nonceF p v) 0 12 := by
  have e0 : kstr (fourF 0) 0 4 = kstr (nonceF p v) 0 4 := kstr_congr (fun i hi => by
    unfold nonceF
    rw [Nat.zero_add]
    show fourF 0 i = if i < 8 then (if i < 4 then 0 else _) else _
    rw [if_pos (by omega), if_pos hi]
    unfold fourF
    rw [Nat.zero_div])
  have e1 : kstr (fourF p) 0 4 = kstr (nonceF p v) 4 4 := kstr_congr (fun i hi => by
    rw [Nat.zero_add]
    show fourF p i = if 4 + i < 8 then numF 4 4 p (fun _ => 0) (4 + i) else _
    rw [if_pos (by omega), four_num])
  have e2 : kstr (fourF v) 0 4 = kstr (nonceF p v) 8 4 := kstr_congr (fun i hi => by
    rw [Nat.zero_add]
    exact (four_num 8 v _ i).symm)
  rw [e0, e1, e2, kstr_append, kstr_append]
theorem nonceF_lt (p v j : Nat) : nonceF p v j < 256 := by
  unfold nonceF numF
  split
  · split
    · exact (by decide : (0 : Nat) < 256)
    · exact Nat.mod_lt _ (by omega)
  · exact Nat.mod_lt _ (by omega)
theorem l02FourB_any (k : Nat) (hk : k < 4294967296) (w : World) :
    Calls Tryd.prog 55 #[.int .i64 (k : Int)] w fun e w' => e = .returned (.slice (some ⟨w.heap.size, 0, none⟩) 4 4) ∧ Own8 w' w.heap.size 4 (fourF k) ∧ Below w.heap.size w w' := by
  go_enter Tryd.func55, Tryd.ntmps55
  go_wp2
  go_ret
  refine ⟨rfl, Own8.ofRow (World.rowIs_alloc w #[.int .u8 ((k : Int) / 16777216), .int .u8 ((k : Int) / 65536 % 256), .int .u8 ((k : Int) / 256 % 256), .int .u8 ((k : Int) % 256)] 5 _ (fun i hi => ?_)), (Below.refl _ _).alloc (Nat.le_refl _) _⟩
  have hi' : i < 4 := by simpa using hi
  rcases (show i = 0 ∨ i = 1 ∨ i = 2 ∨ i = 3 by omega) with rfl | rfl | rfl | rfl
  · exact congrArg some (numEq8 (by show (k : Int) / 16777216 = ((k / 16777216 % 256 : Nat) : Int); omega))
  · exact congrArg some (numEq8 (by show (k : Int) / 65536 % 256 = ((k / 65536 % 256 : Nat) : Int); omega))
  · exact congrArg some (numEq8 (by show (k : Int) / 256 % 256 = ((k / 256 % 256 : Nat) : Int); omega))
  · exact congrArg some (numEq8 (by show (k : Int) % 256 = ((k / 1 % 256 : Nat) : Int); omega))
end Go.Proofs.YtpljdlgjeeikkaaDoor
