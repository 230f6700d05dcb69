/-
  The model's numbers as bytes: l02Four, l08Two.
-/
import Derived.Test.YtmejmpdnmhnheabDoorBankBy
import Derived.Test.YtmejmpdnmhnheabDoorBankOkS
namespace Go.Proofs.YtmejmpdnmhnheabDoor
open Go.ChangeShapes Go.WideShapes Go.ChangeAt Go.RowKit
set_option linter.unusedVariables false
/-- The bytes L lie in block b from its head on. -/
def LitL (w : World) (b : Nat) (L : List Nat) : Prop := ∀ j (hj : j < L.length), w.cell? ⟨b, 0 + j, none⟩ = some (.int .u8 ((L[j] : Nat) : Int))
theorem numEqU {a b : Int} (h : a = b) : Value.int .u8 a = .int .u8 b := by rw [h]
theorem numL4 (x : Nat) : numL 4 x = [x / 16777216 % 256, x / 65536 % 256, x / 256 % 256, x % 256] := by
  unfold numL numP
  simp [List.range, List.range.loop]
theorem numL2 (x : Nat) : numL 2 x = [x / 256 % 256, x % 256] := by
  unfold numL numP
  simp [List.range, List.range.loop]
theorem litL_of {w : World} {b : Nat} {L : List Nat} {t : TypeId} {m : Nat} (F : Nat → Value) (h : w.rowIs b t m F) (hm : L.length ≤ m) (e : ∀ j (hj : j < L.length), F j = .int .u8 ((L[j] : Nat) : Int)) : LitL w b L := fun j hj => by
  rw [Nat.zero_add, World.rowIs.cell h (by omega), e j hj]
theorem l02FourL (k : Nat) (hk : k ≤ 1000000) (w : World) :
    Calls Tryd.prog 66 #[.int .i64 (k : Int)] w fun e w' => e = .returned (.slice (some ⟨w.heap.size, 0, none⟩) 4 4) ∧ LitL w' w.heap.size (numL 4 k) ∧ w.heap.size < w'.heap.size ∧ Below w.heap.size w w' := by
  go_enter Tryd.func66, Tryd.ntmps66
  go_wp2
  go_ret
  refine ⟨rfl, litL_of _ (World.rowIs_alloc w #[.int .u8 ((k : Int) / 16777216), .int .u8 ((k : Int) / 65536), .int .u8 ((k : Int) / 256 % 256), .int .u8 ((k : Int) % 256)] 5 (fun i => if i = 0 then .int .u8 ((k : Int) / 16777216) else if i = 1 then .int .u8 ((k : Int) / 65536) else if i = 2 then .int .u8 ((k : Int) / 256 % 256) else .int .u8 ((k : Int) % 256)) (fun i hi => ?_)) (by rw [numL_length]; exact Nat.le_refl _) (fun j hj => ?_), by simp, (Below.refl _ _).alloc (Nat.le_refl _) _⟩
  · have hi' : i < 4 := by simpa using hi
    rcases (show i = 0 ∨ i = 1 ∨ i = 2 ∨ i = 3 by omega) with rfl | rfl | rfl | rfl <;> rfl
  · rw [numL_length] at hj
    simp only [numL4]
    rcases (show j = 0 ∨ j = 1 ∨ j = 2 ∨ j = 3 by omega) with rfl | rfl | rfl | rfl
    · exact numEqU (by show (k : Int) / 16777216 = ((k / 16777216 % 256 : Nat) : Int); omega)
    · exact numEqU (by show (k : Int) / 65536 = ((k / 65536 % 256 : Nat) : Int); omega)
    · exact numEqU (by show (k : Int) / 256 % 256 = ((k / 256 % 256 : Nat) : Int); omega)
    · exact numEqU (by show (k : Int) % 256 = ((k % 256 : Nat) : Int); omega)
theorem l08TwoL (k : Nat) (hk : k ≤ 65535) (w : World) :
    Calls Tryd.prog 67 #[.int .i64 (k : Int)] w fun e w' => e = .returned (.slice (some ⟨w.heap.size, 0, none⟩) 2 2) ∧ LitL w' w.heap.size (numL 2 k) ∧ w.heap.size < w'.heap.size ∧ Below w.heap.size w w' := by
  go_enter Tryd.func67, Tryd.ntmps67
  go_wp2
  go_ret
  refine ⟨rfl, litL_of _ (World.rowIs_alloc w #[.int .u8 ((k : Int) / 256), .int .u8 ((k : Int) % 256)] 5 (fun i => if i = 0 then .int .u8 ((k : Int) / 256) else .int .u8 ((k : Int) % 256)) (fun i hi => ?_)) (by rw [numL_length]; exact Nat.le_refl _) (fun j hj => ?_), by simp, (Below.refl _ _).alloc (Nat.le_refl _) _⟩
  · have hi' : i < 2 := by simpa using hi
    rcases (show i = 0 ∨ i = 1 by omega) with rfl | rfl <;> rfl
  · rw [numL_length] at hj
    simp only [numL2]
    rcases (show j = 0 ∨ j = 1 by omega) with rfl | rfl
    · exact numEqU (by show (k : Int) / 256 = ((k / 256 % 256 : Nat) : Int); omega)
    · exact numEqU (by show (k : Int) % 256 = ((k % 256 : Nat) : Int); omega)
end Go.Proofs.YtmejmpdnmhnheabDoor
