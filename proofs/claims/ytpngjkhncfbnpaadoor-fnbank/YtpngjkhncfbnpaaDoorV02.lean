/-
  Texts of the proof, joined: Words20.
-/
import Derived.Test.YtpngjkhncfbnpaaDoorRows
import Derived.WalkKit
import Derived.ProofKit
import Derived.Below
import Derived.Deep.MidRow
import Derived.Deep.OwnRows
import Derived.Test.YtpngjkhncfbnpaaDoorV01
namespace Go.Proofs.YtpngjkhncfbnpaaDoor
open Go.ChangeShapes Go.WideShapes Go.ChangeAt Go.RowKit
def wordsL : List ByteArray := [⟨#[111, 107]⟩, ⟨#[98, 97, 100]⟩, ⟨#[108, 111, 110, 103]⟩, ⟨#[102, 111, 114, 109]⟩, ⟨#[114, 97, 110, 103, 101]⟩, ⟨#[110, 111, 110, 101]⟩, ⟨#[109, 97, 110, 121]⟩, ⟨#[102, 117, 108, 108]⟩, ⟨#[115, 117, 109]⟩, ⟨#[116, 119, 105, 99, 101]⟩, ⟨#[115, 101, 97, 108, 101, 100]⟩, ⟨#[115, 116, 97, 108, 101]⟩, ⟨#[99, 111, 114, 114, 117, 112, 116]⟩, ⟨#[97, 119, 97, 121]⟩, ⟨#[114, 101, 112, 108, 97, 121]⟩, ⟨#[111, 114, 100, 101, 114]⟩, ⟨#[112, 97, 116, 104]⟩, ⟨#[107, 105, 110, 100]⟩, ⟨#[113, 117, 111, 114, 117, 109]⟩, ⟨#[115, 112, 101, 110, 116]⟩]
def wd (c : Nat) : ByteArray := wordsL.getD c ⟨#[]⟩
def TabW (w : World) : Prop := ∀ i, i < 20 → w.cell? ⟨5, i, none⟩ = some (.string (wd i))
theorem TabW.below {w w' : World} (h : TabW w) (hb : Below w.heap.size w w') : TabW w' := fun i hi => by
  rw [hb.cell (strBlock (h i hi))]; exact h i hi
theorem wd_ne (c : Nat) (h : c < 20) : (wd c).size ≠ 0 := by
  rcases (show c = 0 ∨ c = 1 ∨ c = 2 ∨ c = 3 ∨ c = 4 ∨ c = 5 ∨ c = 6 ∨ c = 7 ∨ c = 8 ∨ c = 9 ∨ c = 10 ∨ c = 11 ∨ c = 12 ∨ c = 13 ∨ c = 14 ∨ c = 15 ∨ c = 16 ∨ c = 17 ∨ c = 18 ∨ c = 19 by omega) with rfl | rfl | rfl | rfl | rfl | rfl | rfl | rfl | rfl | rfl | rfl | rfl | rfl | rfl | rfl | rfl | rfl | rfl | rfl | rfl <;> decide
theorem word_in (c : Nat) (h : c < 20) (w : World) (ht : TabW w) :
    Calls Tryd.prog 94 #[.int .i64 c] w fun e w' => e = .returned (.string (wd c)) ∧ w = w' := by
  have c1 := ht c h
  have g : decide ((c : Int) < 0) = false := decide_eq_false (by omega)
  have g' : decide (20 ≤ (c : Int)) = false := decide_eq_false (by omega)
  clear ht
  go_enter Tryd.func94, Tryd.ntmps94
  go_wp2
  go_ret
  exact ⟨rfl, rfl⟩
theorem word_out (c : Int) (h : c < 0 ∨ 20 ≤ c) (w : World) :
    Calls Tryd.prog 94 #[.int .i64 c] w fun e w' => e = .returned (.string ⟨#[]⟩) ∧ w = w' := by
  rcases h with h | h
  · have g : decide (c < 0) = true := by simpa using h
    go_enter Tryd.func94, Tryd.ntmps94
    go_wp2
    go_ret
    exact ⟨rfl, rfl⟩
  · have g : decide (c < 0) = false := decide_eq_false (by omega)
    have g' : decide (20 ≤ c) = true := by simpa using h
    go_enter Tryd.func94, Tryd.ntmps94
    go_wp2
    go_ret
    exact ⟨rfl, rfl⟩
end Go.Proofs.YtpngjkhncfbnpaaDoor
