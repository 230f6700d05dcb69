/-
  Lists of texts among the arguments, opened (written by tools/mkroot.py out of OpenDisk).
-/
import Derived.Test.YtonccbgolbcjfaaStrS
import Derived.SliceStrings
import Derived.Deep.SlicePairs
import Derived.Deep.Strs
import Derived.ProofKit
import Derived.OpenShut
import Derived.ShutString
namespace Go.Proofs.Ytonccbgolbcjfaa
open Go.ChangeShapes Go.WideShapes Go.ChangeAt Go.RowKit
theorem cStrT : Try.prog.cellsOf 9 = 1 := by kernel_rfl
theorem st_came {H : Type} {enc : TypeId × Value → H} {W : World} {fuel : Nat} {x : Value} {y : DataW H × List MemPlace} (h : DataW.trod enc Try.prog W 0 (fun _ => true) true fuel 24 [x] = some y) :
    ∃ (a : Option Addr) (n c : Nat) (f : Nat → ByteArray), x = .slice a n c ∧ Strs W a n f ∧ n ≤ maxLen ∧ ∀ i, i < n → (f i).size ≤ maxLen := by
  rcases open_strings Try.underlying24 Try.underlying9 cStrT h with ⟨hcs, _⟩ | ⟨a, len, cap, ss, hcs, _, hl, hm, hz, _, hcell, hsz⟩
  · cases hcs
    exact ⟨none, 0, 0, fun _ => ⟨#[]⟩, rfl, fun i hi => absurd hi (by omega), Nat.zero_le _, fun i hi => absurd hi (by omega)⟩
  · cases hcs
    have hz' : ss.length = cap := by simpa using hz
    refine ⟨some a, len, cap, fun i => ss.getD i ByteArray.empty, rfl, fun i hi => ?_, Nat.le_trans hl hm, fun i hi => ?_⟩
    · obtain ⟨b, off, spot⟩ := a
      have h0 := hcell i (by omega)
      have hspot : spot = none := by simpa [Addr.add] using World.cell?_spot (hcell 0 (by omega))
      subst hspot
      exact ⟨b, off, rfl, by rw [← Go.WideShapes.add_plain]; exact h0⟩
    · have hi' : i < ss.length := by omega
      have : ss.getD i ByteArray.empty = ss[i] := by simp [List.getD_eq_getElem?_getD, hi']
      show (ss.getD i ByteArray.empty).size ≤ maxLen
      rw [this]
      exact hsz _ (List.getElem_mem hi')
end Go.Proofs.Ytonccbgolbcjfaa
