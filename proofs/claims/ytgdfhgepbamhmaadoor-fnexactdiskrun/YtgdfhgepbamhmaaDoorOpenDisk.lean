/-
  A disk among the arguments, opened; what the condition on the program's named errors gives the walks.
-/
import Derived.Test.YtgdfhgepbamhmaaDoorDiskDefs
import Derived.ProofKit
import Derived.LaidMore
import Derived.OpenShut
import Derived.ShutString
import Derived.ChangeOld
import Derived.Below
import Derived.Carry
import Derived.OpenVars
import Derived.Stop.Joined
import Derived.Stop.LaidTwo
import Derived.SevenTiedAt
import Derived.SliceStrings
import Derived.Deep.SlicePairs
import Derived.Deep.Strs
namespace Go.Proofs.YtgdfhgepbamhmaaDoor
open Go.ChangeShapes Go.WideShapes Go.ChangeAt Go.RowKit
/-- What is known of a disk that came in. -/
structure CameD (W : World) (k : Dk) (a0 a1 a2 : Option Addr) : Prop where
  v : DiskV W k a0 a1 a2
  l0 : k.nb ≤ maxLen
  l1 : k.nc ≤ maxLen
  l2 : k.ns ≤ maxLen
  m0 : ∀ i, i < k.nb → (k.B i).size ≤ maxLen
  m1 : ∀ i, i < k.nc → (k.D i).size ≤ maxLen
  m2 : ∀ i, i < k.ns → (k.S i).size ≤ maxLen
theorem cStr : Tryd.prog.cellsOf 9 = 1 := by kernel_rfl
theorem cInt : Tryd.prog.cellsOf 3 = 1 := by kernel_rfl
theorem strs_came {H : Type} {enc : TypeId × Value → H} {W : World} {fuel : Nat} {x : Value} {y : DataW H × List MemPlace} (h : DataW.trod enc Tryd.prog W 0 (fun _ => true) true fuel 24 [x] = some y) :
    ∃ (a : Option Addr) (n c : Nat) (f : Nat → ByteArray), x = .slice a n c ∧ Strs W a n f ∧ n ≤ maxLen ∧ ∀ i, i < n → (f i).size ≤ maxLen := by
  rcases open_strings Tryd.underlying24 Tryd.underlying9 cStr h with ⟨hcs, _⟩ | ⟨a, len, cap, ss, hcs, _, hl, hm, hz, _, hcell, hsz⟩
  · cases hcs
    exact ⟨none, 0, 0, fun _ => ⟨#[]⟩, rfl, fun i hi => absurd hi (by omega), Nat.zero_le _, fun i hi => absurd hi (by omega)⟩
  · cases hcs
    have hz' : ss.length = cap := by simpa using hz
    refine ⟨some a, len, cap, fun i => ss.getD i ByteArray.empty, rfl, fun i hi => ?_, Nat.le_trans hl hm, fun i hi => ?_⟩
    · obtain ⟨b, off, spot⟩ := a
      have h0 := hcell i (by omega)
      have hspot : spot = none := by simpa [Addr.add] using World.cell?_spot (hcell 0 (by omega))
      subst hspot
      exact ⟨b, off, rfl, by rw [← Go.WideShapes.add_plain]; exact h0⟩
    · have hi' : i < ss.length := by omega
      have : ss.getD i ByteArray.empty = ss[i] := by simp [List.getD_eq_getElem?_getD, hi']
      show (ss.getD i ByteArray.empty).size ≤ maxLen
      rw [this]
      exact hsz _ (List.getElem_mem hi')
theorem errRow (u : TypeId) (h : Tryd.prog.typeName? 3 u = some "*errors.errorString") : u = 97 :=
  typeName_ptr_named (nm := "errors.errorString") (by rw [show "*" ++ "errors.errorString" = "*errors.errorString" from by decide]; kernel_rfl) (by kernel_rfl) (by decide) u (by rw [show "*" ++ "errors.errorString" = "*errors.errorString" from by decide]; exact h)
def laidE2 : List (String × DataW Unit) := [("loop.example/g00257/impl.errNoBlock", Rows.laid_loop_example_g00257_impl_errNoBlock), ("loop.example/g00257/impl.errLongBlock", Rows.laid_loop_example_g00257_impl_errLongBlock)]
theorem doorE2 (os : Os) (args : Array Value) : laidMetH Tryd.prog laidE2 ((World.doorLaid Tryd.prog 400 os).forCall (fun _ _ => 0) ⟨#[], args, []⟩).memory :=
  laidMetH_of_parts3 (fuel := 8) (laidMet_of_run' 8 (by kernel_rfl) (by kernel_rfl)) (by kernel_rfl) (by kernel_rfl)
theorem errs2_of_laid {W : World} (h : laidMetH Tryd.prog laidE2 W) : ∃ p0 p1 : Addr, ErrAt W 0 p0 ∧ ErrAt W 1 p1 := by
  rw [MakeChecks.laidMetH_plain _ _ _ (by kernel_rfl)] at h
  have g0 : Tryd.prog.globalNamed "loop.example/g00257/impl.errNoBlock" = some 0 := by kernel_rfl
  have g1 : Tryd.prog.globalNamed "loop.example/g00257/impl.errLongBlock" = some 1 := by kernel_rfl
  obtain ⟨a0, a1, s0, s1, c0, c1, t0, t1, hv0, hv1, _⟩ := laid_sentinels2 h g0 (by kernel_rfl) g1 (by kernel_rfl) Tryd.underlying54 errRow Tryd.underlying97 Tryd.underlying123 rfl rfl Tryd.underlying9 (by kernel_rfl) (by kernel_rfl)
  exact ⟨a0, a1, by simpa [ErrAt] using World.var?_cell g0 hv0 0, by simpa [ErrAt] using World.var?_cell g1 hv1 0⟩
theorem vars2_named {H : Type} {enc : TypeId × Value → H} {w : World} {spare : Nat → Bool} {gs : List (DataW H)} {ps : List MemPlace} {n0 n1 : String} (h : DataW.TrodVars enc Tryd.prog w spare [n0, n1] gs ps) : ∃ d0 d1, gs = [d0, d1] := by
  match gs, h with
  | [d0, d1], _ => exact ⟨d0, d1, rfl⟩
theorem vars5_named {H : Type} {enc : TypeId × Value → H} {w : World} {spare : Nat → Bool} {gs : List (DataW H)} {ps : List MemPlace} {n0 n1 n2 n3 n4 : String} (h : DataW.TrodVars enc Tryd.prog w spare [n0, n1, n2, n3, n4] gs ps) : ∃ d0 d1 d2 d3 d4, gs = [d0, d1, d2, d3, d4] := by
  match gs, h with
  | [d0, d1, d2, d3, d4], _ => exact ⟨d0, d1, d2, d3, d4, rfl⟩
end Go.Proofs.YtgdfhgepbamhmaaDoor
