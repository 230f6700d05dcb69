/-
  Texts of the proof, joined: WordTab.
-/
import Derived.Test.YtpngjkhncfbnpaaDoorU02
import Derived.Test.YtpngjkhncfbnpaaDoorTie
import Derived.ProofKit
import Derived.LaidMore
import Derived.OpenShut
import Derived.ShutString
import Derived.ChangeOld
import Derived.Carry
import Derived.OpenVars
import Derived.Stop.Joined
import Derived.SevenTiedAt
namespace Go.Proofs.YtpngjkhncfbnpaaDoor
open Go.ChangeShapes Go.WideShapes Go.ChangeAt Go.RowKit
theorem gWords : Tryd.prog.globalNamed "loop.example/g00257/impl.codeWords" = some 5 := by kernel_rfl
theorem tWords : (Tryd.prog.globals[5]?).map (·.type) = some 158 := by kernel_rfl
theorem cStrW : Tryd.prog.cellsOf 9 = 1 := by kernel_rfl
def laidW : List (String × DataW Unit) := [("loop.example/g00257/impl.codeWords", Rows.laid_loop_example_g00257_impl_codeWords)]
theorem door_metW (os : Os) (args : Array Value) : laidMetH Tryd.prog laidW ((World.doorLaid Tryd.prog 400 os).forCall (fun _ _ => 0) ⟨#[], args, []⟩).memory :=
  laidMetH_of_parts3 (fuel := 8) (laidMet_of_run' 8 (by kernel_rfl) (by kernel_rfl)) (by kernel_rfl) (by kernel_rfl)
theorem laid_words : (Rows.laid_loop_example_g00257_impl_codeWords : DataW Unit) = .agg (wordsL.map fun s => .lit (.string s.data.toList)) := rfl
theorem tabW_of_laid {W : World} (h : laidMetH Tryd.prog laidW W) : TabW W := by
  rw [MakeChecks.laidMetH_plain _ _ _ (by kernel_rfl)] at h
  obtain ⟨ps, ⟨g0, t0, cs0, f0, p0, q0, hg0, ht0, hv0, hd0, _, _⟩, _, _⟩ := h
  obtain rfl := Option.some.inj (gWords.symm.trans hg0)
  obtain rfl := Option.some.inj (tWords.symm.trans ht0)
  rw [laid_words] at hd0
  intro i hi
  obtain ⟨xs, m1, rfl, hx1, hlen, hn3, hel⟩ := DataW.trod_array Tryd.underlying158 hd0
  have h0 := hel i hi
  simp only [Prod.mk.injEq, DataW.agg.injEq] at hx1
  obtain ⟨b, hb⟩ : ∃ b, xs[i]? = some b := ⟨xs[i]'(by omega), List.getElem?_eq_getElem (by omega)⟩
  rw [hb, cStrW] at h0
  obtain ⟨s, hcs, rfl, _⟩ := DataW.trod_string Tryd.underlying9 h0
  have h2 : cs0.toList[i]? = some (.string s) := by
    have := congrArg (·[0]?) hcs
    simpa [List.getElem?_take, List.getElem?_drop] using this
  have h3 : (xs.map (·.1))[i]? = some (DataW.lit (.string s.data.toList)) := by simp [hb]
  rw [← hx1.1] at h3
  simp only [List.getElem?_map, Option.map_eq_some_iff, DataW.lit.injEq, Lit.string.injEq] at h3
  obtain ⟨s', hs', e⟩ := h3
  have hss : s' = s := bytes_inj e
  subst hss
  have hw : wd i = s' := by simp [wd, hs']
  rw [World.var?_cell hg0 hv0 i, hw]
  simpa using h2
end Go.Proofs.YtpngjkhncfbnpaaDoor
