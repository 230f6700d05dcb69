/-
  Texts of the proof, joined: HashTab.
-/
import Derived.Test.YtkmakpbphdjbcaaGreatDoorQ11
import Derived.ProofKit
import Derived.LaidMore
import Derived.OpenShut
import Derived.ShutString
import Derived.ChangeOld
import Derived.Below
import Derived.Carry
import Derived.OpenVars
import Derived.Stop.Joined
import Derived.SevenTiedAt
namespace Go.Proofs.YtkmakpbphdjbcaaGreatDoor
open Go.ChangeShapes Go.WideShapes Go.ChangeAt Go.RowKit
theorem gFirst : Tryz.prog.globalNamed "loop.example/g00257/impl.firstDigest" = some 0 := by kernel_rfl
theorem gRound : Tryz.prog.globalNamed "loop.example/g00257/impl.roundWords" = some 1 := by kernel_rfl
theorem tFirst : (Tryz.prog.globals[0]?).map (·.type) = some 131 := by kernel_rfl
theorem tRound : (Tryz.prog.globals[1]?).map (·.type) = some 147 := by kernel_rfl
theorem cW32 : Tryz.prog.cellsOf 70 = 1 := by kernel_rfl
def laid2 : List (String × DataW Unit) := [("loop.example/g00257/impl.firstDigest", Rows.laid_loop_example_g00257_impl_firstDigest), ("loop.example/g00257/impl.roundWords", Rows.laid_loop_example_g00257_impl_roundWords)]
theorem door_met (os : Os) (args : Array Value) : laidMetH Tryz.prog laid2 ((World.doorLaid Tryz.prog 400 os).forCall (fun _ _ => 0) ⟨#[], args, []⟩).memory :=
  laidMetH_of_parts3 (fuel := 8) (laidMet_of_run' 8 (by kernel_rfl) (by kernel_rfl)) (by kernel_rfl) (by kernel_rfl)
theorem laid_first : (Rows.laid_loop_example_g00257_impl_firstDigest : DataW Unit) = .agg (Sha.hL.map fun n => .lit (.int .u32 (n : Nat))) := rfl
theorem laid_round : (Rows.laid_loop_example_g00257_impl_roundWords : DataW Unit) = .agg (Sha.kL.map fun n => .lit (.int .u32 (n : Nat))) := rfl
theorem words_of_trod {W : World} {n f : Nat} {t : TypeId} {L : List Nat} {cs : Array Value} {p : List MemPlace} (hu : Tryz.prog.underlying t = some (.array n 70))
    (hd : DataW.trod (fun _ => ()) Tryz.prog W 0 (fun _ => true) false f t cs.toList = some (.agg (L.map fun n => .lit (.int .u32 (n : Nat))), p)) (i : Nat) (hi : i < n) : cs.toList[i]? = some (.int .u32 ((L.getD i 0 : Nat) : Int)) := by
  obtain ⟨xs, m1, rfl, hx1, hlen, hn3, hel⟩ := DataW.trod_array hu hd
  have h0 := hel i hi
  simp only [Prod.mk.injEq, DataW.agg.injEq] at hx1
  obtain ⟨b, hb⟩ : ∃ b, xs[i]? = some b := ⟨xs[i]'(by omega), List.getElem?_eq_getElem (by omega)⟩
  rw [hb, cW32] at h0
  obtain ⟨s, hcs, rfl, _⟩ := DataW.trod_int Tryz.underlying70 h0
  have h2 : cs.toList[i]? = some (.int .u32 s) := by
    have := congrArg (·[0]?) hcs
    simpa [List.getElem?_take, List.getElem?_drop] using this
  have h3 : (xs.map (·.1))[i]? = some (DataW.lit (.int .u32 s)) := by simp [hb]
  rw [← hx1.1] at h3
  simp only [List.getElem?_map, Option.map_eq_some_iff, DataW.lit.injEq, Lit.int.injEq, true_and] at h3
  obtain ⟨s', hs', e⟩ := h3
  rw [h2, List.getD_eq_getElem?_getD, hs', Option.getD_some, e]
theorem tabs_of_laid {W : World} (h : laidMetH Tryz.prog laid2 W) : Tabs W := by
  rw [MakeChecks.laidMetH_plain _ _ _ (by kernel_rfl)] at h
  obtain ⟨ps, ⟨g0, t0, cs0, f0, p0, q0, hg0, ht0, hv0, hd0, ⟨g1, t1, cs1, f1, p1, q1, hg1, ht1, hv1, hd1, _, _⟩, _⟩, _, _⟩ := h
  obtain rfl := Option.some.inj (gFirst.symm.trans hg0)
  obtain rfl := Option.some.inj (tFirst.symm.trans ht0)
  obtain rfl := Option.some.inj (gRound.symm.trans hg1)
  obtain rfl := Option.some.inj (tRound.symm.trans ht1)
  rw [laid_first] at hd0
  rw [laid_round] at hd1
  refine ⟨fun i hi => ?_, fun i hi => ?_⟩
  · have := words_of_trod Tryz.underlying131 hd0 i hi
    rw [World.var?_cell hg0 hv0 i]
    simpa [Sha.h0] using this
  · have := words_of_trod Tryz.underlying147 hd1 i hi
    rw [World.var?_cell hg1 hv1 i]
    simpa [Sha.kc] using this
end Go.Proofs.YtkmakpbphdjbcaaGreatDoor
