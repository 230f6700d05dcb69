/-
  Texts of the proof, joined: OpenDisk, HashTab, TabErr.
-/
import Derived.Test.YtiamaoihachhgaaGreatDoorE15
import Derived.ProofKit
import Derived.LaidMore
import Derived.OpenShut
import Derived.ShutString
import Derived.ChangeOld
import Derived.Below
import Derived.Carry
import Derived.OpenVars
import Derived.Stop.Joined
import Derived.Stop.LaidTwo
import Derived.SevenTiedAt
import Derived.SliceStrings
import Derived.Deep.SlicePairs
import Derived.Deep.Strs
import Derived.Test.YtiamaoihachhgaaGreatDoorE08
namespace Go.Proofs.YtiamaoihachhgaaGreatDoor
open Go.ChangeShapes Go.WideShapes Go.ChangeAt Go.RowKit
theorem errRow (u : TypeId) (h : Tryz.prog.typeName? 3 u = some "*errors.errorString") : u = 273 :=
 typeName_ptr_named (nm := "errors.errorString") (by rw [show "*" ++ "errors.errorString" = "*errors.errorString" from by decide]; kernel_rfl) (by kernel_rfl) (by decide) u (by rw [show "*" ++ "errors.errorString" = "*errors.errorString" from by decide]; exact h)
end Go.Proofs.YtiamaoihachhgaaGreatDoor
namespace Go.Proofs.YtiamaoihachhgaaGreatDoor
open Go.ChangeShapes Go.WideShapes Go.ChangeAt Go.RowKit
theorem gFirst : Tryz.prog.globalNamed "loop.example/g00257/impl.firstDigest" = some 0 := by kernel_rfl
theorem gRound : Tryz.prog.globalNamed "loop.example/g00257/impl.roundWords" = some 3 := by kernel_rfl
theorem tFirst : (Tryz.prog.globals[0]?).map (·.type) = some 182 := by kernel_rfl
theorem tRound : (Tryz.prog.globals[3]?).map (·.type) = some 220 := by kernel_rfl
theorem cW32 : Tryz.prog.cellsOf 180 = 1 := by kernel_rfl
theorem laid_first : (Rows.laid_loop_example_g00257_impl_firstDigest : DataW Unit) = .agg (Sha.hL.map fun n => .lit (.int .u32 (n : Nat))) := rfl
theorem laid_round : (Rows.laid_loop_example_g00257_impl_roundWords : DataW Unit) = .agg (Sha.kL.map fun n => .lit (.int .u32 (n : Nat))) := rfl
theorem words_of_trod {W : World} {n f : Nat} {t : TypeId} {L : List Nat} {cs : Array Value} {p : List MemPlace} (hu : Tryz.prog.underlying t = some (.array n 180))
  (hd : DataW.trod (fun _ => ()) Tryz.prog W 0 (fun _ => true) false f t cs.toList = some (.agg (L.map fun n => .lit (.int .u32 (n : Nat))), p)) (i : Nat) (hi : i < n) : cs.toList[i]? = some (.int .u32 ((L.getD i 0 : Nat) : Int)) := by
 obtain ⟨xs, m1, rfl, hx1, hlen, hn3, hel⟩ := DataW.trod_array hu hd
 have h0 := hel i hi
 simp only [Prod.mk.injEq, DataW.agg.injEq] at hx1
 obtain ⟨b, hb⟩ : ∃ b, xs[i]? = some b := ⟨xs[i]'(by omega), List.getElem?_eq_getElem (by omega)⟩
 rw [hb, cW32] at h0
 obtain ⟨s, hcs, rfl, _⟩ := DataW.trod_int Tryz.underlying180 h0
 have h2 : cs.toList[i]? = some (.int .u32 s) := by
  have := congrArg (·[0]?) hcs
  simpa [List.getElem?_take, List.getElem?_drop] using this
 have h3 : (xs.map (·.1))[i]? = some (DataW.lit (.int .u32 s)) := by simp [hb]
 rw [← hx1.1] at h3
 simp only [List.getElem?_map, Option.map_eq_some_iff, DataW.lit.injEq, Lit.int.injEq, true_and] at h3
 obtain ⟨s', hs', e⟩ := h3
 rw [h2, List.getD_eq_getElem?_getD, hs', Option.getD_some, e]
end Go.Proofs.YtiamaoihachhgaaGreatDoor
namespace Go.Proofs.YtiamaoihachhgaaGreatDoor
open Go.ChangeShapes Go.WideShapes Go.ChangeAt Go.RowKit
def laidET4 : List (String × DataW Unit) := [("loop.example/g00257/impl.firstDigest", Rows.laid_loop_example_g00257_impl_firstDigest), ("loop.example/g00257/impl.roundWords", Rows.laid_loop_example_g00257_impl_roundWords), ("loop.example/g00257/impl.errNoBlock", Rows.laid_loop_example_g00257_impl_errNoBlock), ("loop.example/g00257/impl.errLongBlock", Rows.laid_loop_example_g00257_impl_errLongBlock)]
theorem doorET4 (os : Os) (args : Array Value) : laidMetH Tryz.prog laidET4 ((World.doorLaid Tryz.prog 400 os).forCall (fun _ _ => 0) ⟨#[], args, []⟩).memory :=
 laidMetH_of_parts3 (fuel := 8) (laidMet_of_run' 8 (by kernel_rfl) (by kernel_rfl)) (by kernel_rfl) (by kernel_rfl)
set_option maxRecDepth 100000 in
theorem errsT4_of_laid {W : World} (h : laidMetH Tryz.prog laidET4 W) : Tabs W ∧ ∃ p0 p1 : Addr, ErrAt W 1 p0 ∧ ErrAt W 2 p1 := by
 rw [MakeChecks.laidMetH_plain _ _ _ (by kernel_rfl)] at h
 obtain ⟨ps, ⟨g0, t0, cs0, f0, p0, q0, hg0, ht0, hv0, hd0, ⟨g1, t1, cs1, f1, p1, q1, hg1, ht1, hv1, hd1, ⟨g2, t2, cs2, f2, p2, q2, hg2, ht2, hv2, hd2, ⟨g3, t3, cs3, f3, p3, q3, hg3, ht3, hv3, hd3, hq3, e3⟩, e2⟩, e1⟩, e0⟩, hnd, hrows⟩ := h
 obtain rfl := Option.some.inj (gFirst.symm.trans hg0)
 obtain rfl := Option.some.inj (tFirst.symm.trans ht0)
 obtain rfl := Option.some.inj (gRound.symm.trans hg1)
 obtain rfl := Option.some.inj (tRound.symm.trans ht1)
 obtain rfl := Option.some.inj ((show Tryz.prog.globalNamed "loop.example/g00257/impl.errNoBlock" = some 1 by kernel_rfl).symm.trans hg2)
 obtain rfl := Option.some.inj ((show (Tryz.prog.globals[1]?).map (·.type) = some 147 by kernel_rfl).symm.trans ht2)
 obtain rfl := Option.some.inj ((show Tryz.prog.globalNamed "loop.example/g00257/impl.errLongBlock" = some 2 by kernel_rfl).symm.trans hg3)
 obtain rfl := Option.some.inj ((show (Tryz.prog.globals[2]?).map (·.type) = some 147 by kernel_rfl).symm.trans ht3)
 refine ⟨?_, ?_⟩
 ·rw [laid_first] at hd0
  rw [laid_round] at hd1
  refine ⟨fun i hi => ?_, fun i hi => ?_⟩
  ·have := words_of_trod Tryz.underlying182 hd0 i hi
   rw [World.var?_cell hg0 hv0 i]
   simpa [Sha.h0] using this
  ·have := words_of_trod Tryz.underlying220 hd1 i hi
   rw [World.var?_cell hg1 hv1 i]
   simpa [Sha.kc] using this
 ·have hq3' : q3 = [] := hq3
  subst hq3'
  subst e3
  subst e2
  subst e1
  subst e0
  obtain ⟨l2⟩ := cs2
  obtain ⟨l3⟩ := cs3
  have ok2 : ∀ u v, l2 = [.iface u v] → Value.okWide Tryz.prog W .any 0 u v := fun u v e => by
   subst e
   exact (hrows 1 0 (by simp [MemPlace.row])).2 u v (by simpa using World.var?_cell hg2 hv2 0)
  have ok3 : ∀ u v, l3 = [.iface u v] → Value.okWide Tryz.prog W .any 0 u v := fun u v e => by
   subst e
   exact (hrows 2 0 (by simp [MemPlace.row])).2 u v (by simpa using World.var?_cell hg3 hv3 0)
  obtain ⟨a2, s2, rfl, hc2, hs2, hz2, rfl⟩ := errorString_of_trod Tryz.underlying147 errRow Tryz.underlying273 Tryz.underlying289 rfl rfl Tryz.underlying9 (by kernel_rfl) (by kernel_rfl) hd2 ok2
  obtain ⟨a3, s3, rfl, hc3, hs3, hz3, rfl⟩ := errorString_of_trod Tryz.underlying147 errRow Tryz.underlying273 Tryz.underlying289 rfl rfl Tryz.underlying9 (by kernel_rfl) (by kernel_rfl) hd3 ok3
  exact ⟨a2, a3, by simpa [ErrAt] using World.var?_cell hg2 hv2 0, by simpa [ErrAt] using World.var?_cell hg3 hv3 0⟩
theorem varsT4_named {H : Type} {enc : TypeId × Value → H} {w : World} {spare : Nat → Bool} {gs : List (DataW H)} {ps : List MemPlace} {n0 n1 n2 n3 : String} (h : DataW.TrodVars enc Tryz.prog w spare [n0, n1, n2, n3] gs ps) : ∃ d0 d1 d2 d3, gs = [d0, d1, d2, d3] := by
 match gs, h with
 | [d0, d1, d2, d3], _ => exact ⟨d0, d1, d2, d3, rfl⟩
end Go.Proofs.YtiamaoihachhgaaGreatDoor
