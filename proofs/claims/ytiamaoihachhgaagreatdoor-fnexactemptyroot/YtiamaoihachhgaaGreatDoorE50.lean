/-
  Texts of the proof, joined: LawEmptyRoot.
-/
import Derived.Test.YtiamaoihachhgaaGreatDoorE45
import Derived.Test.YtiamaoihachhgaaGreatDoorE49
import Derived.Test.YtiamaoihachhgaaGreatDoorE16
namespace Go.Proofs.YtiamaoihachhgaaGreatDoor
open Go.ChangeShapes Go.WideShapes Go.ChangeAt Go.RowKit
set_option linter.unusedVariables false
theorem FmA.spec {k : ByteArray} {x : Int} {d : Dk} {code : Int} (h : FmA k x d code) : (65536 < k.size ∧ code = 2) ∨ (¬ 65536 < k.size ∧ k.size ≠ 32 ∧ code = 1) ∨ (k.size = 32 ∧ ¬ (4 ≤ x ∧ x ≤ 64) ∧ code = 4) ∨ (k.size = 32 ∧ (4 ≤ x ∧ x ≤ 64) ∧ code = 0) := by
 rcases h with ⟨a, _, b⟩ | ⟨a, b, _, c⟩ | ⟨a, b, _, c⟩ | ⟨a, b, _, c⟩
 ·exact .inl ⟨a, b⟩
 ·exact .inr (.inl ⟨a, b, c⟩)
 ·exact .inr (.inr (.inl ⟨a, b, c⟩))
 ·exact .inr (.inr (.inr ⟨a, b, c⟩))
set_option maxRecDepth 100000 in
set_option maxHeartbeats 4000000 in
theorem law_emptyRoot (k : ByteArray) (x : Int) (p0 p1 : Addr) (w : World) (hT : Tabs w) (hE0 : ErrAt w 1 p0) (hE1 : ErrAt w 2 p1) :
  Calls Tryz.prog 3 #[.string k, .int .i64 x] w fun e w' => e = .returned (.bool true) ∧ Below w.heap.size w w' := by
 obtain ⟨d, code, hA⟩ := fmA_ex k x
 have SO : Hid (∀ w : World, Calls Tryz.prog 4 #[.string k, .int .i64 x] w fun e w' => e = .returned (.tuple #[.string (erAns k code), .int .i64 code]) ∧ Below w.heap.size w w') := fun w => specEr_any k x code hA.spec w
 have IY : Hid (∀ v : World, Below w.heap.size w v → Calls Tryz.prog 5 #[.string k, .int .i64 x] v fun e w' => e = .returned (.tuple #[.string (erAns k code), .int .i64 code]) ∧ Below v.heap.size v w') := fun v hb => implEr_any k x d code hA p0 p1 v (hE0.below hb) (hE1.below hb) (hT.below hb)
 have cc : (code != code) = false := by simp
 generalize erAns k code = R at *
 clear hA hT hE0 hE1
 by_cases hk : 1048576 < k.size
 ·have k0 : (1048576 : Int) < (k.size : Int) := by omega
  go_enter Tryz.func3, Tryz.ntmps3
  go_wp2
  go_ret
  exact ⟨rfl, Below.refl _ _⟩
 ·have k0 : ¬ (1048576 : Int) < (k.size : Int) := by omega
  go_enter Tryz.func3, Tryz.ntmps3
  go_wp2_with fail
  refine (SO.out _).mono ?_
  rintro e w1 ⟨rfl, hb⟩
  have B1 : Hid (Below w.heap.size w w1) := hb
  clear hb SO
  go_wp2_with fail
  refine (IY.out _ B1.out).mono ?_
  rintro e w2 ⟨rfl, hb⟩
  have B2 : Hid (Below w.heap.size w w2) := B1.out.trans (hb.mono B1.out.size)
  clear hb IY
  go_wp2
  go_ret
  exact ⟨rfl, B2.out⟩
end Go.Proofs.YtiamaoihachhgaaGreatDoor
