/-
  Acts in the laws: marked.
-/
import Derived.Test.YtkhglllicblbbaaDoorActTo
import Derived.Test.YtkhglllicblbbaaDoorMarkD
namespace Go.Proofs.YtkhglllicblbbaaDoor
open Go.ChangeShapes Go.WideShapes Go.ChangeAt Go.RowKit
set_option linter.unusedVariables false
set_option maxRecDepth 100000 in
set_option maxHeartbeats 1000000 in
theorem markBoolK (g n c k : Nat) (f : Nat → Bool) (hn : k + n ≤ 10000000) (w : World) (h : w.rowIs g 4 n (fun i => .bool (f i))) :
    Calls Tryd.prog 81 #[.slice (some ⟨g, 0, none⟩) n c, .int .i64 (k : Int)] w fun e w' => e = .returned (.int .i64 ((k + n : Nat) : Int)) ∧ Turned g n w w' := by
  have H : Hid (w.rowIs g 4 n (fun i => .bool (f i))) := h
  clear h
  go_enter Tryd.func81, Tryd.ntmps81
  go_wp2
  go_loopw [1, 5] (fun kv i wr => ∃ (q : Nat) (F : Nat → Value), q ≤ n ∧ i = .int .i64 q ∧ kv = .int .i64 ((k + q : Nat) : Int) ∧ wr.rowIs g 4 n F ∧ Turned g n w wr) (fun _ i _ => n - (intOf i).toNat)
  case atStart => exact ⟨0, _, by omega, rfl, rfl, H.out, OnlyB.refl _ _, fun _ => Below.refl _ _⟩
  case round =>
    obtain ⟨q, F, hq, rfl, rfl, hrow, ho⟩ := hrel
    by_cases hlt : q < n
    · have HRW : Hid (wr.rowIs g 4 n F) := hrow
      have HO : Hid (OnlyB g w wr) := ho.1
      have hlt' : (q : Int) < (n : Int) := by omega
      have g1 := hrow.cell hlt
      have f1 := hrow.frozen q
      clear hrow ho
      go_wp2
      go_roundw
      case rel =>
        exact ⟨q + 1, _, by omega, by go_num, by go_num, HRW.out.set q _, HO.out.setCell _ _, fun z => absurd z (by omega)⟩
      case measure => simp [intOf]; omega
    · obtain rfl : q = n := by omega
      have HO : Hid (Turned g q w wr) := ho
      clear hrow ho
      go_wp2
      go_ret
      exact ⟨rfl, HO.out⟩
end Go.Proofs.YtkhglllicblbbaaDoor
