/-
  Acts in the laws: marked.
-/
import Derived.Test.YtbecnaabmlkjjaaDoorActTo
import Derived.Test.YtbecnaabmlkjjaaDoorMarkD
namespace Go.Proofs.YtbecnaabmlkjjaaDoor
open Go.ChangeShapes Go.WideShapes Go.ChangeAt Go.RowKit
set_option linter.unusedVariables false
set_option maxRecDepth 100000 in
set_option maxHeartbeats 1000000 in
theorem markBoolK (g n c k : Nat) (f : Nat → Bool) (hn : k + n ≤ 10000000) (w : World) (h : w.rowIs g 4 n (fun i => .bool (f i))) :
    Calls Tryd.prog 62 #[.slice (some ⟨g, 0, none⟩) n c, .int .i64 (k : Int)] w fun e w' => e = .returned (.int .i64 ((k + n : Nat) : Int)) ∧ Turned g n w w' := by
  have H : Hid (w.rowIs g 4 n (fun i => .bool (f i))) := h
  clear h
  go_enter Tryd.func62, Tryd.ntmps62
  go_wp2
  go_loopw [1, 5] (fun kv i wr => ∃ (q : Nat) (F : Nat → Value), q ≤ n ∧ i = .int .i64 q ∧ kv = .int .i64 ((k + q : Nat) : Int) ∧ wr.rowIs g 4 n F ∧ Turned g n w wr) (fun _ i _ => n - (intOf i).toNat)
  case atStart => exact ⟨0, _, by omega, rfl, rfl, H.out, OnlyB.refl _ _, fun _ => Below.refl _ _⟩
  case round =>
    obtain ⟨q, F, hq, rfl, rfl, hrow, ho⟩ := hrel
    by_cases hlt : q < n
    · have HRW : Hid (wr.rowIs g 4 n F) := hrow
      have HO : Hid (OnlyB g w wr) := ho.1
      have hlt' : (q : Int) < (n : Int) := by omega
      have g1 := hrow.cell hlt
      have f1 := hrow.frozen q
      clear hrow ho
      go_wp2
      go_roundw
      case rel =>
        exact ⟨q + 1, _, by omega, by go_num, by go_num, HRW.out.set q _, HO.out.setCell _ _, fun z => absurd z (by omega)⟩
      case measure => simp [intOf]; omega
    · obtain rfl : q = n := by omega
      have HO : Hid (Turned g q w wr) := ho
      clear hrow ho
      go_wp2
      go_ret
      exact ⟨rfl, HO.out⟩
set_option maxRecDepth 100000 in
set_option maxHeartbeats 1000000 in
theorem markDiskAct_any (a : Ac) (g c k : Nat) (hn : k + a.nk ≤ 10000000) (w : World) (h : w.rowIs g 4 a.nk (fun i => .bool (a.K i))) :
    Calls Tryd.prog 26 #[.agg #[.int .i64 a.kd, .int .i64 a.x, .string a.s, .slice (some ⟨g, 0, none⟩) a.nk c, .int .i64 a.t], .int .i64 (k : Int)] w fun e w' => e = .returned (.int .i64 ((k + a.nk : Nat) : Int)) ∧ OnlyB g w w' := by
  have A1 : Below w.heap.size w (w.alloc (.cells #[.int .i64 a.kd, .int .i64 a.x, .string a.s, .slice (some ⟨g, 0, none⟩) a.nk c, .int .i64 a.t] 38)) := (Below.refl _ _).alloc (Nat.le_refl _) _
  have CC : Hid (Calls Tryd.prog 62 #[.slice (some ⟨g, 0, none⟩) a.nk c, .int .i64 (k : Int)] (w.alloc (.cells #[.int .i64 a.kd, .int .i64 a.x, .string a.s, .slice (some ⟨g, 0, none⟩) a.nk c, .int .i64 a.t] 38)) fun e w' => e = .returned (.int .i64 ((k + a.nk : Nat) : Int)) ∧ Turned g a.nk (w.alloc (.cells #[.int .i64 a.kd, .int .i64 a.x, .string a.s, .slice (some ⟨g, 0, none⟩) a.nk c, .int .i64 a.t] 38)) w') := markBoolK g a.nk c k a.K hn _ (World.rowIs.alloc h _)
  have O1 : Hid (OnlyB g w (w.alloc (.cells #[.int .i64 a.kd, .int .i64 a.x, .string a.s, .slice (some ⟨g, 0, none⟩) a.nk c, .int .i64 a.t] 38))) := (OnlyB.refl g w).below A1
  clear A1 h
  go_enter Tryd.func26, Tryd.ntmps26
  go_wp2_with fail
  refine (Calls.mono CC.out) ?_
  rintro e w1 ⟨rfl, ht⟩
  have O2 : Hid (OnlyB g w w1) := ⟨ht.1.os.trans O1.out.os, ht.1.tape.trans O1.out.tape, ht.1.output.trans O1.out.output, Nat.le_trans O1.out.size ht.1.size, fun k hk hne => (ht.1.block k (Nat.lt_of_lt_of_le hk O1.out.size) hne).trans (O1.out.block k hk hne)⟩
  clear ht CC O1
  go_wp2
  go_ret
  exact ⟨rfl, O2.out⟩
end Go.Proofs.YtbecnaabmlkjjaaDoor
