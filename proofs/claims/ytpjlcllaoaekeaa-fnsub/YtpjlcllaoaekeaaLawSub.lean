/-
  The walk of the law FnSub: over any slice of bytes it returns true and writes nothing that was there.
-/
import Derived.Test.YtpjlcllaoaekeaaAt
import Derived.Test.YtpjlcllaoaekeaaGfPow
import Derived.Deep.OwnRows
namespace Go.Proofs.Ytpjlcllaoaekeaa
open Go.ChangeShapes Go.WideShapes Go.ChangeAt Go.RowKit
namespace Gf
def seenTo : Nat → Nat → Bool
  | 0, _ => false
  | k + 1, j => if j = sub k then true else seenTo k j
theorem seenTo_new (k : Nat) (hk : k < 256) (m : Nat) (hm : m ≤ k) : seenTo m (sub k) = false := by
  induction m with
  | zero => rfl
  | succ m ih =>
    show (if sub k = sub m then true else seenTo m (sub k)) = false
    rw [if_neg]
    · exact ih (by omega)
    · intro h
      have h1 := unsub_sub k hk
      rw [h, unsub_sub m (by omega)] at h1
      omega
theorem sub_other : ∀ i, i < 256 → sub i ≠ i ∧ sub i ≠ i ^^^ 255 := by decide +kernel
end Gf
theorem Try.info4 : (Try.prog.info? 4).map (fun i => (i.zero, i.size, i.bytes)) = some (some (.bool false), 1, 1) := by kernel_rfl
theorem makeBools (w : World) : (Instr.makeSlice 28 (.int .i64 256) (.int .i64 256)).run Try.prog w = .ok (.slice (some ⟨w.heap.size, 0, none⟩) 256 256) (w.alloc (.cells (madeCells #[.bool false] 256) 4)) :=
  run_make_row' 28 4 (.bool false) 1 Try.underlying28 Try.info4 rfl .i64 .i64 256 (by omega) (by omega) w
set_option maxRecDepth 100000 in
set_option maxHeartbeats 1000000 in
theorem law_sub (a0 : Option Addr) (n0 c0 : Nat) (z0 : List Int) (w : World) (h0 : IsRow .u8 w a0 n0 c0 z0) (m0 : n0 ≤ maxLen) :
    Calls Try.prog 4 #[.slice a0 n0 c0] w fun e w' => e = .returned (.bool true) ∧ Below w.heap.size w w' := by
  have H0 : Hid (IsRow .u8 w a0 n0 c0 z0) := h0
  clear h0
  unfold maxLen at m0
  by_cases g0 : 1048576 < n0
  · go_enter Try.func4, Try.ntmps4
    go_wp2
    go_ret
    exact ⟨rfl, Below.refl _ _⟩
  have g0' : decide (1048576 < (n0 : Int)) = false := by simp; omega
  have mk := makeBools
  go_enter Try.func4, Try.ntmps4
  go_wp2
  go_loopw [4] (fun i wr => ∃ k : Nat, k ≤ 256 ∧ i = .int .i64 k ∧ wr.rowIs w.heap.size 4 256 (fun j => .bool (Gf.seenTo k j)) ∧ Below w.heap.size w wr) (fun i _ => 256 - (intOf i).toNat)
  case atStart =>
    refine ⟨0, by omega, rfl, ?_, (Below.refl _ _).alloc (Nat.le_refl _) _⟩
    exact (World.rowIs_made w (.bool false) 256 4).congr (fun j hj => rfl)
  case round =>
    obtain ⟨k, hk, rfl, hrow, hb⟩ := hrel
    have H2 : Hid (wr.rowIs w.heap.size 4 256 (fun j => .bool (Gf.seenTo k j))) := hrow
    have HB : Hid (Below w.heap.size w wr) := hb
    by_cases hlt : k < 256
    · have hs := Gf.sub_lt k hlt
      have hs' : (Gf.sub k : Int) ≤ 255 := by omega
      have c2 := hrow.cell hs
      rw [Gf.seenTo_new k hlt k (Nat.le_refl _)] at c2
      have f2 := hrow.frozen (Gf.sub k)
      have E : Hid (∀ j, Gf.seenTo (k + 1) j = if j = Gf.sub k then true else Gf.seenTo k j) := fun j => rfl
      have o1 : ((Gf.sub k : Int) == (k : Int)) = false := by have := (Gf.sub_other k hlt).1; simp; omega
      have o2 : ((Gf.sub k : Int) == bits BinOp.xor IntKind.i64 (k : Int) 255) = false := by
        rw [show bits BinOp.xor IntKind.i64 (k : Int) 255 = ((k ^^^ 255 : Nat) : Int) from i64_xor_nat k 255 (by omega) (by omega)]
        have := (Gf.sub_other k hlt).2
        simp; omega
      have o3 : decide ((Gf.sub k : Int) < 0) = false := decide_eq_false (by omega)
      have o4 : decide (255 < (Gf.sub k : Int)) = false := decide_eq_false (by omega)
      clear hrow hb
      go_wp2_with fail
      refine (implSub_yes k hlt _).mono ?_; rintro e w' ⟨rfl, rfl⟩
      generalize Gf.sub k = P at *
      go_wp2_with fail
      go_roundw
      case rel =>
        refine ⟨k + 1, by omega, by go_num, ?_, HB.out.setCell (by simp) _⟩
        exact (H2.out.set P _).congr (fun j hj => by
          rw [E.out j]
          by_cases e : j = P
          · simp [e]
          · simp [e])
      case measure => simp [intOf]; omega
    · clear hrow
      have H0' : Hid (IsRow .u8 wr a0 n0 c0 z0) := H0.out.below hb
      clear hb
      generalize hkk : (k : Int) = kk
      have hk' : ¬ kk < 256 := by omega
      clear hkk
      go_wp2_with fail
      refine (at_any a0 n0 c0 z0 _ H0'.out 0 256 (by omega) (by omega) (by omega) (by omega)).mono ?_
      rintro e w1 ⟨⟨A, hA, rfl⟩, q0, rfl⟩
      have hA' : A < 256 := by omega
      have hs := Gf.sub_lt A hA'
      go_wp2_with fail
      refine (implSub_yes A hA' _).mono ?_; rintro e w' ⟨rfl, rfl⟩
      go_wp2_with fail
      refine (specSub_yes A hA' _).mono ?_; rintro e w' ⟨rfl, rfl⟩
      go_wp2_with fail
      refine (implUnsub_yes _ hs _).mono ?_; rintro e w' ⟨rfl, rfl⟩
      rw [Gf.unsub_sub A hA']
      go_wp2_with fail
      go_ret
      exact ⟨rfl, below_drewN HB.out _⟩
end Go.Proofs.Ytpjlcllaoaekeaa
