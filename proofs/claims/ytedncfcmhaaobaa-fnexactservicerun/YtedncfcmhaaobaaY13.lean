/-
  Texts of the proof, joined: IntS.
-/
import Derived.Test.YtedncfcmhaaobaaRows
import Derived.WalkKit
import Derived.ProofKit
import Derived.OpenShut
import Derived.Below
import Derived.WalkSmall
import Derived.Deep.QuietTactic
import Derived.BigQuiet
import Derived.Deep.OwnRows
namespace Go.Proofs.Ytedncfcmhaaobaa
open Go.ChangeShapes Go.WideShapes Go.ChangeAt Go.RowKit
theorem cellBlock {w : World} {p : Addr} {v : Value} (h : w.cell? p = some v) : p.block < w.heap.size := by
 rcases Nat.lt_or_ge p.block w.heap.size with g | g
 ·exact g
 ·simp [World.cell?, Array.getElem?_eq_none g] at h
theorem numEq {k : IntKind} {a b : Int} (h : a = b) : Value.int k a = .int k b := by rw [h]
def Ints (w : World) (a : Option Addr) (n : Nat) (f : Nat → Int) : Prop := ∀ i, i < n → ∃ b off, a = some ⟨b, off, none⟩ ∧ w.cell? ⟨b, off + i, none⟩ = some (.int .i64 (f i))
theorem Ints.opened {w : World} {a : Option Addr} {n : Nat} {f : Nat → Int} (h : Ints w a n f) (hn : 0 < n) :
  ∃ b off, a = some ⟨b, off, none⟩ ∧ ∀ i, i < n → w.cell? ⟨b, off + i, none⟩ = some (.int .i64 (f i)) := by
 obtain ⟨b, off, ha, _⟩ := h 0 hn
 refine ⟨b, off, ha, fun i hi => ?_⟩
 obtain ⟨b', off', ha', hc⟩ := h i hi
 rw [ha] at ha'
 cases ha'
 exact hc
structure Only (a : Option Addr) (w w' : World) : Prop where
 os : w'.os = w.os
 tape : w'.tape = w.tape
 output : w'.output = w.output
 size : w'.heap.size = w.heap.size
 block : ∀ k, (∀ p, a = some p → p.block ≠ k) → w'.heap[k]? = w.heap[k]?
theorem Try.infoI : (Try.prog.info? 3).map (fun i => (i.zero, i.size, i.bytes)) = some (some (.int .i64 0), 1, 8) := by kernel_rfl
theorem mkInts (n : Nat) (hn : n ≤ 10000000) (w : World) : (Instr.makeSlice 29 (.int .i64 (n : Int)) (.int .i64 (n : Int))).run Try.prog w = .ok (.slice (some ⟨w.heap.size, 0, none⟩) n n) (w.alloc (.cells (madeCells #[.int .i64 0] n) 3)) :=
 run_make_row' 29 3 (.int .i64 0) 8 Try.underlying29 Try.infoI rfl .i64 .i64 n (by omega) (by omega) w
theorem toIntS_any (a : Option Addr) (n c : Nat) (f : Nat → Int) (w : World) (h : Ints w a n f) (hn : n ≤ 1048576) :
  Calls Try.prog 102 #[.slice a n c] w fun e w' => e = .returned (.slice (some ⟨w.heap.size, 0, none⟩) n n) ∧ w'.rowIs w.heap.size 3 n (fun i => .int .i64 (f i)) ∧ Below w.heap.size w w' := by
 have m1 := mkInts n (by omega)
 rcases Nat.eq_zero_or_pos n with rfl | hpos
 ·have m0 : ∀ w : World, (Instr.makeSlice 29 (.int .i64 0) (.int .i64 0)).run Try.prog w = .ok (.slice (some ⟨w.heap.size, 0, none⟩) 0 0) (w.alloc (.cells (madeCells #[.int .i64 0] 0) 3)) := mkInts 0 (by omega)
  go_enter Try.func102, Try.ntmps102
  go_wp2
  go_loopw [4] (fun i wr => i = .int .i64 0 ∧ wr = w.alloc (.cells (madeCells #[.int .i64 0] 0) 3)) (fun _ _ => 0)
  case atStart => exact ⟨rfl, rfl⟩
  case round =>
   obtain ⟨rfl, rfl⟩ := hrel
   go_wp2
   go_ret
   exact ⟨rfl, (World.rowIs_made w (.int .i64 0) 0 3).congr (fun j hj => by omega), (Below.refl _ _).alloc (Nat.le_refl _) _⟩
 ·obtain ⟨b, off, rfl, hc⟩ := h.opened hpos
  have HC : Hid (∀ i, i < n → w.cell? ⟨b, off + i, none⟩ = some (.int .i64 (f i))) := hc
  clear h hc
  go_enter Try.func102, Try.ntmps102
  go_wp2
  go_loopw [4] (fun i wr => ∃ k : Nat, k ≤ n ∧ i = .int .i64 k ∧ wr.rowIs w.heap.size 3 n (fun j => .int .i64 (if j < k then f j else 0)) ∧ Below w.heap.size w wr) (fun i _ => n - (intOf i).toNat)
  case atStart =>
   refine ⟨0, by omega, rfl, ?_, (Below.refl _ _).alloc (Nat.le_refl _) _⟩
   exact (World.rowIs_made w (.int .i64 0) n 3).congr (fun j hj => by simp)
  case round =>
   obtain ⟨k, hk, rfl, hrow, hb⟩ := hrel
   have HR : Hid (wr.rowIs w.heap.size 3 n (fun j => .int .i64 (if j < k then f j else 0))) := hrow
   have HB : Hid (Below w.heap.size w wr) := hb
   by_cases hlt : k < n
   ·have c0 := HC.out k hlt
    have c1 : wr.cell? ⟨b, off + k, none⟩ = some (.int .i64 (f k)) := by rw [hb.cell (cellBlock c0)]; exact c0
    have c2 := hrow.cell hlt
    have f2 := hrow.frozen k
    clear hrow hb c0
    go_wp2
    go_roundw
    case rel =>
     refine ⟨k + 1, by omega, by go_num, ?_, HB.out.setCell (by simp) _⟩
     exact (HR.out.set k _).congr (fun j hj => by
      by_cases e : j = k
      ·subst e; simp
      ·simp only [if_neg e]; exact numEq (by by_cases g : j < k <;> simp [g] <;> omega))
    case measure => simp [intOf]; omega
   ·clear hrow hb
    go_wp2
    go_ret
    exact ⟨rfl, HR.out.congr (fun j hj => numEq (by rw [if_pos (by omega)])), HB.out⟩
theorem eqIntS_yes (a b : Option Addr) (n c d : Nat) (f g : Nat → Int) (w : World) (h : Ints w a n f) (h' : Ints w b n g) (he : ∀ i, i < n → f i = g i) (hn : n ≤ 1048576) :
  Calls Try.prog 20 #[.slice a n c, .slice b n d] w fun e w' => e = .returned (.bool true) ∧ ∃ q, w' = w.drewN q := by
 rcases Nat.eq_zero_or_pos n with rfl | hpos
 ·go_enter Try.func20, Try.ntmps20
  go_wp2
  go_loopw [5] (fun i wr => i = .int .i64 0 ∧ wr = w) (fun _ _ => 0)
  case atStart => exact ⟨rfl, rfl⟩
  case round =>
   obtain ⟨rfl, rfl⟩ := hrel
   go_wp2
   go_ret
   exact ⟨rfl, 0, rfl⟩
 ·obtain ⟨b1, o1, rfl, hc⟩ := h.opened hpos
  obtain ⟨b2, o2, rfl, hc'⟩ := h'.opened hpos
  have HC : Hid (∀ i, i < n → w.cell? ⟨b1, o1 + i, none⟩ = some (.int .i64 (f i))) := hc
  have HD : Hid (∀ i, i < n → w.cell? ⟨b2, o2 + i, none⟩ = some (.int .i64 (f i))) := fun i hi => by rw [he i hi]; exact hc' i hi
  clear h h' hc hc' he
  have hne : ((n : Int) != (n : Int)) = false := by simp
  go_enter Try.func20, Try.ntmps20
  go_wp2
  go_loopw [5] (fun i wr => ∃ k : Nat, k ≤ n ∧ i = .int .i64 k ∧ ∃ q, wr = w.drewN q) (fun i _ => n - (intOf i).toNat)
  case atStart => exact ⟨0, by omega, rfl, 0, rfl⟩
  case round =>
   obtain ⟨k, hk, rfl, q, rfl⟩ := hrel
   by_cases hlt : k < n
   ·have c1 := HC.out k hlt
    have c2 := HD.out k hlt
    have hlt' : (k : Int) < (n : Int) := by omega
    have hself : (f k != f k) = false := by simp
    generalize f k = V at *
    go_wp2
    go_quiet (fail)
    go_wp2
    go_roundw
    case rel => exact ⟨k + 1, by omega, by go_num, _, by first | rfl | rw [World.drewN_drewN]⟩
    case measure => simp [intOf]; omega
   ·go_wp2
    go_ret
    exact ⟨rfl, q, rfl⟩
end Go.Proofs.Ytedncfcmhaaobaa
