/-
  Contracts of the exact laws' helpers on slices of ints (a copy, an equality, a marking, a look at the marks), and what is said of a slice that is read and of one that is a call's own.
-/
import Derived.Test.YtbhlgcenfanicaaRows
import Derived.WalkKit
import Derived.ProofKit
import Derived.OpenShut
import Derived.Below
import Derived.WalkSmall
import Derived.Deep.QuietTactic
import Derived.BigQuiet
import Derived.Deep.OwnRows
namespace Go.Proofs.Ytbhlgcenfanicaa
open Go.ChangeShapes Go.WideShapes Go.ChangeAt Go.RowKit

theorem cellBlock {w : World} {p : Addr} {v : Value} (h : w.cell? p = some v) : p.block < w.heap.size := by
  rcases Nat.lt_or_ge p.block w.heap.size with g | g
  · exact g
  · simp [World.cell?, Array.getElem?_eq_none g] at h
theorem numEq {k : IntKind} {a b : Int} (h : a = b) : Value.int k a = .int k b := by rw [h]

/-- A slice of n ints that reads as f. -/
def Ints (w : World) (a : Option Addr) (n : Nat) (f : Nat → Int) : Prop := ∀ i, i < n → ∃ b off, a = some ⟨b, off, none⟩ ∧ w.cell? ⟨b, off + i, none⟩ = some (.int .i64 (f i))
theorem Ints.opened {w : World} {a : Option Addr} {n : Nat} {f : Nat → Int} (h : Ints w a n f) (hn : 0 < n) :
    ∃ b off, a = some ⟨b, off, none⟩ ∧ ∀ i, i < n → w.cell? ⟨b, off + i, none⟩ = some (.int .i64 (f i)) := by
  obtain ⟨b, off, ha, _⟩ := h 0 hn
  refine ⟨b, off, ha, fun i hi => ?_⟩
  obtain ⟨b', off', ha', hc⟩ := h i hi
  rw [ha] at ha'
  cases ha'
  exact hc
theorem Ints.below {w w' : World} {a : Option Addr} {n : Nat} {f : Nat → Int} (h : Ints w a n f) (hb : Below w.heap.size w w') : Ints w' a n f := fun i hi => by
  obtain ⟨b, off, ha, hc⟩ := h i hi
  exact ⟨b, off, ha, by rw [hb.cell (cellBlock hc)]; exact hc⟩
theorem Ints.congr {w : World} {a : Option Addr} {n : Nat} {f g : Nat → Int} (h : Ints w a n f) (e : ∀ i, i < n → f i = g i) : Ints w a n g := fun i hi => by
  obtain ⟨b, off, ha, hc⟩ := h i hi
  exact ⟨b, off, ha, by rw [← e i hi]; exact hc⟩
/-- A slice of ints that came in, as the kit's shell tells of it. -/
theorem ints_of_came {w : World} {a : Option Addr} {len cap : Nat} {zs : List Int}
    (h : (a = none ∧ len = 0 ∧ cap = 0 ∧ zs = []) ∨ ∃ x, a = some x ∧ len ≤ cap ∧ cap ≤ maxLen ∧ zs.length = cap ∧ (∀ i, i < zs.length → w.cell? (x.add i) = some (.int .i64 (zs.getD i 0))) ∧ ∀ n ∈ zs, (Lit.int .i64 n).wf = true) :
    Ints w a len (fun i => zs.getD i 0) ∧ len ≤ maxLen := by
  rcases h with ⟨rfl, rfl, rfl, rfl⟩ | ⟨x, rfl, hl, hm, hz, hc, _⟩
  · exact ⟨fun i hi => absurd hi (by omega), Nat.zero_le _⟩
  · refine ⟨fun i hi => ?_, Nat.le_trans hl hm⟩
    obtain ⟨b, off, rfl, hc'⟩ := ints_at hc (by omega)
    exact ⟨b, off, rfl, hc' i (by omega)⟩
/-- A slice of n ints at the head of a row of the call's own, from block B on. -/
def OwnInts (w : World) (B : Nat) (a : Option Addr) (n : Nat) (f : Nat → Int) : Prop := n = 0 ∨ ∃ b, B ≤ b ∧ a = some ⟨b, 0, none⟩ ∧ w.rowIs b 3 n (fun i => .int .i64 (f i))
theorem OwnInts.ints {w : World} {B : Nat} {a : Option Addr} {n : Nat} {f : Nat → Int} (h : OwnInts w B a n f) : Ints w a n f := fun i hi => by
  rcases h with h | ⟨b, _, ha, hr⟩
  · omega
  · exact ⟨b, 0, ha, by rw [Nat.zero_add]; exact hr.cell hi⟩
theorem OwnInts.below {w w' : World} {B : Nat} {a : Option Addr} {n : Nat} {f : Nat → Int} (h : OwnInts w B a n f) (hb : Below w.heap.size w w') : OwnInts w' B a n f := by
  rcases h with h | ⟨b, hB, ha, hr⟩
  · exact .inl h
  · exact .inr ⟨b, hB, ha, hr.of_block (hb.block b hr.lt)⟩
/-- Nothing but the block that a leads to has turned. -/
structure Only (a : Option Addr) (w w' : World) : Prop where
  os : w'.os = w.os
  tape : w'.tape = w.tape
  output : w'.output = w.output
  size : w'.heap.size = w.heap.size
  block : ∀ k, (∀ p, a = some p → p.block ≠ k) → w'.heap[k]? = w.heap[k]?
theorem Only.refl (a : Option Addr) (w : World) : Only a w w := ⟨rfl, rfl, rfl, rfl, fun _ _ => rfl⟩
theorem Only.toBelow {a : Option Addr} {w w' : World} (h : Only a w w') (B : Nat) (hB : ∀ p, a = some p → B ≤ p.block) : Below B w w' :=
  ⟨h.os, h.tape, h.output, by rw [h.size]; exact Nat.le_refl _, fun k hk => h.block k (fun p hp e => by have := hB p hp; omega)⟩
theorem Only.setCell {b : Nat} {w w' : World} (h : Only (some ⟨b, 0, none⟩) w w') (i : Nat) (v : Value) : Only (some ⟨b, 0, none⟩) w (w'.setCell ⟨b, i, none⟩ v) :=
  ⟨h.os, h.tape, h.output, by simpa using h.size, fun k hk => by rw [Below.heap_setCell w' ⟨b, i, none⟩ v k (fun e => hk ⟨b, 0, none⟩ rfl e.symm)]; exact h.block k hk⟩
theorem Ints.only {w w' : World} {a p : Option Addr} {n : Nat} {f : Nat → Int} (h : Ints w a n f) (ho : Only p w w') (hd : ∀ x y, a = some x → p = some y → y.block ≠ x.block) : Ints w' a n f := fun i hi => by
  obtain ⟨b, off, ha, hc⟩ := h i hi
  refine ⟨b, off, ha, ?_⟩
  rw [World.cell?_of_block (w := w) (ho.block b (fun y hy => hd _ y ha hy))]
  exact hc
theorem OwnInts.only {w w' : World} {B : Nat} {a p : Option Addr} {n : Nat} {f : Nat → Int} (h : OwnInts w B a n f) (ho : Only p w w') (hd : ∀ x y, a = some x → p = some y → y.block ≠ x.block) : OwnInts w' B a n f := by
  rcases h with h | ⟨b, hB, ha, hr⟩
  · exact .inl h
  · exact .inr ⟨b, hB, ha, hr.of_block (ho.block b (fun y hy => hd _ y ha hy))⟩

theorem Try.infoI : (Try.prog.info? 3).map (fun i => (i.zero, i.size, i.bytes)) = some (some (.int .i64 0), 1, 8) := by kernel_rfl
theorem mkInts (n : Nat) (hn : n ≤ 10000000) (w : World) : (Instr.makeSlice 59 (.int .i64 (n : Int)) (.int .i64 (n : Int))).run Try.prog w = .ok (.slice (some ⟨w.heap.size, 0, none⟩) n n) (w.alloc (.cells (madeCells #[.int .i64 0] n) 3)) :=
  run_make_row' 59 3 (.int .i64 0) 8 Try.underlying59 Try.infoI rfl .i64 .i64 n (by omega) (by omega) w
end Go.Proofs.Ytbhlgcenfanicaa
