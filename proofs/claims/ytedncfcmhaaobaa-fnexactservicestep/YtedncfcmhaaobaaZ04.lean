/-
  Texts of the proof, joined: IntE.
-/
import Derived.Test.YtedncfcmhaaobaaZ03
import Derived.WalkKit
import Derived.ProofKit
import Derived.WalkSmall
import Derived.Lib.SliceRun
import Derived.Lib.AppendZeros
import Derived.Deep.QuietTactic
import Derived.BigQuiet
namespace Go.Proofs.Ytedncfcmhaaobaa
open Go.ChangeShapes Go.WideShapes Go.ChangeAt Go.RowKit
set_option linter.unusedVariables false
def inF (C : Nat → Int) (i j : Nat) : Value := .int .i64 (C i)
def IE (w : World) (B : Nat) (v : Value) (n : Nat) (C : Nat → Int) : Prop := EO w B 3 1 v n (inF C)
theorem Try.infoInE : (Try.prog.info? 3).map (fun i => (i.zero, i.size, i.bytes)) = some (some (.int .i64 0), 1, 8) := by kernel_rfl
theorem IE.congr {w : World} {B : Nat} {v : Value} {n : Nat} {C D : Nat → Int} (h : IE w B v n C) (e : ∀ i, i < n → C i = D i) : IE w B v n D := EO.congr h (fun i hi j hj => by unfold inF; rw [e i hi])
def Num (w : World) (a : Option Addr) (n : Nat) (C : Nat → Int) : Prop := Els w 1 a n (inF C)
theorem Num.opened {w : World} {a : Option Addr} {n : Nat} {C : Nat → Int} (h : Num w a n C) (hn : 0 < n) : ∃ b off, a = some ⟨b, off, none⟩ ∧ ∀ i, i < n → w.cell? ⟨b, off + i, none⟩ = some (.int .i64 (C i)) := by
 obtain ⟨b, off, ha, hc⟩ := Els.opened h hn
 exact ⟨b, off, ha, fun i hi => by
  have := hc i hi 0 (by omega)
  rwa [Nat.mul_one, Nat.add_zero] at this⟩
theorem Num.below {w w' : World} {a : Option Addr} {n : Nat} {C : Nat → Int} (h : Num w a n C) (hb : Below w.heap.size w w') : Num w' a n C := Els.below h hb
theorem IE.num {w : World} {B : Nat} {a : Option Addr} {n c : Nat} {C : Nat → Int} (h : IE w B (.slice a n c) n C) : Num w a n C := EO.els h
theorem IE.lit (w : World) (B : Nat) (hB : B ≤ w.heap.size) (C : Nat → Int) : IE (w.alloc (.cells #[] 3)) B (.slice (some ⟨w.heap.size, 0, none⟩) 0 0) 0 C := EO.lit w B _ _ hB _
set_option maxRecDepth 100000 in
theorem oneIn (C : Nat → Int) (m : Nat) : ∀ u ∈ elv 1 m (inF C), u.oneCell' = true := fun u hu => by
 unfold elv at hu
 obtain ⟨i, _, rfl⟩ := List.mem_map.1 hu
 rfl
theorem IE.set {w : World} {B g n c : Nat} {C : Nat → Int} (h : IE w B (.slice (some ⟨g, 0, none⟩) n c) n C) {k : Nat} (hk : k < n) (x : Int) : IE (w.setCell ⟨g, k, none⟩ (.int .i64 x)) B (.slice (some ⟨g, 0, none⟩) n c) n (updE C k x) := by
 have := EO.set h (k := k) (l := 0) hk (by omega) (.int .i64 x)
 rw [Nat.mul_one, Nat.add_zero] at this
 exact EO.congr this (fun i hi j hj => by
  obtain rfl : j = 0 := by omega
  unfold setF inF updE
  by_cases e : i = k <;> simp [e])
end Go.Proofs.Ytedncfcmhaaobaa
