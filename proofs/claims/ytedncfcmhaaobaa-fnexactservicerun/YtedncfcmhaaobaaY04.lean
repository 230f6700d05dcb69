/-
  Texts of the proof, joined: IntE.
-/
import Derived.Test.YtedncfcmhaaobaaY03
import Derived.WalkKit
import Derived.ProofKit
import Derived.WalkSmall
import Derived.Lib.SliceRun
import Derived.Lib.AppendZeros
import Derived.Deep.QuietTactic
import Derived.BigQuiet
namespace Go.Proofs.Ytedncfcmhaaobaa
open Go.ChangeShapes Go.WideShapes Go.ChangeAt Go.RowKit
set_option linter.unusedVariables false
def inF (C : Nat → Int) (i j : Nat) : Value := .int .i64 (C i)
def IE (w : World) (B : Nat) (v : Value) (n : Nat) (C : Nat → Int) : Prop := EO w B 3 1 v n (inF C)
theorem Try.infoInE : (Try.prog.info? 3).map (fun i => (i.zero, i.size, i.bytes)) = some (some (.int .i64 0), 1, 8) := by kernel_rfl
theorem IE.congr {w : World} {B : Nat} {v : Value} {n : Nat} {C D : Nat → Int} (h : IE w B v n C) (e : ∀ i, i < n → C i = D i) : IE w B v n D := EO.congr h (fun i hi j hj => by unfold inF; rw [e i hi])
def Num (w : World) (a : Option Addr) (n : Nat) (C : Nat → Int) : Prop := Els w 1 a n (inF C)
theorem Num.opened {w : World} {a : Option Addr} {n : Nat} {C : Nat → Int} (h : Num w a n C) (hn : 0 < n) : ∃ b off, a = some ⟨b, off, none⟩ ∧ ∀ i, i < n → w.cell? ⟨b, off + i, none⟩ = some (.int .i64 (C i)) := by
 obtain ⟨b, off, ha, hc⟩ := Els.opened h hn
 exact ⟨b, off, ha, fun i hi => by
  have := hc i hi 0 (by omega)
  rwa [Nat.mul_one, Nat.add_zero] at this⟩
theorem Num.below {w w' : World} {a : Option Addr} {n : Nat} {C : Nat → Int} (h : Num w a n C) (hb : Below w.heap.size w w') : Num w' a n C := Els.below h hb
theorem IE.num {w : World} {B : Nat} {a : Option Addr} {n c : Nat} {C : Nat → Int} (h : IE w B (.slice a n c) n C) : Num w a n C := EO.els h
theorem IE.lit (w : World) (B : Nat) (hB : B ≤ w.heap.size) (C : Nat → Int) : IE (w.alloc (.cells #[] 3)) B (.slice (some ⟨w.heap.size, 0, none⟩) 0 0) 0 C := EO.lit w B _ _ hB _
set_option maxRecDepth 100000 in
theorem oneIn (C : Nat → Int) (m : Nat) : ∀ u ∈ elv 1 m (inF C), u.oneCell' = true := fun u hu => by
 unfold elv at hu
 obtain ⟨i, _, rfl⟩ := List.mem_map.1 hu
 rfl
set_option maxRecDepth 100000 in
theorem IE.app (w : World) (B : Nat) (v : Value) (n q : Nat) (C : Nat → Int) (x : Int) (hB : B ≤ w.heap.size) (hn : n ≤ 100000) (h : IE w B v n C) (hx : w.cell? ⟨q, 0, none⟩ = some (.int .i64 x)) :
  ∃ v' w', (∀ ty, (Builtin.append_ #[29, 29] ty #[v, .slice (some ⟨q, 0, none⟩) 1 1]).run Try.prog w = .ok v' w') ∧ IE w' B v' (n + 1) (updE C n x) ∧ w.grownBy w' v.ownBlock ∧ (v'.ownBlock = v.ownBlock ∨ v'.ownBlock = some w.heap.size) := by
 obtain ⟨i, hi, hz, hsz, hby⟩ := info_parts Try.infoInE
 obtain ⟨v', w', hr, ho, hg, _, hloc⟩ := run_append_own_at (P := Try.prog) w B 29 29 3 i _ 1 8 Try.underlying29 hi hz hsz hby rfl (by decide) v n _ h ⟨q, 0, none⟩ 1 1 [.int .i64 x] (by simp) (fun j u hj => by
  match j, hj with
  | 0, hj =>
   have e : Value.int .i64 x = u := by simpa using hj
   subst e
   exact hx) (fun u hu => by
   rw [List.mem_singleton.1 hu]; rfl) (by unfold maxLen; omega) (by omega) hB
 refine ⟨v', w', fun ty => hr, ?_, hg, hloc⟩
 unfold IE EO
 rw [elv_snoc, elv_congr (G := inF C) (fun i hi j hj => by unfold inF updE; rw [if_neg (by omega)])]
 have e : (List.range 1).map (inF (updE C n x) n) = [.int .i64 x] := by unfold inF updE; simp
 rw [e]
 exact ho
theorem mkInE (n : Nat) (hn : n ≤ 1048576) (w : World) : (Instr.makeSlice 29 (.int .i64 n) (.int .i64 n)).run Try.prog w = .ok (.slice (some ⟨w.heap.size, 0, none⟩) n n) (w.alloc (.cells (madeCells #[.int .i64 0] n) 3)) :=
 run_make_row' (P := Try.prog) 29 3 (.int .i64 0) 8 Try.underlying29 Try.infoInE rfl .i64 .i64 n (by omega) (by omega) w
theorem IE.made (w : World) (B n : Nat) (hB : B ≤ w.heap.size) (hn : n ≤ 1048576) : IE (w.alloc (.cells (madeCells #[.int .i64 0] n) 3)) B (.slice (some ⟨w.heap.size, 0, none⟩) n n) n (fun _ => 0) := by
 refine ⟨elv_length _ _ _, .inr ⟨w.heap.size, n, madeCells #[.int .i64 0] n, rfl, hB, (MapKept.heap_alloc w _).1, Nat.le_refl _, by unfold maxLen; omega, by rw [size_madeCells, Nat.mul_one], ?_⟩⟩
 apply List.ext_getElem?
 intro i
 unfold elv inF
 by_cases hi : i < n
 ·rw [List.getElem?_take, if_pos (by omega), List.getElem?_map, List.getElem?_range (by omega)]
  simp [madeCells, hi]
  rw [Nat.mod_one]
  rfl
 ·rw [List.getElem?_eq_none (by simp [size_madeCells]; omega), List.getElem?_eq_none (by simp; omega)]
theorem IE.set {w : World} {B g n c : Nat} {C : Nat → Int} (h : IE w B (.slice (some ⟨g, 0, none⟩) n c) n C) {k : Nat} (hk : k < n) (x : Int) : IE (w.setCell ⟨g, k, none⟩ (.int .i64 x)) B (.slice (some ⟨g, 0, none⟩) n c) n (updE C k x) := by
 have := EO.set h (k := k) (l := 0) hk (by omega) (.int .i64 x)
 rw [Nat.mul_one, Nat.add_zero] at this
 exact EO.congr this (fun i hi j hj => by
  obtain rfl : j = 0 := by omega
  unfold setF inF updE
  by_cases e : i = k <;> simp [e])
end Go.Proofs.Ytedncfcmhaaobaa
