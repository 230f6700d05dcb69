/-
  Texts of the proof, joined: Els.
-/
import Derived.Test.YtedncfcmhaaobaaV01
namespace Go.Proofs.Ytedncfcmhaaobaa
open Go.ChangeShapes Go.WideShapes Go.ChangeAt Go.RowKit
def Els (w : World) (s : Nat) (a : Option Addr) (n : Nat) (F : Nat → Nat → Value) : Prop := ∀ i, i < n → ∃ b off, a = some ⟨b, off, none⟩ ∧ ∀ j, j < s → w.cell? ⟨b, off + i * s + j, none⟩ = some (F i j)
theorem Els.opened {w : World} {s : Nat} {a : Option Addr} {n : Nat} {F : Nat → Nat → Value} (h : Els w s a n F) (hn : 0 < n) :
  ∃ b off, a = some ⟨b, off, none⟩ ∧ ∀ i, i < n → ∀ j, j < s → w.cell? ⟨b, off + i * s + j, none⟩ = some (F i j) := by
 obtain ⟨b, off, rfl, _⟩ := h 0 hn
 refine ⟨b, off, rfl, fun i hi => ?_⟩
 obtain ⟨b', off', hab, hc⟩ := h i hi
 cases hab
 exact hc
theorem Els.below {w w' : World} {s : Nat} {a : Option Addr} {n : Nat} {F : Nat → Nat → Value} (h : Els w s a n F) (hb : Below w.heap.size w w') : Els w' s a n F := fun i hi => by
 obtain ⟨b, off, ha, hc⟩ := h i hi
 exact ⟨b, off, ha, fun j hj => by rw [hb.cell (strBlock (hc j hj))]; exact hc j hj⟩
theorem Els.congr {w : World} {s : Nat} {a : Option Addr} {n : Nat} {F G : Nat → Nat → Value} (h : Els w s a n F) (e : ∀ i, i < n → ∀ j, j < s → F i j = G i j) : Els w s a n G := fun i hi => by
 obtain ⟨b, off, ha, hc⟩ := h i hi
 exact ⟨b, off, ha, fun j hj => by rw [← e i hi j hj]; exact hc j hj⟩
theorem Els.less {w : World} {s : Nat} {a : Option Addr} {n m : Nat} {F : Nat → Nat → Value} (h : Els w s a n F) (hm : m ≤ n) : Els w s a m F := fun i hi => h i (by omega)
structure RowE (w : World) (s : Nat) (a : Option Addr) (g n : Nat) (F : Nat → Nat → Value) : Prop where
 a : 0 < n → a = some ⟨g, 0, none⟩
 c : ∀ i, i < n → ∀ j, j < s → w.cell? ⟨g, i * s + j, none⟩ = some (F i j)
 z : ∀ i, i < n * s → w.frozen? ⟨g, i, none⟩ = false
theorem cellE {w w' : World} {g i : Nat} (e : w'.heap[g]? = w.heap[g]?) : w'.cell? ⟨g, i, none⟩ = w.cell? ⟨g, i, none⟩ := by simp [World.cell?, e]
theorem posE {n s : Nat} {i : Nat} (h : i < n * s) : 0 < n := by
 rcases Nat.eq_zero_or_pos n with rfl | q
 ·omega
 ·exact q
theorem RowE.els {w : World} {s : Nat} {a : Option Addr} {g n : Nat} {F : Nat → Nat → Value} (h : RowE w s a g n F) : Els w s a n F := fun i hi => ⟨g, 0, h.a (by omega), fun j hj => by rw [Nat.zero_add]; exact h.c i hi j hj⟩
theorem RowE.nil (w : World) (s : Nat) (a : Option Addr) (g : Nat) (F : Nat → Nat → Value) : RowE w s a g 0 F := ⟨fun h => absurd h (by omega), fun i hi => absurd hi (by omega), fun i hi => absurd (posE hi) (by omega)⟩
theorem divE {s i j : Nat} (hj : j < s) : (i * s + j) / s = i ∧ (i * s + j) % s = j := by
 have hs : 0 < s := by omega
 constructor
 ·rw [Nat.mul_comm, Nat.mul_add_div hs, Nat.div_eq_of_lt hj, Nat.add_zero]
 ·rw [Nat.mul_comm, Nat.mul_add_mod, Nat.mod_eq_of_lt hj]
theorem ltE {s i j n : Nat} (hi : i < n) (hj : j < s) : i * s + j < n * s := by
 have : (i + 1) * s ≤ n * s := Nat.mul_le_mul_right s hi
 rw [Nat.add_mul, Nat.one_mul] at this
 omega
def setF (F : Nat → Nat → Value) (k l : Nat) (v : Value) (i j : Nat) : Value := if i = k ∧ j = l then v else F i j
def Box2 (w : World) (b : Nat) (t : TypeId) (x y : Value) : Prop := w.rowIs b t 2 (fun i => if i = 0 then x else y)
theorem Box2.c0 {w : World} {b : Nat} {t : TypeId} {x y : Value} (h : Box2 w b t x y) : w.cell? ⟨b, 0, none⟩ = some x := World.rowIs.cell h (i := 0) (by omega)
theorem Box2.c1 {w : World} {b : Nat} {t : TypeId} {x y : Value} (h : Box2 w b t x y) : w.cell? ⟨b, 1, none⟩ = some y := World.rowIs.cell h (i := 1) (by omega)
theorem Box2.lt {w : World} {b : Nat} {t : TypeId} {x y : Value} (h : Box2 w b t x y) : b < w.heap.size := World.rowIs.lt h
theorem Box2.ofBlock {w w' : World} {b : Nat} {t : TypeId} {x y : Value} (h : Box2 w b t x y) (e : w'.heap[b]? = w.heap[b]?) : Box2 w' b t x y := World.rowIs.of_block h e
theorem Box2.below {w w' : World} {b : Nat} {t : TypeId} {x y : Value} (h : Box2 w b t x y) (hb : Below w.heap.size w w') : Box2 w' b t x y := h.ofBlock (hb.block b h.lt)
theorem Box2.made (w : World) (t : TypeId) (x y : Value) : Box2 (w.alloc (.cells #[x, y] t)) w.heap.size t x y := World.rowIs_alloc w #[x, y] t _ (fun i hi => by
 rcases (show i = 0 ∨ i = 1 by simp at hi; omega) with rfl | rfl <;> rfl)
end Go.Proofs.Ytedncfcmhaaobaa
