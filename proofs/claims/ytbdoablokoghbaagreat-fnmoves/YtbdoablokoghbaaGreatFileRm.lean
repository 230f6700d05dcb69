/-
  RemoveFile of the program.
-/
import Derived.Test.YtbdoablokoghbaaGreatBelowI
import Derived.Test.YtbdoablokoghbaaGreatDelF
import Derived.Test.YtbdoablokoghbaaGreatFileMk
namespace Go.Proofs.YtbdoablokoghbaaGreat
open Go.ChangeShapes Go.WideShapes Go.ChangeAt Go.RowKit Go.Shelf
set_option linter.unusedVariables false
attribute [local go_sem] Oper.semAt_some
/-- Something stands below a path. -/
def Under (n : Nat) (F : Nat → Fi) (p : ByteArray) : Prop := ∃ i, i < n ∧ HasPre (F i).p (p ++ ⟨#[47]⟩)
theorem blw_nil_iff {F : Nat → Fi} {h : ByteArray} {n : Nat} : blw F h n = [] ↔ ¬ ∃ i, i < n ∧ HasPre (F i).p h := by
  constructor
  · rintro e ⟨i, hi, hp⟩
    have := (blw_mem (n := n) (x := ((F i).p.extract h.size (F i).p.size, F i))).2 ⟨i, hi, hp, rfl⟩
    rw [e] at this
    cases this
  · intro hn
    cases e : blw F h n with
    | nil => rfl
    | cons x l =>
      have hx : x ∈ blw F h n := by rw [e]; simp
      obtain ⟨i, hi, hp, _⟩ := blw_mem.1 hx
      exact absurd ⟨i, hi, hp⟩ hn
theorem below_any (a : Option Addr) (n c : Nat) (q : ByteArray) (w : World) :
    Calls Tryz.prog 42 #[.slice a n c, .string q] w fun e w' => e = .returned (.func (.func 66) #[] #[.pointer (some ⟨w.heap.size + 1, 0, none⟩), .pointer (some ⟨w.heap.size, 0, none⟩)]) ∧ w' = (w.alloc (.cells #[.slice a n c] 23)).alloc (.cells #[.string q] 9) := by
  go_enter Tryz.func42, Tryz.ntmps42
  go_wp2
  go_ret
  exact ⟨rfl, rfl⟩
/-- Variables of one cell. -/
def Bx1 (w : World) (b : Nat) (v : Value) : Prop := w.cell? ⟨b, 0, none⟩ = some v ∧ w.frozen? ⟨b, 0, none⟩ = false
theorem Bx1.below {w w' : World} {b : Nat} {v : Value} (h : Bx1 w b v) (hb : Below w.heap.size w w') : Bx1 w' b v := ⟨(hb.cell (p := ⟨b, 0, none⟩) (strBlock h.1)).trans h.1, (hb.frozen (p := ⟨b, 0, none⟩) (strBlock h.1)).trans h.2⟩
theorem Bx1.new (W : World) (v : Value) (t : TypeId) : Bx1 (W.alloc (.cells #[v] t)) W.heap.size v := newC W v t
theorem Bx1.alloc {W : World} {b : Nat} {v : Value} (h : Bx1 W b v) (o : Obj) : Bx1 (W.alloc o) b v := ⟨keptC o h.1, keptZ o h.1 h.2⟩
theorem bx1_own {β : Type} (b : Nat) (v : Value) : Own (fun (_ : β) W => Bx1 W b v) := fun s A B row hs hg hr => ⟨cell_kept hs.1 hg hr, (frozen_kept hs.1 hg hr).trans hs.2⟩
theorem eo_own {β : Type} (B : Nat) (t : TypeId) (s : Nat) (v : Value) (n : Nat) (F : Nat → Nat → Value) : Own (fun (_ : β) W => EO W B t s v n F) := fun _ W W' row h hg hr => h.keep (fun g e => hg.block g (h.ge g e).2 (fun e' => by
  obtain ⟨o, ho, hc⟩ := hr g e'.symm
  obtain ⟨hl, ⟨h1, _⟩ | ⟨g', cap, cur, hv, _, hh, _⟩⟩ := h
  · rw [h1] at e; cases e
  · rw [hv] at e
    have q2 : g' = g := Option.some.inj e
    rw [← q2, hh] at ho
    cases ho
    cases hc))
theorem eo_heap {w : World} {B : Nat} {t : TypeId} {s : Nat} {v : Value} {n : Nat} {F : Nat → Nat → Value} (h : EO w B t s v n F) (g : Nat) (e : v.ownBlock = some g) : ∃ cur, w.heap[g]? = some (.cells cur t (0, 0)) := by
  obtain ⟨hl, ⟨h1, _⟩ | ⟨g', cap, cur, hv, _, hh, _⟩⟩ := h
  · rw [h1] at e; cases e
  · rw [hv] at e
    have q2 : g' = g := Option.some.inj e
    subst q2
    exact ⟨cur, hh⟩
theorem Bx1.ofBlock {w w' : World} {b : Nat} {v : Value} (h : Bx1 w b v) (e : w'.heap[b]? = w.heap[b]?) : Bx1 w' b v := ⟨(World.cell?_of_block (w := w) e).trans h.1, (World.frozen?_of_block (w := w) e).trans h.2⟩
theorem Bx1.lt {W : World} {b : Nat} {v : Value} (h : Bx1 W b v) : b < W.heap.size := strBlock h.1
theorem Bx1.set {W : World} {b : Nat} {v : Value} (h : Bx1 W b v) (u : Value) : Bx1 (W.setCell ⟨b, 0, none⟩ u) b u := ⟨World.cell?_setCell_same' _ _ _ (by rw [h.1]; rfl), by rw [World.frozen?_setCell]; exact h.2⟩
theorem Bx1.other {W : World} {b b' : Nat} {v : Value} (h : Bx1 W b v) (hne : b ≠ b') (u : Value) : Bx1 (W.setCell ⟨b', 0, none⟩ u) b v := by
  have e := Below.heap_setCell W ⟨b', 0, none⟩ u b hne
  exact ⟨(World.cell?_of_block (w := W) e).trans h.1, by rw [World.frozen?_setCell]; exact h.2⟩
theorem Bx1.putO {W : World} {b D : Nat} {v : Value} {o : Obj} (h : Bx1 W b v) (o' : Obj) (hD : W.heap[D]? = some o) (ho : o.isCells = false) : Bx1 (W.putObj D o') b v := ⟨cell_kept h.1 (grownBy_putObj' _ D o') (fun r e => by cases e; exact ⟨_, hD, ho⟩), (frozen_kept h.1 (grownBy_putObj' _ D o') (fun r e => by cases e; exact ⟨_, hD, ho⟩)).trans h.2⟩
end Go.Proofs.YtbdoablokoghbaaGreat
