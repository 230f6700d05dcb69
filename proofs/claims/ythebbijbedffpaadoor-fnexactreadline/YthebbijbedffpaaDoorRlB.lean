/-
  Variables that hold a call on files, an act on a volume.
-/
import Derived.Test.YthebbijbedffpaaDoorEls
import Derived.Test.YthebbijbedffpaaDoorRetCell
namespace Go.Proofs.YthebbijbedffpaaDoor
open Go.ChangeShapes Go.WideShapes Go.ChangeAt Go.RowKit
set_option linter.unusedVariables false
/-- What a call holds. -/
structure Cl where
  k : Int
  a : Int
  n : Int
  p : ByteArray
  o : ByteArray
  d : ByteArray
def clZ : Cl := ⟨0, 0, 0, ⟨#[]⟩, ⟨#[]⟩, ⟨#[]⟩⟩
/-- The cells of a call. -/
def clV (x : Cl) (i : Nat) : Value := if i = 0 then .int .i64 x.k else if i = 1 then .int .i64 x.a else if i = 2 then .int .i64 x.n else if i = 3 then .string x.p else if i = 4 then .string x.o else .string x.d
def clA (x : Cl) : Value := .agg #[.int .i64 x.k, .int .i64 x.a, .int .i64 x.n, .string x.p, .string x.o, .string x.d]
/-- A variable that holds a call. -/
def ClB (w : World) (p : Nat) (x : Cl) : Prop := w.rowIs p 23 6 (clV x)
theorem ClB.c {w : World} {p : Nat} {x : Cl} (h : ClB w p x) : w.cell? ⟨p, 0, none⟩ = some (.int .i64 x.k) ∧ w.cell? ⟨p, 1, none⟩ = some (.int .i64 x.a) ∧ w.cell? ⟨p, 2, none⟩ = some (.int .i64 x.n) ∧ w.cell? ⟨p, 3, none⟩ = some (.string x.p) ∧ w.cell? ⟨p, 4, none⟩ = some (.string x.o) ∧ w.cell? ⟨p, 5, none⟩ = some (.string x.d) := ⟨World.rowIs.cell h (i := 0) (by omega), World.rowIs.cell h (i := 1) (by omega), World.rowIs.cell h (i := 2) (by omega), World.rowIs.cell h (i := 3) (by omega), World.rowIs.cell h (i := 4) (by omega), World.rowIs.cell h (i := 5) (by omega)⟩
theorem ClB.fr {w : World} {p : Nat} {x : Cl} (h : ClB w p x) (i : Nat) : w.frozen? ⟨p, i, none⟩ = false := World.rowIs.frozen h i
theorem ClB.ofBlock {w w' : World} {p : Nat} {x : Cl} (h : ClB w p x) (e : w'.heap[p]? = w.heap[p]?) : ClB w' p x := World.rowIs.of_block h e
theorem ClB.lt {w : World} {p : Nat} {x : Cl} (h : ClB w p x) : p < w.heap.size := World.rowIs.lt h
theorem ClB.onlyB {w w' : World} {p g : Nat} {x : Cl} (h : ClB w p x) (ho : OnlyB g w w') (hne : p ≠ g) : ClB w' p x := h.ofBlock (ho.block p h.lt hne)
theorem ClB.below {w w' : World} {p : Nat} {x : Cl} (h : ClB w p x) (hb : Below w.heap.size w w') : ClB w' p x := h.ofBlock (hb.block p h.lt)
theorem ClB.madeOf {w : World} {p : Nat} {x : Cl} (hp : w.heap.size = p) : ClB (w.alloc (.cells #[.int .i64 x.k, .int .i64 x.a, .int .i64 x.n, .string x.p, .string x.o, .string x.d] 23)) p x := by
  subst hp
  exact World.rowIs_alloc w _ _ _ (fun i hi => by
    rcases (show i = 0 ∨ i = 1 ∨ i = 2 ∨ i = 3 ∨ i = 4 ∨ i = 5 by simp at hi; omega) with rfl | rfl | rfl | rfl | rfl | rfl <;> rfl)
/-- The world behind a store of x. -/
def clSt (w : World) (p : Nat) (x : Cl) : World := (((((w.setCell ⟨p, 0, none⟩ (.int .i64 x.k)).setCell ⟨p, 1, none⟩ (.int .i64 x.a)).setCell ⟨p, 2, none⟩ (.int .i64 x.n)).setCell ⟨p, 3, none⟩ (.string x.p)).setCell ⟨p, 4, none⟩ (.string x.o)).setCell ⟨p, 5, none⟩ (.string x.d)
theorem clSt_block {w : World} {p b : Nat} {x : Cl} (h : b ≠ p) : (clSt w p x).heap[b]? = w.heap[b]? := by
  unfold clSt
  rw [Below.heap_setCell _ ⟨p, 5, none⟩ _ b h, Below.heap_setCell _ ⟨p, 4, none⟩ _ b h, Below.heap_setCell _ ⟨p, 3, none⟩ _ b h, Below.heap_setCell _ ⟨p, 2, none⟩ _ b h, Below.heap_setCell _ ⟨p, 1, none⟩ _ b h, Below.heap_setCell _ ⟨p, 0, none⟩ _ b h]
theorem ClB.st {w : World} {p : Nat} {y : Cl} (h : ClB w p y) (x : Cl) : ClB (clSt w p x) p x := by
  refine World.rowIs.congr (World.rowIs.set (World.rowIs.set (World.rowIs.set (World.rowIs.set (World.rowIs.set (World.rowIs.set h 0 (.int .i64 x.k)) 1 (.int .i64 x.a)) 2 (.int .i64 x.n)) 3 (.string x.p)) 4 (.string x.o)) 5 (.string x.d)) (fun i hi => ?_)
  rcases (show i = 0 ∨ i = 1 ∨ i = 2 ∨ i = 3 ∨ i = 4 ∨ i = 5 by omega) with rfl | rfl | rfl | rfl | rfl | rfl <;> rfl
theorem OnlyB.setNewC {b p : Nat} {w w' : World} (h : OnlyB b w w') (hp : w.heap.size ≤ p) (i : Nat) (v : Value) : OnlyB b w (w'.setCell ⟨p, i, none⟩ v) := ⟨h.os, h.tape, h.output, by simpa using h.size, fun k hk hn => (Below.heap_setCell w' ⟨p, i, none⟩ v k (by dsimp only; omega)).trans (h.block k hk hn)⟩
theorem OnlyB.clSt {b p : Nat} {w w' : World} (h : OnlyB b w w') (hp : w.heap.size ≤ p) (x : Cl) : OnlyB b w (clSt w' p x) := (((((h.setNewC hp 0 _).setNewC hp 1 _).setNewC hp 2 _).setNewC hp 3 _).setNewC hp 4 _).setNewC hp 5 _
theorem clSt_below {B p : Nat} {w w' : World} (h : Below B w w') (hp : B ≤ p) (x : Cl) : Below B w (clSt w' p x) := (((((h.setCell hp _).setCell hp _).setCell hp _).setCell hp _).setCell hp _).setCell hp _
theorem ClB.load {w : World} {p : Nat} {x : Cl} (h : ClB w p x) : (loadVar 23 ⟨p, 0, none⟩).run Tryd.prog w = .ok (.agg #[.int .i64 x.k, .int .i64 x.a, .int .i64 x.n, .string x.p, .string x.o, .string x.d]) w := by
  obtain ⟨h0, h1, h2, h3, h4, h5⟩ := h.c
  go_simp
/-- The 14 cells of an act. -/
def vaC (k c : Int) (x : Cl) (i : Nat) : Value := if i = 0 then .int .i64 k else if i = 1 then .int .i64 0 else if i = 2 then .int .i64 c else if i = 3 then .int .i64 x.k else if i = 4 then .int .i64 x.a else if i = 5 then .int .i64 x.n else if i = 6 then .string x.p else if i = 7 then .string x.o else if i = 8 then .string x.d else if i = 9 then .string ⟨#[]⟩ else if i = 10 then .slice none 0 0 else if i = 11 then .int .i64 0 else .bool false
/-- An act on a volume, as lines tell it. -/
def vaV (k c : Int) (x : Cl) : Value := .agg #[.int .i64 k, .int .i64 0, .int .i64 c, .int .i64 x.k, .int .i64 x.a, .int .i64 x.n, .string x.p, .string x.o, .string x.d, .string ⟨#[]⟩, .slice none 0 0, .int .i64 0, .bool false, .bool false]
def VaB (w : World) (b : Nat) (k c : Int) (x : Cl) : Prop := w.rowIs b 26 14 (vaC k c x)
theorem VaB.c {w : World} {b : Nat} {k c : Int} {x : Cl} (h : VaB w b k c x) : w.cell? ⟨b, 0, none⟩ = some (.int .i64 k) ∧ w.cell? ⟨b, 1, none⟩ = some (.int .i64 0) ∧ w.cell? ⟨b, 2, none⟩ = some (.int .i64 c) ∧ w.cell? ⟨b, 3, none⟩ = some (.int .i64 x.k) ∧ w.cell? ⟨b, 4, none⟩ = some (.int .i64 x.a) ∧ w.cell? ⟨b, 5, none⟩ = some (.int .i64 x.n) ∧ w.cell? ⟨b, 6, none⟩ = some (.string x.p) ∧ w.cell? ⟨b, 7, none⟩ = some (.string x.o) ∧ w.cell? ⟨b, 8, none⟩ = some (.string x.d) ∧ w.cell? ⟨b, 9, none⟩ = some (.string ⟨#[]⟩) ∧ w.cell? ⟨b, 10, none⟩ = some (.slice none 0 0) ∧ w.cell? ⟨b, 11, none⟩ = some (.int .i64 0) ∧ w.cell? ⟨b, 12, none⟩ = some (.bool false) ∧ w.cell? ⟨b, 13, none⟩ = some (.bool false) :=
  ⟨World.rowIs.cell h (i := 0) (by omega), World.rowIs.cell h (i := 1) (by omega), World.rowIs.cell h (i := 2) (by omega), World.rowIs.cell h (i := 3) (by omega), World.rowIs.cell h (i := 4) (by omega), World.rowIs.cell h (i := 5) (by omega), World.rowIs.cell h (i := 6) (by omega), World.rowIs.cell h (i := 7) (by omega), World.rowIs.cell h (i := 8) (by omega), World.rowIs.cell h (i := 9) (by omega), World.rowIs.cell h (i := 10) (by omega), World.rowIs.cell h (i := 11) (by omega), World.rowIs.cell h (i := 12) (by omega), World.rowIs.cell h (i := 13) (by omega)⟩
theorem VaB.fr {w : World} {b : Nat} {k c : Int} {x : Cl} (h : VaB w b k c x) (i : Nat) : w.frozen? ⟨b, i, none⟩ = false := World.rowIs.frozen h i
theorem VaB.lt {w : World} {b : Nat} {k c : Int} {x : Cl} (h : VaB w b k c x) : b < w.heap.size := World.rowIs.lt h
theorem VaB.ofBlock {w w' : World} {b : Nat} {k c : Int} {x : Cl} (h : VaB w b k c x) (e : w'.heap[b]? = w.heap[b]?) : VaB w' b k c x := World.rowIs.of_block h e
theorem VaB.onlyB {w w' : World} {b g : Nat} {k c : Int} {x : Cl} (h : VaB w b k c x) (ho : OnlyB g w w') (hne : b ≠ g) : VaB w' b k c x := h.ofBlock (ho.block b h.lt hne)
theorem VaB.below {w w' : World} {b : Nat} {k c : Int} {x : Cl} (h : VaB w b k c x) (hb : Below w.heap.size w w') : VaB w' b k c x := h.ofBlock (hb.block b h.lt)
theorem VaB.load {w : World} {b : Nat} {k c : Int} {x : Cl} (h : VaB w b k c x) : (loadVar 26 ⟨b, 0, none⟩).run Tryd.prog w = .ok (vaV k c x) w := by
  obtain ⟨h0, h1, h2, h3, h4, h5, h6, h7, h8, h9, h10, h11, h12, h13⟩ := h.c
  unfold vaV
  go_simp
theorem VaB.there {w : World} {b : Nat} {k c : Int} {x : Cl} (h : VaB w b k c x) : w.there b 0 14 := fun j hj => by
  rw [Nat.zero_add]
  exact ⟨by rw [World.rowIs.cell h hj]; rfl, h.fr j⟩
theorem ClB.there {w : World} {b : Nat} {x : Cl} (h : ClB w b x) : w.there b 0 6 := fun j hj => by
  rw [Nat.zero_add]
  exact ⟨by rw [World.rowIs.cell h hj]; rfl, h.fr j⟩
/-- What is stored of an act. -/
def vaL (k c : Int) (x : Cl) : List Value := [.int .i64 k, .int .i64 0, .int .i64 c, .int .i64 x.k, .int .i64 x.a, .int .i64 x.n, .string x.p, .string x.o, .string x.d, .string ⟨#[]⟩, .slice none 0 0, .int .i64 0, .bool false, .bool false]
theorem VaB.st {w : World} {b : Nat} {k c : Int} {x : Cl} (h : VaB w b k c x) (k' c' : Int) (y : Cl) : VaB (w.setCells b 0 (vaL k' c' y)) b k' c' y := by
  refine World.rowIs.congr (World.rowIs.set (World.rowIs.set (World.rowIs.set (World.rowIs.set (World.rowIs.set (World.rowIs.set (World.rowIs.set (World.rowIs.set (World.rowIs.set (World.rowIs.set (World.rowIs.set (World.rowIs.set (World.rowIs.set (World.rowIs.set h 0 (vaC k' c' y 0)) 1 (vaC k' c' y 1)) 2 (vaC k' c' y 2)) 3 (vaC k' c' y 3)) 4 (vaC k' c' y 4)) 5 (vaC k' c' y 5)) 6 (vaC k' c' y 6)) 7 (vaC k' c' y 7)) 8 (vaC k' c' y 8)) 9 (vaC k' c' y 9)) 10 (vaC k' c' y 10)) 11 (vaC k' c' y 11)) 12 (vaC k' c' y 12)) 13 (vaC k' c' y 13)) (fun i hi => ?_)
  rcases (show i = 0 ∨ i = 1 ∨ i = 2 ∨ i = 3 ∨ i = 4 ∨ i = 5 ∨ i = 6 ∨ i = 7 ∨ i = 8 ∨ i = 9 ∨ i = 10 ∨ i = 11 ∨ i = 12 ∨ i = 13 by omega) with rfl | rfl | rfl | rfl | rfl | rfl | rfl | rfl | rfl | rfl | rfl | rfl | rfl | rfl <;> rfl
theorem VaB.made {w : World} {b : Nat} (hp : w.heap.size = b) : VaB (w.alloc (.cells #[.int .i64 0, .int .i64 0, .int .i64 0, .int .i64 0, .int .i64 0, .int .i64 0, .string ⟨#[]⟩, .string ⟨#[]⟩, .string ⟨#[]⟩, .string ⟨#[]⟩, .slice none 0 0, .int .i64 0, .bool false, .bool false] 26)) b 0 0 clZ := by
  subst hp
  exact World.rowIs_alloc w _ _ _ (fun i hi => by
    rcases (show i = 0 ∨ i = 1 ∨ i = 2 ∨ i = 3 ∨ i = 4 ∨ i = 5 ∨ i = 6 ∨ i = 7 ∨ i = 8 ∨ i = 9 ∨ i = 10 ∨ i = 11 ∨ i = 12 ∨ i = 13 by simp at hi; omega) with rfl | rfl | rfl | rfl | rfl | rfl | rfl | rfl | rfl | rfl | rfl | rfl | rfl | rfl <;> rfl)
theorem vaL_below {B b : Nat} {w w' : World} (h : Below B w w') (hb : B ≤ b) (k c : Int) (x : Cl) : Below B w (w'.setCells b 0 (vaL k c x)) := (((((((((((((h.setCell hb _).setCell hb _).setCell hb _).setCell hb _).setCell hb _).setCell hb _).setCell hb _).setCell hb _).setCell hb _).setCell hb _).setCell hb _).setCell hb _).setCell hb _).setCell hb _
theorem Tryd.sizeVa : (Tryd.prog.info? 26).map (·.size) = some 14 := by kernel_rfl
theorem Tryd.sizeCl : (Tryd.prog.info? 23).map (·.size) = some 6 := by kernel_rfl
theorem oneVa (k c : Int) (x : Cl) : ((vaL k c x).toArray.all (·.oneCell')) = true := by simp [vaL, Value.oneCell']
end Go.Proofs.YthebbijbedffpaaDoor
