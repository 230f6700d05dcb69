/-
  Slices of elements of s cells each, told by a function of the element and of the cell; rows of them that may be written; what a mark leaves alone.
-/
import Derived.Test.YthebbijbedffpaaDoorStrS
namespace Go.Proofs.YthebbijbedffpaaDoor
open Go.ChangeShapes Go.WideShapes Go.ChangeAt Go.RowKit
/-- n elements of s cells behind a slice's address. -/
def Els (w : World) (s : Nat) (a : Option Addr) (n : Nat) (F : Nat → Nat → Value) : Prop := ∀ i, i < n → ∃ b off, a = some ⟨b, off, none⟩ ∧ ∀ j, j < s → w.cell? ⟨b, off + i * s + j, none⟩ = some (F i j)
theorem Els.opened {w : World} {s : Nat} {a : Option Addr} {n : Nat} {F : Nat → Nat → Value} (h : Els w s a n F) (hn : 0 < n) :
    ∃ b off, a = some ⟨b, off, none⟩ ∧ ∀ i, i < n → ∀ j, j < s → w.cell? ⟨b, off + i * s + j, none⟩ = some (F i j) := by
  obtain ⟨b, off, rfl, _⟩ := h 0 hn
  refine ⟨b, off, rfl, fun i hi => ?_⟩
  obtain ⟨b', off', hab, hc⟩ := h i hi
  cases hab
  exact hc
theorem Els.below {w w' : World} {s : Nat} {a : Option Addr} {n : Nat} {F : Nat → Nat → Value} (h : Els w s a n F) (hb : Below w.heap.size w w') : Els w' s a n F := fun i hi => by
  obtain ⟨b, off, ha, hc⟩ := h i hi
  exact ⟨b, off, ha, fun j hj => by rw [hb.cell (strBlock (hc j hj))]; exact hc j hj⟩
theorem Els.drewN {w : World} {s : Nat} {a : Option Addr} {n : Nat} {F : Nat → Nat → Value} (h : Els w s a n F) (q : Nat) : Els (w.drewN q) s a n F := fun i hi => by
  obtain ⟨b, off, ha, hc⟩ := h i hi
  exact ⟨b, off, ha, fun j hj => by rw [World.cell?_drewN]; exact hc j hj⟩
theorem Els.congr {w : World} {s : Nat} {a : Option Addr} {n : Nat} {F G : Nat → Nat → Value} (h : Els w s a n F) (e : ∀ i, i < n → ∀ j, j < s → F i j = G i j) : Els w s a n G := fun i hi => by
  obtain ⟨b, off, ha, hc⟩ := h i hi
  exact ⟨b, off, ha, fun j hj => by rw [← e i hi j hj]; exact hc j hj⟩
theorem Els.less {w : World} {s : Nat} {a : Option Addr} {n m : Nat} {F : Nat → Nat → Value} (h : Els w s a n F) (hm : m ≤ n) : Els w s a m F := fun i hi => h i (by omega)
/-- .. in block g from its head on, and it may be written. -/
structure RowE (w : World) (s : Nat) (a : Option Addr) (g n : Nat) (F : Nat → Nat → Value) : Prop where
  a : 0 < n → a = some ⟨g, 0, none⟩
  c : ∀ i, i < n → ∀ j, j < s → w.cell? ⟨g, i * s + j, none⟩ = some (F i j)
  z : ∀ i, i < n * s → w.frozen? ⟨g, i, none⟩ = false
theorem cellE {w w' : World} {g i : Nat} (e : w'.heap[g]? = w.heap[g]?) : w'.cell? ⟨g, i, none⟩ = w.cell? ⟨g, i, none⟩ := by simp [World.cell?, e]
theorem frozenE {w w' : World} {g i : Nat} (e : w'.heap[g]? = w.heap[g]?) : w'.frozen? ⟨g, i, none⟩ = w.frozen? ⟨g, i, none⟩ := by simp [World.frozen?, e]
theorem posE {n s : Nat} {i : Nat} (h : i < n * s) : 0 < n := by
  rcases Nat.eq_zero_or_pos n with rfl | q
  · omega
  · exact q
theorem RowE.ofBlock {w w' : World} {s : Nat} {a : Option Addr} {g n : Nat} {F : Nat → Nat → Value} (h : RowE w s a g n F) (e : 0 < n → w'.heap[g]? = w.heap[g]?) : RowE w' s a g n F :=
  ⟨h.a, fun i hi j hj => by rw [cellE (e (by omega))]; exact h.c i hi j hj, fun i hi => by rw [frozenE (e (posE hi))]; exact h.z i hi⟩
theorem RowE.lt {w : World} {s : Nat} {a : Option Addr} {g n : Nat} {F : Nat → Nat → Value} (h : RowE w s a g n F) (hs : 0 < s) (hn : 0 < n) : g < w.heap.size := strBlock (h.c 0 hn 0 hs)
theorem RowE.below {w w' : World} {s : Nat} {a : Option Addr} {g n : Nat} {F : Nat → Nat → Value} (h : RowE w s a g n F) (hs : 0 < s) (hb : Below w.heap.size w w') : RowE w' s a g n F := h.ofBlock (fun hn => hb.block g (h.lt hs hn))
theorem RowE.onlyB {w w' : World} {s : Nat} {a : Option Addr} {g b n : Nat} {F : Nat → Nat → Value} (h : RowE w s a g n F) (hs : 0 < s) (ho : OnlyB b w w') (hne : 0 < n → g ≠ b) : RowE w' s a g n F := h.ofBlock (fun hn => ho.block g (h.lt hs hn) (hne hn))
theorem RowE.congr {w : World} {s : Nat} {a : Option Addr} {g n : Nat} {F G : Nat → Nat → Value} (h : RowE w s a g n F) (e : ∀ i, i < n → ∀ j, j < s → F i j = G i j) : RowE w s a g n G := ⟨h.a, fun i hi j hj => by rw [← e i hi j hj]; exact h.c i hi j hj, h.z⟩
theorem RowE.els {w : World} {s : Nat} {a : Option Addr} {g n : Nat} {F : Nat → Nat → Value} (h : RowE w s a g n F) : Els w s a n F := fun i hi => ⟨g, 0, h.a (by omega), fun j hj => by rw [Nat.zero_add]; exact h.c i hi j hj⟩
theorem RowE.nil (w : World) (s : Nat) (a : Option Addr) (g : Nat) (F : Nat → Nat → Value) : RowE w s a g 0 F := ⟨fun h => absurd h (by omega), fun i hi => absurd hi (by omega), fun i hi => absurd (posE hi) (by omega)⟩
theorem divE {s i j : Nat} (hj : j < s) : (i * s + j) / s = i ∧ (i * s + j) % s = j := by
  have hs : 0 < s := by omega
  constructor
  · rw [Nat.mul_comm, Nat.mul_add_div hs, Nat.div_eq_of_lt hj, Nat.add_zero]
  · rw [Nat.mul_comm, Nat.mul_add_mod, Nat.mod_eq_of_lt hj]
theorem ltE {s i j n : Nat} (hi : i < n) (hj : j < s) : i * s + j < n * s := by
  have : (i + 1) * s ≤ n * s := Nat.mul_le_mul_right s hi
  rw [Nat.add_mul, Nat.one_mul] at this
  omega
theorem RowE.ofRow {w : World} {s g n m : Nat} {t : TypeId} {f : Nat → Value} {F : Nat → Nat → Value} (h : w.rowIs g t m f) (hm : n * s ≤ m) (e : ∀ i, i < n → ∀ j, j < s → f (i * s + j) = F i j) : RowE w s (some ⟨g, 0, none⟩) g n F :=
  ⟨fun _ => rfl, fun i hi j hj => by rw [World.rowIs.cell h (Nat.lt_of_lt_of_le (ltE hi hj) hm), e i hi j hj], fun i hi => World.rowIs.frozen h i⟩
theorem RowE.made (w : World) (s n : Nat) (zs : Array Value) (t : TypeId) (hs : zs.size = s) (F : Nat → Nat → Value) (e : ∀ i j, j < s → some (F i j) = zs[j]?) :
    RowE (w.alloc (.cells (madeCells zs (n * s)) t)) s (some ⟨w.heap.size, 0, none⟩) w.heap.size n F := by
  have R : (w.alloc (.cells (madeCells zs (n * s)) t)).rowIs w.heap.size t (n * s) (fun k => F (k / s) (k % s)) :=
    ⟨_, (MapKept.heap_alloc w _).1, size_madeCells _ _, fun i hi => by
      have hp : 0 < s := by
        rcases Nat.eq_zero_or_pos s with rfl | q
        · omega
        · exact q
      have hm : i % s < zs.size := by rw [hs]; exact Nat.mod_lt _ hp
      have h1 := e (i / s) (i % s) (Nat.mod_lt _ hp)
      rw [Array.getElem?_eq_getElem hm] at h1
      injection h1 with h1
      simp only [h1]
      simp [madeCells, hi, hs]
      exact getElem!_pos zs (i % s) hm⟩
  exact RowE.ofRow R (Nat.le_refl _) (fun i hi j hj => by rw [(divE hj).1, (divE hj).2])
/-- F with cell l of element k changed. -/
def setF (F : Nat → Nat → Value) (k l : Nat) (v : Value) (i j : Nat) : Value := if i = k ∧ j = l then v else F i j
theorem offE {s i j k l : Nat} (hj : j < s) (hl : l < s) (h : i * s + j = k * s + l) : i = k ∧ j = l := by
  have h1 := (divE (i := i) hj).1
  have h2 := (divE (i := i) hj).2
  rw [h, (divE hl).1] at h1
  rw [h, (divE hl).2] at h2
  exact ⟨h1.symm, h2.symm⟩
theorem RowE.set {w : World} {s : Nat} {a : Option Addr} {g n : Nat} {F : Nat → Nat → Value} (h : RowE w s a g n F) (k l : Nat) (hl : l < s) (v : Value) : RowE (w.setCell ⟨g, k * s + l, none⟩ v) s a g n (setF F k l v) :=
  ⟨h.a, fun i hi j hj => by
    unfold setF
    by_cases e : i = k ∧ j = l
    · rw [if_pos e, e.1, e.2]
      have := h.c i hi j hj
      rw [e.1, e.2] at this
      exact World.cell?_setCell_same _ _ _ this
    · rw [if_neg e]
      exact (World.cell?_setCell_other _ ⟨g, k * s + l, none⟩ ⟨g, i * s + j, none⟩ _ (fun q => e (offE hj hl (congrArg Addr.off q).symm))).trans (h.c i hi j hj), fun i hi => by rw [World.frozen?_setCell]; exact h.z i hi⟩
theorem RowE.setOther {w : World} {s : Nat} {a : Option Addr} {g n : Nat} {F : Nat → Nat → Value} (h : RowE w s a g n F) {p : Addr} (hp : 0 < n → g ≠ p.block) (v : Value) : RowE (w.setCell p v) s a g n F :=
  ⟨h.a, fun i hi j hj => (World.cell?_setCell_other _ p ⟨g, i * s + j, none⟩ _ (fun q => hp (by omega) (congrArg Addr.block q).symm)).trans (h.c i hi j hj), fun i hi => by rw [World.frozen?_setCell]; exact h.z i hi⟩
/-- Only block g has changed, and nothing if there are none. -/
def TurnedE (g n : Nat) (w w' : World) : Prop := OnlyB g w w' ∧ (n = 0 → Below w.heap.size w w')
theorem TurnedE.refl (g n : Nat) (w : World) : TurnedE g n w w := ⟨OnlyB.refl _ _, fun _ => Below.refl _ _⟩
theorem TurnedE.block {g n b : Nat} {w w' : World} (h : TurnedE g n w w') (hb : b < w.heap.size) (hne : 0 < n → b ≠ g) : w'.heap[b]? = w.heap[b]? := by
  rcases Nat.eq_zero_or_pos n with q | q
  · exact (h.2 q).block b hb
  · exact h.1.block b hb (hne q)
theorem TurnedE.toBelow {g n B : Nat} {w w' : World} (h : TurnedE g n w w') (hB : 0 < n → B ≤ g) (hw : B ≤ w.heap.size) : Below B w w' := by
  rcases Nat.eq_zero_or_pos n with q | q
  · exact (h.2 q).mono hw
  · exact h.1.toBelow (hB q) hw
theorem RowE.turned {w w' : World} {s : Nat} {a : Option Addr} {g n b m : Nat} {F : Nat → Nat → Value} (h : RowE w s a g n F) (hs : 0 < s) (ho : TurnedE b m w w') (hne : 0 < n → 0 < m → g ≠ b) : RowE w' s a g n F := h.ofBlock (fun hn => ho.block (h.lt hs hn) (hne hn))
/-- A variable of two cells. -/
def Box2 (w : World) (b : Nat) (t : TypeId) (x y : Value) : Prop := w.rowIs b t 2 (fun i => if i = 0 then x else y)
theorem Box2.c0 {w : World} {b : Nat} {t : TypeId} {x y : Value} (h : Box2 w b t x y) : w.cell? ⟨b, 0, none⟩ = some x := World.rowIs.cell h (i := 0) (by omega)
theorem Box2.c1 {w : World} {b : Nat} {t : TypeId} {x y : Value} (h : Box2 w b t x y) : w.cell? ⟨b, 1, none⟩ = some y := World.rowIs.cell h (i := 1) (by omega)
theorem Box2.fr {w : World} {b : Nat} {t : TypeId} {x y : Value} (h : Box2 w b t x y) (i : Nat) : w.frozen? ⟨b, i, none⟩ = false := World.rowIs.frozen h i
theorem Box2.lt {w : World} {b : Nat} {t : TypeId} {x y : Value} (h : Box2 w b t x y) : b < w.heap.size := World.rowIs.lt h
theorem Box2.ofBlock {w w' : World} {b : Nat} {t : TypeId} {x y : Value} (h : Box2 w b t x y) (e : w'.heap[b]? = w.heap[b]?) : Box2 w' b t x y := World.rowIs.of_block h e
theorem Box2.below {w w' : World} {b : Nat} {t : TypeId} {x y : Value} (h : Box2 w b t x y) (hb : Below w.heap.size w w') : Box2 w' b t x y := h.ofBlock (hb.block b h.lt)
theorem Box2.onlyB {w w' : World} {b g : Nat} {t : TypeId} {x y : Value} (h : Box2 w b t x y) (ho : OnlyB g w w') (hne : b ≠ g) : Box2 w' b t x y := h.ofBlock (ho.block b h.lt hne)
theorem Box2.turned {w w' : World} {b g n : Nat} {t : TypeId} {x y : Value} (h : Box2 w b t x y) (ho : TurnedE g n w w') (hne : 0 < n → b ≠ g) : Box2 w' b t x y := h.ofBlock (ho.block h.lt hne)
theorem Box2.made (w : World) (t : TypeId) (x y : Value) : Box2 (w.alloc (.cells #[x, y] t)) w.heap.size t x y := World.rowIs_alloc w #[x, y] t _ (fun i hi => by
  rcases (show i = 0 ∨ i = 1 by simp at hi; omega) with rfl | rfl <;> rfl)
theorem Box2.madeAt {w : World} {b : Nat} (hb : w.heap.size = b) (t : TypeId) (x y : Value) : Box2 (w.alloc (.cells #[x, y] t)) b t x y := by subst hb; exact Box2.made w t x y
theorem Box2.alloc {w : World} {b : Nat} {t : TypeId} {x y : Value} (h : Box2 w b t x y) (o : Obj) : Box2 (w.alloc o) b t x y := World.rowIs.alloc h o
theorem Box2.set0 {w : World} {b : Nat} {t : TypeId} {x y : Value} (h : Box2 w b t x y) (v : Value) : Box2 (w.setCell ⟨b, 0, none⟩ v) b t v y := World.rowIs.congr (World.rowIs.set h 0 v) (fun i hi => by
  rcases (show i = 0 ∨ i = 1 by omega) with rfl | rfl <;> rfl)
theorem Box2.set1 {w : World} {b : Nat} {t : TypeId} {x y : Value} (h : Box2 w b t x y) (v : Value) : Box2 (w.setCell ⟨b, 1, none⟩ v) b t x v := World.rowIs.congr (World.rowIs.set h 1 v) (fun i hi => by
  rcases (show i = 0 ∨ i = 1 by omega) with rfl | rfl <;> rfl)
theorem Box2.other {w : World} {b : Nat} {t : TypeId} {x y : Value} (h : Box2 w b t x y) {a : Addr} (ha : b ≠ a.block) (v : Value) : Box2 (w.setCell a v) b t x y := World.rowIs.setOther h ha v
end Go.Proofs.YthebbijbedffpaaDoor
