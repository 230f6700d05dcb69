/-
  Disks: what they hold, as functions of places; whether one is right; what a block reads as.
-/
import Derived.Test.YtgdfhgepbamhmaaDoorStrS
import Derived.Test.YtgdfhgepbamhmaaDoorBox3
namespace Go.Proofs.YtgdfhgepbamhmaaDoor
open Go.ChangeShapes Go.WideShapes Go.ChangeAt Go.RowKit
/-- n writes behind a slice's address. -/
def Pens (w : World) (a : Option Addr) (n : Nat) (A : Nat → Int) (D : Nat → ByteArray) : Prop := ∀ i, i < n → ∃ b off, a = some ⟨b, off, none⟩ ∧ w.cell? ⟨b, off + i * 2, none⟩ = some (.int .i64 (A i)) ∧ w.cell? ⟨b, off + i * 2 + 1, none⟩ = some (.string (D i))
theorem Pens.opened {w : World} {a : Option Addr} {n : Nat} {A : Nat → Int} {D : Nat → ByteArray} (h : Pens w a n A D) (hn : 0 < n) :
    ∃ b off, a = some ⟨b, off, none⟩ ∧ ∀ i, i < n → w.cell? ⟨b, off + i * 2, none⟩ = some (.int .i64 (A i)) ∧ w.cell? ⟨b, off + i * 2 + 1, none⟩ = some (.string (D i)) := by
  obtain ⟨b, off, rfl, _⟩ := h 0 hn
  refine ⟨b, off, rfl, fun i hi => ?_⟩
  obtain ⟨b', off', hab, hc⟩ := h i hi
  cases hab
  exact hc
theorem Pens.below {w w' : World} {a : Option Addr} {n : Nat} {A : Nat → Int} {D : Nat → ByteArray} (h : Pens w a n A D) (hb : Below w.heap.size w w') : Pens w' a n A D := fun i hi => by
  obtain ⟨b, off, ha, hc, hd⟩ := h i hi
  exact ⟨b, off, ha, by rw [hb.cell (strBlock hc)]; exact hc, by rw [hb.cell (strBlock hd)]; exact hd⟩
theorem Pens.drewN {w : World} {a : Option Addr} {n : Nat} {A : Nat → Int} {D : Nat → ByteArray} (h : Pens w a n A D) (q : Nat) : Pens (w.drewN q) a n A D := fun i hi => by
  obtain ⟨b, off, ha, hc, hd⟩ := h i hi
  exact ⟨b, off, ha, by rw [World.cell?_drewN]; exact hc, by rw [World.cell?_drewN]; exact hd⟩
/-- What a disk holds. -/
structure Dk where
  nb : Nat
  B : Nat → ByteArray
  nc : Nat
  A : Nat → Int
  D : Nat → ByteArray
  ns : Nat
  S : Nat → ByteArray
/-- A disk is right. -/
structure Dk.Ok (d : Dk) : Prop where
  nb1 : 1 ≤ d.nb
  nb2 : d.nb ≤ 64
  nc : d.nc ≤ 4096
  ns : d.ns = 0 ∨ d.ns = d.nb
  B : ∀ i, i < d.nb → (d.B i).size ≤ 200
  C : ∀ i, i < d.nc → (0 ≤ d.A i ∧ d.A i < d.nb) ∧ (d.D i).size ≤ 200
  S : ∀ i, i < d.ns → (d.S i).size ≤ 200
open Classical in
noncomputable def Dk.ok (d : Dk) : Bool := decide d.Ok
theorem Dk.ok_true {d : Dk} (h : d.Ok) : d.ok = true := by unfold Dk.ok; simp [h]
theorem Dk.ok_false {d : Dk} (h : ¬ d.Ok) : d.ok = false := by unfold Dk.ok; simp [h]
/-- What a block reads as: the last of the first k writes to it, or what stood there. -/
def rdF (A : Nat → Int) (D : Nat → ByteArray) (b : ByteArray) (x : Int) : Nat → ByteArray
  | 0 => b
  | k + 1 => if A k = x then D k else rdF A D b x k
def Dk.rd (d : Dk) (x : Nat) : ByteArray := rdF d.A d.D (d.B x) (x : Int) d.nc
/-- The map of the last of the first k writes. -/
def lastM (A : Nat → Int) (D : Nat → ByteArray) : Nat → Int → Option Value
  | 0, _ => none
  | k + 1, x => if x = A k then some (.agg #[.int .i64 (A k), .string (D k)]) else lastM A D k x
theorem lastM_rd (A : Nat → Int) (D : Nat → ByteArray) (b : ByteArray) (x : Int) (k : Nat) : (lastM A D k x = none ∧ rdF A D b x k = b) ∨ lastM A D k x = some (.agg #[.int .i64 x, .string (rdF A D b x k)]) := by
  induction k with
  | zero => exact .inl ⟨rfl, rfl⟩
  | succ k ih =>
    unfold lastM rdF
    by_cases h : A k = x
    · right
      rw [if_pos h.symm, if_pos h, h]
    · rw [if_neg (fun e => h e.symm), if_neg h]
      exact ih
/-- A value is a disk that holds d. -/
def DiskV (w : World) (d : Dk) (a0 a1 a2 : Option Addr) : Prop := Strs w a0 d.nb d.B ∧ Pens w a1 d.nc d.A d.D ∧ Strs w a2 d.ns d.S
theorem DiskV.below {w w' : World} {d : Dk} {a0 a1 a2 : Option Addr} (h : DiskV w d a0 a1 a2) (hb : Below w.heap.size w w') : DiskV w' d a0 a1 a2 := ⟨h.1.below hb, h.2.1.below hb, h.2.2.below hb⟩
theorem DiskV.drewN {w : World} {d : Dk} {a0 a1 a2 : Option Addr} (h : DiskV w d a0 a1 a2) (q : Nat) : DiskV (w.drewN q) d a0 a1 a2 := ⟨h.1.drewN q, h.2.1.drewN q, h.2.2.drewN q⟩
/-- The variable in block g holds the error at p. -/
def ErrAt (w : World) (g : Nat) (p : Addr) : Prop := w.cell? ⟨g, 0, none⟩ = some (.iface 97 (.pointer (some p)))
theorem ErrAt.below {w w' : World} {g : Nat} {p : Addr} (h : ErrAt w g p) (hb : Below w.heap.size w w') : ErrAt w' g p := by
  unfold ErrAt at *
  rw [hb.cell (strBlock h)]; exact h
/-- The block of an error is a row of its own. -/
def ErrRow (w : World) (p : Addr) : Prop := ∃ c t, w.heap[p.block]? = some (.cells c t (0, 0))
theorem ErrRow.below {w w' : World} {p : Addr} (h : ErrRow w p) (hb : Below w.heap.size w w') : ErrRow w' p := by
  obtain ⟨c, t, hc⟩ := h
  exact ⟨c, t, (hb.block _ (Array.getElem?_eq_some_iff.1 hc).1).trans hc⟩
end Go.Proofs.YtgdfhgepbamhmaaDoor
