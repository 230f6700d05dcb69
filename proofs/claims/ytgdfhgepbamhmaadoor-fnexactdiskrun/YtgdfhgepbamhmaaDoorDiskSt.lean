/-
  A step of the program's disk.
-/
import Derived.Test.YtgdfhgepbamhmaaDoorDiskCp
import Derived.Test.YtgdfhgepbamhmaaDoorNewD
namespace Go.Proofs.YtgdfhgepbamhmaaDoor
open Go.ChangeShapes Go.WideShapes Go.ChangeAt Go.RowKit
set_option linter.unusedVariables false
theorem cell_alloc_at {w : World} {b : Nat} (hb : w.heap.size = b) (cs : Array Value) (t : TypeId) (i : Nat) : (w.alloc (.cells cs t)).cell? ⟨b, i, none⟩ = cs[i]? := by
  subst hb
  have h := (MapKept.heap_alloc w (.cells cs t)).1
  unfold World.cell?
  show (match (w.alloc (.cells cs t)).heap[w.heap.size]? with | some (.cells c _ _) => c[i]? | _ => none) = _
  rw [h]
def codeF : Nat → Int
  | 0 => 0
  | 1 => 4
  | 2 => 2
  | 3 => 7
  | 4 => 5
  | _ => 3
theorem rowOf_own {v : Value} {g : Nat} (h : v.ownBlock = some g) : rowOf v = g := by unfold rowOf; rw [h]
theorem TxR.own {w : World} {B : Nat} {v : Value} {n : Nat} {f : Nat → ByteArray} (h : TxR w B v n f) (hn : 0 < n) : v.ownBlock = some (rowOf v) := by
  obtain ⟨g, c, rfl, -⟩ := h.pos hn
  rfl
theorem PnR.own {w : World} {B : Nat} {v : Value} {n : Nat} {A : Nat → Int} {D : Nat → ByteArray} (h : PnR w B v n A D) (hn : 0 < n) : v.ownBlock = some (rowOf v) := by
  obtain ⟨g, c, rfl, -⟩ := h.pos hn
  rfl
theorem Rows3.rowD {w : World} {B : Nat} {d : Dk} {v0 v1 v2 : Value} (h : Rows3 w B d v0 v1 v2) : ∃ (a0 a1 a2 : Option Addr) (c0 c1 c2 g0 g1 g2 : Nat), v0 = .slice a0 d.nb c0 ∧ v1 = .slice a1 d.nc c1 ∧ v2 = .slice a2 d.ns c2 ∧ RowD w d a0 a1 a2 g0 g1 g2 ∧ (0 < d.nb → B ≤ g0) ∧ (0 < d.nc → B ≤ g1) ∧ (0 < d.ns → B ≤ g2) := by
  obtain ⟨a0, c0, e0, r0, b0, -⟩ := h.t0.form
  obtain ⟨a1, c1, e1, r1, b1, -⟩ := h.t1.form
  obtain ⟨a2, c2, e2, r2, b2, -⟩ := h.t2.form
  exact ⟨a0, a1, a2, c0, c1, c2, _, _, _, e0, e1, e2, ⟨r0, r1, r2, fun x y e => h.n01 _ (h.t0.own x) (e ▸ h.t1.own y), fun x y e => h.n02 _ (h.t0.own x) (e ▸ h.t2.own y), fun x y e => h.n12 _ (h.t1.own x) (e ▸ h.t2.own y)⟩, b0, b1, b2⟩
theorem Drv.rows {w : World} {B q b : Nat} {d : Dk} {v0 v1 v2 : Value} (h : Drv w B q b d v0 v1 v2) : Rows3 w B d v0 v1 v2 := ⟨h.t0, h.t1, h.t2, h.n01, h.n02, h.n12⟩
theorem diskCode_f (p0 p1 p2 p3 p4 : Addr) (n : Nat) (w : World) (h : Errs w p0 p1 p2 p3 p4) : Calls Tryd.prog 23 #[faultP p0 p1 p2 p3 p4 n] w fun e w' => e = .returned (.int .i64 (codeF n)) ∧ w = w' := by
  match n with
  | 0 => exact diskCode_nil p0 p1 p2 p3 p4 w h
  | 1 => exact diskCode_0 p0 p1 p2 p3 p4 w h
  | 2 => exact diskCode_1 p0 p1 p2 p3 p4 w h
  | 3 => exact diskCode_2 p0 p1 p2 p3 p4 w h
  | 4 => exact diskCode_3 p0 p1 p2 p3 p4 w h
  | n + 5 => exact diskCode_4 p0 p1 p2 p3 p4 w h
end Go.Proofs.YtgdfhgepbamhmaaDoor
