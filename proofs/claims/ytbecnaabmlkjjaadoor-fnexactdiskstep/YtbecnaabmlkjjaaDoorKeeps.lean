/-
  What marks leave alone: blocks below one number and from another on.
-/
import Derived.Test.YtbecnaabmlkjjaaDoorActMk
import Derived.Lib.LazyBuf
import Derived.Deep.MidRow
import Derived.Deep.Cut
import Derived.Deep.CutRange
import Derived.Deep.DeepCutAuto
import Derived.Test.YtbecnaabmlkjjaaDoorAnyH
namespace Go.Proofs.YtbecnaabmlkjjaaDoor
open Go.ChangeShapes Go.WideShapes Go.ChangeAt Go.RowKit
set_option linter.unusedVariables false
/-- What lies below lo, or from hi on, is as it was. -/
def KeepR (lo hi : Nat) (w w' : World) : Prop := ∀ b, b < w.heap.size → (b < lo ∨ hi ≤ b) → w'.heap[b]? = w.heap[b]?
theorem LtD.mono {d : Dk} {g0 g1 g2 n m : Nat} (h : LtD d g0 g1 g2 n) (q : n ≤ m) : LtD d g0 g1 g2 m := ⟨fun z => Nat.lt_of_lt_of_le (h.1 z) q, fun z => Nat.lt_of_lt_of_le (h.2.1 z) q, fun z => Nat.lt_of_lt_of_le (h.2.2 z) q⟩
theorem GeD.mono {d : Dk} {g0 g1 g2 n m : Nat} (h : GeD d g0 g1 g2 n) (q : m ≤ n) : GeD d g0 g1 g2 m := ⟨fun z => Nat.le_trans q (h.1 z), fun z => Nat.le_trans q (h.2.1 z), fun z => Nat.le_trans q (h.2.2 z)⟩
theorem KeepG.keepR {w w' : World} {d : Dk} {g0 g1 g2 lo hi : Nat} (hk : KeepG w w' d g0 g1 g2) (h0 : GeD d g0 g1 g2 lo) (h1 : LtD d g0 g1 g2 hi) : KeepR lo hi w w' := fun b hb q => hk b hb (fun z => by have := h0.1 z; have := h1.1 z; omega) (fun z => by have := h0.2.1 z; have := h1.2.1 z; omega) (fun z => by have := h0.2.2 z; have := h1.2.2 z; omega)
theorem OnlyB.keepR {g : Nat} {w w' : World} (h : OnlyB g w w') : KeepR g (g + 1) w w' := fun b hb q => h.block b hb (by omega)
theorem RowD.keepR {w w' : World} {d : Dk} {a0 a1 a2 : Option Addr} {g0 g1 g2 lo hi : Nat} (h : RowD w d a0 a1 a2 g0 g1 g2) (hk : KeepR lo hi w w') (q : LtD d g0 g1 g2 lo ∨ GeD d g0 g1 g2 hi) : RowD w' d a0 a1 a2 g0 g1 g2 :=
  h.ofBlocks (fun z => hk _ (h.s0.lt z) (q.imp (fun q => q.1 z) (fun q => q.1 z))) (fun z => hk _ (h.s1.lt z) (q.imp (fun q => q.2.1 z) (fun q => q.2.1 z))) (fun z => hk _ (h.s2.lt z) (q.imp (fun q => q.2.2 z) (fun q => q.2.2 z)))
theorem Box3.keepR {w w' : World} {b lo hi : Nat} {t : TypeId} {x y z : Value} (h : Box3 w b t x y z) (hk : KeepR lo hi w w') (q : b < lo ∨ hi ≤ b) : Box3 w' b t x y z := h.ofBlock (hk b h.lt q)
theorem Box5.keepR {w w' : World} {b lo hi : Nat} {t : TypeId} {x0 x1 x2 x3 x4 : Value} (h : Box5 w b t x0 x1 x2 x3 x4) (hk : KeepR lo hi w w') (q : b < lo ∨ hi ≤ b) : Box5 w' b t x0 x1 x2 x3 x4 := h.ofBlock (hk b h.lt q)
/-- The rows that toDisk makes are a call's own. -/
theorem rowD_of_rows {w : World} {d : Dk} {g0 g1 g2 : Nat} (h0 : w.rowIs g0 9 d.nb (fun i => .string (d.B i))) (h1 : PenRow w g1 d.nc d.A d.D) (h2 : w.rowIs g2 9 d.ns (fun i => .string (d.S i))) (q0 : g0 < g1) (q1 : g1 < g2) : RowD w d (some ⟨g0, 0, none⟩) (some ⟨g1, 0, none⟩) (some ⟨g2, 0, none⟩) g0 g1 g2 :=
  ⟨RowS.ofRow h0 (Nat.le_refl _) (fun _ _ => rfl), ⟨fun _ => rfl, fun i hi => by rw [World.rowIs.cell h1 (by omega), penC0], fun i hi => by rw [World.rowIs.cell h1 (by omega), penC1], fun i _ => World.rowIs.frozen h1 i⟩, RowS.ofRow h2 (Nat.le_refl _) (fun _ _ => rfl), fun _ _ => by omega, fun _ _ => by omega, fun _ _ => by omega⟩
theorem Box3.there {w : World} {b : Nat} {t : TypeId} {x y z : Value} (h : Box3 w b t x y z) : w.there b 0 3 := fun j hj => by
  rw [Nat.zero_add]
  exact ⟨by rw [World.rowIs.cell h hj]; rfl, h.fr j⟩
theorem Box3.stored {w : World} {b : Nat} {t : TypeId} {x y z : Value} (h : Box3 w b t x y z) (v0 v1 v2 : Value) : Box3 (w.setCells b 0 [v0, v1, v2]) b t v0 v1 v2 :=
  (rowIs_setCells [v0, v1, v2] 0 w _ h).congr (fun i hi => by
    rcases (show i = 0 ∨ i = 1 ∨ i = 2 by omega) with rfl | rfl | rfl <;> rfl)
theorem OnlyB.stored3 (w : World) (b : Nat) (v0 v1 v2 : Value) : OnlyB b w (w.setCells b 0 [v0, v1, v2]) := (((OnlyB.refl b w).setCell 0 v0).setCell 1 v1).setCell 2 v2
theorem oneSl3 (a0 a1 a2 : Option Addr) (n0 n1 n2 c0 c1 c2 : Nat) : (#[Value.slice a0 n0 c0, .slice a1 n1 c1, .slice a2 n2 c2].all (·.oneCell')) = true := by simp [Value.oneCell']
theorem Tryd.sizeDk : (Tryd.prog.info? 28).map (·.size) = some 3 := by kernel_rfl
/-- laws.toDisk: rows of the call's own. -/
theorem toDisk_row (d : Dk) (a0 a1 a2 : Option Addr) (c0 c1 c2 : Nat) (w : World) (h : DiskV w d a0 a1 a2) (h0 : d.nb ≤ 1048576) (h1 : d.nc ≤ 1048576) (h2 : d.ns ≤ 1048576) :
    Calls Tryd.prog 21 #[.agg #[.slice a0 d.nb c0, .slice a1 d.nc c1, .slice a2 d.ns c2]] w fun e w' => (∃ g0 g1 g2, e = .returned (.agg #[.slice (some ⟨g0, 0, none⟩) d.nb d.nb, .slice (some ⟨g1, 0, none⟩) d.nc d.nc, .slice (some ⟨g2, 0, none⟩) d.ns d.ns]) ∧ RowD w' d (some ⟨g0, 0, none⟩) (some ⟨g1, 0, none⟩) (some ⟨g2, 0, none⟩) g0 g1 g2 ∧ GeD d g0 g1 g2 w.heap.size) ∧ Below w.heap.size w w' :=
  (toDisk_any d a0 a1 a2 c0 c1 c2 w h h0 h1 h2).mono fun e w' ⟨⟨g0, g1, g2, q, q0, q1, he, r0, r1, r2⟩, hb⟩ => ⟨⟨g0, g1, g2, he, rowD_of_rows r0 r1 r2 q0 q1, fun _ => q, fun _ => by omega, fun _ => by omega⟩, hb⟩
/-- laws.toDiskAct: a row of the call's own. -/
theorem toDiskAct_row (a : Ac) (ak : Option Addr) (ck : Nat) (hn : a.nk ≤ 1048576) (w : World) (h : Bools w ak a.nk a.K) :
    Calls Tryd.prog 22 #[.agg #[.int .i64 a.kd, .int .i64 a.x, .string a.s, .slice ak a.nk ck, .int .i64 a.t]] w fun e w' => (∃ g, e = .returned (.agg #[.int .i64 a.kd, .int .i64 a.x, .string a.s, .slice (some ⟨g, 0, none⟩) a.nk a.nk, .int .i64 a.t]) ∧ w'.rowIs g 4 a.nk (fun i => .bool (a.K i)) ∧ w.heap.size ≤ g) ∧ Below w.heap.size w w' :=
  (toDiskAct_any a ak ck hn w h).mono fun e w' ⟨he, r, hb⟩ => ⟨⟨_, he, r, by omega⟩, hb⟩
end Go.Proofs.YtbecnaabmlkjjaaDoor
