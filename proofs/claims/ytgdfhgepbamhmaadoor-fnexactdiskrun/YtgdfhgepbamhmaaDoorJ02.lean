/-
  What marks leave alone (acts), and boxes that are stored into.
-/
import Derived.Test.YtgdfhgepbamhmaaDoorJ01
import Derived.Test.YtgdfhgepbamhmaaDoorKeepD
import Derived.Lib.LazyBuf
import Derived.Deep.MidRow
import Derived.Deep.Cut
import Derived.Deep.CutRange
import Derived.Deep.DeepCutAuto
import Derived.Test.YtgdfhgepbamhmaaDoorAnyH
namespace Go.Proofs.YtgdfhgepbamhmaaDoor
open Go.ChangeShapes Go.WideShapes Go.ChangeAt Go.RowKit
set_option linter.unusedVariables false
theorem Box5.keepR {w w' : World} {b lo hi : Nat} {t : TypeId} {x0 x1 x2 x3 x4 : Value} (h : Box5 w b t x0 x1 x2 x3 x4) (hk : KeepR lo hi w w') (q : b < lo ∨ hi ≤ b) : Box5 w' b t x0 x1 x2 x3 x4 := h.ofBlock (hk b h.lt q)
theorem Box3.there {w : World} {b : Nat} {t : TypeId} {x y z : Value} (h : Box3 w b t x y z) : w.there b 0 3 := fun j hj => by
  rw [Nat.zero_add]
  exact ⟨by rw [World.rowIs.cell h hj]; rfl, h.fr j⟩
theorem Box3.stored {w : World} {b : Nat} {t : TypeId} {x y z : Value} (h : Box3 w b t x y z) (v0 v1 v2 : Value) : Box3 (w.setCells b 0 [v0, v1, v2]) b t v0 v1 v2 :=
  (rowIs_setCells [v0, v1, v2] 0 w _ h).congr (fun i hi => by
    rcases (show i = 0 ∨ i = 1 ∨ i = 2 by omega) with rfl | rfl | rfl <;> rfl)
theorem OnlyB.stored3 (w : World) (b : Nat) (v0 v1 v2 : Value) : OnlyB b w (w.setCells b 0 [v0, v1, v2]) := (((OnlyB.refl b w).setCell 0 v0).setCell 1 v1).setCell 2 v2
theorem oneSl3 (a0 a1 a2 : Option Addr) (n0 n1 n2 c0 c1 c2 : Nat) : (#[Value.slice a0 n0 c0, .slice a1 n1 c1, .slice a2 n2 c2].all (·.oneCell')) = true := by simp [Value.oneCell']
theorem Tryd.sizeDk : (Tryd.prog.info? 27).map (·.size) = some 3 := by kernel_rfl
/-- laws.toDiskAct: a row of the call's own. -/
theorem toDiskAct_row (a : Ac) (ak : Option Addr) (ck : Nat) (hn : a.nk ≤ 1048576) (w : World) (h : Bools w ak a.nk a.K) :
    Calls Tryd.prog 20 #[.agg #[.int .i64 a.kd, .int .i64 a.x, .string a.s, .slice ak a.nk ck, .int .i64 a.t]] w fun e w' => (∃ g, e = .returned (.agg #[.int .i64 a.kd, .int .i64 a.x, .string a.s, .slice (some ⟨g, 0, none⟩) a.nk a.nk, .int .i64 a.t]) ∧ w'.rowIs g 4 a.nk (fun i => .bool (a.K i)) ∧ w.heap.size ≤ g) ∧ Below w.heap.size w w' :=
  (toDiskAct_any a ak ck hn w h).mono fun e w' ⟨he, r, hb⟩ => ⟨⟨_, he, r, by omega⟩, hb⟩
end Go.Proofs.YtgdfhgepbamhmaaDoor
