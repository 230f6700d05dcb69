/-
  Slices of Request: what they hold, and the laws' own helpers on them (written by tools/mkels.py).
-/
import Derived.Test.YtfhjenohgafjlabDoorEls
import Derived.Test.YtfhjenohgafjlabDoorRetCell
import Derived.Deep.RegionWith
namespace Go.Proofs.YtfhjenohgafjlabDoor
open Go.ChangeShapes Go.WideShapes Go.ChangeAt Go.RowKit
set_option linter.unusedVariables false
structure Rqst where
  s : Int
  q : Int
  v : Int
  c : Int
  r : ByteArray
def rqV (x : Rqst) : Nat → Value
  | 0 => .int .i64 x.s
  | 1 => .int .i64 x.q
  | 2 => .int .i64 x.v
  | 3 => .int .i64 x.c
  | _ => .string x.r
/-- The cells of elements. -/
def rqF (RQ : Nat → Rqst) (i j : Nat) : Value := rqV (RQ i) j
def rqZ : Rqst := ⟨0, 0, 0, 0, ⟨#[]⟩⟩
theorem Els.rqC {w : World} {b off n : Nat} {RQ : Nat → Rqst} (h : ∀ i, i < n → ∀ j, j < 5 → w.cell? ⟨b, off + i * 5 + j, none⟩ = some (rqF RQ i j)) (k : Nat) (hk : k < n) : w.cell? ⟨b, off + k * 5, none⟩ = some (.int .i64 (RQ k).s) ∧ w.cell? ⟨b, off + k * 5 + 1, none⟩ = some (.int .i64 (RQ k).q) ∧ w.cell? ⟨b, off + k * 5 + 2, none⟩ = some (.int .i64 (RQ k).v) ∧ w.cell? ⟨b, off + k * 5 + 3, none⟩ = some (.int .i64 (RQ k).c) ∧ w.cell? ⟨b, off + k * 5 + 4, none⟩ = some (.string (RQ k).r) := ⟨h k hk 0 (by omega), h k hk 1 (by omega), h k hk 2 (by omega), h k hk 3 (by omega), h k hk 4 (by omega)⟩
theorem RowE.rqC {w : World} {a : Option Addr} {g n : Nat} {RQ : Nat → Rqst} (h : RowE w 5 a g n (rqF RQ)) (k : Nat) (hk : k < n) : w.cell? ⟨g, k * 5, none⟩ = some (.int .i64 (RQ k).s) ∧ w.cell? ⟨g, k * 5 + 1, none⟩ = some (.int .i64 (RQ k).q) ∧ w.cell? ⟨g, k * 5 + 2, none⟩ = some (.int .i64 (RQ k).v) ∧ w.cell? ⟨g, k * 5 + 3, none⟩ = some (.int .i64 (RQ k).c) ∧ w.cell? ⟨g, k * 5 + 4, none⟩ = some (.string (RQ k).r) := ⟨h.c k hk 0 (by omega), h.c k hk 1 (by omega), h.c k hk 2 (by omega), h.c k hk 3 (by omega), h.c k hk 4 (by omega)⟩
theorem RowE.rqFr {w : World} {a : Option Addr} {g n : Nat} {F : Nat → Nat → Value} (h : RowE w 5 a g n F) (k : Nat) (hk : k < n) : w.frozen? ⟨g, k * 5, none⟩ = false ∧ w.frozen? ⟨g, k * 5 + 1, none⟩ = false ∧ w.frozen? ⟨g, k * 5 + 2, none⟩ = false ∧ w.frozen? ⟨g, k * 5 + 3, none⟩ = false ∧ w.frozen? ⟨g, k * 5 + 4, none⟩ = false := ⟨h.z _ (by omega), h.z _ (by omega), h.z _ (by omega), h.z _ (by omega), h.z _ (by omega)⟩
theorem RowE.rqPut {w : World} {a : Option Addr} {g n : Nat} {RQ : Nat → Rqst} (h : RowE w 5 a g n (rqF RQ)) (k : Nat) (x : Rqst) : RowE (((((w.setCell ⟨g, k * 5, none⟩ (.int .i64 x.s)).setCell ⟨g, k * 5 + 1, none⟩ (.int .i64 x.q)).setCell ⟨g, k * 5 + 2, none⟩ (.int .i64 x.v)).setCell ⟨g, k * 5 + 3, none⟩ (.int .i64 x.c)).setCell ⟨g, k * 5 + 4, none⟩ (.string x.r)) 5 a g n (rqF (fun i => if i = k then x else RQ i)) := by
  refine ((((((h.set k 0 (by omega) (.int .i64 x.s)).set k 1 (by omega) (.int .i64 x.q)).set k 2 (by omega) (.int .i64 x.v)).set k 3 (by omega) (.int .i64 x.c)).set k 4 (by omega) (.string x.r)) : RowE _ _ _ _ _ _).congr (fun i hi j hj => ?_)
  unfold setF rqF
  by_cases e : i = k
  · subst e
    rcases (show j = 0 ∨ j = 1 ∨ j = 2 ∨ j = 3 ∨ j = 4 by omega) with rfl | rfl | rfl | rfl | rfl <;> simp [rqV]
  · simp [e]
set_option maxRecDepth 100000 in
theorem toRequest_any (s : Int) (q : Int) (v : Int) (c : Int) (r : ByteArray) (w : World) :
    Calls Tryd.prog 13 #[.agg #[.int .i64 s, .int .i64 q, .int .i64 v, .int .i64 c, .string r]] w fun e w' => e = .returned (.agg #[.int .i64 s, .int .i64 q, .int .i64 v, .int .i64 c, .string r]) ∧ Below w.heap.size w w' := by
  go_enter Tryd.func13, Tryd.ntmps13
  go_wp2
  refine ret_cell (b := w.heap.size + 1) (v := .agg #[.int .i64 s, .int .i64 q, .int .i64 v, .int .i64 c, .string r]) Tryd.results13 rfl (by go_simp) ⟨rfl, (((Below.refl w.heap.size w).alloc (Nat.le_refl _) _).alloc (by simp) _).alloc (by simp; omega) _⟩
set_option maxRecDepth 100000 in
theorem szRequest_any (s : Int) (q : Int) (v : Int) (c : Int) (r : ByteArray) (x : Int) (w : World) (hx0 : 0 ≤ x) (hx : x ≤ 1048576) (hs : r.size ≤ maxLen) :
    Calls Tryd.prog 11 #[.agg #[.int .i64 s, .int .i64 q, .int .i64 v, .int .i64 c, .string r], .int .i64 x] w fun e w' => (∃ y : Int, e = .returned (.int .i64 y) ∧ -1 ≤ y ∧ y ≤ 1048576) ∧ Below w.heap.size w w' := by
  unfold maxLen at hs
  have x2 : IntKind.i64.wrap (x - (r.size : Int)) = x - (r.size : Int) := IntWalk.i64_in _ (by omega)
  by_cases h0 : x - (r.size : Int) < 0
  · go_enter Tryd.func11, Tryd.ntmps11
    go_wp2
    go_ret
    exact ⟨⟨-1, rfl, by omega, by omega⟩, (Below.refl w.heap.size w).alloc (Nat.le_refl _) _⟩
  · go_enter Tryd.func11, Tryd.ntmps11
    go_wp2
    go_ret
    exact ⟨⟨_, rfl, by omega, by omega⟩, (Below.refl w.heap.size w).alloc (Nat.le_refl _) _⟩
end Go.Proofs.YtfhjenohgafjlabDoor
