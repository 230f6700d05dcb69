/-
  Acts in the laws: copied.
-/
import Derived.Test.YtgdfhgepbamhmaaDoorBoolS
import Derived.Test.YtgdfhgepbamhmaaDoorDiskSt
import Derived.Test.YtgdfhgepbamhmaaDoorMarkD
namespace Go.Proofs.YtgdfhgepbamhmaaDoor
open Go.ChangeShapes Go.WideShapes Go.ChangeAt Go.RowKit
set_option linter.unusedVariables false
/-- Block b is a variable of five cells. -/
def Box5 (w : World) (b : Nat) (t : TypeId) (x0 x1 x2 x3 x4 : Value) : Prop := w.rowIs b t 5 (fun i => if i = 0 then x0 else if i = 1 then x1 else if i = 2 then x2 else if i = 3 then x3 else x4)
theorem Box5.c0 {w : World} {b : Nat} {t : TypeId} {x0 x1 x2 x3 x4 : Value} (h : Box5 w b t x0 x1 x2 x3 x4) : w.cell? ⟨b, 0, none⟩ = some x0 := World.rowIs.cell h (i := 0) (by omega)
theorem Box5.c1 {w : World} {b : Nat} {t : TypeId} {x0 x1 x2 x3 x4 : Value} (h : Box5 w b t x0 x1 x2 x3 x4) : w.cell? ⟨b, 1, none⟩ = some x1 := World.rowIs.cell h (i := 1) (by omega)
theorem Box5.c2 {w : World} {b : Nat} {t : TypeId} {x0 x1 x2 x3 x4 : Value} (h : Box5 w b t x0 x1 x2 x3 x4) : w.cell? ⟨b, 2, none⟩ = some x2 := World.rowIs.cell h (i := 2) (by omega)
theorem Box5.c3 {w : World} {b : Nat} {t : TypeId} {x0 x1 x2 x3 x4 : Value} (h : Box5 w b t x0 x1 x2 x3 x4) : w.cell? ⟨b, 3, none⟩ = some x3 := World.rowIs.cell h (i := 3) (by omega)
theorem Box5.c4 {w : World} {b : Nat} {t : TypeId} {x0 x1 x2 x3 x4 : Value} (h : Box5 w b t x0 x1 x2 x3 x4) : w.cell? ⟨b, 4, none⟩ = some x4 := World.rowIs.cell h (i := 4) (by omega)
theorem Box5.fr {w : World} {b : Nat} {t : TypeId} {x0 x1 x2 x3 x4 : Value} (h : Box5 w b t x0 x1 x2 x3 x4) (i : Nat) : w.frozen? ⟨b, i, none⟩ = false := World.rowIs.frozen h i
theorem Box5.lt {w : World} {b : Nat} {t : TypeId} {x0 x1 x2 x3 x4 : Value} (h : Box5 w b t x0 x1 x2 x3 x4) : b < w.heap.size := World.rowIs.lt h
theorem Box5.ofBlock {w w' : World} {b : Nat} {t : TypeId} {x0 x1 x2 x3 x4 : Value} (h : Box5 w b t x0 x1 x2 x3 x4) (e : w'.heap[b]? = w.heap[b]?) : Box5 w' b t x0 x1 x2 x3 x4 := World.rowIs.of_block h e
theorem Box5.below {w w' : World} {b : Nat} {t : TypeId} {x0 x1 x2 x3 x4 : Value} (h : Box5 w b t x0 x1 x2 x3 x4) (hb : Below w.heap.size w w') : Box5 w' b t x0 x1 x2 x3 x4 := h.ofBlock (hb.block b h.lt)
theorem Box5.made (w : World) (t : TypeId) (x0 x1 x2 x3 x4 : Value) : Box5 (w.alloc (.cells #[x0, x1, x2, x3, x4] t)) w.heap.size t x0 x1 x2 x3 x4 := World.rowIs_alloc w #[x0, x1, x2, x3, x4] t _ (fun i hi => by
  rcases (show i = 0 ∨ i = 1 ∨ i = 2 ∨ i = 3 ∨ i = 4 by simp at hi; omega) with rfl | rfl | rfl | rfl | rfl <;> rfl)
theorem Box5.madeAt {w : World} {b : Nat} (hb : w.heap.size = b) (t : TypeId) (x0 x1 x2 x3 x4 : Value) : Box5 (w.alloc (.cells #[x0, x1, x2, x3, x4] t)) b t x0 x1 x2 x3 x4 := by subst hb; exact Box5.made w t x0 x1 x2 x3 x4
theorem Box5.alloc {w : World} {b : Nat} {t : TypeId} {x0 x1 x2 x3 x4 : Value} (h : Box5 w b t x0 x1 x2 x3 x4) (o : Obj) : Box5 (w.alloc o) b t x0 x1 x2 x3 x4 := World.rowIs.alloc h o
theorem Box5.set0 {w : World} {b : Nat} {t : TypeId} {x0 x1 x2 x3 x4 : Value} (h : Box5 w b t x0 x1 x2 x3 x4) (v : Value) : Box5 (w.setCell ⟨b, 0, none⟩ v) b t v x1 x2 x3 x4 := World.rowIs.congr (World.rowIs.set h 0 v) (fun i hi => by
  rcases (show i = 0 ∨ i = 1 ∨ i = 2 ∨ i = 3 ∨ i = 4 by omega) with rfl | rfl | rfl | rfl | rfl <;> rfl)
theorem Box5.set1 {w : World} {b : Nat} {t : TypeId} {x0 x1 x2 x3 x4 : Value} (h : Box5 w b t x0 x1 x2 x3 x4) (v : Value) : Box5 (w.setCell ⟨b, 1, none⟩ v) b t x0 v x2 x3 x4 := World.rowIs.congr (World.rowIs.set h 1 v) (fun i hi => by
  rcases (show i = 0 ∨ i = 1 ∨ i = 2 ∨ i = 3 ∨ i = 4 by omega) with rfl | rfl | rfl | rfl | rfl <;> rfl)
theorem Box5.set2 {w : World} {b : Nat} {t : TypeId} {x0 x1 x2 x3 x4 : Value} (h : Box5 w b t x0 x1 x2 x3 x4) (v : Value) : Box5 (w.setCell ⟨b, 2, none⟩ v) b t x0 x1 v x3 x4 := World.rowIs.congr (World.rowIs.set h 2 v) (fun i hi => by
  rcases (show i = 0 ∨ i = 1 ∨ i = 2 ∨ i = 3 ∨ i = 4 by omega) with rfl | rfl | rfl | rfl | rfl <;> rfl)
theorem Box5.set3 {w : World} {b : Nat} {t : TypeId} {x0 x1 x2 x3 x4 : Value} (h : Box5 w b t x0 x1 x2 x3 x4) (v : Value) : Box5 (w.setCell ⟨b, 3, none⟩ v) b t x0 x1 x2 v x4 := World.rowIs.congr (World.rowIs.set h 3 v) (fun i hi => by
  rcases (show i = 0 ∨ i = 1 ∨ i = 2 ∨ i = 3 ∨ i = 4 by omega) with rfl | rfl | rfl | rfl | rfl <;> rfl)
theorem Box5.set4 {w : World} {b : Nat} {t : TypeId} {x0 x1 x2 x3 x4 : Value} (h : Box5 w b t x0 x1 x2 x3 x4) (v : Value) : Box5 (w.setCell ⟨b, 4, none⟩ v) b t x0 x1 x2 x3 v := World.rowIs.congr (World.rowIs.set h 4 v) (fun i hi => by
  rcases (show i = 0 ∨ i = 1 ∨ i = 2 ∨ i = 3 ∨ i = 4 by omega) with rfl | rfl | rfl | rfl | rfl <;> rfl)
set_option maxRecDepth 100000 in
set_option maxHeartbeats 2000000 in
theorem toDiskAct_any (a : Ac) (ak : Option Addr) (ck : Nat) (hn : a.nk ≤ 1048576) (w : World) (h : Bools w ak a.nk a.K) :
    Calls Tryd.prog 20 #[.agg #[.int .i64 a.kd, .int .i64 a.x, .string a.s, .slice ak a.nk ck, .int .i64 a.t]] w fun e w' => e = .returned (.agg #[.int .i64 a.kd, .int .i64 a.x, .string a.s, .slice (some ⟨w.heap.size + 3, 0, none⟩) a.nk a.nk, .int .i64 a.t]) ∧ w'.rowIs (w.heap.size + 3) 4 a.nk (fun i => .bool (a.K i)) ∧ Below w.heap.size w w' := by
  have A1 : Below w.heap.size w (((w.alloc (.cells #[.int .i64 a.kd, .int .i64 a.x, .string a.s, .slice ak a.nk ck, .int .i64 a.t] 43)).alloc (.cells #[.int .i64 0, .int .i64 0, .string ⟨#[]⟩, .slice none 0 0, .int .i64 0] 46)).alloc (.cells #[.int .i64 a.kd, .int .i64 a.x, .string a.s, .slice none 0 0, .int .i64 0] 46)) := (((Below.refl w.heap.size w).alloc (Nat.le_refl _) _).alloc (by simp) _).alloc (by simp; omega) _
  have G0 : (((w.alloc (.cells #[.int .i64 a.kd, .int .i64 a.x, .string a.s, .slice ak a.nk ck, .int .i64 a.t] 43)).alloc (.cells #[.int .i64 0, .int .i64 0, .string ⟨#[]⟩, .slice none 0 0, .int .i64 0] 46)).alloc (.cells #[.int .i64 a.kd, .int .i64 a.x, .string a.s, .slice none 0 0, .int .i64 0] 46)).heap.size = w.heap.size + 3 := by simp
  have CC : Hid (Calls Tryd.prog 38 #[.slice ak a.nk ck] (((w.alloc (.cells #[.int .i64 a.kd, .int .i64 a.x, .string a.s, .slice ak a.nk ck, .int .i64 a.t] 43)).alloc (.cells #[.int .i64 0, .int .i64 0, .string ⟨#[]⟩, .slice none 0 0, .int .i64 0] 46)).alloc (.cells #[.int .i64 a.kd, .int .i64 a.x, .string a.s, .slice none 0 0, .int .i64 0] 46)) fun e w' => e = .returned (.slice (some ⟨w.heap.size + 3, 0, none⟩) a.nk a.nk) ∧ w'.rowIs (w.heap.size + 3) 4 a.nk (fun i => .bool (a.K i)) ∧ Below (((w.alloc (.cells #[.int .i64 a.kd, .int .i64 a.x, .string a.s, .slice ak a.nk ck, .int .i64 a.t] 43)).alloc (.cells #[.int .i64 0, .int .i64 0, .string ⟨#[]⟩, .slice none 0 0, .int .i64 0] 46)).alloc (.cells #[.int .i64 a.kd, .int .i64 a.x, .string a.s, .slice none 0 0, .int .i64 0] 46)).heap.size (((w.alloc (.cells #[.int .i64 a.kd, .int .i64 a.x, .string a.s, .slice ak a.nk ck, .int .i64 a.t] 43)).alloc (.cells #[.int .i64 0, .int .i64 0, .string ⟨#[]⟩, .slice none 0 0, .int .i64 0] 46)).alloc (.cells #[.int .i64 a.kd, .int .i64 a.x, .string a.s, .slice none 0 0, .int .i64 0] 46)) w') := by
    have q := toBoolS_any ak a.nk ck a.K (((w.alloc (.cells #[.int .i64 a.kd, .int .i64 a.x, .string a.s, .slice ak a.nk ck, .int .i64 a.t] 43)).alloc (.cells #[.int .i64 0, .int .i64 0, .string ⟨#[]⟩, .slice none 0 0, .int .i64 0] 46)).alloc (.cells #[.int .i64 a.kd, .int .i64 a.x, .string a.s, .slice none 0 0, .int .i64 0] 46)) (h.below A1) hn
    rw [G0] at q
    rw [G0]
    exact q
  have X0 : Hid (Box5 (((w.alloc (.cells #[.int .i64 a.kd, .int .i64 a.x, .string a.s, .slice ak a.nk ck, .int .i64 a.t] 43)).alloc (.cells #[.int .i64 0, .int .i64 0, .string ⟨#[]⟩, .slice none 0 0, .int .i64 0] 46)).alloc (.cells #[.int .i64 a.kd, .int .i64 a.x, .string a.s, .slice none 0 0, .int .i64 0] 46)) (w.heap.size + 2) 46 (.int .i64 a.kd) (.int .i64 a.x) (.string a.s) (.slice none 0 0) (.int .i64 0)) := Box5.madeAt (by simp) _ _ _ _ _ _
  have Y0 : Hid (Box5 (((w.alloc (.cells #[.int .i64 a.kd, .int .i64 a.x, .string a.s, .slice ak a.nk ck, .int .i64 a.t] 43)).alloc (.cells #[.int .i64 0, .int .i64 0, .string ⟨#[]⟩, .slice none 0 0, .int .i64 0] 46)).alloc (.cells #[.int .i64 a.kd, .int .i64 a.x, .string a.s, .slice none 0 0, .int .i64 0] 46)) (w.heap.size + 1) 46 (.int .i64 0) (.int .i64 0) (.string ⟨#[]⟩) (.slice none 0 0) (.int .i64 0)) := (Box5.madeAt (by simp) _ _ _ _ _ _).alloc _
  have W0 : Hid (Box5 (((w.alloc (.cells #[.int .i64 a.kd, .int .i64 a.x, .string a.s, .slice ak a.nk ck, .int .i64 a.t] 43)).alloc (.cells #[.int .i64 0, .int .i64 0, .string ⟨#[]⟩, .slice none 0 0, .int .i64 0] 46)).alloc (.cells #[.int .i64 a.kd, .int .i64 a.x, .string a.s, .slice none 0 0, .int .i64 0] 46)) w.heap.size 43 (.int .i64 a.kd) (.int .i64 a.x) (.string a.s) (.slice ak a.nk ck) (.int .i64 a.t)) := ((Box5.made _ _ _ _ _ _ _).alloc _).alloc _
  have AA1 : Hid (Below w.heap.size w (((w.alloc (.cells #[.int .i64 a.kd, .int .i64 a.x, .string a.s, .slice ak a.nk ck, .int .i64 a.t] 43)).alloc (.cells #[.int .i64 0, .int .i64 0, .string ⟨#[]⟩, .slice none 0 0, .int .i64 0] 46)).alloc (.cells #[.int .i64 a.kd, .int .i64 a.x, .string a.s, .slice none 0 0, .int .i64 0] 46))) := A1
  clear h A1
  go_enter Tryd.func20, Tryd.ntmps20
  go_wp2_with fail
  generalize (((w.alloc (.cells #[.int .i64 a.kd, .int .i64 a.x, .string a.s, .slice ak a.nk ck, .int .i64 a.t] 43)).alloc (.cells #[.int .i64 0, .int .i64 0, .string ⟨#[]⟩, .slice none 0 0, .int .i64 0] 46)).alloc (.cells #[.int .i64 a.kd, .int .i64 a.x, .string a.s, .slice none 0 0, .int .i64 0] 46)) = u at *
  refine (Calls.mono CC.out) ?_
  rintro e w1 ⟨rfl, hr, hb⟩
  have X1 := X0.out.below hb
  have Y1 := Y0.out.below hb
  have t4 := (W0.out.below hb).c4
  have m0 := X1.c0
  have m1 := X1.c1
  have m2 := X1.c2
  have m3 := X1.c3
  have m4 := X1.c4
  have p3 := X1.fr 3
  have p4 := X1.fr 4
  have n0 := Y1.c0
  have n1 := Y1.c1
  have n2 := Y1.c2
  have n3 := Y1.c3
  have n4 := Y1.c4
  have f0 := Y1.fr 0
  have f1 := Y1.fr 1
  have f2 := Y1.fr 2
  have f3 := Y1.fr 3
  have f4 := Y1.fr 4
  have B1 : Below w.heap.size w w1 := AA1.out.trans (hb.mono AA1.out.size)
  have O1 : OnlyB (w.heap.size + 2) w1 ((w1.setCell ⟨w.heap.size + 2, 3, none⟩ (.slice (some ⟨w.heap.size + 3, 0, none⟩) a.nk a.nk)).setCell ⟨w.heap.size + 2, 4, none⟩ (.int .i64 a.t)) := ((OnlyB.refl _ w1).setCell 3 _).setCell 4 _
  have O2 : OnlyB (w.heap.size + 1) ((w1.setCell ⟨w.heap.size + 2, 3, none⟩ (.slice (some ⟨w.heap.size + 3, 0, none⟩) a.nk a.nk)).setCell ⟨w.heap.size + 2, 4, none⟩ (.int .i64 a.t)) (((((((w1.setCell ⟨w.heap.size + 2, 3, none⟩ (.slice (some ⟨w.heap.size + 3, 0, none⟩) a.nk a.nk)).setCell ⟨w.heap.size + 2, 4, none⟩ (.int .i64 a.t)).setCell ⟨w.heap.size + 1, 0, none⟩ (.int .i64 a.kd)).setCell ⟨w.heap.size + 1, 1, none⟩ (.int .i64 a.x)).setCell ⟨w.heap.size + 1, 2, none⟩ (.string a.s)).setCell ⟨w.heap.size + 1, 3, none⟩ (.slice (some ⟨w.heap.size + 3, 0, none⟩) a.nk a.nk)).setCell ⟨w.heap.size + 1, 4, none⟩ (.int .i64 a.t)) := (((((OnlyB.refl _ _).setCell 0 _).setCell 1 _).setCell 2 _).setCell 3 _).setCell 4 _
  have Y5 : Hid (Box5 (((((((w1.setCell ⟨w.heap.size + 2, 3, none⟩ (.slice (some ⟨w.heap.size + 3, 0, none⟩) a.nk a.nk)).setCell ⟨w.heap.size + 2, 4, none⟩ (.int .i64 a.t)).setCell ⟨w.heap.size + 1, 0, none⟩ (.int .i64 a.kd)).setCell ⟨w.heap.size + 1, 1, none⟩ (.int .i64 a.x)).setCell ⟨w.heap.size + 1, 2, none⟩ (.string a.s)).setCell ⟨w.heap.size + 1, 3, none⟩ (.slice (some ⟨w.heap.size + 3, 0, none⟩) a.nk a.nk)).setCell ⟨w.heap.size + 1, 4, none⟩ (.int .i64 a.t)) (w.heap.size + 1) 46 (.int .i64 a.kd) (.int .i64 a.x) (.string a.s) (.slice (some ⟨w.heap.size + 3, 0, none⟩) a.nk a.nk) (.int .i64 a.t)) := (((((Y1.ofBlock (O1.block _ Y1.lt (by omega))).set0 _).set1 _).set2 _).set3 _).set4 _
  have R5 : Hid ((((((((w1.setCell ⟨w.heap.size + 2, 3, none⟩ (.slice (some ⟨w.heap.size + 3, 0, none⟩) a.nk a.nk)).setCell ⟨w.heap.size + 2, 4, none⟩ (.int .i64 a.t)).setCell ⟨w.heap.size + 1, 0, none⟩ (.int .i64 a.kd)).setCell ⟨w.heap.size + 1, 1, none⟩ (.int .i64 a.x)).setCell ⟨w.heap.size + 1, 2, none⟩ (.string a.s)).setCell ⟨w.heap.size + 1, 3, none⟩ (.slice (some ⟨w.heap.size + 3, 0, none⟩) a.nk a.nk)).setCell ⟨w.heap.size + 1, 4, none⟩ (.int .i64 a.t)).rowIs (w.heap.size + 3) 4 a.nk (fun i => .bool (a.K i))) := World.rowIs.of_block (World.rowIs.of_block hr (O1.block _ (World.rowIs.lt hr) (by omega))) (O2.block _ (Nat.lt_of_lt_of_le (World.rowIs.lt hr) O1.size) (by omega))
  have B5 : Hid (Below w.heap.size w (((((((w1.setCell ⟨w.heap.size + 2, 3, none⟩ (.slice (some ⟨w.heap.size + 3, 0, none⟩) a.nk a.nk)).setCell ⟨w.heap.size + 2, 4, none⟩ (.int .i64 a.t)).setCell ⟨w.heap.size + 1, 0, none⟩ (.int .i64 a.kd)).setCell ⟨w.heap.size + 1, 1, none⟩ (.int .i64 a.x)).setCell ⟨w.heap.size + 1, 2, none⟩ (.string a.s)).setCell ⟨w.heap.size + 1, 3, none⟩ (.slice (some ⟨w.heap.size + 3, 0, none⟩) a.nk a.nk)).setCell ⟨w.heap.size + 1, 4, none⟩ (.int .i64 a.t))) := by
    have q1 := B1.trans (O1.toBelow (B := w.heap.size) (by omega) B1.size)
    exact q1.trans (O2.toBelow (B := w.heap.size) (by omega) q1.size)
  clear O1 O2 B1 X1 Y1 hr hb X0 Y0 W0 AA1 CC
  go_wp2
  generalize (((((((w1.setCell ⟨w.heap.size + 2, 3, none⟩ (.slice (some ⟨w.heap.size + 3, 0, none⟩) a.nk a.nk)).setCell ⟨w.heap.size + 2, 4, none⟩ (.int .i64 a.t)).setCell ⟨w.heap.size + 1, 0, none⟩ (.int .i64 a.kd)).setCell ⟨w.heap.size + 1, 1, none⟩ (.int .i64 a.x)).setCell ⟨w.heap.size + 1, 2, none⟩ (.string a.s)).setCell ⟨w.heap.size + 1, 3, none⟩ (.slice (some ⟨w.heap.size + 3, 0, none⟩) a.nk a.nk)).setCell ⟨w.heap.size + 1, 4, none⟩ (.int .i64 a.t)) = u5 at *
  clear m0 m1 m2 m3 m4 p3 p4 n0 n1 n2 n3 n4 f0 f1 f2 f3 f4 t4
  have y0 := Y5.out.c0
  have y1 := Y5.out.c1
  have y2 := Y5.out.c2
  have y3 := Y5.out.c3
  have y4 := Y5.out.c4
  exact ret_cell (b := w.heap.size + 1) (v := .agg #[.int .i64 a.kd, .int .i64 a.x, .string a.s, .slice (some ⟨w.heap.size + 3, 0, none⟩) a.nk a.nk, .int .i64 a.t]) Tryd.results20 rfl (by go_simp) ⟨rfl, R5.out, B5.out⟩
set_option maxRecDepth 100000 in
set_option maxHeartbeats 2000000 in
theorem szDiskAct_x (a : Ac) (ak : Option Addr) (ck : Nat) (x : Int) (w : World) (hx0 : 0 ≤ x) (hx : x ≤ 1048576) (hn : a.nk ≤ maxLen) (hs : a.s.size ≤ maxLen) :
    Calls Tryd.prog 16 #[.agg #[.int .i64 a.kd, .int .i64 a.x, .string a.s, .slice ak a.nk ck, .int .i64 a.t], .int .i64 x] w fun e w' => (∃ y : Int, e = .returned (.int .i64 y) ∧ y ≤ 1048576 ∧ (0 ≤ y → a.nk ≤ 1048576 ∧ a.s.size ≤ 1048576)) ∧ Below w.heap.size w w' := by
  have A1 : Hid (Below w.heap.size w (w.alloc (.cells #[.int .i64 a.kd, .int .i64 a.x, .string a.s, .slice ak a.nk ck, .int .i64 a.t] 43))) := (Below.refl _ _).alloc (Nat.le_refl _) _
  have SB : Hid (∀ (y : Int) (w : World), 0 ≤ y → y ≤ 1048576 → Calls Tryd.prog 34 #[.slice ak a.nk ck, .int .i64 y] w fun e w' => (∃ y : Int, e = .returned (.int .i64 y) ∧ y ≤ 1048576 ∧ (0 ≤ y → a.nk ≤ 1048576)) ∧ w = w') := fun y w h1 h2 => szBoolS_x ak a.nk ck y w h1 h2 hn
  unfold maxLen at hs
  clear hn
  by_cases h0 : (a.s.size : Int) ≤ x
  · have e0 : ¬ x - (a.s.size : Int) < 0 := by omega
    go_enter Tryd.func16, Tryd.ntmps16
    go_wp2_with fail
    refine (SB.out _ _ (by omega) (by omega)).mono ?_
    rintro e w1 ⟨⟨y, rfl, hy1, hy2⟩, rfl⟩
    have HY : Hid (0 ≤ y → a.nk ≤ 1048576 ∧ a.s.size ≤ 1048576) := fun h => ⟨hy2 h, by omega⟩
    clear hy2
    by_cases h1 : y < 0
    · go_wp2
      go_ret
      exact ⟨⟨-1, rfl, by omega, fun h => by omega⟩, A1.out⟩
    · go_wp2
      go_ret
      exact ⟨⟨_, rfl, hy1, HY.out⟩, A1.out⟩
  · have e0 : x - (a.s.size : Int) < 0 := by omega
    go_enter Tryd.func16, Tryd.ntmps16
    go_wp2
    go_ret
    exact ⟨⟨-1, rfl, by omega, fun h => by omega⟩, A1.out⟩
set_option maxRecDepth 100000 in
set_option maxHeartbeats 2000000 in
theorem eqDiskAct_yes (a : Ac) (ak bk : Option Addr) (ck dk : Nat) (hn : a.nk ≤ 1048576) (w : World) (h : Bools w ak a.nk a.K) (h' : Bools w bk a.nk a.K) :
    Calls Tryd.prog 27 #[.agg #[.int .i64 a.kd, .int .i64 a.x, .string a.s, .slice ak a.nk ck, .int .i64 a.t], .agg #[.int .i64 a.kd, .int .i64 a.x, .string a.s, .slice bk a.nk dk, .int .i64 a.t]] w fun e w' => e = .returned (.bool true) ∧ Below w.heap.size w w' := by
  have A1 : Hid (Below w.heap.size w ((w.alloc (.cells #[.int .i64 a.kd, .int .i64 a.x, .string a.s, .slice ak a.nk ck, .int .i64 a.t] 46)).alloc (.cells #[.int .i64 a.kd, .int .i64 a.x, .string a.s, .slice bk a.nk dk, .int .i64 a.t] 46))) := ((Below.refl _ _).alloc (Nat.le_refl _) _).alloc (by simp) _
  have EB : Hid (∀ (w : World), Bools w ak a.nk a.K → Bools w bk a.nk a.K → Calls Tryd.prog 47 #[.slice ak a.nk ck, .slice bk a.nk dk] w fun e w' => e = .returned (.bool true) ∧ ∃ q, w' = w.drewN q) := fun w h1 h2 => eqBoolS_yes ak bk a.nk ck dk a.K a.K w h1 h2 (fun _ _ => rfl) hn
  have H1 : Hid (Bools w ak a.nk a.K ∧ Bools w bk a.nk a.K) := ⟨h, h'⟩
  clear h h' hn
  have n1 : (a.kd != a.kd) = false := by simp
  have n2 : (a.x != a.x) = false := by simp
  have n3 : (a.t != a.t) = false := by simp
  go_enter Tryd.func27, Tryd.ntmps27
  go_wp2_with fail
  refine (EB.out _ (H1.out.1.below A1.out) (H1.out.2.below A1.out)).mono ?_
  rintro e w1 ⟨rfl, q, rfl⟩
  have B1 : Hid (Below w.heap.size w (((w.alloc (.cells #[.int .i64 a.kd, .int .i64 a.x, .string a.s, .slice ak a.nk ck, .int .i64 a.t] 46)).alloc (.cells #[.int .i64 a.kd, .int .i64 a.x, .string a.s, .slice bk a.nk dk, .int .i64 a.t] 46)).drewN q)) := ⟨A1.out.os, A1.out.tape, A1.out.output, A1.out.size, A1.out.block⟩
  clear EB H1 A1
  go_wp2
  go_ret
  exact ⟨rfl, B1.out⟩
end Go.Proofs.YtgdfhgepbamhmaaDoor

/-
  Acts in the laws: marked.
-/
namespace Go.Proofs.YtgdfhgepbamhmaaDoor
open Go.ChangeShapes Go.WideShapes Go.ChangeAt Go.RowKit
set_option linter.unusedVariables false
set_option maxRecDepth 100000 in
set_option maxHeartbeats 1000000 in
theorem markBoolK (g n c k : Nat) (f : Nat → Bool) (hn : k + n ≤ 10000000) (w : World) (h : w.rowIs g 4 n (fun i => .bool (f i))) :
    Calls Tryd.prog 29 #[.slice (some ⟨g, 0, none⟩) n c, .int .i64 (k : Int)] w fun e w' => e = .returned (.int .i64 ((k + n : Nat) : Int)) ∧ Turned g n w w' := by
  have H : Hid (w.rowIs g 4 n (fun i => .bool (f i))) := h
  clear h
  go_enter Tryd.func29, Tryd.ntmps29
  go_wp2
  go_loopw [1, 5] (fun kv i wr => ∃ (q : Nat) (F : Nat → Value), q ≤ n ∧ i = .int .i64 q ∧ kv = .int .i64 ((k + q : Nat) : Int) ∧ wr.rowIs g 4 n F ∧ Turned g n w wr) (fun _ i _ => n - (intOf i).toNat)
  case atStart => exact ⟨0, _, by omega, rfl, rfl, H.out, OnlyB.refl _ _, fun _ => Below.refl _ _⟩
  case round =>
    obtain ⟨q, F, hq, rfl, rfl, hrow, ho⟩ := hrel
    by_cases hlt : q < n
    · have HRW : Hid (wr.rowIs g 4 n F) := hrow
      have HO : Hid (OnlyB g w wr) := ho.1
      have hlt' : (q : Int) < (n : Int) := by omega
      have g1 := hrow.cell hlt
      have f1 := hrow.frozen q
      clear hrow ho
      go_wp2
      go_roundw
      case rel =>
        exact ⟨q + 1, _, by omega, by go_num, by go_num, HRW.out.set q _, HO.out.setCell _ _, fun z => absurd z (by omega)⟩
      case measure => simp [intOf]; omega
    · obtain rfl : q = n := by omega
      have HO : Hid (Turned g q w wr) := ho
      clear hrow ho
      go_wp2
      go_ret
      exact ⟨rfl, HO.out⟩
end Go.Proofs.YtgdfhgepbamhmaaDoor
