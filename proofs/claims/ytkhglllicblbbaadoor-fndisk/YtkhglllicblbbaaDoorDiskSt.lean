/-
  A step of the program's disk.
-/
import Derived.Test.YtkhglllicblbbaaDoorDiskCp
import Derived.Test.YtkhglllicblbbaaDoorNewD
namespace Go.Proofs.YtkhglllicblbbaaDoor
open Go.ChangeShapes Go.WideShapes Go.ChangeAt Go.RowKit
set_option linter.unusedVariables false
theorem cell_alloc_at {w : World} {b : Nat} (hb : w.heap.size = b) (cs : Array Value) (t : TypeId) (i : Nat) : (w.alloc (.cells cs t)).cell? ⟨b, i, none⟩ = cs[i]? := by
  subst hb
  have h := (MapKept.heap_alloc w (.cells cs t)).1
  unfold World.cell?
  show (match (w.alloc (.cells cs t)).heap[w.heap.size]? with | some (.cells c _ _) => c[i]? | _ => none) = _
  rw [h]
def codeF : Nat → Int
  | 0 => 0
  | 1 => 4
  | 2 => 2
  | 3 => 7
  | 4 => 5
  | _ => 3
theorem rowOf_own {v : Value} {g : Nat} (h : v.ownBlock = some g) : rowOf v = g := by unfold rowOf; rw [h]
theorem TxR.own {w : World} {B : Nat} {v : Value} {n : Nat} {f : Nat → ByteArray} (h : TxR w B v n f) (hn : 0 < n) : v.ownBlock = some (rowOf v) := by
  obtain ⟨g, c, rfl, -⟩ := h.pos hn
  rfl
theorem PnR.own {w : World} {B : Nat} {v : Value} {n : Nat} {A : Nat → Int} {D : Nat → ByteArray} (h : PnR w B v n A D) (hn : 0 < n) : v.ownBlock = some (rowOf v) := by
  obtain ⟨g, c, rfl, -⟩ := h.pos hn
  rfl
theorem Rows3.rowD {w : World} {B : Nat} {d : Dk} {v0 v1 v2 : Value} (h : Rows3 w B d v0 v1 v2) : ∃ (a0 a1 a2 : Option Addr) (c0 c1 c2 g0 g1 g2 : Nat), v0 = .slice a0 d.nb c0 ∧ v1 = .slice a1 d.nc c1 ∧ v2 = .slice a2 d.ns c2 ∧ RowD w d a0 a1 a2 g0 g1 g2 ∧ (0 < d.nb → B ≤ g0) ∧ (0 < d.nc → B ≤ g1) ∧ (0 < d.ns → B ≤ g2) := by
  obtain ⟨a0, c0, e0, r0, b0, -⟩ := h.t0.form
  obtain ⟨a1, c1, e1, r1, b1, -⟩ := h.t1.form
  obtain ⟨a2, c2, e2, r2, b2, -⟩ := h.t2.form
  exact ⟨a0, a1, a2, c0, c1, c2, _, _, _, e0, e1, e2, ⟨r0, r1, r2, fun x y e => h.n01 _ (h.t0.own x) (e ▸ h.t1.own y), fun x y e => h.n02 _ (h.t0.own x) (e ▸ h.t2.own y), fun x y e => h.n12 _ (h.t1.own x) (e ▸ h.t2.own y)⟩, b0, b1, b2⟩
theorem Drv.rows {w : World} {B q b : Nat} {d : Dk} {v0 v1 v2 : Value} (h : Drv w B q b d v0 v1 v2) : Rows3 w B d v0 v1 v2 := ⟨h.t0, h.t1, h.t2, h.n01, h.n02, h.n12⟩
theorem diskCode_f (p0 p1 p2 p3 p4 : Addr) (n : Nat) (w : World) (h : Errs w p0 p1 p2 p3 p4) : Calls Tryd.prog 45 #[faultP p0 p1 p2 p3 p4 n] w fun e w' => e = .returned (.int .i64 (codeF n)) ∧ w = w' := by
  match n with
  | 0 => exact diskCode_nil p0 p1 p2 p3 p4 w h
  | 1 => exact diskCode_0 p0 p1 p2 p3 p4 w h
  | 2 => exact diskCode_1 p0 p1 p2 p3 p4 w h
  | 3 => exact diskCode_2 p0 p1 p2 p3 p4 w h
  | 4 => exact diskCode_3 p0 p1 p2 p3 p4 w h
  | n + 5 => exact diskCode_4 p0 p1 p2 p3 p4 w h
set_option maxRecDepth 100000 in
set_option maxHeartbeats 2000000 in
theorem implStep_bad (d : Dk) (a : Ac) (a0 a1 a2 ak : Option Addr) (c0 c1 c2 ck : Nat) (hs : d.nb ≤ 1048576 ∧ d.nc ≤ 1048576 ∧ d.ns ≤ 1048576) (hok : ¬ d.Ok) (p0 p1 p2 p3 p4 : Addr) (w : World) (h : DiskV w d a0 a1 a2) (hE : Errs w p0 p1 p2 p3 p4) :
    Calls Tryd.prog 16 #[.agg #[.slice a0 d.nb c0, .slice a1 d.nc c1, .slice a2 d.ns c2], .agg #[.int .i64 a.kd, .int .i64 a.x, .string a.s, .slice ak a.nk ck, .int .i64 a.t]] w fun e w' => RetD w.heap.size w' e (newD 0) 1 ∧ Below w.heap.size w w' := by
  have A1 : Below w.heap.size w (((w.alloc (.cells #[.slice a0 d.nb c0, .slice a1 d.nc c1, .slice a2 d.ns c2] 28)).alloc (.cells #[.int .i64 a.kd, .int .i64 a.x, .string a.s, .slice ak a.nk ck, .int .i64 a.t] 38)).alloc (.cells #[.slice none 0 0, .slice none 0 0, .slice none 0 0] 28)) := (((Below.refl w.heap.size w).alloc (Nat.le_refl _) _).alloc (by simp) _).alloc (by simp; omega) _
  have OK : Hid (Calls Tryd.prog 13 #[.agg #[.slice a0 d.nb c0, .slice a1 d.nc c1, .slice a2 d.ns c2]] (((w.alloc (.cells #[.slice a0 d.nb c0, .slice a1 d.nc c1, .slice a2 d.ns c2] 28)).alloc (.cells #[.int .i64 a.kd, .int .i64 a.x, .string a.s, .slice ak a.nk ck, .int .i64 a.t] 38)).alloc (.cells #[.slice none 0 0, .slice none 0 0, .slice none 0 0] 28)) fun e w' => e = .returned (.bool false) ∧ Below (((w.alloc (.cells #[.slice a0 d.nb c0, .slice a1 d.nc c1, .slice a2 d.ns c2] 28)).alloc (.cells #[.int .i64 a.kd, .int .i64 a.x, .string a.s, .slice ak a.nk ck, .int .i64 a.t] 38)).alloc (.cells #[.slice none 0 0, .slice none 0 0, .slice none 0 0] 28)).heap.size (((w.alloc (.cells #[.slice a0 d.nb c0, .slice a1 d.nc c1, .slice a2 d.ns c2] 28)).alloc (.cells #[.int .i64 a.kd, .int .i64 a.x, .string a.s, .slice ak a.nk ck, .int .i64 a.t] 38)).alloc (.cells #[.slice none 0 0, .slice none 0 0, .slice none 0 0] 28)) w') := by
    have := implOK_any d a0 a1 a2 c0 c1 c2 hs p0 p1 _ (h.below A1) (hE.e0.below A1) (hE.e1.below A1)
    rwa [Dk.ok_false hok] at this
  have X0 : Hid (Box3 (((w.alloc (.cells #[.slice a0 d.nb c0, .slice a1 d.nc c1, .slice a2 d.ns c2] 28)).alloc (.cells #[.int .i64 a.kd, .int .i64 a.x, .string a.s, .slice ak a.nk ck, .int .i64 a.t] 38)).alloc (.cells #[.slice none 0 0, .slice none 0 0, .slice none 0 0] 28)) (w.heap.size + 2) 28 (.slice none 0 0) (.slice none 0 0) (.slice none 0 0)) := Box3.madeAt (by simp) _ _ _ _
  have AA1 : Hid (Below w.heap.size w (((w.alloc (.cells #[.slice a0 d.nb c0, .slice a1 d.nc c1, .slice a2 d.ns c2] 28)).alloc (.cells #[.int .i64 a.kd, .int .i64 a.x, .string a.s, .slice ak a.nk ck, .int .i64 a.t] 38)).alloc (.cells #[.slice none 0 0, .slice none 0 0, .slice none 0 0] 28))) := A1
  clear h hE hok hs A1
  go_enter Tryd.func16, Tryd.ntmps16
  go_wp2_with fail
  generalize (((w.alloc (.cells #[.slice a0 d.nb c0, .slice a1 d.nc c1, .slice a2 d.ns c2] 28)).alloc (.cells #[.int .i64 a.kd, .int .i64 a.x, .string a.s, .slice ak a.nk ck, .int .i64 a.t] 38)).alloc (.cells #[.slice none 0 0, .slice none 0 0, .slice none 0 0] 28)) = u at *
  refine (Calls.mono OK.out) ?_
  rintro e w1 ⟨rfl, hb⟩
  have B1 := AA1.out.trans (hb.mono AA1.out.size)
  have X1 := X0.out.below hb
  have O2 : OnlyB (w.heap.size + 2) w1 (((w1.setCell ⟨w.heap.size + 2, 0, none⟩ (.slice none 0 0)).setCell ⟨w.heap.size + 2, 1, none⟩ (.slice none 0 0)).setCell ⟨w.heap.size + 2, 2, none⟩ (.slice none 0 0)) := (((OnlyB.refl _ w1).setCell 0 _).setCell 1 _).setCell 2 _
  have X2 : Hid (Box3 (((w1.setCell ⟨w.heap.size + 2, 0, none⟩ (.slice none 0 0)).setCell ⟨w.heap.size + 2, 1, none⟩ (.slice none 0 0)).setCell ⟨w.heap.size + 2, 2, none⟩ (.slice none 0 0)) (w.heap.size + 2) 28 (.slice none 0 0) (.slice none 0 0) (.slice none 0 0)) := ((X1.set0 _).set1 _).set2 _
  have B2 : Hid (Below w.heap.size w (((w1.setCell ⟨w.heap.size + 2, 0, none⟩ (.slice none 0 0)).setCell ⟨w.heap.size + 2, 1, none⟩ (.slice none 0 0)).setCell ⟨w.heap.size + 2, 2, none⟩ (.slice none 0 0))) := B1.trans (O2.toBelow (by omega) B1.size)
  have x0 := X1.c0
  have x1 := X1.c1
  have x2 := X1.c2
  have f0 := X1.fr 0
  have f1 := X1.fr 1
  have f2 := X1.fr 2
  clear hb OK AA1 X0 X1 O2 B1
  go_wp2
  generalize (((w1.setCell ⟨w.heap.size + 2, 0, none⟩ (.slice none 0 0)).setCell ⟨w.heap.size + 2, 1, none⟩ (.slice none 0 0)).setCell ⟨w.heap.size + 2, 2, none⟩ (.slice none 0 0)) = u5 at *
  have y0 := X2.out.c0
  have y1 := X2.out.c1
  have y2 := X2.out.c2
  exact ret_cell2 (b := w.heap.size + 2) (v := .agg #[.slice none 0 0, .slice none 0 0, .slice none 0 0]) Tryd.results16 rfl rfl (by go_simp) ⟨⟨_, _, _, _, _, _, _, _, _, rfl, RowD.empty _ _ _ _, fun h => absurd h (by decide), fun h => absurd h (by decide), fun h => absurd h (by decide)⟩, B2.out⟩
set_option maxRecDepth 100000 in
set_option maxHeartbeats 4000000 in
theorem implStep_ok (d : Dk) (a : Ac) (a0 a1 a2 ak : Option Addr) (c0 c1 c2 ck : Nat) (z0 : a0 = none → c0 = 0) (z1 : a1 = none → c1 = 0) (z2 : a2 = none → c2 = 0) (hs : d.nb ≤ 1048576 ∧ d.nc ≤ 1048576 ∧ d.ns ≤ 1048576) (hok : d.Ok) (hnk : a.nk ≤ 1048576) (p0 p1 p2 p3 p4 : Addr) (w : World) (h : DiskV w d a0 a1 a2) (hK : Bls w w.heap.size ak a.nk a.K) (hE : Errs w p0 p1 p2 p3 p4) :
    Calls Tryd.prog 16 #[.agg #[.slice a0 d.nb c0, .slice a1 d.nc c1, .slice a2 d.ns c2], .agg #[.int .i64 a.kd, .int .i64 a.x, .string a.s, .slice ak a.nk ck, .int .i64 a.t]] w fun e w' => RetD w.heap.size w' e (d.done a) (codeF (d.fault a)) ∧ Below w.heap.size w w' := by
  have A1 : Below w.heap.size w (((w.alloc (.cells #[.slice a0 d.nb c0, .slice a1 d.nc c1, .slice a2 d.ns c2] 28)).alloc (.cells #[.int .i64 a.kd, .int .i64 a.x, .string a.s, .slice ak a.nk ck, .int .i64 a.t] 38)).alloc (.cells #[.slice none 0 0, .slice none 0 0, .slice none 0 0] 28)) := (((Below.refl w.heap.size w).alloc (Nat.le_refl _) _).alloc (by simp) _).alloc (by simp; omega) _
  have OK : Hid (Calls Tryd.prog 13 #[.agg #[.slice a0 d.nb c0, .slice a1 d.nc c1, .slice a2 d.ns c2]] (((w.alloc (.cells #[.slice a0 d.nb c0, .slice a1 d.nc c1, .slice a2 d.ns c2] 28)).alloc (.cells #[.int .i64 a.kd, .int .i64 a.x, .string a.s, .slice ak a.nk ck, .int .i64 a.t] 38)).alloc (.cells #[.slice none 0 0, .slice none 0 0, .slice none 0 0] 28)) fun e w' => e = .returned (.bool true) ∧ Below (((w.alloc (.cells #[.slice a0 d.nb c0, .slice a1 d.nc c1, .slice a2 d.ns c2] 28)).alloc (.cells #[.int .i64 a.kd, .int .i64 a.x, .string a.s, .slice ak a.nk ck, .int .i64 a.t] 38)).alloc (.cells #[.slice none 0 0, .slice none 0 0, .slice none 0 0] 28)).heap.size (((w.alloc (.cells #[.slice a0 d.nb c0, .slice a1 d.nc c1, .slice a2 d.ns c2] 28)).alloc (.cells #[.int .i64 a.kd, .int .i64 a.x, .string a.s, .slice ak a.nk ck, .int .i64 a.t] 38)).alloc (.cells #[.slice none 0 0, .slice none 0 0, .slice none 0 0] 28)) w') := by
    have := implOK_any d a0 a1 a2 c0 c1 c2 hs p0 p1 _ (h.below A1) (hE.e0.below A1) (hE.e1.below A1)
    rwa [Dk.ok_true hok] at this
  have CP : Hid (∀ w : World, DiskV w d a0 a1 a2 → Calls Tryd.prog 54 #[.agg #[.slice a0 d.nb c0, .slice a1 d.nc c1, .slice a2 d.ns c2]] w fun e w' => (∃ v0 v1 v2, e = .returned (.agg #[v0, v1, v2]) ∧ Rows3 w' w.heap.size d v0 v1 v2) ∧ Below w.heap.size w w') := fun w h => copiedDisk_any d a0 a1 a2 c0 c1 c2 hok.nb2 hok.nc (by have := hok.ns; have := hok.nb2; omega) z0 z1 z2 w h
  have DO : Hid (∀ (a0 a1 a2 : Option Addr) (c0 c1 c2 : Nat) (w : World), Pens w a1 d.nc d.A d.D → Calls Tryd.prog 44 #[.agg #[.slice a0 d.nb c0, .slice a1 d.nc c1, .slice a2 d.ns c2]] w fun e w' => e = .returned (.pointer (some ⟨w.heap.size + 2, 0, none⟩)) ∧ Box4 w' (w.heap.size + 2) 86 (.slice a0 d.nb c0) (.slice a1 d.nc c1) (.slice a2 d.ns c2) (.map (some (w.heap.size + 1))) ∧ MapI w' (w.heap.size + 1) (lastM d.A d.D d.nc) ∧ Below w.heap.size w w') := fun a0 a1 a2 c0 c1 c2 w h => driveOf_any d a0 a1 a2 c0 c1 c2 hok.nc w h
  have DD : Hid (∀ (B q b : Nat) (v0 v1 v2 : Value) (w : World), B ≤ w.heap.size → Errs w p0 p1 p2 p3 p4 → Drv w B q b d v0 v1 v2 → Bls w B ak a.nk a.K → Calls Tryd.prog 46 #[.pointer (some ⟨q, 0, none⟩), .agg #[.int .i64 a.kd, .int .i64 a.x, .string a.s, .slice ak a.nk ck, .int .i64 a.t]] w (DoPost B q b d a p0 p1 p2 p3 p4 w)) := fun B q b v0 v1 v2 w h1 h2 h3 h4 => do_any B q b d a v0 v1 v2 ak ck p0 p1 p2 p3 p4 hok w h1 h2 h3 hnk h4
  have DC : Hid (∀ w : World, Errs w p0 p1 p2 p3 p4 → Calls Tryd.prog 45 #[faultP p0 p1 p2 p3 p4 (d.fault a)] w fun e w' => e = .returned (.int .i64 (codeF (d.fault a))) ∧ w = w') := fun w h => diskCode_f p0 p1 p2 p3 p4 _ w h
  have HD : Hid (DiskV w d a0 a1 a2) := h
  have HE : Hid (Errs w p0 p1 p2 p3 p4) := hE
  have HK : Hid (Bls w w.heap.size ak a.nk a.K) := hK
  have X0 : Hid (Box3 (((w.alloc (.cells #[.slice a0 d.nb c0, .slice a1 d.nc c1, .slice a2 d.ns c2] 28)).alloc (.cells #[.int .i64 a.kd, .int .i64 a.x, .string a.s, .slice ak a.nk ck, .int .i64 a.t] 38)).alloc (.cells #[.slice none 0 0, .slice none 0 0, .slice none 0 0] 28)) (w.heap.size + 2) 28 (.slice none 0 0) (.slice none 0 0) (.slice none 0 0)) := Box3.madeAt (by simp) _ _ _ _
  have Y0 : Hid (Box3 (((w.alloc (.cells #[.slice a0 d.nb c0, .slice a1 d.nc c1, .slice a2 d.ns c2] 28)).alloc (.cells #[.int .i64 a.kd, .int .i64 a.x, .string a.s, .slice ak a.nk ck, .int .i64 a.t] 38)).alloc (.cells #[.slice none 0 0, .slice none 0 0, .slice none 0 0] 28)) w.heap.size 28 (.slice a0 d.nb c0) (.slice a1 d.nc c1) (.slice a2 d.ns c2)) := ((Box3.made w _ _ _ _).alloc _).alloc _
  have G0 : (((w.alloc (.cells #[.slice a0 d.nb c0, .slice a1 d.nc c1, .slice a2 d.ns c2] 28)).alloc (.cells #[.int .i64 a.kd, .int .i64 a.x, .string a.s, .slice ak a.nk ck, .int .i64 a.t] 38)).alloc (.cells #[.slice none 0 0, .slice none 0 0, .slice none 0 0] 28)).heap.size = w.heap.size + 3 := by simp
  have Z0 : Hid ((((w.alloc (.cells #[.slice a0 d.nb c0, .slice a1 d.nc c1, .slice a2 d.ns c2] 28)).alloc (.cells #[.int .i64 a.kd, .int .i64 a.x, .string a.s, .slice ak a.nk ck, .int .i64 a.t] 38)).alloc (.cells #[.slice none 0 0, .slice none 0 0, .slice none 0 0] 28)).cell? ⟨w.heap.size + 1, 0, none⟩ = some (.int .i64 a.kd) ∧ (((w.alloc (.cells #[.slice a0 d.nb c0, .slice a1 d.nc c1, .slice a2 d.ns c2] 28)).alloc (.cells #[.int .i64 a.kd, .int .i64 a.x, .string a.s, .slice ak a.nk ck, .int .i64 a.t] 38)).alloc (.cells #[.slice none 0 0, .slice none 0 0, .slice none 0 0] 28)).cell? ⟨w.heap.size + 1, 1, none⟩ = some (.int .i64 a.x) ∧ (((w.alloc (.cells #[.slice a0 d.nb c0, .slice a1 d.nc c1, .slice a2 d.ns c2] 28)).alloc (.cells #[.int .i64 a.kd, .int .i64 a.x, .string a.s, .slice ak a.nk ck, .int .i64 a.t] 38)).alloc (.cells #[.slice none 0 0, .slice none 0 0, .slice none 0 0] 28)).cell? ⟨w.heap.size + 1, 2, none⟩ = some (.string a.s) ∧ (((w.alloc (.cells #[.slice a0 d.nb c0, .slice a1 d.nc c1, .slice a2 d.ns c2] 28)).alloc (.cells #[.int .i64 a.kd, .int .i64 a.x, .string a.s, .slice ak a.nk ck, .int .i64 a.t] 38)).alloc (.cells #[.slice none 0 0, .slice none 0 0, .slice none 0 0] 28)).cell? ⟨w.heap.size + 1, 3, none⟩ = some (.slice ak a.nk ck) ∧ (((w.alloc (.cells #[.slice a0 d.nb c0, .slice a1 d.nc c1, .slice a2 d.ns c2] 28)).alloc (.cells #[.int .i64 a.kd, .int .i64 a.x, .string a.s, .slice ak a.nk ck, .int .i64 a.t] 38)).alloc (.cells #[.slice none 0 0, .slice none 0 0, .slice none 0 0] 28)).cell? ⟨w.heap.size + 1, 4, none⟩ = some (.int .i64 a.t)) := by
    have m : (w.alloc (.cells #[.slice a0 d.nb c0, .slice a1 d.nc c1, .slice a2 d.ns c2] 28)).heap.size = w.heap.size + 1 := by simp
    have bl : Below ((w.alloc (.cells #[.slice a0 d.nb c0, .slice a1 d.nc c1, .slice a2 d.ns c2] 28)).alloc (.cells #[.int .i64 a.kd, .int .i64 a.x, .string a.s, .slice ak a.nk ck, .int .i64 a.t] 38)).heap.size ((w.alloc (.cells #[.slice a0 d.nb c0, .slice a1 d.nc c1, .slice a2 d.ns c2] 28)).alloc (.cells #[.int .i64 a.kd, .int .i64 a.x, .string a.s, .slice ak a.nk ck, .int .i64 a.t] 38)) (((w.alloc (.cells #[.slice a0 d.nb c0, .slice a1 d.nc c1, .slice a2 d.ns c2] 28)).alloc (.cells #[.int .i64 a.kd, .int .i64 a.x, .string a.s, .slice ak a.nk ck, .int .i64 a.t] 38)).alloc (.cells #[.slice none 0 0, .slice none 0 0, .slice none 0 0] 28)) := (Below.refl _ _).alloc (Nat.le_refl _) _
    have hl : w.heap.size + 1 < ((w.alloc (.cells #[.slice a0 d.nb c0, .slice a1 d.nc c1, .slice a2 d.ns c2] 28)).alloc (.cells #[.int .i64 a.kd, .int .i64 a.x, .string a.s, .slice ak a.nk ck, .int .i64 a.t] 38)).heap.size := by simp
    exact ⟨(bl.cell hl).trans (cell_alloc_at m _ _ 0), (bl.cell hl).trans (cell_alloc_at m _ _ 1), (bl.cell hl).trans (cell_alloc_at m _ _ 2), (bl.cell hl).trans (cell_alloc_at m _ _ 3), (bl.cell hl).trans (cell_alloc_at m _ _ 4)⟩
  have AA1 : Hid (Below w.heap.size w (((w.alloc (.cells #[.slice a0 d.nb c0, .slice a1 d.nc c1, .slice a2 d.ns c2] 28)).alloc (.cells #[.int .i64 a.kd, .int .i64 a.x, .string a.s, .slice ak a.nk ck, .int .i64 a.t] 38)).alloc (.cells #[.slice none 0 0, .slice none 0 0, .slice none 0 0] 28))) := A1
  clear h hE hs A1 hK z0 z1 z2
  go_enter Tryd.func16, Tryd.ntmps16
  go_wp2_with fail
  generalize (((w.alloc (.cells #[.slice a0 d.nb c0, .slice a1 d.nc c1, .slice a2 d.ns c2] 28)).alloc (.cells #[.int .i64 a.kd, .int .i64 a.x, .string a.s, .slice ak a.nk ck, .int .i64 a.t] 38)).alloc (.cells #[.slice none 0 0, .slice none 0 0, .slice none 0 0] 28)) = u at *
  refine (Calls.mono OK.out) ?_
  rintro e w1 ⟨rfl, hb⟩
  have B1 : Hid (Below w.heap.size w w1) := AA1.out.trans (hb.mono AA1.out.size)
  have X1 : Hid (Box3 w1 (w.heap.size + 2) 28 (.slice none 0 0) (.slice none 0 0) (.slice none 0 0)) := X0.out.below hb
  have Z1 : Hid (w1.cell? ⟨w.heap.size + 1, 0, none⟩ = some (.int .i64 a.kd) ∧ w1.cell? ⟨w.heap.size + 1, 1, none⟩ = some (.int .i64 a.x) ∧ w1.cell? ⟨w.heap.size + 1, 2, none⟩ = some (.string a.s) ∧ w1.cell? ⟨w.heap.size + 1, 3, none⟩ = some (.slice ak a.nk ck) ∧ w1.cell? ⟨w.heap.size + 1, 4, none⟩ = some (.int .i64 a.t)) := ⟨(hb.cell (strBlock Z0.out.1)).trans Z0.out.1, (hb.cell (strBlock Z0.out.2.1)).trans Z0.out.2.1, (hb.cell (strBlock Z0.out.2.2.1)).trans Z0.out.2.2.1, (hb.cell (strBlock Z0.out.2.2.2.1)).trans Z0.out.2.2.2.1, (hb.cell (strBlock Z0.out.2.2.2.2)).trans Z0.out.2.2.2.2⟩
  have Y1 := Y0.out.below hb
  have y0 := Y1.c0
  have y1 := Y1.c1
  have y2 := Y1.c2
  have G1 : w.heap.size + 3 ≤ w1.heap.size := by have := hb.size; omega
  clear hb OK AA1 X0 Y0 Z0 G0 Y1
  go_wp2_with fail
  refine (CP.out _ (HD.out.below B1.out)).mono ?_
  rintro e w2 ⟨⟨v0, v1, v2, rfl, hR⟩, hb⟩
  have B2 : Hid (Below w.heap.size w w2) := B1.out.trans (hb.mono B1.out.size)
  have X2 : Hid (Box3 w2 (w.heap.size + 2) 28 (.slice none 0 0) (.slice none 0 0) (.slice none 0 0)) := X1.out.below hb
  have Z2 : Hid (w2.cell? ⟨w.heap.size + 1, 0, none⟩ = some (.int .i64 a.kd) ∧ w2.cell? ⟨w.heap.size + 1, 1, none⟩ = some (.int .i64 a.x) ∧ w2.cell? ⟨w.heap.size + 1, 2, none⟩ = some (.string a.s) ∧ w2.cell? ⟨w.heap.size + 1, 3, none⟩ = some (.slice ak a.nk ck) ∧ w2.cell? ⟨w.heap.size + 1, 4, none⟩ = some (.int .i64 a.t)) := ⟨(hb.cell (strBlock Z1.out.1)).trans Z1.out.1, (hb.cell (strBlock Z1.out.2.1)).trans Z1.out.2.1, (hb.cell (strBlock Z1.out.2.2.1)).trans Z1.out.2.2.1, (hb.cell (strBlock Z1.out.2.2.2.1)).trans Z1.out.2.2.2.1, (hb.cell (strBlock Z1.out.2.2.2.2)).trans Z1.out.2.2.2.2⟩
  have G2 : w.heap.size + 3 ≤ w2.heap.size := by have := hb.size; omega
  obtain ⟨i0, k0, rfl, -⟩ := hR.t0.form
  obtain ⟨i1, k1, rfl, q1, -⟩ := hR.t1.form
  obtain ⟨i2, k2, rfl, -⟩ := hR.t2.form
  have R2 : Hid (Rows3 w2 (w.heap.size + 3) d (.slice i0 d.nb k0) (.slice i1 d.nc k1) (.slice i2 d.ns k2)) := ⟨own_mono hR.t0 G1, own_mono hR.t1 G1, own_mono hR.t2 G1, hR.n01, hR.n02, hR.n12⟩
  have Q1 : Hid (Pens w2 i1 d.nc d.A d.D) := q1.pens
  clear hb CP B1 X1 Z1 G1 hR q1 y0 y1 y2
  go_wp2_with fail
  refine (DO.out _ _ _ _ _ _ _ Q1.out).mono ?_
  rintro e w3 ⟨rfl, hq, hm, hb⟩
  have B3 : Hid (Below w.heap.size w w3) := B2.out.trans (hb.mono B2.out.size)
  have X3 : Hid (Box3 w3 (w.heap.size + 2) 28 (.slice none 0 0) (.slice none 0 0) (.slice none 0 0)) := X2.out.below hb
  have Z3 : w3.cell? ⟨w.heap.size + 1, 0, none⟩ = some (.int .i64 a.kd) ∧ w3.cell? ⟨w.heap.size + 1, 1, none⟩ = some (.int .i64 a.x) ∧ w3.cell? ⟨w.heap.size + 1, 2, none⟩ = some (.string a.s) ∧ w3.cell? ⟨w.heap.size + 1, 3, none⟩ = some (.slice ak a.nk ck) ∧ w3.cell? ⟨w.heap.size + 1, 4, none⟩ = some (.int .i64 a.t) := ⟨(hb.cell (strBlock Z2.out.1)).trans Z2.out.1, (hb.cell (strBlock Z2.out.2.1)).trans Z2.out.2.1, (hb.cell (strBlock Z2.out.2.2.1)).trans Z2.out.2.2.1, (hb.cell (strBlock Z2.out.2.2.2.1)).trans Z2.out.2.2.2.1, (hb.cell (strBlock Z2.out.2.2.2.2)).trans Z2.out.2.2.2.2⟩
  have R3 := R2.out.below hb
  have V3 : Hid (Drv w3 (w.heap.size + 3) (w2.heap.size + 2) (w2.heap.size + 1) d (.slice i0 d.nb k0) (.slice i1 d.nc k1) (.slice i2 d.ns k2)) := ⟨hq, R3.t0, R3.t1, R3.t2, hm, ⟨fun e => by have := (World.ownsRow.lt R2.out.t0 _ e).2; omega, fun e => by have := (World.ownsRow.lt R2.out.t0 _ e).2; omega⟩, ⟨fun e => by have := (World.ownsRow.lt R2.out.t1 _ e).2; omega, fun e => by have := (World.ownsRow.lt R2.out.t1 _ e).2; omega⟩, ⟨fun e => by have := (World.ownsRow.lt R2.out.t2 _ e).2; omega, fun e => by have := (World.ownsRow.lt R2.out.t2 _ e).2; omega⟩, by omega, R3.n01, R3.n02, R3.n12, by omega, by omega⟩
  have G3 : w.heap.size + 3 ≤ w3.heap.size := by have := hb.size; omega
  obtain ⟨e0, e1, e2, e3, e4⟩ := Z3
  clear hb hq hm DO B2 X2 Z2 R2 Q1 R3 G2
  generalize w2.heap.size = z at *
  go_wp2_with fail
  refine (DD.out (w.heap.size + 3) _ (z + 1) _ _ _ _ G3 (HE.out.below B3.out) V3.out (fun i hi => by
    obtain ⟨b, off, h1, h2, h3⟩ := (HK.out.below B3.out) i hi
    exact ⟨b, off, h1, by omega, h3⟩)).mono ?_
  rintro e w4 ⟨rfl, ⟨v0, v1, v2, hv⟩, hb⟩
  have B4 : Hid (Below w.heap.size w w4) := B3.out.trans (hb.mono (by omega))
  have X4 : Hid (Box3 w4 (w.heap.size + 2) 28 (.slice none 0 0) (.slice none 0 0) (.slice none 0 0)) := X3.out.ofBlock (hb.block _ (by omega))
  have V4 : Hid (Drv w4 (w.heap.size + 3) (z + 2) (z + 1) (d.done a) v0 v1 v2) := hv
  clear hb hv V3 X3 B3 e0 e1 e2 e3 e4 DD HK G3
  go_wp2_with fail
  refine (DC.out _ (HE.out.below B4.out)).mono ?_
  rintro e w5 ⟨rfl, rfl⟩
  obtain ⟨i0, i1, i2, k0, k1, k2, g0, g1, g2, rfl, rfl, rfl, -⟩ := V4.out.rows.rowD
  have d0 := V4.out.box.c0
  have d1 := V4.out.box.c1
  have d2 := V4.out.box.c2
  have x0 := X4.out.c0
  have x1 := X4.out.c1
  have x2 := X4.out.c2
  have f0 := X4.out.fr 0
  have f1 := X4.out.fr 1
  have f2 := X4.out.fr 2
  have O5 : OnlyB (w.heap.size + 2) w4 (((w4.setCell ⟨w.heap.size + 2, 0, none⟩ (.slice i0 (d.done a).nb k0)).setCell ⟨w.heap.size + 2, 1, none⟩ (.slice i1 (d.done a).nc k1)).setCell ⟨w.heap.size + 2, 2, none⟩ (.slice i2 (d.done a).ns k2)) := (((OnlyB.refl _ w4).setCell 0 _).setCell 1 _).setCell 2 _
  have X5 : Hid (Box3 (((w4.setCell ⟨w.heap.size + 2, 0, none⟩ (.slice i0 (d.done a).nb k0)).setCell ⟨w.heap.size + 2, 1, none⟩ (.slice i1 (d.done a).nc k1)).setCell ⟨w.heap.size + 2, 2, none⟩ (.slice i2 (d.done a).ns k2)) (w.heap.size + 2) 28 (.slice i0 (d.done a).nb k0) (.slice i1 (d.done a).nc k1) (.slice i2 (d.done a).ns k2)) := ((X4.out.set0 _).set1 _).set2 _
  have R5 : Hid (Rows3 (((w4.setCell ⟨w.heap.size + 2, 0, none⟩ (.slice i0 (d.done a).nb k0)).setCell ⟨w.heap.size + 2, 1, none⟩ (.slice i1 (d.done a).nc k1)).setCell ⟨w.heap.size + 2, 2, none⟩ (.slice i2 (d.done a).ns k2)) (w.heap.size + 3) (d.done a) (.slice i0 (d.done a).nb k0) (.slice i1 (d.done a).nc k1) (.slice i2 (d.done a).ns k2)) := ⟨V4.out.t0.onlyB O5 (fun e => by have := (World.ownsRow.lt V4.out.t0 _ e).1; omega), V4.out.t1.onlyB O5 (fun e => by have := (World.ownsRow.lt V4.out.t1 _ e).1; omega), V4.out.t2.onlyB O5 (fun e => by have := (World.ownsRow.lt V4.out.t2 _ e).1; omega), V4.out.n01, V4.out.n02, V4.out.n12⟩
  have B5 : Hid (Below w.heap.size w (((w4.setCell ⟨w.heap.size + 2, 0, none⟩ (.slice i0 (d.done a).nb k0)).setCell ⟨w.heap.size + 2, 1, none⟩ (.slice i1 (d.done a).nc k1)).setCell ⟨w.heap.size + 2, 2, none⟩ (.slice i2 (d.done a).ns k2))) := B4.out.trans (O5.toBelow (by omega) B4.out.size)
  clear O5 X4 V4 B4 DC HE HD
  go_wp2
  generalize (((w4.setCell ⟨w.heap.size + 2, 0, none⟩ (.slice i0 (d.done a).nb k0)).setCell ⟨w.heap.size + 2, 1, none⟩ (.slice i1 (d.done a).nc k1)).setCell ⟨w.heap.size + 2, 2, none⟩ (.slice i2 (d.done a).ns k2)) = u5 at *
  clear d0 d1 d2 x0 x1 x2 f0 f1 f2
  have y0 := X5.out.c0
  have y1 := X5.out.c1
  have y2 := X5.out.c2
  obtain ⟨j0, j1, j2, l0, l1, l2, g0, g1, g2, h0, h1, h2, hr, hg0, hg1, hg2⟩ := R5.out.rowD
  cases h0
  cases h1
  cases h2
  exact ret_cell2 (b := w.heap.size + 2) (v := .agg #[.slice i0 (d.done a).nb k0, .slice i1 (d.done a).nc k1, .slice i2 (d.done a).ns k2]) Tryd.results16 rfl rfl (by go_simp) ⟨⟨_, _, _, _, _, _, _, _, _, rfl, hr, fun h => by have := hg0 h; omega, fun h => by have := hg1 h; omega, fun h => by have := hg2 h; omega⟩, B5.out⟩
end Go.Proofs.YtkhglllicblbbaaDoor
