/-
  The model's step.
-/
import Derived.Test.YtgdfhgepbamhmaaDoorSpecCr
import Derived.Test.YtgdfhgepbamhmaaDoorDiskSt
import Derived.Test.YtgdfhgepbamhmaaDoorInAny
namespace Go.Proofs.YtgdfhgepbamhmaaDoor
open Go.ChangeShapes Go.WideShapes Go.ChangeAt Go.RowKit
set_option linter.unusedVariables false
theorem TxR.cap {w : World} {B : Nat} {a : Option Addr} {n c : Nat} {f : Nat → ByteArray} (h : TxR w B (.slice a n c) n f) : a = none → c = 0 := by
  obtain ⟨hl, ⟨e, -⟩ | ⟨g, cap, cur, e, -⟩⟩ := h
  · cases e; intro _; rfl
  · cases e; intro h; cases h
theorem PnR.cap {w : World} {B : Nat} {a : Option Addr} {n c : Nat} {A : Nat → Int} {D : Nat → ByteArray} (h : PnR w B (.slice a n c) n A D) : a = none → c = 0 := by
  obtain ⟨hl, ⟨e, -⟩ | ⟨g, cap, cur, e, -⟩⟩ := h
  · cases e; intro _; rfl
  · cases e; intro h; cases h
/-- A disk and a code are handed back. -/
def RetS (w' : World) (e : Ending) (d : Dk) (code : Int) : Prop := ∃ (a0 a1 a2 : Option Addr) (c0 c1 c2 : Nat), e = .returned (.tuple #[.agg #[.slice a0 d.nb c0, .slice a1 d.nc c1, .slice a2 d.ns c2], .int .i64 code]) ∧ DiskV w' d a0 a1 a2 ∧ (a0 = none → c0 = 0) ∧ (a1 = none → c1 = 0) ∧ (a2 = none → c2 = 0)
theorem Rows3.diskV {w : World} {B : Nat} {d : Dk} {v0 v1 v2 : Value} (h : Rows3 w B d v0 v1 v2) : ∃ (a0 a1 a2 : Option Addr) (c0 c1 c2 : Nat), v0 = .slice a0 d.nb c0 ∧ v1 = .slice a1 d.nc c1 ∧ v2 = .slice a2 d.ns c2 ∧ DiskV w d a0 a1 a2 ∧ (a0 = none → c0 = 0) ∧ (a1 = none → c1 = 0) ∧ (a2 = none → c2 = 0) := by
  obtain ⟨h0, h1, h2, -⟩ := h
  obtain ⟨a0, c0, rfl, r0, -⟩ := h0.form
  obtain ⟨a1, c1, rfl, r1, -⟩ := h1.form
  obtain ⟨a2, c2, rfl, r2, -⟩ := h2.form
  exact ⟨a0, a1, a2, c0, c1, c2, rfl, rfl, rfl, ⟨r0.strs, r1.pens, r2.strs⟩, h0.cap, h1.cap, h2.cap⟩
/-- A slice of n elements is the elder one, or lies in a block from B on. -/
def Fr (w : World) (B : Nat) (x a : Option Addr) : Prop := a = x ∨ a = none ∨ ∃ g, a = some ⟨g, 0, none⟩ ∧ B ≤ g ∧ g < w.heap.size
/-- As RetS; each slice is the elder one or new. -/
def RetT (B : Nat) (x0 x1 x2 : Option Addr) (w' : World) (e : Ending) (d : Dk) (code : Int) : Prop := ∃ (a0 a1 a2 : Option Addr) (c0 c1 c2 : Nat), e = .returned (.tuple #[.agg #[.slice a0 d.nb c0, .slice a1 d.nc c1, .slice a2 d.ns c2], .int .i64 code]) ∧ DiskV w' d a0 a1 a2 ∧ (a0 = none → c0 = 0) ∧ (a1 = none → c1 = 0) ∧ (a2 = none → c2 = 0) ∧ Fr w' B x0 a0 ∧ Fr w' B x1 a1 ∧ Fr w' B x2 a2
theorem RetT.retS {B : Nat} {x0 x1 x2 : Option Addr} {w' : World} {e : Ending} {d : Dk} {code : Int} (h : RetT B x0 x1 x2 w' e d code) : RetS w' e d code := by
  obtain ⟨a0, a1, a2, c0, c1, c2, he, hv, z0, z1, z2, -⟩ := h
  exact ⟨a0, a1, a2, c0, c1, c2, he, hv, z0, z1, z2⟩
theorem ownsRow_fr {w : World} {B B' : Nat} {e : TypeId} {size : Nat} {a x : Option Addr} {n c m : Nat} {xs : List Value} (h : w.ownsRow B e size (.slice a n c) m xs) (hB : B' ≤ B) : Fr w B' x a := by
  have hlt := World.ownsRow.lt h
  obtain ⟨hl, ⟨e, _⟩ | ⟨g, cap, cur, e, hb, _⟩⟩ := h
  · cases e; exact .inr (.inl rfl)
  · cases e; exact .inr (.inr ⟨g, rfl, Nat.le_trans hB hb, (hlt g rfl).2⟩)
theorem Rows3.fr0 {w : World} {B B' : Nat} {d : Dk} {a x : Option Addr} {c : Nat} {v1 v2 : Value} (h : Rows3 w B d (.slice a d.nb c) v1 v2) (hB : B' ≤ B) : Fr w B' x a := ownsRow_fr h.t0 hB
theorem Rows3.fr1 {w : World} {B B' : Nat} {d : Dk} {a x : Option Addr} {c : Nat} {v0 v2 : Value} (h : Rows3 w B d v0 (.slice a d.nc c) v2) (hB : B' ≤ B) : Fr w B' x a := ownsRow_fr h.t1 hB
theorem Rows3.fr2 {w : World} {B B' : Nat} {d : Dk} {a x : Option Addr} {c : Nat} {v0 v1 : Value} (h : Rows3 w B d v0 v1 (.slice a d.ns c)) (hB : B' ≤ B) : Fr w B' x a := ownsRow_fr h.t2 hB
set_option maxRecDepth 100000 in
set_option maxHeartbeats 2000000 in
theorem step_sync (d : Dk) (a : Ac) (a0 a1 a2 ak : Option Addr) (c0 c1 c2 ck : Nat) (hd : d.Ok) (z0 : a0 = none → c0 = 0) (z1 : a1 = none → c1 = 0) (z2 : a2 = none → c2 = 0) (w : World) (h : DiskV w d a0 a1 a2) (hk : a.kd = 2) :
    Calls Tryd.prog 18 #[.agg #[.slice a0 d.nb c0, .slice a1 d.nc c1, .slice a2 d.ns c2], .agg #[.int .i64 2, .int .i64 a.x, .string a.s, .slice ak a.nk ck, .int .i64 a.t]] w fun e w' => RetT w.heap.size a0 a1 a2 w' e (d.done a) (codeF (d.fault a)) ∧ Below w.heap.size w w' := by
  have A1 : Below w.heap.size w (((w.alloc (.cells #[.slice a0 d.nb c0, .slice a1 d.nc c1, .slice a2 d.ns c2] 27)).alloc (.cells #[.int .i64 2, .int .i64 a.x, .string a.s, .slice ak a.nk ck, .int .i64 a.t] 46)).alloc (.cells #[.slice none 0 0, .slice none 0 0, .slice none 0 0] 27)) := (((Below.refl w.heap.size w).alloc (Nat.le_refl _) _).alloc (by simp) _).alloc (by simp; omega) _
  have AA1 : Hid (Below w.heap.size w (((w.alloc (.cells #[.slice a0 d.nb c0, .slice a1 d.nc c1, .slice a2 d.ns c2] 27)).alloc (.cells #[.int .i64 2, .int .i64 a.x, .string a.s, .slice ak a.nk ck, .int .i64 a.t] 46)).alloc (.cells #[.slice none 0 0, .slice none 0 0, .slice none 0 0] 27))) := A1
  have X0 : Hid (Box3 (((w.alloc (.cells #[.slice a0 d.nb c0, .slice a1 d.nc c1, .slice a2 d.ns c2] 27)).alloc (.cells #[.int .i64 2, .int .i64 a.x, .string a.s, .slice ak a.nk ck, .int .i64 a.t] 46)).alloc (.cells #[.slice none 0 0, .slice none 0 0, .slice none 0 0] 27)) (w.heap.size + 2) 27 (.slice none 0 0) (.slice none 0 0) (.slice none 0 0)) := Box3.madeAt (by simp) _ _ _ _
  have Y0 : Hid (Box3 (((w.alloc (.cells #[.slice a0 d.nb c0, .slice a1 d.nc c1, .slice a2 d.ns c2] 27)).alloc (.cells #[.int .i64 2, .int .i64 a.x, .string a.s, .slice ak a.nk ck, .int .i64 a.t] 46)).alloc (.cells #[.slice none 0 0, .slice none 0 0, .slice none 0 0] 27)) w.heap.size 27 (.slice a0 d.nb c0) (.slice a1 d.nc c1) (.slice a2 d.ns c2)) := ((Box3.made w _ _ _ _).alloc _).alloc _
  have DV : Hid (DiskV w d a0 a1 a2) := h
  have f : d.fault a = 0 := by unfold Dk.fault; simp [hk]
  have g : d.done a = d.synced := by unfold Dk.done; rw [f]; unfold Dk.acted; simp [hk]
  have CC : Hid (Calls Tryd.prog 36 #[.agg #[.slice a0 d.nb c0, .slice a1 d.nc c1, .slice a2 d.ns c2]] (((w.alloc (.cells #[.slice a0 d.nb c0, .slice a1 d.nc c1, .slice a2 d.ns c2] 27)).alloc (.cells #[.int .i64 2, .int .i64 a.x, .string a.s, .slice ak a.nk ck, .int .i64 a.t] 46)).alloc (.cells #[.slice none 0 0, .slice none 0 0, .slice none 0 0] 27)) fun e w' => (∃ v0 v1 v2, e = .returned (.agg #[v0, v1, v2]) ∧ Rows3 w' (((w.alloc (.cells #[.slice a0 d.nb c0, .slice a1 d.nc c1, .slice a2 d.ns c2] 27)).alloc (.cells #[.int .i64 2, .int .i64 a.x, .string a.s, .slice ak a.nk ck, .int .i64 a.t] 46)).alloc (.cells #[.slice none 0 0, .slice none 0 0, .slice none 0 0] 27)).heap.size d.synced v0 v1 v2) ∧ Below (((w.alloc (.cells #[.slice a0 d.nb c0, .slice a1 d.nc c1, .slice a2 d.ns c2] 27)).alloc (.cells #[.int .i64 2, .int .i64 a.x, .string a.s, .slice ak a.nk ck, .int .i64 a.t] 46)).alloc (.cells #[.slice none 0 0, .slice none 0 0, .slice none 0 0] 27)).heap.size (((w.alloc (.cells #[.slice a0 d.nb c0, .slice a1 d.nc c1, .slice a2 d.ns c2] 27)).alloc (.cells #[.int .i64 2, .int .i64 a.x, .string a.s, .slice ak a.nk ck, .int .i64 a.t] 46)).alloc (.cells #[.slice none 0 0, .slice none 0 0, .slice none 0 0] 27)) w') := l05Sync_any d a0 a1 a2 c0 c1 c2 hd z0 z1 z2 _ (h.below A1)
  have G0 : w.heap.size + 3 ≤ (((w.alloc (.cells #[.slice a0 d.nb c0, .slice a1 d.nc c1, .slice a2 d.ns c2] 27)).alloc (.cells #[.int .i64 2, .int .i64 a.x, .string a.s, .slice ak a.nk ck, .int .i64 a.t] 46)).alloc (.cells #[.slice none 0 0, .slice none 0 0, .slice none 0 0] 27)).heap.size := by simp
  rw [f, g]
  clear h A1 z0 z1 z2
  go_enter Tryd.func18, Tryd.ntmps18
  go_wp2_with fail
  generalize (((w.alloc (.cells #[.slice a0 d.nb c0, .slice a1 d.nc c1, .slice a2 d.ns c2] 27)).alloc (.cells #[.int .i64 2, .int .i64 a.x, .string a.s, .slice ak a.nk ck, .int .i64 a.t] 46)).alloc (.cells #[.slice none 0 0, .slice none 0 0, .slice none 0 0] 27)) = u at *
  refine (Calls.mono CC.out) ?_
  rintro e w1 ⟨⟨v0, v1, v2, rfl, hR⟩, hb⟩
  obtain ⟨i0, i1, i2, k0, k1, k2, rfl, rfl, rfl, -⟩ := hR.diskV
  have X1 := X0.out.below hb
  have x0 := X1.c0
  have x1 := X1.c1
  have x2 := X1.c2
  have f0 := X1.fr 0
  have f1 := X1.fr 1
  have f2 := X1.fr 2
  have B1 : Below w.heap.size w w1 := AA1.out.trans (hb.mono AA1.out.size)
  have O5 : OnlyB (w.heap.size + 2) w1 (((w1.setCell ⟨w.heap.size + 2, 0, none⟩ (.slice i0 d.synced.nb k0)).setCell ⟨w.heap.size + 2, 1, none⟩ (.slice i1 d.synced.nc k1)).setCell ⟨w.heap.size + 2, 2, none⟩ (.slice i2 d.synced.ns k2)) := (((OnlyB.refl _ w1).setCell 0 _).setCell 1 _).setCell 2 _
  have X5 : Hid (Box3 (((w1.setCell ⟨w.heap.size + 2, 0, none⟩ (.slice i0 d.synced.nb k0)).setCell ⟨w.heap.size + 2, 1, none⟩ (.slice i1 d.synced.nc k1)).setCell ⟨w.heap.size + 2, 2, none⟩ (.slice i2 d.synced.ns k2)) (w.heap.size + 2) 27 (.slice i0 d.synced.nb k0) (.slice i1 d.synced.nc k1) (.slice i2 d.synced.ns k2)) := ((X1.set0 _).set1 _).set2 _
  have R5 : Hid (Rows3 (((w1.setCell ⟨w.heap.size + 2, 0, none⟩ (.slice i0 d.synced.nb k0)).setCell ⟨w.heap.size + 2, 1, none⟩ (.slice i1 d.synced.nc k1)).setCell ⟨w.heap.size + 2, 2, none⟩ (.slice i2 d.synced.ns k2)) u.heap.size d.synced (.slice i0 d.synced.nb k0) (.slice i1 d.synced.nc k1) (.slice i2 d.synced.ns k2)) := ⟨hR.t0.onlyB O5 (fun e => by have := (World.ownsRow.lt hR.t0 _ e).1; omega), hR.t1.onlyB O5 (fun e => by have := (World.ownsRow.lt hR.t1 _ e).1; omega), hR.t2.onlyB O5 (fun e => by have := (World.ownsRow.lt hR.t2 _ e).1; omega), hR.n01, hR.n02, hR.n12⟩
  have B5 : Hid (Below w.heap.size w (((w1.setCell ⟨w.heap.size + 2, 0, none⟩ (.slice i0 d.synced.nb k0)).setCell ⟨w.heap.size + 2, 1, none⟩ (.slice i1 d.synced.nc k1)).setCell ⟨w.heap.size + 2, 2, none⟩ (.slice i2 d.synced.ns k2))) := B1.trans (O5.toBelow (by omega) B1.size)
  clear O5 X1 hR hb B1 CC X0 Y0 AA1 f g
  go_wp2
  generalize (((w1.setCell ⟨w.heap.size + 2, 0, none⟩ (.slice i0 d.synced.nb k0)).setCell ⟨w.heap.size + 2, 1, none⟩ (.slice i1 d.synced.nc k1)).setCell ⟨w.heap.size + 2, 2, none⟩ (.slice i2 d.synced.ns k2)) = u5 at *
  clear x0 x1 x2 f0 f1 f2
  have y0 := X5.out.c0
  have y1 := X5.out.c1
  have y2 := X5.out.c2
  obtain ⟨j0, j1, j2, l0, l1, l2, e0, e1, e2, hv, q0, q1, q2⟩ := R5.out.diskV
  cases e0
  cases e1
  cases e2
  exact ret_cell2 (b := w.heap.size + 2) (v := .agg #[.slice i0 d.synced.nb k0, .slice i1 d.synced.nc k1, .slice i2 d.synced.ns k2]) Tryd.results18 rfl rfl (by go_simp) ⟨⟨_, _, _, _, _, _, rfl, hv, q0, q1, q2, R5.out.fr0 (by omega), R5.out.fr1 (by omega), R5.out.fr2 (by omega)⟩, B5.out⟩
set_option maxRecDepth 100000 in
set_option maxHeartbeats 2000000 in
theorem step_crash (d : Dk) (a : Ac) (a0 a1 a2 ak : Option Addr) (c0 c1 c2 ck : Nat) (hd : d.Ok) (z0 : a0 = none → c0 = 0) (z1 : a1 = none → c1 = 0) (z2 : a2 = none → c2 = 0) (w : World) (h : DiskV w d a0 a1 a2) (hk : a.kd = 3) (hnk : a.nk ≤ 1048576) (hK : Bls w w.heap.size ak a.nk a.K) :
    Calls Tryd.prog 18 #[.agg #[.slice a0 d.nb c0, .slice a1 d.nc c1, .slice a2 d.ns c2], .agg #[.int .i64 3, .int .i64 a.x, .string a.s, .slice ak a.nk ck, .int .i64 a.t]] w fun e w' => RetT w.heap.size a0 a1 a2 w' e (d.done a) (codeF (d.fault a)) ∧ Below w.heap.size w w' := by
  have A1 : Below w.heap.size w (((w.alloc (.cells #[.slice a0 d.nb c0, .slice a1 d.nc c1, .slice a2 d.ns c2] 27)).alloc (.cells #[.int .i64 3, .int .i64 a.x, .string a.s, .slice ak a.nk ck, .int .i64 a.t] 46)).alloc (.cells #[.slice none 0 0, .slice none 0 0, .slice none 0 0] 27)) := (((Below.refl w.heap.size w).alloc (Nat.le_refl _) _).alloc (by simp) _).alloc (by simp; omega) _
  have AA1 : Hid (Below w.heap.size w (((w.alloc (.cells #[.slice a0 d.nb c0, .slice a1 d.nc c1, .slice a2 d.ns c2] 27)).alloc (.cells #[.int .i64 3, .int .i64 a.x, .string a.s, .slice ak a.nk ck, .int .i64 a.t] 46)).alloc (.cells #[.slice none 0 0, .slice none 0 0, .slice none 0 0] 27))) := A1
  have X0 : Hid (Box3 (((w.alloc (.cells #[.slice a0 d.nb c0, .slice a1 d.nc c1, .slice a2 d.ns c2] 27)).alloc (.cells #[.int .i64 3, .int .i64 a.x, .string a.s, .slice ak a.nk ck, .int .i64 a.t] 46)).alloc (.cells #[.slice none 0 0, .slice none 0 0, .slice none 0 0] 27)) (w.heap.size + 2) 27 (.slice none 0 0) (.slice none 0 0) (.slice none 0 0)) := Box3.madeAt (by simp) _ _ _ _
  have Y0 : Hid (Box3 (((w.alloc (.cells #[.slice a0 d.nb c0, .slice a1 d.nc c1, .slice a2 d.ns c2] 27)).alloc (.cells #[.int .i64 3, .int .i64 a.x, .string a.s, .slice ak a.nk ck, .int .i64 a.t] 46)).alloc (.cells #[.slice none 0 0, .slice none 0 0, .slice none 0 0] 27)) w.heap.size 27 (.slice a0 d.nb c0) (.slice a1 d.nc c1) (.slice a2 d.ns c2)) := ((Box3.made w _ _ _ _).alloc _).alloc _
  have DV : Hid (DiskV w d a0 a1 a2) := h
  have f : d.fault a = 0 := by unfold Dk.fault; simp [hk]
  have g : d.done a = (d.crashed a.nk a.K a.t) := by unfold Dk.done; rw [f]; unfold Dk.acted; simp [hk]
  have CC : Hid (Calls Tryd.prog 37 #[.agg #[.slice a0 d.nb c0, .slice a1 d.nc c1, .slice a2 d.ns c2], .slice ak a.nk ck, .int .i64 a.t] (((w.alloc (.cells #[.slice a0 d.nb c0, .slice a1 d.nc c1, .slice a2 d.ns c2] 27)).alloc (.cells #[.int .i64 3, .int .i64 a.x, .string a.s, .slice ak a.nk ck, .int .i64 a.t] 46)).alloc (.cells #[.slice none 0 0, .slice none 0 0, .slice none 0 0] 27)) fun e w' => (∃ v0 v1 v2, e = .returned (.agg #[v0, v1, v2]) ∧ Rows3 w' (((w.alloc (.cells #[.slice a0 d.nb c0, .slice a1 d.nc c1, .slice a2 d.ns c2] 27)).alloc (.cells #[.int .i64 3, .int .i64 a.x, .string a.s, .slice ak a.nk ck, .int .i64 a.t] 46)).alloc (.cells #[.slice none 0 0, .slice none 0 0, .slice none 0 0] 27)).heap.size (d.crashed a.nk a.K a.t) v0 v1 v2) ∧ Below (((w.alloc (.cells #[.slice a0 d.nb c0, .slice a1 d.nc c1, .slice a2 d.ns c2] 27)).alloc (.cells #[.int .i64 3, .int .i64 a.x, .string a.s, .slice ak a.nk ck, .int .i64 a.t] 46)).alloc (.cells #[.slice none 0 0, .slice none 0 0, .slice none 0 0] 27)).heap.size (((w.alloc (.cells #[.slice a0 d.nb c0, .slice a1 d.nc c1, .slice a2 d.ns c2] 27)).alloc (.cells #[.int .i64 3, .int .i64 a.x, .string a.s, .slice ak a.nk ck, .int .i64 a.t] 46)).alloc (.cells #[.slice none 0 0, .slice none 0 0, .slice none 0 0] 27)) w') := l05Crash_any d a0 a1 a2 ak c0 c1 c2 a.nk ck a.K a.t hd hnk z0 z1 z2 _ (h.below A1) (fun i hi => by obtain ⟨b, off, e1, e2, e3⟩ := hK.below A1 i hi; exact ⟨b, off, e1, Nat.lt_of_lt_of_le e2 A1.size, e3⟩)
  have G0 : w.heap.size + 3 ≤ (((w.alloc (.cells #[.slice a0 d.nb c0, .slice a1 d.nc c1, .slice a2 d.ns c2] 27)).alloc (.cells #[.int .i64 3, .int .i64 a.x, .string a.s, .slice ak a.nk ck, .int .i64 a.t] 46)).alloc (.cells #[.slice none 0 0, .slice none 0 0, .slice none 0 0] 27)).heap.size := by simp
  rw [f, g]
  clear h A1 z0 z1 z2 hK hnk
  go_enter Tryd.func18, Tryd.ntmps18
  go_wp2_with fail
  generalize (((w.alloc (.cells #[.slice a0 d.nb c0, .slice a1 d.nc c1, .slice a2 d.ns c2] 27)).alloc (.cells #[.int .i64 3, .int .i64 a.x, .string a.s, .slice ak a.nk ck, .int .i64 a.t] 46)).alloc (.cells #[.slice none 0 0, .slice none 0 0, .slice none 0 0] 27)) = u at *
  refine (Calls.mono CC.out) ?_
  rintro e w1 ⟨⟨v0, v1, v2, rfl, hR⟩, hb⟩
  obtain ⟨i0, i1, i2, k0, k1, k2, rfl, rfl, rfl, -⟩ := hR.diskV
  have X1 := X0.out.below hb
  have x0 := X1.c0
  have x1 := X1.c1
  have x2 := X1.c2
  have f0 := X1.fr 0
  have f1 := X1.fr 1
  have f2 := X1.fr 2
  have B1 : Below w.heap.size w w1 := AA1.out.trans (hb.mono AA1.out.size)
  have O5 : OnlyB (w.heap.size + 2) w1 (((w1.setCell ⟨w.heap.size + 2, 0, none⟩ (.slice i0 (d.crashed a.nk a.K a.t).nb k0)).setCell ⟨w.heap.size + 2, 1, none⟩ (.slice i1 (d.crashed a.nk a.K a.t).nc k1)).setCell ⟨w.heap.size + 2, 2, none⟩ (.slice i2 (d.crashed a.nk a.K a.t).ns k2)) := (((OnlyB.refl _ w1).setCell 0 _).setCell 1 _).setCell 2 _
  have X5 : Hid (Box3 (((w1.setCell ⟨w.heap.size + 2, 0, none⟩ (.slice i0 (d.crashed a.nk a.K a.t).nb k0)).setCell ⟨w.heap.size + 2, 1, none⟩ (.slice i1 (d.crashed a.nk a.K a.t).nc k1)).setCell ⟨w.heap.size + 2, 2, none⟩ (.slice i2 (d.crashed a.nk a.K a.t).ns k2)) (w.heap.size + 2) 27 (.slice i0 (d.crashed a.nk a.K a.t).nb k0) (.slice i1 (d.crashed a.nk a.K a.t).nc k1) (.slice i2 (d.crashed a.nk a.K a.t).ns k2)) := ((X1.set0 _).set1 _).set2 _
  have R5 : Hid (Rows3 (((w1.setCell ⟨w.heap.size + 2, 0, none⟩ (.slice i0 (d.crashed a.nk a.K a.t).nb k0)).setCell ⟨w.heap.size + 2, 1, none⟩ (.slice i1 (d.crashed a.nk a.K a.t).nc k1)).setCell ⟨w.heap.size + 2, 2, none⟩ (.slice i2 (d.crashed a.nk a.K a.t).ns k2)) u.heap.size (d.crashed a.nk a.K a.t) (.slice i0 (d.crashed a.nk a.K a.t).nb k0) (.slice i1 (d.crashed a.nk a.K a.t).nc k1) (.slice i2 (d.crashed a.nk a.K a.t).ns k2)) := ⟨hR.t0.onlyB O5 (fun e => by have := (World.ownsRow.lt hR.t0 _ e).1; omega), hR.t1.onlyB O5 (fun e => by have := (World.ownsRow.lt hR.t1 _ e).1; omega), hR.t2.onlyB O5 (fun e => by have := (World.ownsRow.lt hR.t2 _ e).1; omega), hR.n01, hR.n02, hR.n12⟩
  have B5 : Hid (Below w.heap.size w (((w1.setCell ⟨w.heap.size + 2, 0, none⟩ (.slice i0 (d.crashed a.nk a.K a.t).nb k0)).setCell ⟨w.heap.size + 2, 1, none⟩ (.slice i1 (d.crashed a.nk a.K a.t).nc k1)).setCell ⟨w.heap.size + 2, 2, none⟩ (.slice i2 (d.crashed a.nk a.K a.t).ns k2))) := B1.trans (O5.toBelow (by omega) B1.size)
  clear O5 X1 hR hb B1 CC X0 Y0 AA1 f g
  go_wp2
  generalize (((w1.setCell ⟨w.heap.size + 2, 0, none⟩ (.slice i0 (d.crashed a.nk a.K a.t).nb k0)).setCell ⟨w.heap.size + 2, 1, none⟩ (.slice i1 (d.crashed a.nk a.K a.t).nc k1)).setCell ⟨w.heap.size + 2, 2, none⟩ (.slice i2 (d.crashed a.nk a.K a.t).ns k2)) = u5 at *
  clear x0 x1 x2 f0 f1 f2
  have y0 := X5.out.c0
  have y1 := X5.out.c1
  have y2 := X5.out.c2
  obtain ⟨j0, j1, j2, l0, l1, l2, e0, e1, e2, hv, q0, q1, q2⟩ := R5.out.diskV
  cases e0
  cases e1
  cases e2
  exact ret_cell2 (b := w.heap.size + 2) (v := .agg #[.slice i0 (d.crashed a.nk a.K a.t).nb k0, .slice i1 (d.crashed a.nk a.K a.t).nc k1, .slice i2 (d.crashed a.nk a.K a.t).ns k2]) Tryd.results18 rfl rfl (by go_simp) ⟨⟨_, _, _, _, _, _, rfl, hv, q0, q1, q2, R5.out.fr0 (by omega), R5.out.fr1 (by omega), R5.out.fr2 (by omega)⟩, B5.out⟩
set_option maxRecDepth 100000 in
set_option maxHeartbeats 2000000 in
theorem step_none (d : Dk) (a : Ac) (a0 a1 a2 ak : Option Addr) (c0 c1 c2 ck : Nat) (hd : d.Ok) (z0 : a0 = none → c0 = 0) (z1 : a1 = none → c1 = 0) (z2 : a2 = none → c2 = 0) (w : World) (h : DiskV w d a0 a1 a2) (hk : a.kd ≠ 1 ∧ a.kd ≠ 2 ∧ a.kd ≠ 3 ∧ a.kd ≠ 4 ∧ a.kd ≠ 5 ∧ a.kd ≠ 6) :
    Calls Tryd.prog 18 #[.agg #[.slice a0 d.nb c0, .slice a1 d.nc c1, .slice a2 d.ns c2], .agg #[.int .i64 a.kd, .int .i64 a.x, .string a.s, .slice ak a.nk ck, .int .i64 a.t]] w fun e w' => RetT w.heap.size a0 a1 a2 w' e (d.done a) (codeF (d.fault a)) ∧ Below w.heap.size w w' := by
  have A1 : Below w.heap.size w (((w.alloc (.cells #[.slice a0 d.nb c0, .slice a1 d.nc c1, .slice a2 d.ns c2] 27)).alloc (.cells #[.int .i64 a.kd, .int .i64 a.x, .string a.s, .slice ak a.nk ck, .int .i64 a.t] 46)).alloc (.cells #[.slice none 0 0, .slice none 0 0, .slice none 0 0] 27)) := (((Below.refl w.heap.size w).alloc (Nat.le_refl _) _).alloc (by simp) _).alloc (by simp; omega) _
  have AA1 : Hid (Below w.heap.size w (((w.alloc (.cells #[.slice a0 d.nb c0, .slice a1 d.nc c1, .slice a2 d.ns c2] 27)).alloc (.cells #[.int .i64 a.kd, .int .i64 a.x, .string a.s, .slice ak a.nk ck, .int .i64 a.t] 46)).alloc (.cells #[.slice none 0 0, .slice none 0 0, .slice none 0 0] 27))) := A1
  have X0 : Hid (Box3 (((w.alloc (.cells #[.slice a0 d.nb c0, .slice a1 d.nc c1, .slice a2 d.ns c2] 27)).alloc (.cells #[.int .i64 a.kd, .int .i64 a.x, .string a.s, .slice ak a.nk ck, .int .i64 a.t] 46)).alloc (.cells #[.slice none 0 0, .slice none 0 0, .slice none 0 0] 27)) (w.heap.size + 2) 27 (.slice none 0 0) (.slice none 0 0) (.slice none 0 0)) := Box3.madeAt (by simp) _ _ _ _
  have Y0 : Hid (Box3 (((w.alloc (.cells #[.slice a0 d.nb c0, .slice a1 d.nc c1, .slice a2 d.ns c2] 27)).alloc (.cells #[.int .i64 a.kd, .int .i64 a.x, .string a.s, .slice ak a.nk ck, .int .i64 a.t] 46)).alloc (.cells #[.slice none 0 0, .slice none 0 0, .slice none 0 0] 27)) w.heap.size 27 (.slice a0 d.nb c0) (.slice a1 d.nc c1) (.slice a2 d.ns c2)) := ((Box3.made w _ _ _ _).alloc _).alloc _
  have DV : Hid (DiskV w d a0 a1 a2) := h
  have f : d.fault a = 5 := by unfold Dk.fault; simp [hk]
  have g : d.done a = d := by unfold Dk.done; rw [f]; rfl
  have HV : Hid (DiskV w d a0 a1 a2 ∧ (a0 = none → c0 = 0) ∧ (a1 = none → c1 = 0) ∧ (a2 = none → c2 = 0)) := ⟨h, z0, z1, z2⟩
  have n1 : (a.kd == 1) = false := by simp [hk]
  have n2 : (a.kd == 2) = false := by simp [hk]
  have n3 : (a.kd == 3) = false := by simp [hk]
  have n4 : (a.kd == 4) = false := by simp [hk]
  have n5 : (a.kd == 5) = false := by simp [hk]
  have n6 : (a.kd == 6) = false := by simp [hk]
  clear hk
  rw [f, g]
  clear h A1 z0 z1 z2 f g X0 Y0 DV AA1
  go_enter Tryd.func18, Tryd.ntmps18
  go_wp2
  have A1 : Below w.heap.size w (((w.alloc (.cells #[.slice a0 d.nb c0, .slice a1 d.nc c1, .slice a2 d.ns c2] 27)).alloc (.cells #[.int .i64 a.kd, .int .i64 a.x, .string a.s, .slice ak a.nk ck, .int .i64 a.t] 46)).alloc (.cells #[.slice a0 d.nb c0, .slice a1 d.nc c1, .slice a2 d.ns c2] 27)) := (((Below.refl w.heap.size w).alloc (Nat.le_refl _) _).alloc (by simp) _).alloc (by simp; omega) _
  have Y5 : Box3 (((w.alloc (.cells #[.slice a0 d.nb c0, .slice a1 d.nc c1, .slice a2 d.ns c2] 27)).alloc (.cells #[.int .i64 a.kd, .int .i64 a.x, .string a.s, .slice ak a.nk ck, .int .i64 a.t] 46)).alloc (.cells #[.slice a0 d.nb c0, .slice a1 d.nc c1, .slice a2 d.ns c2] 27)) (w.heap.size + 2) 27 (.slice a0 d.nb c0) (.slice a1 d.nc c1) (.slice a2 d.ns c2) := Box3.madeAt (by simp) _ _ _ _
  have y0 := Y5.c0
  have y1 := Y5.c1
  have y2 := Y5.c2
  generalize (((w.alloc (.cells #[.slice a0 d.nb c0, .slice a1 d.nc c1, .slice a2 d.ns c2] 27)).alloc (.cells #[.int .i64 a.kd, .int .i64 a.x, .string a.s, .slice ak a.nk ck, .int .i64 a.t] 46)).alloc (.cells #[.slice a0 d.nb c0, .slice a1 d.nc c1, .slice a2 d.ns c2] 27)) = u5 at *
  exact ret_cell2 (b := w.heap.size + 2) (v := .agg #[.slice a0 d.nb c0, .slice a1 d.nc c1, .slice a2 d.ns c2]) Tryd.results18 rfl rfl (by go_simp) ⟨⟨_, _, _, _, _, _, rfl, HV.out.1.below A1, HV.out.2.1, HV.out.2.2.1, HV.out.2.2.2, .inl rfl, .inl rfl, .inl rfl⟩, A1⟩
set_option maxRecDepth 100000 in
set_option maxHeartbeats 2000000 in
theorem step_roll_no (d : Dk) (a : Ac) (a0 a1 a2 ak : Option Addr) (c0 c1 c2 ck : Nat) (hd : d.Ok) (z0 : a0 = none → c0 = 0) (z1 : a1 = none → c1 = 0) (z2 : a2 = none → c2 = 0) (w : World) (h : DiskV w d a0 a1 a2) (hk : a.kd = 5) (hs : d.ns = 0) :
    Calls Tryd.prog 18 #[.agg #[.slice a0 d.nb c0, .slice a1 d.nc c1, .slice a2 d.ns c2], .agg #[.int .i64 5, .int .i64 a.x, .string a.s, .slice ak a.nk ck, .int .i64 a.t]] w fun e w' => RetT w.heap.size a0 a1 a2 w' e (d.done a) (codeF (d.fault a)) ∧ Below w.heap.size w w' := by
  have A1 : Below w.heap.size w (((w.alloc (.cells #[.slice a0 d.nb c0, .slice a1 d.nc c1, .slice a2 d.ns c2] 27)).alloc (.cells #[.int .i64 5, .int .i64 a.x, .string a.s, .slice ak a.nk ck, .int .i64 a.t] 46)).alloc (.cells #[.slice none 0 0, .slice none 0 0, .slice none 0 0] 27)) := (((Below.refl w.heap.size w).alloc (Nat.le_refl _) _).alloc (by simp) _).alloc (by simp; omega) _
  have AA1 : Hid (Below w.heap.size w (((w.alloc (.cells #[.slice a0 d.nb c0, .slice a1 d.nc c1, .slice a2 d.ns c2] 27)).alloc (.cells #[.int .i64 5, .int .i64 a.x, .string a.s, .slice ak a.nk ck, .int .i64 a.t] 46)).alloc (.cells #[.slice none 0 0, .slice none 0 0, .slice none 0 0] 27))) := A1
  have X0 : Hid (Box3 (((w.alloc (.cells #[.slice a0 d.nb c0, .slice a1 d.nc c1, .slice a2 d.ns c2] 27)).alloc (.cells #[.int .i64 5, .int .i64 a.x, .string a.s, .slice ak a.nk ck, .int .i64 a.t] 46)).alloc (.cells #[.slice none 0 0, .slice none 0 0, .slice none 0 0] 27)) (w.heap.size + 2) 27 (.slice none 0 0) (.slice none 0 0) (.slice none 0 0)) := Box3.madeAt (by simp) _ _ _ _
  have Y0 : Hid (Box3 (((w.alloc (.cells #[.slice a0 d.nb c0, .slice a1 d.nc c1, .slice a2 d.ns c2] 27)).alloc (.cells #[.int .i64 5, .int .i64 a.x, .string a.s, .slice ak a.nk ck, .int .i64 a.t] 46)).alloc (.cells #[.slice none 0 0, .slice none 0 0, .slice none 0 0] 27)) w.heap.size 27 (.slice a0 d.nb c0) (.slice a1 d.nc c1) (.slice a2 d.ns c2)) := ((Box3.made w _ _ _ _).alloc _).alloc _
  have DV : Hid (DiskV w d a0 a1 a2) := h
  have f : d.fault a = 4 := by unfold Dk.fault; simp [hk, hs]
  have g : d.done a = d := by unfold Dk.done; rw [f]; rfl
  have HV : Hid (DiskV w d a0 a1 a2 ∧ (a0 = none → c0 = 0) ∧ (a1 = none → c1 = 0) ∧ (a2 = none → c2 = 0)) := ⟨h, z0, z1, z2⟩
  have e0 : ((d.ns : Int) == 0) = true := by simp [hs]
  clear hs
  rw [f, g]
  clear h A1 z0 z1 z2 f g X0 Y0 DV AA1
  go_enter Tryd.func18, Tryd.ntmps18
  go_wp2
  have A1 : Below w.heap.size w (((w.alloc (.cells #[.slice a0 d.nb c0, .slice a1 d.nc c1, .slice a2 d.ns c2] 27)).alloc (.cells #[.int .i64 5, .int .i64 a.x, .string a.s, .slice ak a.nk ck, .int .i64 a.t] 46)).alloc (.cells #[.slice a0 d.nb c0, .slice a1 d.nc c1, .slice a2 d.ns c2] 27)) := (((Below.refl w.heap.size w).alloc (Nat.le_refl _) _).alloc (by simp) _).alloc (by simp; omega) _
  have Y5 : Box3 (((w.alloc (.cells #[.slice a0 d.nb c0, .slice a1 d.nc c1, .slice a2 d.ns c2] 27)).alloc (.cells #[.int .i64 5, .int .i64 a.x, .string a.s, .slice ak a.nk ck, .int .i64 a.t] 46)).alloc (.cells #[.slice a0 d.nb c0, .slice a1 d.nc c1, .slice a2 d.ns c2] 27)) (w.heap.size + 2) 27 (.slice a0 d.nb c0) (.slice a1 d.nc c1) (.slice a2 d.ns c2) := Box3.madeAt (by simp) _ _ _ _
  have y0 := Y5.c0
  have y1 := Y5.c1
  have y2 := Y5.c2
  generalize (((w.alloc (.cells #[.slice a0 d.nb c0, .slice a1 d.nc c1, .slice a2 d.ns c2] 27)).alloc (.cells #[.int .i64 5, .int .i64 a.x, .string a.s, .slice ak a.nk ck, .int .i64 a.t] 46)).alloc (.cells #[.slice a0 d.nb c0, .slice a1 d.nc c1, .slice a2 d.ns c2] 27)) = u5 at *
  exact ret_cell2 (b := w.heap.size + 2) (v := .agg #[.slice a0 d.nb c0, .slice a1 d.nc c1, .slice a2 d.ns c2]) Tryd.results18 rfl rfl (by go_simp) ⟨⟨_, _, _, _, _, _, rfl, HV.out.1.below A1, HV.out.2.1, HV.out.2.2.1, HV.out.2.2.2, .inl rfl, .inl rfl, .inl rfl⟩, A1⟩
set_option maxRecDepth 100000 in
set_option maxHeartbeats 2000000 in
theorem step_range1 (d : Dk) (a : Ac) (a0 a1 a2 ak : Option Addr) (c0 c1 c2 ck : Nat) (hd : d.Ok) (z0 : a0 = none → c0 = 0) (z1 : a1 = none → c1 = 0) (z2 : a2 = none → c2 = 0) (w : World) (h : DiskV w d a0 a1 a2) (hk : a.kd = 1) (hx : ¬ (0 ≤ a.x ∧ a.x < d.nb)) :
    Calls Tryd.prog 18 #[.agg #[.slice a0 d.nb c0, .slice a1 d.nc c1, .slice a2 d.ns c2], .agg #[.int .i64 1, .int .i64 a.x, .string a.s, .slice ak a.nk ck, .int .i64 a.t]] w fun e w' => RetT w.heap.size a0 a1 a2 w' e (d.done a) (codeF (d.fault a)) ∧ Below w.heap.size w w' := by
  have A1 : Below w.heap.size w (((w.alloc (.cells #[.slice a0 d.nb c0, .slice a1 d.nc c1, .slice a2 d.ns c2] 27)).alloc (.cells #[.int .i64 1, .int .i64 a.x, .string a.s, .slice ak a.nk ck, .int .i64 a.t] 46)).alloc (.cells #[.slice none 0 0, .slice none 0 0, .slice none 0 0] 27)) := (((Below.refl w.heap.size w).alloc (Nat.le_refl _) _).alloc (by simp) _).alloc (by simp; omega) _
  have AA1 : Hid (Below w.heap.size w (((w.alloc (.cells #[.slice a0 d.nb c0, .slice a1 d.nc c1, .slice a2 d.ns c2] 27)).alloc (.cells #[.int .i64 1, .int .i64 a.x, .string a.s, .slice ak a.nk ck, .int .i64 a.t] 46)).alloc (.cells #[.slice none 0 0, .slice none 0 0, .slice none 0 0] 27))) := A1
  have X0 : Hid (Box3 (((w.alloc (.cells #[.slice a0 d.nb c0, .slice a1 d.nc c1, .slice a2 d.ns c2] 27)).alloc (.cells #[.int .i64 1, .int .i64 a.x, .string a.s, .slice ak a.nk ck, .int .i64 a.t] 46)).alloc (.cells #[.slice none 0 0, .slice none 0 0, .slice none 0 0] 27)) (w.heap.size + 2) 27 (.slice none 0 0) (.slice none 0 0) (.slice none 0 0)) := Box3.madeAt (by simp) _ _ _ _
  have Y0 : Hid (Box3 (((w.alloc (.cells #[.slice a0 d.nb c0, .slice a1 d.nc c1, .slice a2 d.ns c2] 27)).alloc (.cells #[.int .i64 1, .int .i64 a.x, .string a.s, .slice ak a.nk ck, .int .i64 a.t] 46)).alloc (.cells #[.slice none 0 0, .slice none 0 0, .slice none 0 0] 27)) w.heap.size 27 (.slice a0 d.nb c0) (.slice a1 d.nc c1) (.slice a2 d.ns c2)) := ((Box3.made w _ _ _ _).alloc _).alloc _
  have DV : Hid (DiskV w d a0 a1 a2) := h
  have f : d.fault a = 1 := by unfold Dk.fault; simp [hk, hx]
  have g : d.done a = d := by unfold Dk.done; rw [f]; rfl
  have HV : Hid (DiskV w d a0 a1 a2 ∧ (a0 = none → c0 = 0) ∧ (a1 = none → c1 = 0) ∧ (a2 = none → c2 = 0)) := ⟨h, z0, z1, z2⟩
  have hn1 := hd.nb1
  have hn2 := hd.nb2
  have IN : Hid (∀ w : World, Calls Tryd.prog 35 #[.int .i64 a.x, .int .i64 0, .int .i64 ((d.nb : Int) - 1)] w fun e w' => e = .returned (.bool false) ∧ w = w') := fun w => in_any a.x 0 ((d.nb : Int) - 1) false (by symm; rw [decide_eq_false_iff_not]; omega) w
  rw [f, g]
  clear h A1 z0 z1 z2 f g X0 Y0 DV AA1
  go_enter Tryd.func18, Tryd.ntmps18
  go_wp2_with fail
  refine (Calls.mono (IN.out _)) ?_
  rintro e w1 ⟨rfl, rfl⟩
  go_wp2
  have A1 : Below w.heap.size w (((w.alloc (.cells #[.slice a0 d.nb c0, .slice a1 d.nc c1, .slice a2 d.ns c2] 27)).alloc (.cells #[.int .i64 1, .int .i64 a.x, .string a.s, .slice ak a.nk ck, .int .i64 a.t] 46)).alloc (.cells #[.slice a0 d.nb c0, .slice a1 d.nc c1, .slice a2 d.ns c2] 27)) := (((Below.refl w.heap.size w).alloc (Nat.le_refl _) _).alloc (by simp) _).alloc (by simp; omega) _
  have Y5 : Box3 (((w.alloc (.cells #[.slice a0 d.nb c0, .slice a1 d.nc c1, .slice a2 d.ns c2] 27)).alloc (.cells #[.int .i64 1, .int .i64 a.x, .string a.s, .slice ak a.nk ck, .int .i64 a.t] 46)).alloc (.cells #[.slice a0 d.nb c0, .slice a1 d.nc c1, .slice a2 d.ns c2] 27)) (w.heap.size + 2) 27 (.slice a0 d.nb c0) (.slice a1 d.nc c1) (.slice a2 d.ns c2) := Box3.madeAt (by simp) _ _ _ _
  have y0 := Y5.c0
  have y1 := Y5.c1
  have y2 := Y5.c2
  generalize (((w.alloc (.cells #[.slice a0 d.nb c0, .slice a1 d.nc c1, .slice a2 d.ns c2] 27)).alloc (.cells #[.int .i64 1, .int .i64 a.x, .string a.s, .slice ak a.nk ck, .int .i64 a.t] 46)).alloc (.cells #[.slice a0 d.nb c0, .slice a1 d.nc c1, .slice a2 d.ns c2] 27)) = u5 at *
  exact ret_cell2 (b := w.heap.size + 2) (v := .agg #[.slice a0 d.nb c0, .slice a1 d.nc c1, .slice a2 d.ns c2]) Tryd.results18 rfl rfl (by go_simp) ⟨⟨_, _, _, _, _, _, rfl, HV.out.1.below A1, HV.out.2.1, HV.out.2.2.1, HV.out.2.2.2, .inl rfl, .inl rfl, .inl rfl⟩, A1⟩
set_option maxRecDepth 100000 in
set_option maxHeartbeats 2000000 in
theorem step_long1 (d : Dk) (a : Ac) (a0 a1 a2 ak : Option Addr) (c0 c1 c2 ck : Nat) (hd : d.Ok) (z0 : a0 = none → c0 = 0) (z1 : a1 = none → c1 = 0) (z2 : a2 = none → c2 = 0) (w : World) (h : DiskV w d a0 a1 a2) (hk : a.kd = 1) (hx : 0 ≤ a.x ∧ a.x < d.nb) (hl : 200 < a.s.size) :
    Calls Tryd.prog 18 #[.agg #[.slice a0 d.nb c0, .slice a1 d.nc c1, .slice a2 d.ns c2], .agg #[.int .i64 1, .int .i64 a.x, .string a.s, .slice ak a.nk ck, .int .i64 a.t]] w fun e w' => RetT w.heap.size a0 a1 a2 w' e (d.done a) (codeF (d.fault a)) ∧ Below w.heap.size w w' := by
  have A1 : Below w.heap.size w (((w.alloc (.cells #[.slice a0 d.nb c0, .slice a1 d.nc c1, .slice a2 d.ns c2] 27)).alloc (.cells #[.int .i64 1, .int .i64 a.x, .string a.s, .slice ak a.nk ck, .int .i64 a.t] 46)).alloc (.cells #[.slice none 0 0, .slice none 0 0, .slice none 0 0] 27)) := (((Below.refl w.heap.size w).alloc (Nat.le_refl _) _).alloc (by simp) _).alloc (by simp; omega) _
  have AA1 : Hid (Below w.heap.size w (((w.alloc (.cells #[.slice a0 d.nb c0, .slice a1 d.nc c1, .slice a2 d.ns c2] 27)).alloc (.cells #[.int .i64 1, .int .i64 a.x, .string a.s, .slice ak a.nk ck, .int .i64 a.t] 46)).alloc (.cells #[.slice none 0 0, .slice none 0 0, .slice none 0 0] 27))) := A1
  have X0 : Hid (Box3 (((w.alloc (.cells #[.slice a0 d.nb c0, .slice a1 d.nc c1, .slice a2 d.ns c2] 27)).alloc (.cells #[.int .i64 1, .int .i64 a.x, .string a.s, .slice ak a.nk ck, .int .i64 a.t] 46)).alloc (.cells #[.slice none 0 0, .slice none 0 0, .slice none 0 0] 27)) (w.heap.size + 2) 27 (.slice none 0 0) (.slice none 0 0) (.slice none 0 0)) := Box3.madeAt (by simp) _ _ _ _
  have Y0 : Hid (Box3 (((w.alloc (.cells #[.slice a0 d.nb c0, .slice a1 d.nc c1, .slice a2 d.ns c2] 27)).alloc (.cells #[.int .i64 1, .int .i64 a.x, .string a.s, .slice ak a.nk ck, .int .i64 a.t] 46)).alloc (.cells #[.slice none 0 0, .slice none 0 0, .slice none 0 0] 27)) w.heap.size 27 (.slice a0 d.nb c0) (.slice a1 d.nc c1) (.slice a2 d.ns c2)) := ((Box3.made w _ _ _ _).alloc _).alloc _
  have DV : Hid (DiskV w d a0 a1 a2) := h
  have f : d.fault a = 2 := by unfold Dk.fault; simp [hk, hx, hl]
  have g : d.done a = d := by unfold Dk.done; rw [f]; rfl
  have HV : Hid (DiskV w d a0 a1 a2 ∧ (a0 = none → c0 = 0) ∧ (a1 = none → c1 = 0) ∧ (a2 = none → c2 = 0)) := ⟨h, z0, z1, z2⟩
  have hn1 := hd.nb1
  have hn2 := hd.nb2
  have IN : Hid (∀ w : World, Calls Tryd.prog 35 #[.int .i64 a.x, .int .i64 0, .int .i64 ((d.nb : Int) - 1)] w fun e w' => e = .returned (.bool true) ∧ w = w') := fun w => in_any a.x 0 ((d.nb : Int) - 1) true (by symm; rw [decide_eq_true_iff]; omega) w
  have y9 : (200 : Int) < (a.s.size : Int) := by omega
  rw [f, g]
  clear h A1 z0 z1 z2 f g X0 Y0 DV AA1
  go_enter Tryd.func18, Tryd.ntmps18
  go_wp2_with fail
  refine (Calls.mono (IN.out _)) ?_
  rintro e w1 ⟨rfl, rfl⟩
  go_wp2
  have A1 : Below w.heap.size w (((w.alloc (.cells #[.slice a0 d.nb c0, .slice a1 d.nc c1, .slice a2 d.ns c2] 27)).alloc (.cells #[.int .i64 1, .int .i64 a.x, .string a.s, .slice ak a.nk ck, .int .i64 a.t] 46)).alloc (.cells #[.slice a0 d.nb c0, .slice a1 d.nc c1, .slice a2 d.ns c2] 27)) := (((Below.refl w.heap.size w).alloc (Nat.le_refl _) _).alloc (by simp) _).alloc (by simp; omega) _
  have Y5 : Box3 (((w.alloc (.cells #[.slice a0 d.nb c0, .slice a1 d.nc c1, .slice a2 d.ns c2] 27)).alloc (.cells #[.int .i64 1, .int .i64 a.x, .string a.s, .slice ak a.nk ck, .int .i64 a.t] 46)).alloc (.cells #[.slice a0 d.nb c0, .slice a1 d.nc c1, .slice a2 d.ns c2] 27)) (w.heap.size + 2) 27 (.slice a0 d.nb c0) (.slice a1 d.nc c1) (.slice a2 d.ns c2) := Box3.madeAt (by simp) _ _ _ _
  have y0 := Y5.c0
  have y1 := Y5.c1
  have y2 := Y5.c2
  generalize (((w.alloc (.cells #[.slice a0 d.nb c0, .slice a1 d.nc c1, .slice a2 d.ns c2] 27)).alloc (.cells #[.int .i64 1, .int .i64 a.x, .string a.s, .slice ak a.nk ck, .int .i64 a.t] 46)).alloc (.cells #[.slice a0 d.nb c0, .slice a1 d.nc c1, .slice a2 d.ns c2] 27)) = u5 at *
  exact ret_cell2 (b := w.heap.size + 2) (v := .agg #[.slice a0 d.nb c0, .slice a1 d.nc c1, .slice a2 d.ns c2]) Tryd.results18 rfl rfl (by go_simp) ⟨⟨_, _, _, _, _, _, rfl, HV.out.1.below A1, HV.out.2.1, HV.out.2.2.1, HV.out.2.2.2, .inl rfl, .inl rfl, .inl rfl⟩, A1⟩
set_option maxRecDepth 100000 in
set_option maxHeartbeats 2000000 in
theorem step_range6 (d : Dk) (a : Ac) (a0 a1 a2 ak : Option Addr) (c0 c1 c2 ck : Nat) (hd : d.Ok) (z0 : a0 = none → c0 = 0) (z1 : a1 = none → c1 = 0) (z2 : a2 = none → c2 = 0) (w : World) (h : DiskV w d a0 a1 a2) (hk : a.kd = 6) (hx : ¬ (0 ≤ a.x ∧ a.x < d.nb)) :
    Calls Tryd.prog 18 #[.agg #[.slice a0 d.nb c0, .slice a1 d.nc c1, .slice a2 d.ns c2], .agg #[.int .i64 6, .int .i64 a.x, .string a.s, .slice ak a.nk ck, .int .i64 a.t]] w fun e w' => RetT w.heap.size a0 a1 a2 w' e (d.done a) (codeF (d.fault a)) ∧ Below w.heap.size w w' := by
  have A1 : Below w.heap.size w (((w.alloc (.cells #[.slice a0 d.nb c0, .slice a1 d.nc c1, .slice a2 d.ns c2] 27)).alloc (.cells #[.int .i64 6, .int .i64 a.x, .string a.s, .slice ak a.nk ck, .int .i64 a.t] 46)).alloc (.cells #[.slice none 0 0, .slice none 0 0, .slice none 0 0] 27)) := (((Below.refl w.heap.size w).alloc (Nat.le_refl _) _).alloc (by simp) _).alloc (by simp; omega) _
  have AA1 : Hid (Below w.heap.size w (((w.alloc (.cells #[.slice a0 d.nb c0, .slice a1 d.nc c1, .slice a2 d.ns c2] 27)).alloc (.cells #[.int .i64 6, .int .i64 a.x, .string a.s, .slice ak a.nk ck, .int .i64 a.t] 46)).alloc (.cells #[.slice none 0 0, .slice none 0 0, .slice none 0 0] 27))) := A1
  have X0 : Hid (Box3 (((w.alloc (.cells #[.slice a0 d.nb c0, .slice a1 d.nc c1, .slice a2 d.ns c2] 27)).alloc (.cells #[.int .i64 6, .int .i64 a.x, .string a.s, .slice ak a.nk ck, .int .i64 a.t] 46)).alloc (.cells #[.slice none 0 0, .slice none 0 0, .slice none 0 0] 27)) (w.heap.size + 2) 27 (.slice none 0 0) (.slice none 0 0) (.slice none 0 0)) := Box3.madeAt (by simp) _ _ _ _
  have Y0 : Hid (Box3 (((w.alloc (.cells #[.slice a0 d.nb c0, .slice a1 d.nc c1, .slice a2 d.ns c2] 27)).alloc (.cells #[.int .i64 6, .int .i64 a.x, .string a.s, .slice ak a.nk ck, .int .i64 a.t] 46)).alloc (.cells #[.slice none 0 0, .slice none 0 0, .slice none 0 0] 27)) w.heap.size 27 (.slice a0 d.nb c0) (.slice a1 d.nc c1) (.slice a2 d.ns c2)) := ((Box3.made w _ _ _ _).alloc _).alloc _
  have DV : Hid (DiskV w d a0 a1 a2) := h
  have f : d.fault a = 1 := by unfold Dk.fault; simp [hk, hx]
  have g : d.done a = d := by unfold Dk.done; rw [f]; rfl
  have HV : Hid (DiskV w d a0 a1 a2 ∧ (a0 = none → c0 = 0) ∧ (a1 = none → c1 = 0) ∧ (a2 = none → c2 = 0)) := ⟨h, z0, z1, z2⟩
  have hn1 := hd.nb1
  have hn2 := hd.nb2
  have IN : Hid (∀ w : World, Calls Tryd.prog 35 #[.int .i64 a.x, .int .i64 0, .int .i64 ((d.nb : Int) - 1)] w fun e w' => e = .returned (.bool false) ∧ w = w') := fun w => in_any a.x 0 ((d.nb : Int) - 1) false (by symm; rw [decide_eq_false_iff_not]; omega) w
  rw [f, g]
  clear h A1 z0 z1 z2 f g X0 Y0 DV AA1
  go_enter Tryd.func18, Tryd.ntmps18
  go_wp2_with fail
  refine (Calls.mono (IN.out _)) ?_
  rintro e w1 ⟨rfl, rfl⟩
  go_wp2
  have A1 : Below w.heap.size w (((w.alloc (.cells #[.slice a0 d.nb c0, .slice a1 d.nc c1, .slice a2 d.ns c2] 27)).alloc (.cells #[.int .i64 6, .int .i64 a.x, .string a.s, .slice ak a.nk ck, .int .i64 a.t] 46)).alloc (.cells #[.slice a0 d.nb c0, .slice a1 d.nc c1, .slice a2 d.ns c2] 27)) := (((Below.refl w.heap.size w).alloc (Nat.le_refl _) _).alloc (by simp) _).alloc (by simp; omega) _
  have Y5 : Box3 (((w.alloc (.cells #[.slice a0 d.nb c0, .slice a1 d.nc c1, .slice a2 d.ns c2] 27)).alloc (.cells #[.int .i64 6, .int .i64 a.x, .string a.s, .slice ak a.nk ck, .int .i64 a.t] 46)).alloc (.cells #[.slice a0 d.nb c0, .slice a1 d.nc c1, .slice a2 d.ns c2] 27)) (w.heap.size + 2) 27 (.slice a0 d.nb c0) (.slice a1 d.nc c1) (.slice a2 d.ns c2) := Box3.madeAt (by simp) _ _ _ _
  have y0 := Y5.c0
  have y1 := Y5.c1
  have y2 := Y5.c2
  generalize (((w.alloc (.cells #[.slice a0 d.nb c0, .slice a1 d.nc c1, .slice a2 d.ns c2] 27)).alloc (.cells #[.int .i64 6, .int .i64 a.x, .string a.s, .slice ak a.nk ck, .int .i64 a.t] 46)).alloc (.cells #[.slice a0 d.nb c0, .slice a1 d.nc c1, .slice a2 d.ns c2] 27)) = u5 at *
  exact ret_cell2 (b := w.heap.size + 2) (v := .agg #[.slice a0 d.nb c0, .slice a1 d.nc c1, .slice a2 d.ns c2]) Tryd.results18 rfl rfl (by go_simp) ⟨⟨_, _, _, _, _, _, rfl, HV.out.1.below A1, HV.out.2.1, HV.out.2.2.1, HV.out.2.2.2, .inl rfl, .inl rfl, .inl rfl⟩, A1⟩
set_option maxRecDepth 100000 in
set_option maxHeartbeats 2000000 in
theorem step_long6 (d : Dk) (a : Ac) (a0 a1 a2 ak : Option Addr) (c0 c1 c2 ck : Nat) (hd : d.Ok) (z0 : a0 = none → c0 = 0) (z1 : a1 = none → c1 = 0) (z2 : a2 = none → c2 = 0) (w : World) (h : DiskV w d a0 a1 a2) (hk : a.kd = 6) (hx : 0 ≤ a.x ∧ a.x < d.nb) (hl : 200 < a.s.size) :
    Calls Tryd.prog 18 #[.agg #[.slice a0 d.nb c0, .slice a1 d.nc c1, .slice a2 d.ns c2], .agg #[.int .i64 6, .int .i64 a.x, .string a.s, .slice ak a.nk ck, .int .i64 a.t]] w fun e w' => RetT w.heap.size a0 a1 a2 w' e (d.done a) (codeF (d.fault a)) ∧ Below w.heap.size w w' := by
  have A1 : Below w.heap.size w (((w.alloc (.cells #[.slice a0 d.nb c0, .slice a1 d.nc c1, .slice a2 d.ns c2] 27)).alloc (.cells #[.int .i64 6, .int .i64 a.x, .string a.s, .slice ak a.nk ck, .int .i64 a.t] 46)).alloc (.cells #[.slice none 0 0, .slice none 0 0, .slice none 0 0] 27)) := (((Below.refl w.heap.size w).alloc (Nat.le_refl _) _).alloc (by simp) _).alloc (by simp; omega) _
  have AA1 : Hid (Below w.heap.size w (((w.alloc (.cells #[.slice a0 d.nb c0, .slice a1 d.nc c1, .slice a2 d.ns c2] 27)).alloc (.cells #[.int .i64 6, .int .i64 a.x, .string a.s, .slice ak a.nk ck, .int .i64 a.t] 46)).alloc (.cells #[.slice none 0 0, .slice none 0 0, .slice none 0 0] 27))) := A1
  have X0 : Hid (Box3 (((w.alloc (.cells #[.slice a0 d.nb c0, .slice a1 d.nc c1, .slice a2 d.ns c2] 27)).alloc (.cells #[.int .i64 6, .int .i64 a.x, .string a.s, .slice ak a.nk ck, .int .i64 a.t] 46)).alloc (.cells #[.slice none 0 0, .slice none 0 0, .slice none 0 0] 27)) (w.heap.size + 2) 27 (.slice none 0 0) (.slice none 0 0) (.slice none 0 0)) := Box3.madeAt (by simp) _ _ _ _
  have Y0 : Hid (Box3 (((w.alloc (.cells #[.slice a0 d.nb c0, .slice a1 d.nc c1, .slice a2 d.ns c2] 27)).alloc (.cells #[.int .i64 6, .int .i64 a.x, .string a.s, .slice ak a.nk ck, .int .i64 a.t] 46)).alloc (.cells #[.slice none 0 0, .slice none 0 0, .slice none 0 0] 27)) w.heap.size 27 (.slice a0 d.nb c0) (.slice a1 d.nc c1) (.slice a2 d.ns c2)) := ((Box3.made w _ _ _ _).alloc _).alloc _
  have DV : Hid (DiskV w d a0 a1 a2) := h
  have f : d.fault a = 2 := by unfold Dk.fault; simp [hk, hx, hl]
  have g : d.done a = d := by unfold Dk.done; rw [f]; rfl
  have HV : Hid (DiskV w d a0 a1 a2 ∧ (a0 = none → c0 = 0) ∧ (a1 = none → c1 = 0) ∧ (a2 = none → c2 = 0)) := ⟨h, z0, z1, z2⟩
  have hn1 := hd.nb1
  have hn2 := hd.nb2
  have IN : Hid (∀ w : World, Calls Tryd.prog 35 #[.int .i64 a.x, .int .i64 0, .int .i64 ((d.nb : Int) - 1)] w fun e w' => e = .returned (.bool true) ∧ w = w') := fun w => in_any a.x 0 ((d.nb : Int) - 1) true (by symm; rw [decide_eq_true_iff]; omega) w
  have y9 : (200 : Int) < (a.s.size : Int) := by omega
  rw [f, g]
  clear h A1 z0 z1 z2 f g X0 Y0 DV AA1
  go_enter Tryd.func18, Tryd.ntmps18
  go_wp2_with fail
  refine (Calls.mono (IN.out _)) ?_
  rintro e w1 ⟨rfl, rfl⟩
  go_wp2
  have A1 : Below w.heap.size w (((w.alloc (.cells #[.slice a0 d.nb c0, .slice a1 d.nc c1, .slice a2 d.ns c2] 27)).alloc (.cells #[.int .i64 6, .int .i64 a.x, .string a.s, .slice ak a.nk ck, .int .i64 a.t] 46)).alloc (.cells #[.slice a0 d.nb c0, .slice a1 d.nc c1, .slice a2 d.ns c2] 27)) := (((Below.refl w.heap.size w).alloc (Nat.le_refl _) _).alloc (by simp) _).alloc (by simp; omega) _
  have Y5 : Box3 (((w.alloc (.cells #[.slice a0 d.nb c0, .slice a1 d.nc c1, .slice a2 d.ns c2] 27)).alloc (.cells #[.int .i64 6, .int .i64 a.x, .string a.s, .slice ak a.nk ck, .int .i64 a.t] 46)).alloc (.cells #[.slice a0 d.nb c0, .slice a1 d.nc c1, .slice a2 d.ns c2] 27)) (w.heap.size + 2) 27 (.slice a0 d.nb c0) (.slice a1 d.nc c1) (.slice a2 d.ns c2) := Box3.madeAt (by simp) _ _ _ _
  have y0 := Y5.c0
  have y1 := Y5.c1
  have y2 := Y5.c2
  generalize (((w.alloc (.cells #[.slice a0 d.nb c0, .slice a1 d.nc c1, .slice a2 d.ns c2] 27)).alloc (.cells #[.int .i64 6, .int .i64 a.x, .string a.s, .slice ak a.nk ck, .int .i64 a.t] 46)).alloc (.cells #[.slice a0 d.nb c0, .slice a1 d.nc c1, .slice a2 d.ns c2] 27)) = u5 at *
  exact ret_cell2 (b := w.heap.size + 2) (v := .agg #[.slice a0 d.nb c0, .slice a1 d.nc c1, .slice a2 d.ns c2]) Tryd.results18 rfl rfl (by go_simp) ⟨⟨_, _, _, _, _, _, rfl, HV.out.1.below A1, HV.out.2.1, HV.out.2.2.1, HV.out.2.2.2, .inl rfl, .inl rfl, .inl rfl⟩, A1⟩
set_option maxRecDepth 100000 in
set_option maxHeartbeats 2000000 in
theorem step_full (d : Dk) (a : Ac) (a0 a1 a2 ak : Option Addr) (c0 c1 c2 ck : Nat) (hd : d.Ok) (z0 : a0 = none → c0 = 0) (z1 : a1 = none → c1 = 0) (z2 : a2 = none → c2 = 0) (w : World) (h : DiskV w d a0 a1 a2) (hk : a.kd = 1) (hx : 0 ≤ a.x ∧ a.x < d.nb) (hl : ¬ 200 < a.s.size) (hc : d.nc = 4096) :
    Calls Tryd.prog 18 #[.agg #[.slice a0 d.nb c0, .slice a1 d.nc c1, .slice a2 d.ns c2], .agg #[.int .i64 1, .int .i64 a.x, .string a.s, .slice ak a.nk ck, .int .i64 a.t]] w fun e w' => RetT w.heap.size a0 a1 a2 w' e (d.done a) (codeF (d.fault a)) ∧ Below w.heap.size w w' := by
  have A1 : Below w.heap.size w (((w.alloc (.cells #[.slice a0 d.nb c0, .slice a1 d.nc c1, .slice a2 d.ns c2] 27)).alloc (.cells #[.int .i64 1, .int .i64 a.x, .string a.s, .slice ak a.nk ck, .int .i64 a.t] 46)).alloc (.cells #[.slice none 0 0, .slice none 0 0, .slice none 0 0] 27)) := (((Below.refl w.heap.size w).alloc (Nat.le_refl _) _).alloc (by simp) _).alloc (by simp; omega) _
  have AA1 : Hid (Below w.heap.size w (((w.alloc (.cells #[.slice a0 d.nb c0, .slice a1 d.nc c1, .slice a2 d.ns c2] 27)).alloc (.cells #[.int .i64 1, .int .i64 a.x, .string a.s, .slice ak a.nk ck, .int .i64 a.t] 46)).alloc (.cells #[.slice none 0 0, .slice none 0 0, .slice none 0 0] 27))) := A1
  have X0 : Hid (Box3 (((w.alloc (.cells #[.slice a0 d.nb c0, .slice a1 d.nc c1, .slice a2 d.ns c2] 27)).alloc (.cells #[.int .i64 1, .int .i64 a.x, .string a.s, .slice ak a.nk ck, .int .i64 a.t] 46)).alloc (.cells #[.slice none 0 0, .slice none 0 0, .slice none 0 0] 27)) (w.heap.size + 2) 27 (.slice none 0 0) (.slice none 0 0) (.slice none 0 0)) := Box3.madeAt (by simp) _ _ _ _
  have Y0 : Hid (Box3 (((w.alloc (.cells #[.slice a0 d.nb c0, .slice a1 d.nc c1, .slice a2 d.ns c2] 27)).alloc (.cells #[.int .i64 1, .int .i64 a.x, .string a.s, .slice ak a.nk ck, .int .i64 a.t] 46)).alloc (.cells #[.slice none 0 0, .slice none 0 0, .slice none 0 0] 27)) w.heap.size 27 (.slice a0 d.nb c0) (.slice a1 d.nc c1) (.slice a2 d.ns c2)) := ((Box3.made w _ _ _ _).alloc _).alloc _
  have DV : Hid (DiskV w d a0 a1 a2) := h
  have f : d.fault a = 3 := by unfold Dk.fault; simp [hk, hx, hl, hc]
  have g : d.done a = d := by unfold Dk.done; rw [f]; rfl
  have HV : Hid (DiskV w d a0 a1 a2 ∧ (a0 = none → c0 = 0) ∧ (a1 = none → c1 = 0) ∧ (a2 = none → c2 = 0)) := ⟨h, z0, z1, z2⟩
  have hn1 := hd.nb1
  have hn2 := hd.nb2
  have IN : Hid (∀ w : World, Calls Tryd.prog 35 #[.int .i64 a.x, .int .i64 0, .int .i64 ((d.nb : Int) - 1)] w fun e w' => e = .returned (.bool true) ∧ w = w') := fun w => in_any a.x 0 ((d.nb : Int) - 1) true (by symm; rw [decide_eq_true_iff]; omega) w
  have y9 : ¬ (200 : Int) < (a.s.size : Int) := by omega
  have y8 : ((d.nc : Int) == 4096) = true := by simp [hc]
  clear hc
  rw [f, g]
  clear h A1 z0 z1 z2 f g X0 Y0 DV AA1
  go_enter Tryd.func18, Tryd.ntmps18
  go_wp2_with fail
  refine (Calls.mono (IN.out _)) ?_
  rintro e w1 ⟨rfl, rfl⟩
  go_wp2
  have A1 : Below w.heap.size w (((w.alloc (.cells #[.slice a0 d.nb c0, .slice a1 d.nc c1, .slice a2 d.ns c2] 27)).alloc (.cells #[.int .i64 1, .int .i64 a.x, .string a.s, .slice ak a.nk ck, .int .i64 a.t] 46)).alloc (.cells #[.slice a0 d.nb c0, .slice a1 d.nc c1, .slice a2 d.ns c2] 27)) := (((Below.refl w.heap.size w).alloc (Nat.le_refl _) _).alloc (by simp) _).alloc (by simp; omega) _
  have Y5 : Box3 (((w.alloc (.cells #[.slice a0 d.nb c0, .slice a1 d.nc c1, .slice a2 d.ns c2] 27)).alloc (.cells #[.int .i64 1, .int .i64 a.x, .string a.s, .slice ak a.nk ck, .int .i64 a.t] 46)).alloc (.cells #[.slice a0 d.nb c0, .slice a1 d.nc c1, .slice a2 d.ns c2] 27)) (w.heap.size + 2) 27 (.slice a0 d.nb c0) (.slice a1 d.nc c1) (.slice a2 d.ns c2) := Box3.madeAt (by simp) _ _ _ _
  have y0 := Y5.c0
  have y1 := Y5.c1
  have y2 := Y5.c2
  generalize (((w.alloc (.cells #[.slice a0 d.nb c0, .slice a1 d.nc c1, .slice a2 d.ns c2] 27)).alloc (.cells #[.int .i64 1, .int .i64 a.x, .string a.s, .slice ak a.nk ck, .int .i64 a.t] 46)).alloc (.cells #[.slice a0 d.nb c0, .slice a1 d.nc c1, .slice a2 d.ns c2] 27)) = u5 at *
  exact ret_cell2 (b := w.heap.size + 2) (v := .agg #[.slice a0 d.nb c0, .slice a1 d.nc c1, .slice a2 d.ns c2]) Tryd.results18 rfl rfl (by go_simp) ⟨⟨_, _, _, _, _, _, rfl, HV.out.1.below A1, HV.out.2.1, HV.out.2.2.1, HV.out.2.2.2, .inl rfl, .inl rfl, .inl rfl⟩, A1⟩
end Go.Proofs.YtgdfhgepbamhmaaDoor
