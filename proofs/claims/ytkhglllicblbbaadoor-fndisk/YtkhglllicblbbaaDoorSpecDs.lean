/-
  The model's step, whole.
-/
import Derived.Test.YtkhglllicblbbaaDoorSpecSw
import Derived.Test.YtkhglllicblbbaaDoorSpecSs
import Derived.Test.YtkhglllicblbbaaDoorSpecSr
import Derived.Test.YtkhglllicblbbaaDoorDiskOk
namespace Go.Proofs.YtkhglllicblbbaaDoor
open Go.ChangeShapes Go.WideShapes Go.ChangeAt Go.RowKit
set_option linter.unusedVariables false
theorem Dk.done_small {d : Dk} (hd : d.Ok) (a : Ac) : (d.done a).nb ≤ 64 ∧ (d.done a).nc ≤ 4097 ∧ (d.done a).ns ≤ 64 := by
  have h1 := hd.nb2
  have h2 := hd.nc
  have h3 := hd.ns
  unfold Dk.done
  split
  · unfold Dk.acted
    split
    · exact ⟨h1, by show d.nc + 1 ≤ _; omega, by show d.ns ≤ _; omega⟩
    · split
      · exact ⟨h1, by show 0 ≤ _; omega, by show d.ns ≤ _; omega⟩
      · split
        · exact ⟨h1, by show 0 ≤ _; omega, by show d.ns ≤ _; omega⟩
        · split
          · exact ⟨h1, by show d.nc ≤ _; omega, h1⟩
          · split
            · exact ⟨by show d.ns ≤ _; omega, by show 0 ≤ _; omega, by show d.ns ≤ _; omega⟩
            · exact ⟨h1, by show d.nc ≤ _; omega, by show d.ns ≤ _; omega⟩
  · exact ⟨h1, by omega, by omega⟩
theorem l05Step_any (d : Dk) (a : Ac) (a0 a1 a2 ak : Option Addr) (c0 c1 c2 ck : Nat) (hd : d.Ok) (z0 : a0 = none → c0 = 0) (z1 : a1 = none → c1 = 0) (z2 : a2 = none → c2 = 0) (hnk : a.nk ≤ 1048576) (w : World) (h : DiskV w d a0 a1 a2) (hK : Bls w w.heap.size ak a.nk a.K) :
    Calls Tryd.prog 48 #[.agg #[.slice a0 d.nb c0, .slice a1 d.nc c1, .slice a2 d.ns c2], .agg #[.int .i64 a.kd, .int .i64 a.x, .string a.s, .slice ak a.nk ck, .int .i64 a.t]] w fun e w' => RetT w.heap.size a0 a1 a2 w' e (d.done a) (codeF (d.fault a)) ∧ Below w.heap.size w w' := by
  by_cases h1 : a.kd = 1
  · rw [h1]
    by_cases hx : 0 ≤ a.x ∧ a.x < d.nb
    · by_cases hl : 200 < a.s.size
      · exact step_long1 d a a0 a1 a2 ak c0 c1 c2 ck hd z0 z1 z2 w h h1 hx hl
      · by_cases hc : d.nc = 4096
        · exact step_full d a a0 a1 a2 ak c0 c1 c2 ck hd z0 z1 z2 w h h1 hx hl hc
        · exact step_write d a a0 a1 a2 ak c0 c1 c2 ck hd z0 z1 z2 w h h1 hx hl hc
    · exact step_range1 d a a0 a1 a2 ak c0 c1 c2 ck hd z0 z1 z2 w h h1 hx
  by_cases h2 : a.kd = 2
  · rw [h2]; exact step_sync d a a0 a1 a2 ak c0 c1 c2 ck hd z0 z1 z2 w h h2
  by_cases h3 : a.kd = 3
  · rw [h3]; exact step_crash d a a0 a1 a2 ak c0 c1 c2 ck hd z0 z1 z2 w h h3 hnk hK
  by_cases h4 : a.kd = 4
  · rw [h4]; exact step_save d a a0 a1 a2 ak c0 c1 c2 ck hd z0 z1 z2 w h h4
  by_cases h5 : a.kd = 5
  · rw [h5]
    by_cases hs : d.ns = 0
    · exact step_roll_no d a a0 a1 a2 ak c0 c1 c2 ck hd z0 z1 z2 w h h5 hs
    · exact step_roll d a a0 a1 a2 ak c0 c1 c2 ck hd z0 z1 z2 w h h5 hs
  by_cases h6 : a.kd = 6
  · rw [h6]
    by_cases hx : 0 ≤ a.x ∧ a.x < d.nb
    · by_cases hl : 200 < a.s.size
      · exact step_long6 d a a0 a1 a2 ak c0 c1 c2 ck hd z0 z1 z2 w h h6 hx hl
      · exact step_tamper d a a0 a1 a2 ak c0 c1 c2 ck hd z0 z1 z2 w h h6 hx hl
    · exact step_range6 d a a0 a1 a2 ak c0 c1 c2 ck hd z0 z1 z2 w h h6 hx
  exact step_none d a a0 a1 a2 ak c0 c1 c2 ck hd z0 z1 z2 w h ⟨h1, h2, h3, h4, h5, h6⟩
set_option maxRecDepth 100000 in
set_option maxHeartbeats 2000000 in
theorem specStep_bad (d : Dk) (a : Ac) (a0 a1 a2 ak : Option Addr) (c0 c1 c2 ck : Nat) (hs : d.nb ≤ 1048576 ∧ d.nc ≤ 1048576 ∧ d.ns ≤ 1048576) (hok : ¬ d.Ok) (w : World) (h : DiskV w d a0 a1 a2) :
    Calls Tryd.prog 18 #[.agg #[.slice a0 d.nb c0, .slice a1 d.nc c1, .slice a2 d.ns c2], .agg #[.int .i64 a.kd, .int .i64 a.x, .string a.s, .slice ak a.nk ck, .int .i64 a.t]] w fun e w' => RetD w.heap.size w' e (newD 0) 1 ∧ Below w.heap.size w w' := by
  have A1 : Below w.heap.size w (((w.alloc (.cells #[.slice a0 d.nb c0, .slice a1 d.nc c1, .slice a2 d.ns c2] 28)).alloc (.cells #[.int .i64 a.kd, .int .i64 a.x, .string a.s, .slice ak a.nk ck, .int .i64 a.t] 38)).alloc (.cells #[.slice none 0 0, .slice none 0 0, .slice none 0 0] 28)) := (((Below.refl w.heap.size w).alloc (Nat.le_refl _) _).alloc (by simp) _).alloc (by simp; omega) _
  have OK : Hid (Calls Tryd.prog 56 #[.agg #[.slice a0 d.nb c0, .slice a1 d.nc c1, .slice a2 d.ns c2]] (((w.alloc (.cells #[.slice a0 d.nb c0, .slice a1 d.nc c1, .slice a2 d.ns c2] 28)).alloc (.cells #[.int .i64 a.kd, .int .i64 a.x, .string a.s, .slice ak a.nk ck, .int .i64 a.t] 38)).alloc (.cells #[.slice none 0 0, .slice none 0 0, .slice none 0 0] 28)) fun e w' => e = .returned (.bool false) ∧ Below (((w.alloc (.cells #[.slice a0 d.nb c0, .slice a1 d.nc c1, .slice a2 d.ns c2] 28)).alloc (.cells #[.int .i64 a.kd, .int .i64 a.x, .string a.s, .slice ak a.nk ck, .int .i64 a.t] 38)).alloc (.cells #[.slice none 0 0, .slice none 0 0, .slice none 0 0] 28)).heap.size (((w.alloc (.cells #[.slice a0 d.nb c0, .slice a1 d.nc c1, .slice a2 d.ns c2] 28)).alloc (.cells #[.int .i64 a.kd, .int .i64 a.x, .string a.s, .slice ak a.nk ck, .int .i64 a.t] 38)).alloc (.cells #[.slice none 0 0, .slice none 0 0, .slice none 0 0] 28)) w') := by
    have := specOK_any d a0 a1 a2 c0 c1 c2 hs _ (h.below A1)
    rwa [Dk.ok_false hok] at this
  have X0 : Hid (Box3 (((w.alloc (.cells #[.slice a0 d.nb c0, .slice a1 d.nc c1, .slice a2 d.ns c2] 28)).alloc (.cells #[.int .i64 a.kd, .int .i64 a.x, .string a.s, .slice ak a.nk ck, .int .i64 a.t] 38)).alloc (.cells #[.slice none 0 0, .slice none 0 0, .slice none 0 0] 28)) (w.heap.size + 2) 28 (.slice none 0 0) (.slice none 0 0) (.slice none 0 0)) := Box3.madeAt (by simp) _ _ _ _
  have AA1 : Hid (Below w.heap.size w (((w.alloc (.cells #[.slice a0 d.nb c0, .slice a1 d.nc c1, .slice a2 d.ns c2] 28)).alloc (.cells #[.int .i64 a.kd, .int .i64 a.x, .string a.s, .slice ak a.nk ck, .int .i64 a.t] 38)).alloc (.cells #[.slice none 0 0, .slice none 0 0, .slice none 0 0] 28))) := A1
  clear h hok hs A1
  go_enter Tryd.func18, Tryd.ntmps18
  go_wp2_with fail
  generalize (((w.alloc (.cells #[.slice a0 d.nb c0, .slice a1 d.nc c1, .slice a2 d.ns c2] 28)).alloc (.cells #[.int .i64 a.kd, .int .i64 a.x, .string a.s, .slice ak a.nk ck, .int .i64 a.t] 38)).alloc (.cells #[.slice none 0 0, .slice none 0 0, .slice none 0 0] 28)) = u at *
  refine (Calls.mono OK.out) ?_
  rintro e w1 ⟨rfl, hb⟩
  have B1 := AA1.out.trans (hb.mono AA1.out.size)
  have X1 := X0.out.below hb
  have O2 : OnlyB (w.heap.size + 2) w1 (((w1.setCell ⟨w.heap.size + 2, 0, none⟩ (.slice none 0 0)).setCell ⟨w.heap.size + 2, 1, none⟩ (.slice none 0 0)).setCell ⟨w.heap.size + 2, 2, none⟩ (.slice none 0 0)) := (((OnlyB.refl _ w1).setCell 0 _).setCell 1 _).setCell 2 _
  have X2 : Hid (Box3 (((w1.setCell ⟨w.heap.size + 2, 0, none⟩ (.slice none 0 0)).setCell ⟨w.heap.size + 2, 1, none⟩ (.slice none 0 0)).setCell ⟨w.heap.size + 2, 2, none⟩ (.slice none 0 0)) (w.heap.size + 2) 28 (.slice none 0 0) (.slice none 0 0) (.slice none 0 0)) := ((X1.set0 _).set1 _).set2 _
  have B2 : Hid (Below w.heap.size w (((w1.setCell ⟨w.heap.size + 2, 0, none⟩ (.slice none 0 0)).setCell ⟨w.heap.size + 2, 1, none⟩ (.slice none 0 0)).setCell ⟨w.heap.size + 2, 2, none⟩ (.slice none 0 0))) := B1.trans (O2.toBelow (by omega) B1.size)
  have x0 := X1.c0
  have x1 := X1.c1
  have x2 := X1.c2
  have f0 := X1.fr 0
  have f1 := X1.fr 1
  have f2 := X1.fr 2
  clear hb OK AA1 X0 X1 O2 B1
  go_wp2
  generalize (((w1.setCell ⟨w.heap.size + 2, 0, none⟩ (.slice none 0 0)).setCell ⟨w.heap.size + 2, 1, none⟩ (.slice none 0 0)).setCell ⟨w.heap.size + 2, 2, none⟩ (.slice none 0 0)) = u5 at *
  have y0 := X2.out.c0
  have y1 := X2.out.c1
  have y2 := X2.out.c2
  exact ret_cell2 (b := w.heap.size + 2) (v := .agg #[.slice none 0 0, .slice none 0 0, .slice none 0 0]) Tryd.results18 rfl rfl (by go_simp) ⟨⟨_, _, _, _, _, _, _, _, _, rfl, RowD.empty _ _ _ _, fun h => absurd h (by decide), fun h => absurd h (by decide), fun h => absurd h (by decide)⟩, B2.out⟩
set_option maxRecDepth 100000 in
set_option maxHeartbeats 4000000 in
theorem specStep_ok (d : Dk) (a : Ac) (a0 a1 a2 ak : Option Addr) (c0 c1 c2 ck : Nat) (z0 : a0 = none → c0 = 0) (z1 : a1 = none → c1 = 0) (z2 : a2 = none → c2 = 0) (hs : d.nb ≤ 1048576 ∧ d.nc ≤ 1048576 ∧ d.ns ≤ 1048576) (hok : d.Ok) (hnk : a.nk ≤ 1048576) (w : World) (h : DiskV w d a0 a1 a2) (hK : Bls w w.heap.size ak a.nk a.K) :
    Calls Tryd.prog 18 #[.agg #[.slice a0 d.nb c0, .slice a1 d.nc c1, .slice a2 d.ns c2], .agg #[.int .i64 a.kd, .int .i64 a.x, .string a.s, .slice ak a.nk ck, .int .i64 a.t]] w fun e w' => RetD w.heap.size w' e (d.done a) (codeF (d.fault a)) ∧ Below w.heap.size w w' := by
  have A1 : Below w.heap.size w (((w.alloc (.cells #[.slice a0 d.nb c0, .slice a1 d.nc c1, .slice a2 d.ns c2] 28)).alloc (.cells #[.int .i64 a.kd, .int .i64 a.x, .string a.s, .slice ak a.nk ck, .int .i64 a.t] 38)).alloc (.cells #[.slice none 0 0, .slice none 0 0, .slice none 0 0] 28)) := (((Below.refl w.heap.size w).alloc (Nat.le_refl _) _).alloc (by simp) _).alloc (by simp; omega) _
  have OK : Hid (Calls Tryd.prog 56 #[.agg #[.slice a0 d.nb c0, .slice a1 d.nc c1, .slice a2 d.ns c2]] (((w.alloc (.cells #[.slice a0 d.nb c0, .slice a1 d.nc c1, .slice a2 d.ns c2] 28)).alloc (.cells #[.int .i64 a.kd, .int .i64 a.x, .string a.s, .slice ak a.nk ck, .int .i64 a.t] 38)).alloc (.cells #[.slice none 0 0, .slice none 0 0, .slice none 0 0] 28)) fun e w' => e = .returned (.bool true) ∧ Below (((w.alloc (.cells #[.slice a0 d.nb c0, .slice a1 d.nc c1, .slice a2 d.ns c2] 28)).alloc (.cells #[.int .i64 a.kd, .int .i64 a.x, .string a.s, .slice ak a.nk ck, .int .i64 a.t] 38)).alloc (.cells #[.slice none 0 0, .slice none 0 0, .slice none 0 0] 28)).heap.size (((w.alloc (.cells #[.slice a0 d.nb c0, .slice a1 d.nc c1, .slice a2 d.ns c2] 28)).alloc (.cells #[.int .i64 a.kd, .int .i64 a.x, .string a.s, .slice ak a.nk ck, .int .i64 a.t] 38)).alloc (.cells #[.slice none 0 0, .slice none 0 0, .slice none 0 0] 28)) w') := by
    have := specOK_any d a0 a1 a2 c0 c1 c2 hs _ (h.below A1)
    rwa [Dk.ok_true hok] at this
  have SP : Hid (∀ w : World, DiskV w d a0 a1 a2 → Bls w w.heap.size ak a.nk a.K → Calls Tryd.prog 48 #[.agg #[.slice a0 d.nb c0, .slice a1 d.nc c1, .slice a2 d.ns c2], .agg #[.int .i64 a.kd, .int .i64 a.x, .string a.s, .slice ak a.nk ck, .int .i64 a.t]] w fun e w' => RetS w' e (d.done a) (codeF (d.fault a)) ∧ Below w.heap.size w w') := fun w h1 h2 => (l05Step_any d a a0 a1 a2 ak c0 c1 c2 ck hok z0 z1 z2 hnk w h1 h2).mono fun e w' h => ⟨h.1.retS, h.2⟩
  have OW : Hid (∀ (a0 a1 a2 : Option Addr) (c0 c1 c2 : Nat) (w : World), (a0 = none → c0 = 0) → (a1 = none → c1 = 0) → (a2 = none → c2 = 0) → DiskV w (d.done a) a0 a1 a2 → Calls Tryd.prog 49 #[.agg #[.slice a0 (d.done a).nb c0, .slice a1 (d.done a).nc c1, .slice a2 (d.done a).ns c2]] w fun e w' => (∃ v0 v1 v2, e = .returned (.agg #[v0, v1, v2]) ∧ Rows3 w' w.heap.size (d.done a) v0 v1 v2) ∧ Below w.heap.size w w') := fun a0 a1 a2 c0 c1 c2 w h1 h2 h3 h4 => l05Own_any (d.done a) a0 a1 a2 c0 c1 c2 (by have := Dk.done_small hok a; omega) (by have := Dk.done_small hok a; omega) (by have := Dk.done_small hok a; omega) h1 h2 h3 w h4
  have DV : Hid (DiskV w d a0 a1 a2) := h
  have HK : Hid (Bls w w.heap.size ak a.nk a.K) := hK
  have X0 : Hid (Box3 (((w.alloc (.cells #[.slice a0 d.nb c0, .slice a1 d.nc c1, .slice a2 d.ns c2] 28)).alloc (.cells #[.int .i64 a.kd, .int .i64 a.x, .string a.s, .slice ak a.nk ck, .int .i64 a.t] 38)).alloc (.cells #[.slice none 0 0, .slice none 0 0, .slice none 0 0] 28)) (w.heap.size + 2) 28 (.slice none 0 0) (.slice none 0 0) (.slice none 0 0)) := Box3.madeAt (by simp) _ _ _ _
  have Y0 : Hid (Box3 (((w.alloc (.cells #[.slice a0 d.nb c0, .slice a1 d.nc c1, .slice a2 d.ns c2] 28)).alloc (.cells #[.int .i64 a.kd, .int .i64 a.x, .string a.s, .slice ak a.nk ck, .int .i64 a.t] 38)).alloc (.cells #[.slice none 0 0, .slice none 0 0, .slice none 0 0] 28)) w.heap.size 28 (.slice a0 d.nb c0) (.slice a1 d.nc c1) (.slice a2 d.ns c2)) := ((Box3.made w _ _ _ _).alloc _).alloc _
  have G0 : (((w.alloc (.cells #[.slice a0 d.nb c0, .slice a1 d.nc c1, .slice a2 d.ns c2] 28)).alloc (.cells #[.int .i64 a.kd, .int .i64 a.x, .string a.s, .slice ak a.nk ck, .int .i64 a.t] 38)).alloc (.cells #[.slice none 0 0, .slice none 0 0, .slice none 0 0] 28)).heap.size = w.heap.size + 3 := by simp
  have Z0 : Hid ((((w.alloc (.cells #[.slice a0 d.nb c0, .slice a1 d.nc c1, .slice a2 d.ns c2] 28)).alloc (.cells #[.int .i64 a.kd, .int .i64 a.x, .string a.s, .slice ak a.nk ck, .int .i64 a.t] 38)).alloc (.cells #[.slice none 0 0, .slice none 0 0, .slice none 0 0] 28)).cell? ⟨w.heap.size + 1, 0, none⟩ = some (.int .i64 a.kd) ∧ (((w.alloc (.cells #[.slice a0 d.nb c0, .slice a1 d.nc c1, .slice a2 d.ns c2] 28)).alloc (.cells #[.int .i64 a.kd, .int .i64 a.x, .string a.s, .slice ak a.nk ck, .int .i64 a.t] 38)).alloc (.cells #[.slice none 0 0, .slice none 0 0, .slice none 0 0] 28)).cell? ⟨w.heap.size + 1, 1, none⟩ = some (.int .i64 a.x) ∧ (((w.alloc (.cells #[.slice a0 d.nb c0, .slice a1 d.nc c1, .slice a2 d.ns c2] 28)).alloc (.cells #[.int .i64 a.kd, .int .i64 a.x, .string a.s, .slice ak a.nk ck, .int .i64 a.t] 38)).alloc (.cells #[.slice none 0 0, .slice none 0 0, .slice none 0 0] 28)).cell? ⟨w.heap.size + 1, 2, none⟩ = some (.string a.s) ∧ (((w.alloc (.cells #[.slice a0 d.nb c0, .slice a1 d.nc c1, .slice a2 d.ns c2] 28)).alloc (.cells #[.int .i64 a.kd, .int .i64 a.x, .string a.s, .slice ak a.nk ck, .int .i64 a.t] 38)).alloc (.cells #[.slice none 0 0, .slice none 0 0, .slice none 0 0] 28)).cell? ⟨w.heap.size + 1, 3, none⟩ = some (.slice ak a.nk ck) ∧ (((w.alloc (.cells #[.slice a0 d.nb c0, .slice a1 d.nc c1, .slice a2 d.ns c2] 28)).alloc (.cells #[.int .i64 a.kd, .int .i64 a.x, .string a.s, .slice ak a.nk ck, .int .i64 a.t] 38)).alloc (.cells #[.slice none 0 0, .slice none 0 0, .slice none 0 0] 28)).cell? ⟨w.heap.size + 1, 4, none⟩ = some (.int .i64 a.t)) := by
    have m : (w.alloc (.cells #[.slice a0 d.nb c0, .slice a1 d.nc c1, .slice a2 d.ns c2] 28)).heap.size = w.heap.size + 1 := by simp
    have bl : Below ((w.alloc (.cells #[.slice a0 d.nb c0, .slice a1 d.nc c1, .slice a2 d.ns c2] 28)).alloc (.cells #[.int .i64 a.kd, .int .i64 a.x, .string a.s, .slice ak a.nk ck, .int .i64 a.t] 38)).heap.size ((w.alloc (.cells #[.slice a0 d.nb c0, .slice a1 d.nc c1, .slice a2 d.ns c2] 28)).alloc (.cells #[.int .i64 a.kd, .int .i64 a.x, .string a.s, .slice ak a.nk ck, .int .i64 a.t] 38)) (((w.alloc (.cells #[.slice a0 d.nb c0, .slice a1 d.nc c1, .slice a2 d.ns c2] 28)).alloc (.cells #[.int .i64 a.kd, .int .i64 a.x, .string a.s, .slice ak a.nk ck, .int .i64 a.t] 38)).alloc (.cells #[.slice none 0 0, .slice none 0 0, .slice none 0 0] 28)) := (Below.refl _ _).alloc (Nat.le_refl _) _
    have hl : w.heap.size + 1 < ((w.alloc (.cells #[.slice a0 d.nb c0, .slice a1 d.nc c1, .slice a2 d.ns c2] 28)).alloc (.cells #[.int .i64 a.kd, .int .i64 a.x, .string a.s, .slice ak a.nk ck, .int .i64 a.t] 38)).heap.size := by simp
    exact ⟨(bl.cell hl).trans (cell_alloc_at m _ _ 0), (bl.cell hl).trans (cell_alloc_at m _ _ 1), (bl.cell hl).trans (cell_alloc_at m _ _ 2), (bl.cell hl).trans (cell_alloc_at m _ _ 3), (bl.cell hl).trans (cell_alloc_at m _ _ 4)⟩
  have AA1 : Hid (Below w.heap.size w (((w.alloc (.cells #[.slice a0 d.nb c0, .slice a1 d.nc c1, .slice a2 d.ns c2] 28)).alloc (.cells #[.int .i64 a.kd, .int .i64 a.x, .string a.s, .slice ak a.nk ck, .int .i64 a.t] 38)).alloc (.cells #[.slice none 0 0, .slice none 0 0, .slice none 0 0] 28))) := A1
  clear h hs A1 hK z0 z1 z2
  go_enter Tryd.func18, Tryd.ntmps18
  go_wp2_with fail
  generalize (((w.alloc (.cells #[.slice a0 d.nb c0, .slice a1 d.nc c1, .slice a2 d.ns c2] 28)).alloc (.cells #[.int .i64 a.kd, .int .i64 a.x, .string a.s, .slice ak a.nk ck, .int .i64 a.t] 38)).alloc (.cells #[.slice none 0 0, .slice none 0 0, .slice none 0 0] 28)) = u at *
  refine (Calls.mono OK.out) ?_
  rintro e w1 ⟨rfl, hb⟩
  have B1 : Hid (Below w.heap.size w w1) := AA1.out.trans (hb.mono AA1.out.size)
  have X1 : Hid (Box3 w1 (w.heap.size + 2) 28 (.slice none 0 0) (.slice none 0 0) (.slice none 0 0)) := X0.out.below hb
  have Y1 := Y0.out.below hb
  have y0 := Y1.c0
  have y1 := Y1.c1
  have y2 := Y1.c2
  obtain ⟨e0, e1, e2, e3, e4⟩ : w1.cell? ⟨w.heap.size + 1, 0, none⟩ = some (.int .i64 a.kd) ∧ w1.cell? ⟨w.heap.size + 1, 1, none⟩ = some (.int .i64 a.x) ∧ w1.cell? ⟨w.heap.size + 1, 2, none⟩ = some (.string a.s) ∧ w1.cell? ⟨w.heap.size + 1, 3, none⟩ = some (.slice ak a.nk ck) ∧ w1.cell? ⟨w.heap.size + 1, 4, none⟩ = some (.int .i64 a.t) := ⟨(hb.cell (strBlock Z0.out.1)).trans Z0.out.1, (hb.cell (strBlock Z0.out.2.1)).trans Z0.out.2.1, (hb.cell (strBlock Z0.out.2.2.1)).trans Z0.out.2.2.1, (hb.cell (strBlock Z0.out.2.2.2.1)).trans Z0.out.2.2.2.1, (hb.cell (strBlock Z0.out.2.2.2.2)).trans Z0.out.2.2.2.2⟩
  have G1 : w.heap.size + 3 ≤ w1.heap.size := by have := hb.size; omega
  clear hb OK AA1 X0 Y0 Z0 G0 Y1
  go_wp2_with fail
  refine (SP.out _ (DV.out.below B1.out) (fun i hi => by
    obtain ⟨b, off, h1, h2, h3⟩ := (HK.out.below B1.out) i hi
    exact ⟨b, off, h1, by omega, h3⟩)).mono ?_
  rintro e w2 ⟨⟨i0, i1, i2, k0, k1, k2, rfl, hv, q0, q1, q2⟩, hb⟩
  have B2 : Hid (Below w.heap.size w w2) := B1.out.trans (hb.mono B1.out.size)
  have bA : Below w2.heap.size w2 (w2.alloc (.cells #[.slice i0 (d.done a).nb k0, .slice i1 (d.done a).nc k1, .slice i2 (d.done a).ns k2] 28)) := (Below.refl _ _).alloc (Nat.le_refl _) _
  have B3 : Hid (Below w.heap.size w (w2.alloc (.cells #[.slice i0 (d.done a).nb k0, .slice i1 (d.done a).nc k1, .slice i2 (d.done a).ns k2] 28))) := B2.out.trans (bA.mono B2.out.size)
  have X3 : Hid (Box3 (w2.alloc (.cells #[.slice i0 (d.done a).nb k0, .slice i1 (d.done a).nc k1, .slice i2 (d.done a).ns k2] 28)) (w.heap.size + 2) 28 (.slice none 0 0) (.slice none 0 0) (.slice none 0 0)) := (X1.out.below hb).below bA
  have V3 : Hid (DiskV (w2.alloc (.cells #[.slice i0 (d.done a).nb k0, .slice i1 (d.done a).nc k1, .slice i2 (d.done a).ns k2] 28)) (d.done a) i0 i1 i2) := hv.below bA
  have Q : Hid ((i0 = none → k0 = 0) ∧ (i1 = none → k1 = 0) ∧ (i2 = none → k2 = 0)) := ⟨q0, q1, q2⟩
  have G3 : w.heap.size + 3 ≤ (w2.alloc (.cells #[.slice i0 (d.done a).nb k0, .slice i1 (d.done a).nc k1, .slice i2 (d.done a).ns k2] 28)).heap.size := by have := hb.size; simp; omega
  clear hb bA hv q0 q1 q2 y0 y1 y2 e0 e1 e2 e3 e4 B1 B2 X1 G1 SP DV HK
  go_wp2_with fail
  generalize (w2.alloc (.cells #[.slice i0 (d.done a).nb k0, .slice i1 (d.done a).nc k1, .slice i2 (d.done a).ns k2] 28)) = u2 at *
  refine (OW.out _ _ _ _ _ _ _ Q.out.1 Q.out.2.1 Q.out.2.2 V3.out).mono ?_
  rintro e w3 ⟨⟨v0, v1, v2, rfl, hR⟩, hb⟩
  obtain ⟨j0, j1, j2, l0, l1, l2, g0, g1, g2, rfl, rfl, rfl, -⟩ := hR.rowD
  have X4 := X3.out.below hb
  have x0 := X4.c0
  have x1 := X4.c1
  have x2 := X4.c2
  have f0 := X4.fr 0
  have f1 := X4.fr 1
  have f2 := X4.fr 2
  have B4 : Below w.heap.size w w3 := B3.out.trans (hb.mono B3.out.size)
  have O5 : OnlyB (w.heap.size + 2) w3 (((w3.setCell ⟨w.heap.size + 2, 0, none⟩ (.slice j0 (d.done a).nb l0)).setCell ⟨w.heap.size + 2, 1, none⟩ (.slice j1 (d.done a).nc l1)).setCell ⟨w.heap.size + 2, 2, none⟩ (.slice j2 (d.done a).ns l2)) := (((OnlyB.refl _ w3).setCell 0 _).setCell 1 _).setCell 2 _
  have X5 : Hid (Box3 (((w3.setCell ⟨w.heap.size + 2, 0, none⟩ (.slice j0 (d.done a).nb l0)).setCell ⟨w.heap.size + 2, 1, none⟩ (.slice j1 (d.done a).nc l1)).setCell ⟨w.heap.size + 2, 2, none⟩ (.slice j2 (d.done a).ns l2)) (w.heap.size + 2) 28 (.slice j0 (d.done a).nb l0) (.slice j1 (d.done a).nc l1) (.slice j2 (d.done a).ns l2)) := ((X4.set0 _).set1 _).set2 _
  have R5 : Hid (Rows3 (((w3.setCell ⟨w.heap.size + 2, 0, none⟩ (.slice j0 (d.done a).nb l0)).setCell ⟨w.heap.size + 2, 1, none⟩ (.slice j1 (d.done a).nc l1)).setCell ⟨w.heap.size + 2, 2, none⟩ (.slice j2 (d.done a).ns l2)) u2.heap.size (d.done a) (.slice j0 (d.done a).nb l0) (.slice j1 (d.done a).nc l1) (.slice j2 (d.done a).ns l2)) := ⟨hR.t0.onlyB O5 (fun e => by have := (World.ownsRow.lt hR.t0 _ e).1; omega), hR.t1.onlyB O5 (fun e => by have := (World.ownsRow.lt hR.t1 _ e).1; omega), hR.t2.onlyB O5 (fun e => by have := (World.ownsRow.lt hR.t2 _ e).1; omega), hR.n01, hR.n02, hR.n12⟩
  have B5 : Hid (Below w.heap.size w (((w3.setCell ⟨w.heap.size + 2, 0, none⟩ (.slice j0 (d.done a).nb l0)).setCell ⟨w.heap.size + 2, 1, none⟩ (.slice j1 (d.done a).nc l1)).setCell ⟨w.heap.size + 2, 2, none⟩ (.slice j2 (d.done a).ns l2))) := B4.trans (O5.toBelow (by omega) B4.size)
  clear O5 X4 X3 B3 B4 hR hb V3 Q OW
  go_wp2
  generalize (((w3.setCell ⟨w.heap.size + 2, 0, none⟩ (.slice j0 (d.done a).nb l0)).setCell ⟨w.heap.size + 2, 1, none⟩ (.slice j1 (d.done a).nc l1)).setCell ⟨w.heap.size + 2, 2, none⟩ (.slice j2 (d.done a).ns l2)) = u5 at *
  clear x0 x1 x2 f0 f1 f2
  have y0 := X5.out.c0
  have y1 := X5.out.c1
  have y2 := X5.out.c2
  obtain ⟨m0, m1, m2, n0, n1, n2, g0, g1, g2, h0, h1, h2, hr, hg0, hg1, hg2⟩ := R5.out.rowD
  cases h0
  cases h1
  cases h2
  exact ret_cell2 (b := w.heap.size + 2) (v := .agg #[.slice j0 (d.done a).nb l0, .slice j1 (d.done a).nc l1, .slice j2 (d.done a).ns l2]) Tryd.results18 rfl rfl (by go_simp) ⟨⟨_, _, _, _, _, _, _, _, _, rfl, hr, fun h => by have := hg0 h; omega, fun h => by have := hg1 h; omega, fun h => by have := hg2 h; omega⟩, B5.out⟩
end Go.Proofs.YtkhglllicblbbaaDoor
