/-
  The laws' own helpers on disks: copies of what came in, and whether it is small.
-/
import Derived.Test.YtgdfhgepbamhmaaDoorRetCell
import Derived.Test.YtgdfhgepbamhmaaDoorDiskDefs
import Derived.Test.YtgdfhgepbamhmaaDoorBytes
import Derived.Laws.ResultCell
import Derived.Deep.RegionWith
namespace Go.Proofs.YtgdfhgepbamhmaaDoor
open Go.ChangeShapes Go.WideShapes Go.ChangeAt Go.RowKit
theorem Tryd.infoStrD : (Tryd.prog.info? 9).map (fun i => (i.zero, i.size, i.bytes)) = some (some (.string ⟨#[]⟩), 1, 16) := by kernel_rfl
theorem mkStrsD (n : Nat) (hn : n ≤ 1048576) (w : World) : (Instr.makeSlice 24 (.int .i64 n) (.int .i64 n)).run Tryd.prog w = .ok (.slice (some ⟨w.heap.size, 0, none⟩) n n) (w.alloc (.cells (madeCells #[.string ⟨#[]⟩] n) 9)) :=
  run_make_row' (P := Tryd.prog) 24 9 (.string ⟨#[]⟩) 16 Tryd.underlying24 Tryd.infoStrD rfl .i64 .i64 n (by omega) (by omega) w
theorem Tryd.infoPen : (Tryd.prog.info? 68).map (fun i => (i.zero, i.size, i.bytes)) = some (some (.agg #[.int .i64 0, .string ⟨#[]⟩]), 2, 24) := by kernel_rfl
theorem mkPens (n : Nat) (hn : n ≤ 1048576) (w : World) : (Instr.makeSlice 25 (.int .i64 n) (.int .i64 n)).run Tryd.prog w = .ok (.slice (some ⟨w.heap.size, 0, none⟩) n n) (w.alloc (.cells (madeCells #[.int .i64 0, .string ⟨#[]⟩] (n * 2)) 68)) := by
  obtain ⟨i, hi, hzz⟩ := Option.map_eq_some_iff.1 Tryd.infoPen
  simp only [Prod.mk.injEq] at hzz
  obtain ⟨hz, hs, hb⟩ := hzz
  have hr := run_make (P := Tryd.prog) w 25 68 i _ Tryd.underlying25 hi hz .i64 .i64 n n (by omega) (Int.le_refl _) (by rw [hb]; omega) (by omega)
  simp only [Int.toNat_natCast, hs] at hr
  exact hr
/-- The cells of a row of writes. -/
def penC (A : Nat → Int) (D : Nat → ByteArray) (k : Nat) : Value := if k % 2 = 0 then .int .i64 (A (k / 2)) else .string (D (k / 2))
theorem penC0 (A : Nat → Int) (D : Nat → ByteArray) (i : Nat) : penC A D (i * 2) = .int .i64 (A i) := by unfold penC; rw [if_pos (by omega), show i * 2 / 2 = i from by omega]
theorem penC1 (A : Nat → Int) (D : Nat → ByteArray) (i : Nat) : penC A D (i * 2 + 1) = .string (D i) := by unfold penC; rw [if_neg (by omega), show (i * 2 + 1) / 2 = i from by omega]
def PenRow (w : World) (b n : Nat) (A : Nat → Int) (D : Nat → ByteArray) : Prop := w.rowIs b 68 (n * 2) (penC A D)
theorem PenRow.pens {w : World} {b n : Nat} {A : Nat → Int} {D : Nat → ByteArray} (h : PenRow w b n A D) : Pens w (some ⟨b, 0, none⟩) n A D := fun i hi => ⟨b, 0, rfl, by rw [Nat.zero_add, World.rowIs.cell h (by omega), penC0], by rw [Nat.zero_add, World.rowIs.cell h (by omega), penC1]⟩
theorem PenRow.made (w : World) (n : Nat) : PenRow (w.alloc (.cells (madeCells #[.int .i64 0, .string ⟨#[]⟩] (n * 2)) 68)) w.heap.size n (fun _ => 0) (fun _ => ⟨#[]⟩) :=
  ⟨_, (MapKept.heap_alloc w _).1, size_madeCells _ _, fun i hi => by
    unfold penC
    rcases (show i % 2 = 0 ∨ i % 2 = 1 by omega) with e | e <;> simp [madeCells, hi, e]⟩
theorem PenRow.put {w : World} {b n : Nat} {A : Nat → Int} {D : Nat → ByteArray} (h : PenRow w b n A D) (k : Nat) (x : Int) (s : ByteArray) : PenRow ((w.setCell ⟨b, k * 2, none⟩ (.int .i64 x)).setCell ⟨b, k * 2 + 1, none⟩ (.string s)) b n (fun i => if i = k then x else A i) (fun i => if i = k then s else D i) := by
  refine World.rowIs.congr ((World.rowIs.set h (k * 2) _).set (k * 2 + 1) _) (fun j hj => ?_)
  unfold penC
  rcases (show j % 2 = 0 ∨ j % 2 = 1 by omega) with e | e
  · rw [if_neg (by omega)]
    by_cases q : j = k * 2
    · rw [if_pos q, if_pos e, show j / 2 = k from by omega]; simp only [if_pos]
    · have : ¬ j / 2 = k := by omega
      rw [if_neg q, if_pos e, if_pos e]; simp only [if_neg this]
  · by_cases q : j = k * 2 + 1
    · rw [if_pos q, if_neg (by omega), show j / 2 = k from by omega]; simp only [if_pos]
    · have : ¬ j / 2 = k := by omega
      rw [if_neg q, if_neg (by omega), if_neg (by omega), if_neg (by omega)]; simp only [if_neg this]
theorem PenRow.ofBlock {w w' : World} {b n : Nat} {A : Nat → Int} {D : Nat → ByteArray} (h : PenRow w b n A D) (e : w'.heap[b]? = w.heap[b]?) : PenRow w' b n A D := World.rowIs.of_block h e
theorem PenRow.congr {w : World} {b n : Nat} {A A' : Nat → Int} {D D' : Nat → ByteArray} (h : PenRow w b n A D) (e : ∀ i, i < n → A i = A' i ∧ D i = D' i) : PenRow w b n A' D' :=
  World.rowIs.congr h (fun j hj => by
    unfold penC
    obtain ⟨h1, h2⟩ := e (j / 2) (by omega)
    rw [h1, h2])
set_option maxRecDepth 100000 in
theorem eqPending_yes (x : Int) (s : ByteArray) (w : World) :
    Calls Tryd.prog 46 #[.agg #[.int .i64 x, .string s], .agg #[.int .i64 x, .string s]] w fun e w' => e = .returned (.bool true) ∧ Below w.heap.size w w' := by
  have e1 : (x != x) = false := by simp
  go_enter Tryd.func46, Tryd.ntmps46
  go_wp2
  go_ret
  exact ⟨rfl, ((Below.refl w.heap.size w).alloc (Nat.le_refl _) _).alloc (by simp) _⟩
set_option maxRecDepth 100000 in
set_option maxHeartbeats 1000000 in
theorem eqPendingS_yes (a b : Option Addr) (n c d : Nat) (A : Nat → Int) (D : Nat → ByteArray) (A' : Nat → Int) (D' : Nat → ByteArray) (w : World) (h : Pens w a n A D) (h' : Pens w b n A' D') (he : ∀ i, i < n → A i = A' i ∧ D i = D' i) (hn : n ≤ 1048576) :
    Calls Tryd.prog 26 #[.slice a n c, .slice b n d] w fun e w' => e = .returned (.bool true) ∧ Below w.heap.size w w' := by
  have HA : Hid (Pens w a n A D) := h
  have HA' : Hid (Pens w b n A D) := fun i hi => by obtain ⟨e1, e2⟩ := he i hi; rw [e1, e2]; exact h' i hi
  have hne : ((n : Int) != (n : Int)) = false := by simp
  clear h h' he
  go_enter Tryd.func26, Tryd.ntmps26
  go_wp2
  go_loopw [5] (fun i wr => ∃ k : Nat, k ≤ n ∧ i = .int .i64 k ∧ Below w.heap.size w wr) (fun i _ => n - (intOf i).toNat)
  case atStart => exact ⟨0, by omega, rfl, Below.refl _ _⟩
  case round =>
    obtain ⟨k, hk, rfl, hb⟩ := hrel
    have HB : Hid (Below w.heap.size w wr) := hb
    by_cases hlt : k < n
    · obtain ⟨b1, o1, rfl, hc⟩ := (HA.out.below hb).opened (by omega)
      obtain ⟨b2, o2, rfl, hc'⟩ := (HA'.out.below hb).opened (by omega)
      obtain ⟨c1, c2⟩ := hc k hlt
      obtain ⟨c3, c4⟩ := hc' k hlt
      have hlt' : (k : Int) < (n : Int) := by omega
      have EP : Hid (∀ w : World, Calls Tryd.prog 46 #[.agg #[.int .i64 (A k), .string (D k)], .agg #[.int .i64 (A k), .string (D k)]] w fun e w' => e = .returned (.bool true) ∧ Below w.heap.size w w') := eqPending_yes (A k) (D k)
      clear hc hc' hb
      go_wp2_with fail
      go_region_with (go_at_call 46; refine (EP.out _).mono ?_; rintro e w' ⟨rfl, hb⟩)
      all_goals
        have B1 : Hid (Below w.heap.size w w') := HB.out.drew.trans (hb.mono HB.out.size)
        clear hb HB EP c1 c2 c3 c4
        dsimp only [Act.put]
        go_wp2
        go_roundw
        case rel => exact ⟨k + 1, by omega, by go_num, B1.out⟩
        case measure => simp [intOf]; omega
    · go_wp2
      go_ret
      exact ⟨rfl, HB.out⟩
set_option maxRecDepth 100000 in
set_option maxHeartbeats 1000000 in
/-- laws.eqDisk of two disks that hold the same. -/
theorem eqDisk_yes (x y : Dk) (a0 a1 a2 b0 b1 b2 : Option Addr) (c0 c1 c2 d0 d1 d2 : Nat) (w : World) (h : DiskV w x a0 a1 a2) (h' : DiskV w y b0 b1 b2) (e0 : x.nb = y.nb) (e1 : x.nc = y.nc) (e2 : x.ns = y.ns) (eB : ∀ i, i < x.nb → x.B i = y.B i) (eC : ∀ i, i < x.nc → x.A i = y.A i ∧ x.D i = y.D i) (eS : ∀ i, i < x.ns → x.S i = y.S i) (l0 : x.nb ≤ 1048576) (l1 : x.nc ≤ 1048576) (l2 : x.ns ≤ 1048576) :
    Calls Tryd.prog 8 #[.agg #[.slice a0 x.nb c0, .slice a1 x.nc c1, .slice a2 x.ns c2], .agg #[.slice b0 y.nb d0, .slice b1 y.nc d1, .slice b2 y.ns d2]] w fun e w' => e = .returned (.bool true) ∧ Below w.heap.size w w' := by
  have Q0 : Hid (∀ w : World, Strs w a0 x.nb x.B → Strs w b0 y.nb y.B → Calls Tryd.prog 25 #[.slice a0 x.nb c0, .slice b0 y.nb d0] w fun e w' => e = .returned (.bool true) ∧ ∃ q, w' = w.drewN q) := fun w k k' => by rw [← e0] at k' ⊢; exact eqStringS_yes a0 b0 x.nb c0 d0 x.B y.B w k k' eB l0
  have Q1 : Hid (∀ w : World, Pens w a1 x.nc x.A x.D → Pens w b1 y.nc y.A y.D → Calls Tryd.prog 26 #[.slice a1 x.nc c1, .slice b1 y.nc d1] w fun e w' => e = .returned (.bool true) ∧ Below w.heap.size w w') := fun w k k' => by rw [← e1] at k' ⊢; exact eqPendingS_yes a1 b1 x.nc c1 d1 x.A x.D y.A y.D w k k' eC l1
  have Q2 : Hid (∀ w : World, Strs w a2 x.ns x.S → Strs w b2 y.ns y.S → Calls Tryd.prog 25 #[.slice a2 x.ns c2, .slice b2 y.ns d2] w fun e w' => e = .returned (.bool true) ∧ ∃ q, w' = w.drewN q) := fun w k k' => by rw [← e2] at k' ⊢; exact eqStringS_yes a2 b2 x.ns c2 d2 x.S y.S w k k' eS l2
  have HX : Hid (DiskV w x a0 a1 a2) := h
  have HY : Hid (DiskV w y b0 b1 b2) := h'
  clear h h' e0 e1 e2 eB eC eS l0 l1 l2
  have A1 : Hid (Below w.heap.size w ((w.alloc (.cells #[.slice a0 x.nb c0, .slice a1 x.nc c1, .slice a2 x.ns c2] 27)).alloc (.cells #[.slice b0 y.nb d0, .slice b1 y.nc d1, .slice b2 y.ns d2] 27))) := ((Below.refl w.heap.size w).alloc (Nat.le_refl _) _).alloc (by simp) _
  have RA : Hid (Box3 ((w.alloc (.cells #[.slice a0 x.nb c0, .slice a1 x.nc c1, .slice a2 x.ns c2] 27)).alloc (.cells #[.slice b0 y.nb d0, .slice b1 y.nc d1, .slice b2 y.ns d2] 27)) w.heap.size 27 (.slice a0 x.nb c0) (.slice a1 x.nc c1) (.slice a2 x.ns c2)) := (Box3.made w _ _ _ _).alloc _
  have RB : Hid (Box3 ((w.alloc (.cells #[.slice a0 x.nb c0, .slice a1 x.nc c1, .slice a2 x.ns c2] 27)).alloc (.cells #[.slice b0 y.nb d0, .slice b1 y.nc d1, .slice b2 y.ns d2] 27)) (w.heap.size + 1) 27 (.slice b0 y.nb d0) (.slice b1 y.nc d1) (.slice b2 y.ns d2)) := Box3.madeAt (by simp) _ _ _ _
  go_enter Tryd.func8, Tryd.ntmps8
  go_wp2_with fail
  generalize ((w.alloc (.cells #[.slice a0 x.nb c0, .slice a1 x.nc c1, .slice a2 x.ns c2] 27)).alloc (.cells #[.slice b0 y.nb d0, .slice b1 y.nc d1, .slice b2 y.ns d2] 27)) = v at *
  refine (Q0.out _ (HX.out.1.below A1.out) (HY.out.1.below A1.out)).mono ?_
  rintro e w1 ⟨rfl, q, rfl⟩
  have hb : Below v.heap.size v (v.drewN q) := ⟨rfl, rfl, rfl, Nat.le_refl _, fun _ _ => rfl⟩
  generalize v.drewN q = v1 at *
  replace A1 : Hid (Below w.heap.size w v1) := A1.out.trans (hb.mono A1.out.size)
  replace RA : Hid (Box3 v1 w.heap.size 27 (.slice a0 x.nb c0) (.slice a1 x.nc c1) (.slice a2 x.ns c2)) := RA.out.below hb
  replace RB : Hid (Box3 v1 (w.heap.size + 1) 27 (.slice b0 y.nb d0) (.slice b1 y.nc d1) (.slice b2 y.ns d2)) := RB.out.below hb
  have k1 := RA.out.c1
  have k2 := RB.out.c1
  clear hb Q0
  go_wp2_with fail
  refine (Q1.out _ (HX.out.2.1.below A1.out) (HY.out.2.1.below A1.out)).mono ?_
  rintro e v2 ⟨rfl, hb⟩
  replace A1 : Hid (Below w.heap.size w v2) := A1.out.trans (hb.mono A1.out.size)
  replace RA : Hid (Box3 v2 w.heap.size 27 (.slice a0 x.nb c0) (.slice a1 x.nc c1) (.slice a2 x.ns c2)) := RA.out.below hb
  replace RB : Hid (Box3 v2 (w.heap.size + 1) 27 (.slice b0 y.nb d0) (.slice b1 y.nc d1) (.slice b2 y.ns d2)) := RB.out.below hb
  clear hb Q1 k1 k2
  have k1 := RA.out.c2
  have k2 := RB.out.c2
  go_wp2_with fail
  refine (Q2.out _ (HX.out.2.2.below A1.out) (HY.out.2.2.below A1.out)).mono ?_
  rintro e w1 ⟨rfl, q, rfl⟩
  have hb : Below v2.heap.size v2 (v2.drewN q) := ⟨rfl, rfl, rfl, Nat.le_refl _, fun _ _ => rfl⟩
  generalize v2.drewN q = v3 at *
  replace A1 : Hid (Below w.heap.size w v3) := A1.out.trans (hb.mono A1.out.size)
  clear hb Q2 k1 k2 RA RB
  go_wp2
  go_ret
  exact ⟨rfl, A1.out⟩
end Go.Proofs.YtgdfhgepbamhmaaDoor
