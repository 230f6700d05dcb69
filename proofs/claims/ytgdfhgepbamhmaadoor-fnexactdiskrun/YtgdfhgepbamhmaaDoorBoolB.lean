/-
  Rows of bools in the laws: copied, compared, sized.
-/
import Derived.Test.YtgdfhgepbamhmaaDoorStrS
import Derived.Test.YtgdfhgepbamhmaaDoorBytes
import Derived.Deep.RegionWith
namespace Go.Proofs.YtgdfhgepbamhmaaDoor
open Go.ChangeShapes Go.WideShapes Go.ChangeAt Go.RowKit
set_option linter.unusedVariables false
/-- A slice of bools. -/
def Bools (w : World) (a : Option Addr) (n : Nat) (f : Nat → Bool) : Prop := ∀ i, i < n → ∃ b off, a = some ⟨b, off, none⟩ ∧ w.cell? ⟨b, off + i, none⟩ = some (.bool (f i))
theorem Bools.opened {w : World} {a : Option Addr} {n : Nat} {f : Nat → Bool} (h : Bools w a n f) (hn : 0 < n) :
    ∃ b off, a = some ⟨b, off, none⟩ ∧ ∀ i, i < n → w.cell? ⟨b, off + i, none⟩ = some (.bool (f i)) := by
  obtain ⟨b, off, rfl, _⟩ := h 0 hn
  refine ⟨b, off, rfl, fun i hi => ?_⟩
  obtain ⟨b', off', e, hc⟩ := h i hi
  cases e
  exact hc
theorem Bools.below {w w' : World} {a : Option Addr} {n : Nat} {f : Nat → Bool} (h : Bools w a n f) (hb : Below w.heap.size w w') : Bools w' a n f := fun i hi => by
  obtain ⟨b, off, ha, hc⟩ := h i hi
  exact ⟨b, off, ha, by rw [hb.cell (strBlock hc)]; exact hc⟩
theorem Bools.drewN {w : World} {a : Option Addr} {n : Nat} {f : Nat → Bool} (h : Bools w a n f) (q : Nat) : Bools (w.drewN q) a n f := fun i hi => by
  obtain ⟨b, off, ha, hc⟩ := h i hi
  exact ⟨b, off, ha, by rw [World.cell?_drewN]; exact hc⟩
theorem Bools.ofRow {w : World} {b : Nat} {t : TypeId} {n : Nat} {f : Nat → Bool} (h : w.rowIs b t n (fun i => .bool (f i))) : Bools w (some ⟨b, 0, none⟩) n f := fun i hi => ⟨b, 0, rfl, by rw [Nat.zero_add]; exact h.cell hi⟩
theorem Tryd.infoBool : (Tryd.prog.info? 4).map (fun i => (i.zero, i.size, i.bytes)) = some (some (.bool false), 1, 1) := by kernel_rfl
theorem mkBools (n : Nat) (hn : n ≤ 1048576) (w : World) : (Instr.makeSlice 41 (.int .i64 n) (.int .i64 n)).run Tryd.prog w = .ok (.slice (some ⟨w.heap.size, 0, none⟩) n n) (w.alloc (.cells (madeCells #[.bool false] n) 4)) :=
  run_make_row' (P := Tryd.prog) 41 4 (.bool false) 1 Tryd.underlying41 Tryd.infoBool rfl .i64 .i64 n (by omega) (by omega) w
set_option maxRecDepth 100000 in
set_option maxHeartbeats 1000000 in
theorem toBoolS_any (a : Option Addr) (n c : Nat) (f : Nat → Bool) (w : World) (h : Bools w a n f) (hn : n ≤ 1048576) :
    Calls Tryd.prog 38 #[.slice a n c] w fun e w' => e = .returned (.slice (some ⟨w.heap.size, 0, none⟩) n n) ∧ w'.rowIs w.heap.size 4 n (fun i => .bool (f i)) ∧ Below w.heap.size w w' := by
  have m1 := mkBools n hn
  rcases Nat.eq_zero_or_pos n with rfl | hpos
  · have m0 : ∀ w : World, (Instr.makeSlice 41 (.int .i64 0) (.int .i64 0)).run Tryd.prog w = .ok (.slice (some ⟨w.heap.size, 0, none⟩) 0 0) (w.alloc (.cells (madeCells #[.bool false] 0) 4)) := mkBools 0 (by omega)
    clear m1
    go_enter Tryd.func38, Tryd.ntmps38
    go_wp2
    go_loopw [4] (fun i wr => i = .int .i64 0 ∧ wr = w.alloc (.cells (madeCells #[.bool false] 0) 4)) (fun _ _ => 0)
    case atStart => exact ⟨rfl, rfl⟩
    case round =>
      obtain ⟨rfl, rfl⟩ := hrel
      go_wp2
      go_ret
      exact ⟨rfl, (World.rowIs_made w (.bool false) 0 4).congr (fun j hj => by omega), (Below.refl _ _).alloc (Nat.le_refl _) _⟩
  · obtain ⟨b, off, rfl, hc⟩ := h.opened hpos
    have HC : Hid (∀ i, i < n → w.cell? ⟨b, off + i, none⟩ = some (.bool (f i))) := hc
    clear h hc
    go_enter Tryd.func38, Tryd.ntmps38
    go_wp2
    go_loopw [4] (fun i wr => ∃ k : Nat, k ≤ n ∧ i = .int .i64 k ∧ wr.rowIs w.heap.size 4 n (fun j => .bool (if j < k then f j else false)) ∧ Below w.heap.size w wr) (fun i _ => n - (intOf i).toNat)
    case atStart =>
      refine ⟨0, by omega, rfl, ?_, (Below.refl _ _).alloc (Nat.le_refl _) _⟩
      exact (World.rowIs_made w (.bool false) n 4).congr (fun j hj => by simp)
    case round =>
      obtain ⟨k, hk, rfl, hrow, hb⟩ := hrel
      have HR : Hid (wr.rowIs w.heap.size 4 n (fun j => .bool (if j < k then f j else false))) := hrow
      have HB : Hid (Below w.heap.size w wr) := hb
      by_cases hlt : k < n
      · have c0 := HC.out k hlt
        have c1 : wr.cell? ⟨b, off + k, none⟩ = some (.bool (f k)) := by rw [hb.cell (strBlock c0)]; exact c0
        have c2 := hrow.cell hlt
        have f2 := hrow.frozen k
        have e2 : (if k < k then f k else false) = false := if_neg (by omega)
        rw [e2] at c2
        have HK : Hid (∃ V, V = f k) := ⟨_, rfl⟩
        clear hrow hb c0 e2 m1
        go_wp2
        go_roundw
        case rel =>
          refine ⟨k + 1, by omega, by go_num, ?_, HB.out.setCell (by simp) _⟩
          exact (HR.out.set k _).congr (fun j hj => by
            by_cases e : j = k
            · subst e; simp
            · simp only [if_neg e]
              by_cases g : j < k
              · rw [if_pos g, if_pos (by omega)]
              · rw [if_neg g, if_neg (by omega)])
        case measure => simp [intOf]; omega
      · clear hrow hb m1
        go_wp2
        go_ret
        exact ⟨rfl, HR.out.congr (fun j hj => by rw [if_pos (by omega)]), HB.out⟩
set_option maxRecDepth 100000 in
set_option maxHeartbeats 1000000 in
/-- laws.eqBoolS of two slices that read alike. -/
theorem eqBoolS_yes (a b : Option Addr) (n c d : Nat) (f g : Nat → Bool) (w : World) (h : Bools w a n f) (h' : Bools w b n g) (he : ∀ i, i < n → f i = g i) (hn : n ≤ 1048576) :
    Calls Tryd.prog 47 #[.slice a n c, .slice b n d] w fun e w' => e = .returned (.bool true) ∧ ∃ q, w' = w.drewN q := by
  rcases Nat.eq_zero_or_pos n with rfl | hpos
  · go_enter Tryd.func47, Tryd.ntmps47
    go_wp2
    go_loopw [5] (fun i wr => i = .int .i64 0 ∧ wr = w) (fun _ _ => 0)
    case atStart => exact ⟨rfl, rfl⟩
    case round =>
      obtain ⟨rfl, rfl⟩ := hrel
      go_wp2
      go_ret
      exact ⟨rfl, 0, rfl⟩
  · obtain ⟨b1, o1, rfl, hc⟩ := h.opened hpos
    obtain ⟨b2, o2, rfl, hc'⟩ := h'.opened hpos
    have HC : Hid (∀ i, i < n → w.cell? ⟨b1, o1 + i, none⟩ = some (.bool (f i))) := hc
    have HD : Hid (∀ i, i < n → w.cell? ⟨b2, o2 + i, none⟩ = some (.bool (f i))) := fun i hi => by rw [he i hi]; exact hc' i hi
    clear h h' hc hc' he
    have hne : ((n : Int) != (n : Int)) = false := by simp
    go_enter Tryd.func47, Tryd.ntmps47
    go_wp2
    go_loopw [5] (fun i wr => ∃ k : Nat, k ≤ n ∧ i = .int .i64 k ∧ ∃ q, wr = w.drewN q) (fun i _ => n - (intOf i).toNat)
    case atStart => exact ⟨0, by omega, rfl, 0, rfl⟩
    case round =>
      obtain ⟨k, hk, rfl, q, rfl⟩ := hrel
      by_cases hlt : k < n
      · have c1 := HC.out k hlt
        have c2 := HD.out k hlt
        have hlt' : (k : Int) < (n : Int) := by omega
        generalize f k = V at *
        go_wp2
        go_quiet (fail)
        go_wp2
        go_roundw
        case rel => exact ⟨k + 1, by omega, by go_num, _, by first | rfl | rw [World.drewN_drewN]⟩
        case measure => simp [intOf]; omega
      · go_wp2
        go_ret
        exact ⟨rfl, q, rfl⟩
set_option maxRecDepth 100000 in
set_option maxHeartbeats 1000000 in
theorem szBoolS_x (a : Option Addr) (n c : Nat) (x : Int) (w : World) (hx0 : 0 ≤ x) (hx : x ≤ 1048576) (hn : n ≤ maxLen) :
    Calls Tryd.prog 34 #[.slice a n c, .int .i64 x] w fun e w' => (∃ y : Int, e = .returned (.int .i64 y) ∧ y ≤ 1048576 ∧ (0 ≤ y → n ≤ 1048576)) ∧ w = w' := by
  unfold maxLen at hn
  by_cases h0 : (n : Int) ≤ x
  · have e0 : ¬ x - (n : Int) < 0 := by omega
    go_enter Tryd.func34, Tryd.ntmps34
    go_wp2
    go_ret
    exact ⟨⟨_, rfl, by omega, fun _ => by omega⟩, rfl⟩
  · have e0 : x - (n : Int) < 0 := by omega
    go_enter Tryd.func34, Tryd.ntmps34
    go_wp2
    go_ret
    exact ⟨⟨-1, rfl, by omega, fun h => by omega⟩, rfl⟩
end Go.Proofs.YtgdfhgepbamhmaaDoor
