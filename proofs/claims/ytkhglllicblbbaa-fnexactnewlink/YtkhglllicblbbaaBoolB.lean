/-
  Rows of bools in the laws: copied, compared, sized.
-/
import Derived.Test.YtkhglllicblbbaaStrS
import Derived.Test.YtkhglllicblbbaaBytes
import Derived.Deep.RegionWith
namespace Go.Proofs.Ytkhglllicblbbaa
open Go.ChangeShapes Go.WideShapes Go.ChangeAt Go.RowKit
set_option linter.unusedVariables false
/-- A slice of bools. -/
def Bools (w : World) (a : Option Addr) (n : Nat) (f : Nat → Bool) : Prop := ∀ i, i < n → ∃ b off, a = some ⟨b, off, none⟩ ∧ w.cell? ⟨b, off + i, none⟩ = some (.bool (f i))
theorem Bools.opened {w : World} {a : Option Addr} {n : Nat} {f : Nat → Bool} (h : Bools w a n f) (hn : 0 < n) :
    ∃ b off, a = some ⟨b, off, none⟩ ∧ ∀ i, i < n → w.cell? ⟨b, off + i, none⟩ = some (.bool (f i)) := by
  obtain ⟨b, off, rfl, _⟩ := h 0 hn
  refine ⟨b, off, rfl, fun i hi => ?_⟩
  obtain ⟨b', off', e, hc⟩ := h i hi
  cases e
  exact hc
theorem Bools.below {w w' : World} {a : Option Addr} {n : Nat} {f : Nat → Bool} (h : Bools w a n f) (hb : Below w.heap.size w w') : Bools w' a n f := fun i hi => by
  obtain ⟨b, off, ha, hc⟩ := h i hi
  exact ⟨b, off, ha, by rw [hb.cell (strBlock hc)]; exact hc⟩
theorem Bools.drewN {w : World} {a : Option Addr} {n : Nat} {f : Nat → Bool} (h : Bools w a n f) (q : Nat) : Bools (w.drewN q) a n f := fun i hi => by
  obtain ⟨b, off, ha, hc⟩ := h i hi
  exact ⟨b, off, ha, by rw [World.cell?_drewN]; exact hc⟩
theorem Bools.ofRow {w : World} {b : Nat} {t : TypeId} {n : Nat} {f : Nat → Bool} (h : w.rowIs b t n (fun i => .bool (f i))) : Bools w (some ⟨b, 0, none⟩) n f := fun i hi => ⟨b, 0, rfl, by rw [Nat.zero_add]; exact h.cell hi⟩
theorem Try.infoBool : (Try.prog.info? 4).map (fun i => (i.zero, i.size, i.bytes)) = some (some (.bool false), 1, 1) := by kernel_rfl
theorem mkBools (n : Nat) (hn : n ≤ 1048576) (w : World) : (Instr.makeSlice 22 (.int .i64 n) (.int .i64 n)).run Try.prog w = .ok (.slice (some ⟨w.heap.size, 0, none⟩) n n) (w.alloc (.cells (madeCells #[.bool false] n) 4)) :=
  run_make_row' (P := Try.prog) 22 4 (.bool false) 1 Try.underlying22 Try.infoBool rfl .i64 .i64 n (by omega) (by omega) w
set_option maxRecDepth 100000 in
set_option maxHeartbeats 1000000 in
/-- laws.eqBoolS of two slices that read alike. -/
theorem eqBoolS_yes (a b : Option Addr) (n c d : Nat) (f g : Nat → Bool) (w : World) (h : Bools w a n f) (h' : Bools w b n g) (he : ∀ i, i < n → f i = g i) (hn : n ≤ 1048576) :
    Calls Try.prog 11 #[.slice a n c, .slice b n d] w fun e w' => e = .returned (.bool true) ∧ ∃ q, w' = w.drewN q := by
  rcases Nat.eq_zero_or_pos n with rfl | hpos
  · go_enter Try.func11, Try.ntmps11
    go_wp2
    go_loopw [5] (fun i wr => i = .int .i64 0 ∧ wr = w) (fun _ _ => 0)
    case atStart => exact ⟨rfl, rfl⟩
    case round =>
      obtain ⟨rfl, rfl⟩ := hrel
      go_wp2
      go_ret
      exact ⟨rfl, 0, rfl⟩
  · obtain ⟨b1, o1, rfl, hc⟩ := h.opened hpos
    obtain ⟨b2, o2, rfl, hc'⟩ := h'.opened hpos
    have HC : Hid (∀ i, i < n → w.cell? ⟨b1, o1 + i, none⟩ = some (.bool (f i))) := hc
    have HD : Hid (∀ i, i < n → w.cell? ⟨b2, o2 + i, none⟩ = some (.bool (f i))) := fun i hi => by rw [he i hi]; exact hc' i hi
    clear h h' hc hc' he
    have hne : ((n : Int) != (n : Int)) = false := by simp
    go_enter Try.func11, Try.ntmps11
    go_wp2
    go_loopw [5] (fun i wr => ∃ k : Nat, k ≤ n ∧ i = .int .i64 k ∧ ∃ q, wr = w.drewN q) (fun i _ => n - (intOf i).toNat)
    case atStart => exact ⟨0, by omega, rfl, 0, rfl⟩
    case round =>
      obtain ⟨k, hk, rfl, q, rfl⟩ := hrel
      by_cases hlt : k < n
      · have c1 := HC.out k hlt
        have c2 := HD.out k hlt
        have hlt' : (k : Int) < (n : Int) := by omega
        generalize f k = V at *
        go_wp2
        go_quiet (fail)
        go_wp2
        go_roundw
        case rel => exact ⟨k + 1, by omega, by go_num, _, by first | rfl | rw [World.drewN_drewN]⟩
        case measure => simp [intOf]; omega
      · go_wp2
        go_ret
        exact ⟨rfl, q, rfl⟩
end Go.Proofs.Ytkhglllicblbbaa
