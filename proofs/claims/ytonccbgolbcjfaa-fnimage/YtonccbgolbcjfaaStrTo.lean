/-
  Lists of texts: the laws' own helpers (written by tools/mkroot.py out of DiskTo).
-/
import Derived.Test.YtonccbgolbcjfaaStrS
import Derived.Test.YtonccbgolbcjfaaEOg
namespace Go.Proofs.Ytonccbgolbcjfaa
open Go.ChangeShapes Go.WideShapes Go.ChangeAt Go.RowKit
set_option linter.unusedVariables false
theorem Try.infoStrT : (Try.prog.info? 9).map (fun i => (i.zero, i.size, i.bytes)) = some (some (.string ⟨#[]⟩), 1, 16) := by kernel_rfl
theorem mkStrT (n : Nat) (hn : n ≤ 1048576) (w : World) : (Instr.makeSlice 24 (.int .i64 n) (.int .i64 n)).run Try.prog w = .ok (.slice (some ⟨w.heap.size, 0, none⟩) n n) (w.alloc (.cells (madeCells #[.string ⟨#[]⟩] n) 9)) :=
  run_make_row' (P := Try.prog) 24 9 (.string ⟨#[]⟩) 16 Try.underlying24 Try.infoStrT rfl .i64 .i64 n (by omega) (by omega) w
set_option maxRecDepth 100000 in
set_option maxHeartbeats 1000000 in
theorem toStrT_any (a : Option Addr) (n c : Nat) (f : Nat → ByteArray) (w : World) (h : Strs w a n f) (hn : n ≤ 1048576) :
    Calls Try.prog 27 #[.slice a n c] w fun e w' => e = .returned (.slice (some ⟨w.heap.size, 0, none⟩) n n) ∧ w'.rowIs w.heap.size 9 n (fun i => .string (f i)) ∧ Below w.heap.size w w' := by
  have m1 := mkStrT n hn
  rcases Nat.eq_zero_or_pos n with rfl | hpos
  · have m0 : ∀ w : World, (Instr.makeSlice 24 (.int .i64 0) (.int .i64 0)).run Try.prog w = .ok (.slice (some ⟨w.heap.size, 0, none⟩) 0 0) (w.alloc (.cells (madeCells #[.string ⟨#[]⟩] 0) 9)) := mkStrT 0 (by omega)
    clear m1
    go_enter Try.func27, Try.ntmps27
    go_wp2
    go_loopw [4] (fun i wr => i = .int .i64 0 ∧ wr = w.alloc (.cells (madeCells #[.string ⟨#[]⟩] 0) 9)) (fun _ _ => 0)
    case atStart => exact ⟨rfl, rfl⟩
    case round =>
      obtain ⟨rfl, rfl⟩ := hrel
      go_wp2
      go_ret
      exact ⟨rfl, (World.rowIs_made w (.string ⟨#[]⟩) 0 9).congr (fun j hj => by omega), (Below.refl _ _).alloc (Nat.le_refl _) _⟩
  · obtain ⟨b, off, rfl, hc⟩ := h.opened hpos
    have HC : Hid (∀ i, i < n → w.cell? ⟨b, off + i, none⟩ = some (.string (f i))) := hc
    clear h hc
    go_enter Try.func27, Try.ntmps27
    go_wp2
    go_loopw [4] (fun i wr => ∃ k : Nat, k ≤ n ∧ i = .int .i64 k ∧ wr.rowIs w.heap.size 9 n (fun j => .string (if j < k then f j else ⟨#[]⟩)) ∧ Below w.heap.size w wr) (fun i _ => n - (intOf i).toNat)
    case atStart =>
      refine ⟨0, by omega, rfl, ?_, (Below.refl _ _).alloc (Nat.le_refl _) _⟩
      exact (World.rowIs_made w (.string ⟨#[]⟩) n 9).congr (fun j hj => by simp)
    case round =>
      obtain ⟨k, hk, rfl, hrow, hb⟩ := hrel
      have HR : Hid (wr.rowIs w.heap.size 9 n (fun j => .string (if j < k then f j else ⟨#[]⟩))) := hrow
      have HB : Hid (Below w.heap.size w wr) := hb
      by_cases hlt : k < n
      · have c0 := HC.out k hlt
        have c1 : wr.cell? ⟨b, off + k, none⟩ = some (.string (f k)) := by rw [hb.cell (strBlock c0)]; exact c0
        have c2 := hrow.cell hlt
        have f2 := hrow.frozen k
        have e2 : (if k < k then f k else (⟨#[]⟩ : ByteArray)) = ⟨#[]⟩ := if_neg (by omega)
        rw [e2] at c2
        have HK : Hid (∃ V, V = f k) := ⟨_, rfl⟩
        clear hrow hb c0 e2 m1
        go_wp2
        go_roundw
        case rel =>
          refine ⟨k + 1, by omega, by go_num, ?_, HB.out.setCell (by simp) _⟩
          exact (HR.out.set k _).congr (fun j hj => by
            by_cases e : j = k
            · subst e; simp
            · simp only [if_neg e]
              by_cases g : j < k
              · rw [if_pos g, if_pos (by omega)]
              · rw [if_neg g, if_neg (by omega)])
        case measure => simp [intOf]; omega
      · clear hrow hb m1
        go_wp2
        go_ret
        exact ⟨rfl, HR.out.congr (fun j hj => by rw [if_pos (by omega)]), HB.out⟩
set_option maxRecDepth 100000 in
set_option maxHeartbeats 1000000 in
theorem szStrT_any (a : Option Addr) (n c : Nat) (f : Nat → ByteArray) (x : Int) (w : World) (h : Strs w a n f) (hx0 : 0 ≤ x) (hx : x ≤ 1048576) (hn : n ≤ maxLen) (hf : ∀ i, i < n → (f i).size ≤ maxLen) :
    Calls Try.prog 25 #[.slice a n c, .int .i64 x] w fun e w' => (∃ y : Int, e = .returned (.int .i64 y) ∧ y ≤ 1048576 ∧ (0 ≤ y → n ≤ 1048576)) ∧ w = w' := by
  unfold maxLen at hn hf
  by_cases h0 : (n : Int) ≤ x
  · obtain ⟨y, hy⟩ : ∃ y, y = x - (n : Int) := ⟨_, rfl⟩
    have ey : x - (n : Int) = y := hy.symm
    have e0 : ¬ y < 0 := by omega
    have e1 : n ≤ 1048576 := by omega
    have ha : n = 0 ∨ ∃ b off, a = some ⟨b, off, none⟩ ∧ ∀ i, i < n → w.cell? ⟨b, off + i, none⟩ = some (.string (f i)) := by
      rcases Nat.eq_zero_or_pos n with rfl | hpos
      · exact .inl rfl
      · exact .inr (h.opened hpos)
    have HA : Hid (n = 0 ∨ ∃ b off, a = some ⟨b, off, none⟩ ∧ ∀ i, i < n → w.cell? ⟨b, off + i, none⟩ = some (.string (f i))) := ha
    have HF : Hid (∀ i, i < n → (f i).size ≤ 2 ^ 63 - 1) := hf
    have y0 : y ≤ 1048576 := by omega
    clear h ha hf hy
    go_enter Try.func25, Try.ntmps25
    go_wp2
    go_loopw [1, 5] (fun l i wr => ∃ (k : Nat) (z : Int), k ≤ n ∧ i = .int .i64 k ∧ l = .int .i64 z ∧ 0 ≤ z ∧ z ≤ 1048576 ∧ w = wr) (fun _ i _ => n - (intOf i).toNat)
    case atStart => exact ⟨0, y, by omega, rfl, rfl, by omega, by omega, rfl⟩
    case round =>
      obtain ⟨k, z, hk, rfl, rfl, hz, hz2, rfl⟩ := hrel
      by_cases hlt : k < n
      · rcases HA.out with h1 | ⟨b, off, rfl, hc⟩
        · omega
        · have c1 := hc k hlt
          have hs := HF.out k hlt
          have hlt' : (k : Int) < (n : Int) := by omega
          generalize f k = V at *
          clear hc HA
          by_cases hz3 : z - (V.size : Int) < 0
          · have x1 : z - (V.size : Int) < 0 := hz3
            have x2 : IntKind.i64.wrap (z - (V.size : Int)) = z - (V.size : Int) := IntWalk.i64_in _ (by omega)
            go_wp2
            go_ret
            exact ⟨⟨-1, rfl, by omega, by omega⟩, rfl⟩
          · have x1 : ¬ z - (V.size : Int) < 0 := hz3
            have x2 : IntKind.i64.wrap (z - (V.size : Int)) = z - (V.size : Int) := IntWalk.i64_in _ (by omega)
            go_wp2
            go_roundw
            case rel => exact ⟨k + 1, z - (V.size : Int), by omega, by go_num, rfl, by omega, by omega, trivial⟩
            case measure => simp [intOf]; omega
      · have hlt' : ¬ (k : Int) < (n : Int) := by omega
        clear HA
        go_wp2
        go_ret
        exact ⟨⟨z, rfl, hz2⟩, rfl⟩
  · have e0 : x - (n : Int) < 0 := by omega
    go_enter Try.func25, Try.ntmps25
    go_wp2
    go_ret
    exact ⟨⟨-1, rfl, by omega, by omega⟩, rfl⟩
end Go.Proofs.Ytonccbgolbcjfaa
