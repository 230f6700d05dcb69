/-
  Replicas as cells; rows of them; NewService of the program.
-/
import Derived.Test.YtdoacpnjggdojaaIntE
import Derived.Test.YtdoacpnjggdojaaQSize
import Derived.Test.YtdoacpnjggdojaaRetCell
import Derived.Test.YtdoacpnjggdojaaBox4
namespace Go.Proofs.Ytdoacpnjggdojaa
open Go.ChangeShapes Go.WideShapes Go.ChangeAt Go.RowKit
set_option linter.unusedVariables false
/-- What a replica holds, but for where its Echos lie. -/
structure Rp where
  mute : Bool
  nc : Int
  nt : Int
  sc : Int
  st : Int
  ne : Nat
  E : Nat → Int
  bc : Int
  bt : Int
def rpZ : Rp := ⟨false, 0, 0, 0, 0, 0, fun _ => 0, 0, 0⟩
def rpV (r : Rp) (v : Value) : Nat → Value
  | 0 => .bool r.mute
  | 1 => .int .i64 r.nc
  | 2 => .int .i64 r.nt
  | 3 => .int .i64 r.sc
  | 4 => .int .i64 r.st
  | 5 => v
  | 6 => .int .i64 r.bc
  | _ => .int .i64 r.bt
/-- The cells of replicas; V: their Echos as slices. -/
def rpF (R : Nat → Rp) (V : Nat → Value) (i j : Nat) : Value := rpV (R i) (V i) j
theorem Try.infoRp : (Try.prog.info? 50).map (fun i => (i.zero, i.size, i.bytes)) = some (some (.agg #[.bool false, .int .i64 0, .int .i64 0, .int .i64 0, .int .i64 0, .slice none 0 0, .int .i64 0, .int .i64 0]), 8, 80) := by kernel_rfl
theorem mkRp (n : Nat) (hn : n ≤ 1000) (w : World) : (Instr.makeSlice 26 (.int .i64 n) (.int .i64 n)).run Try.prog w = .ok (.slice (some ⟨w.heap.size, 0, none⟩) n n) (w.alloc (.cells (madeCells #[.bool false, .int .i64 0, .int .i64 0, .int .i64 0, .int .i64 0, .slice none 0 0, .int .i64 0, .int .i64 0] (n * 8)) 50)) := by
  obtain ⟨i, hi, hzz⟩ := Option.map_eq_some_iff.1 Try.infoRp
  simp only [Prod.mk.injEq] at hzz
  obtain ⟨hz, hs, hb⟩ := hzz
  have hr := run_make (P := Try.prog) w 26 50 i _ Try.underlying26 hi hz .i64 .i64 n n (by omega) (Int.le_refl _) (by rw [hb]; omega) (by omega)
  simp only [Int.toNat_natCast, hs] at hr
  exact hr
theorem RowE.rpMade (w : World) (n : Nat) : RowE (w.alloc (.cells (madeCells #[.bool false, .int .i64 0, .int .i64 0, .int .i64 0, .int .i64 0, .slice none 0 0, .int .i64 0, .int .i64 0] (n * 8)) 50)) 8 (some ⟨w.heap.size, 0, none⟩) w.heap.size n (rpF (fun _ => rpZ) (fun _ => .slice none 0 0)) := RowE.made w 8 n _ _ rfl _ (fun i j hj => by
  rcases (show j = 0 ∨ j = 1 ∨ j = 2 ∨ j = 3 ∨ j = 4 ∨ j = 5 ∨ j = 6 ∨ j = 7 by omega) with rfl | rfl | rfl | rfl | rfl | rfl | rfl | rfl <;> rfl)
/-- A new service: n replicas that hold nothing, in a row of the call's own; where their Echos lie is told by V. -/
def RetNs (n : Nat) (B : Nat) (e : Ending) (w : World) : Prop := ∃ (g : Nat) (c : Nat) (V : Nat → Value) (vw vr : Value), e = .returned (.tuple #[.agg #[.slice (some ⟨g, 0, none⟩) n c, .int .i64 0, vw, vr], .int .i64 0]) ∧ B ≤ g ∧ g < w.heap.size ∧ RowE w 8 (some ⟨g, 0, none⟩) g n (rpF (fun _ => rpZ) V) ∧ (∀ i, i < n → ∃ a, V i = .slice a 0 0) ∧ (∃ a, vw = .slice a 0 0) ∧ (∃ a, vr = .slice a 0 0)
theorem Box4.loadsv {w : World} {b : Nat} {x y z u : Value} (h : Box4 w b 30 x y z u) : (loadVar 30 ⟨b, 0, none⟩).run Try.prog w = .ok (.agg #[x, y, z, u]) w := by
  have h0 := h.c0
  have h1 := h.c1
  have h2 := h.c2
  have h3 := h.c3
  go_simp
set_option maxRecDepth 100000 in
theorem implNs_no (n : Int) (h : ¬ (1 ≤ n ∧ n ≤ 7)) (w : World) : Calls Try.prog 36 #[.int .i64 n] w fun e w' => e = .returned (.tuple #[.agg #[.slice none 0 0, .int .i64 0, .slice none 0 0, .slice none 0 0], .int .i64 4]) ∧ Below w.heap.size w w' := by
  have QN : Hid (∀ w, Calls Try.prog 16 #[.int .i64 n] w fun e w' => e = .returned (.tuple #[.int .i64 0, .int .i64 4]) ∧ w = w') := implQs_no n h
  have X : Hid (Box4 (w.alloc (.cells #[.slice none 0 0, .int .i64 0, .slice none 0 0, .slice none 0 0] 30)) w.heap.size 30 (.slice none 0 0) (.int .i64 0) (.slice none 0 0) (.slice none 0 0)) := Box4.madeAt rfl _ _ _ _ _
  have A1 : Hid (Below w.heap.size w (w.alloc (.cells #[.slice none 0 0, .int .i64 0, .slice none 0 0, .slice none 0 0] 30))) := (Below.refl _ _).alloc (Nat.le_refl _) _
  clear h
  go_enter Try.func36, Try.ntmps36
  go_wp2_with fail
  refine (QN.out _).mono ?_
  rintro e w' ⟨rfl, rfl⟩
  go_wp2
  exact ret_cell2 (b := w.heap.size) Try.results36 rfl rfl (Box4.loadsv X.out) ⟨rfl, A1.out⟩
set_option maxRecDepth 100000 in
theorem implNs_yes (n : Nat) (h : 1 ≤ n ∧ n ≤ 7) (w : World) : Calls Try.prog 36 #[.int .i64 (n : Int)] w fun e w' => RetNs n w.heap.size e w' ∧ Below w.heap.size w w' := by
  have QY : Hid (∀ w, Calls Try.prog 16 #[.int .i64 (n : Int)] w fun e w' => e = .returned (.tuple #[.int .i64 ((n : Int) / 2 + 1), .int .i64 0]) ∧ w = w') := implQs_yes n (by omega)
  have hm := mkRp n (by omega) (w.alloc (.cells #[.slice none 0 0, .int .i64 0, .slice none 0 0, .slice none 0 0] 30))
  have X : Hid (Box4 ((w.alloc (.cells #[.slice (some ⟨w.heap.size + 1, 0, none⟩) n n, .int .i64 0, .slice none 0 0, .slice none 0 0] 30)).alloc (.cells (madeCells #[.bool false, .int .i64 0, .int .i64 0, .int .i64 0, .int .i64 0, .slice none 0 0, .int .i64 0, .int .i64 0] (n * 8)) 50)) w.heap.size 30 (.slice (some ⟨w.heap.size + 1, 0, none⟩) n n) (.int .i64 0) (.slice none 0 0) (.slice none 0 0)) := (Box4.madeAt (w := w) rfl 30 _ _ _ _).alloc _
  have R : Hid (RowE ((w.alloc (.cells #[.slice (some ⟨w.heap.size + 1, 0, none⟩) n n, .int .i64 0, .slice none 0 0, .slice none 0 0] 30)).alloc (.cells (madeCells #[.bool false, .int .i64 0, .int .i64 0, .int .i64 0, .int .i64 0, .slice none 0 0, .int .i64 0, .int .i64 0] (n * 8)) 50)) 8 (some ⟨w.heap.size + 1, 0, none⟩) (w.heap.size + 1) n (rpF (fun _ => rpZ) (fun _ => .slice none 0 0))) := by
    have := RowE.rpMade (w.alloc (.cells #[.slice (some ⟨w.heap.size + 1, 0, none⟩) n n, .int .i64 0, .slice none 0 0, .slice none 0 0] 30)) n
    simp at this
    exact this
  have A1 : Hid (Below w.heap.size w ((w.alloc (.cells #[.slice (some ⟨w.heap.size + 1, 0, none⟩) n n, .int .i64 0, .slice none 0 0, .slice none 0 0] 30)).alloc (.cells (madeCells #[.bool false, .int .i64 0, .int .i64 0, .int .i64 0, .int .i64 0, .slice none 0 0, .int .i64 0, .int .i64 0] (n * 8)) 50))) := ((Below.refl _ _).alloc (Nat.le_refl _) _).alloc (by simp) _
  have LT : Hid (w.heap.size + 1 < ((w.alloc (.cells #[.slice (some ⟨w.heap.size + 1, 0, none⟩) n n, .int .i64 0, .slice none 0 0, .slice none 0 0] 30)).alloc (.cells (madeCells #[.bool false, .int .i64 0, .int .i64 0, .int .i64 0, .int .i64 0, .slice none 0 0, .int .i64 0, .int .i64 0] (n * 8)) 50)).heap.size) := by show w.heap.size + 1 < _; simp
  clear h
  go_enter Try.func36, Try.ntmps36
  go_wp2_with fail
  refine (QY.out _).mono ?_
  rintro e w' ⟨rfl, rfl⟩
  go_wp2
  exact ret_cell2 (b := w.heap.size) Try.results36 rfl rfl (Box4.loadsv X.out) ⟨⟨_, _, _, _, _, rfl, by omega, LT.out, R.out, fun i hi => ⟨_, rfl⟩, ⟨_, rfl⟩, ⟨_, rfl⟩⟩, A1.out⟩
end Go.Proofs.Ytdoacpnjggdojaa
