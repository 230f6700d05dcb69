/-
  Slices of Request: what they hold, and the laws' own helpers on them (written by tools/mkels.py).
-/
import Derived.Test.YtfhjenohgafjlabEls
import Derived.Test.YtfhjenohgafjlabRetCell
import Derived.Deep.RegionWith
namespace Go.Proofs.Ytfhjenohgafjlab
open Go.ChangeShapes Go.WideShapes Go.ChangeAt Go.RowKit
set_option linter.unusedVariables false
structure Rqst where
  s : Int
  q : Int
  v : Int
  c : Int
  r : ByteArray
def rqV (x : Rqst) : Nat → Value
  | 0 => .int .i64 x.s
  | 1 => .int .i64 x.q
  | 2 => .int .i64 x.v
  | 3 => .int .i64 x.c
  | _ => .string x.r
/-- The cells of elements. -/
def rqF (RQ : Nat → Rqst) (i j : Nat) : Value := rqV (RQ i) j
def rqZ : Rqst := ⟨0, 0, 0, 0, ⟨#[]⟩⟩
theorem Els.rqC {w : World} {b off n : Nat} {RQ : Nat → Rqst} (h : ∀ i, i < n → ∀ j, j < 5 → w.cell? ⟨b, off + i * 5 + j, none⟩ = some (rqF RQ i j)) (k : Nat) (hk : k < n) : w.cell? ⟨b, off + k * 5, none⟩ = some (.int .i64 (RQ k).s) ∧ w.cell? ⟨b, off + k * 5 + 1, none⟩ = some (.int .i64 (RQ k).q) ∧ w.cell? ⟨b, off + k * 5 + 2, none⟩ = some (.int .i64 (RQ k).v) ∧ w.cell? ⟨b, off + k * 5 + 3, none⟩ = some (.int .i64 (RQ k).c) ∧ w.cell? ⟨b, off + k * 5 + 4, none⟩ = some (.string (RQ k).r) := ⟨h k hk 0 (by omega), h k hk 1 (by omega), h k hk 2 (by omega), h k hk 3 (by omega), h k hk 4 (by omega)⟩
theorem RowE.rqC {w : World} {a : Option Addr} {g n : Nat} {RQ : Nat → Rqst} (h : RowE w 5 a g n (rqF RQ)) (k : Nat) (hk : k < n) : w.cell? ⟨g, k * 5, none⟩ = some (.int .i64 (RQ k).s) ∧ w.cell? ⟨g, k * 5 + 1, none⟩ = some (.int .i64 (RQ k).q) ∧ w.cell? ⟨g, k * 5 + 2, none⟩ = some (.int .i64 (RQ k).v) ∧ w.cell? ⟨g, k * 5 + 3, none⟩ = some (.int .i64 (RQ k).c) ∧ w.cell? ⟨g, k * 5 + 4, none⟩ = some (.string (RQ k).r) := ⟨h.c k hk 0 (by omega), h.c k hk 1 (by omega), h.c k hk 2 (by omega), h.c k hk 3 (by omega), h.c k hk 4 (by omega)⟩
theorem RowE.rqFr {w : World} {a : Option Addr} {g n : Nat} {F : Nat → Nat → Value} (h : RowE w 5 a g n F) (k : Nat) (hk : k < n) : w.frozen? ⟨g, k * 5, none⟩ = false ∧ w.frozen? ⟨g, k * 5 + 1, none⟩ = false ∧ w.frozen? ⟨g, k * 5 + 2, none⟩ = false ∧ w.frozen? ⟨g, k * 5 + 3, none⟩ = false ∧ w.frozen? ⟨g, k * 5 + 4, none⟩ = false := ⟨h.z _ (by omega), h.z _ (by omega), h.z _ (by omega), h.z _ (by omega), h.z _ (by omega)⟩
theorem RowE.rqPut {w : World} {a : Option Addr} {g n : Nat} {RQ : Nat → Rqst} (h : RowE w 5 a g n (rqF RQ)) (k : Nat) (x : Rqst) : RowE (((((w.setCell ⟨g, k * 5, none⟩ (.int .i64 x.s)).setCell ⟨g, k * 5 + 1, none⟩ (.int .i64 x.q)).setCell ⟨g, k * 5 + 2, none⟩ (.int .i64 x.v)).setCell ⟨g, k * 5 + 3, none⟩ (.int .i64 x.c)).setCell ⟨g, k * 5 + 4, none⟩ (.string x.r)) 5 a g n (rqF (fun i => if i = k then x else RQ i)) := by
  refine ((((((h.set k 0 (by omega) (.int .i64 x.s)).set k 1 (by omega) (.int .i64 x.q)).set k 2 (by omega) (.int .i64 x.v)).set k 3 (by omega) (.int .i64 x.c)).set k 4 (by omega) (.string x.r)) : RowE _ _ _ _ _ _).congr (fun i hi j hj => ?_)
  unfold setF rqF
  by_cases e : i = k
  · subst e
    rcases (show j = 0 ∨ j = 1 ∨ j = 2 ∨ j = 3 ∨ j = 4 by omega) with rfl | rfl | rfl | rfl | rfl <;> simp [rqV]
  · simp [e]
theorem Try.infoRq : (Try.prog.info? 74).map (fun i => (i.zero, i.size, i.bytes)) = some (some (.agg #[.int .i64 0, .int .i64 0, .int .i64 0, .int .i64 0, .string ⟨#[]⟩]), 5, 48) := by kernel_rfl
theorem mkRq (n : Nat) (hn : n ≤ 1048576) (w : World) : (Instr.makeSlice 31 (.int .i64 n) (.int .i64 n)).run Try.prog w = .ok (.slice (some ⟨w.heap.size, 0, none⟩) n n) (w.alloc (.cells (madeCells #[.int .i64 0, .int .i64 0, .int .i64 0, .int .i64 0, .string ⟨#[]⟩] (n * 5)) 74)) := by
  obtain ⟨i, hi, hzz⟩ := Option.map_eq_some_iff.1 Try.infoRq
  simp only [Prod.mk.injEq] at hzz
  obtain ⟨hz, hs, hb⟩ := hzz
  have hr := run_make (P := Try.prog) w 31 74 i _ Try.underlying31 hi hz .i64 .i64 n n (by omega) (Int.le_refl _) (by rw [hb]; omega) (by omega)
  simp only [Int.toNat_natCast, hs] at hr
  exact hr
theorem RowE.rqMade (w : World) (n : Nat) : RowE (w.alloc (.cells (madeCells #[.int .i64 0, .int .i64 0, .int .i64 0, .int .i64 0, .string ⟨#[]⟩] (n * 5)) 74)) 5 (some ⟨w.heap.size, 0, none⟩) w.heap.size n (rqF (fun _ => rqZ)) := RowE.made w 5 n _ _ rfl _ (fun i j hj => by
  rcases (show j = 0 ∨ j = 1 ∨ j = 2 ∨ j = 3 ∨ j = 4 by omega) with rfl | rfl | rfl | rfl | rfl <;> rfl)
set_option maxRecDepth 100000 in
theorem toRequest_any (s : Int) (q : Int) (v : Int) (c : Int) (r : ByteArray) (w : World) :
    Calls Try.prog 36 #[.agg #[.int .i64 s, .int .i64 q, .int .i64 v, .int .i64 c, .string r]] w fun e w' => e = .returned (.agg #[.int .i64 s, .int .i64 q, .int .i64 v, .int .i64 c, .string r]) ∧ Below w.heap.size w w' := by
  go_enter Try.func36, Try.ntmps36
  go_wp2
  refine ret_cell (b := w.heap.size + 1) (v := .agg #[.int .i64 s, .int .i64 q, .int .i64 v, .int .i64 c, .string r]) Try.results36 rfl (by go_simp) ⟨rfl, (((Below.refl w.heap.size w).alloc (Nat.le_refl _) _).alloc (by simp) _).alloc (by simp; omega) _⟩
set_option maxRecDepth 100000 in
set_option maxHeartbeats 1000000 in
theorem toRequestS_any (a : Option Addr) (n c : Nat) (RQ : Nat → Rqst) (w : World) (h : Els w 5 a n (rqF RQ)) (hn : n ≤ 1048576) :
    Calls Try.prog 8 #[.slice a n c] w fun e w' => e = .returned (.slice (some ⟨w.heap.size, 0, none⟩) n n) ∧ RowE w' 5 (some ⟨w.heap.size, 0, none⟩) w.heap.size n (rqF RQ) ∧ w.heap.size < w'.heap.size ∧ Below w.heap.size w w' := by
  have m1 := mkRq n hn
  have S0 : Hid (w.heap.size < (w.alloc (.cells (madeCells #[.int .i64 0, .int .i64 0, .int .i64 0, .int .i64 0, .string ⟨#[]⟩] (n * 5)) 74)).heap.size) := by show _ < _; simp
  rcases Nat.eq_zero_or_pos n with rfl | hpos
  · have m0 : ∀ w : World, (Instr.makeSlice 31 (.int .i64 0) (.int .i64 0)).run Try.prog w = .ok (.slice (some ⟨w.heap.size, 0, none⟩) 0 0) (w.alloc (.cells (madeCells #[.int .i64 0, .int .i64 0, .int .i64 0, .int .i64 0, .string ⟨#[]⟩] (0 * 5)) 74)) := mkRq 0 (by omega)
    have B0 : Hid (Below w.heap.size w (w.alloc (.cells (madeCells #[.int .i64 0, .int .i64 0, .int .i64 0, .int .i64 0, .string ⟨#[]⟩] (0 * 5)) 74))) := (Below.refl _ _).alloc (Nat.le_refl _) _
    clear m1
    go_enter Try.func8, Try.ntmps8
    go_wp2
    go_loopw [4] (fun i wr => i = .int .i64 0 ∧ wr = (w.alloc (.cells (madeCells #[.int .i64 0, .int .i64 0, .int .i64 0, .int .i64 0, .string ⟨#[]⟩] (0 * 5)) 74))) (fun _ _ => 0)
    case atStart => exact ⟨rfl, rfl⟩
    case round =>
      obtain ⟨rfl, rfl⟩ := hrel
      go_wp2
      go_ret
      exact ⟨rfl, RowE.nil _ _ _ _ _, S0.out, B0.out⟩
  · obtain ⟨b, off, rfl, hc⟩ := h.opened hpos
    have HC : Hid (∀ i, i < n → ∀ j, j < 5 → w.cell? ⟨b, off + i * 5 + j, none⟩ = some (rqF RQ i j)) := hc
    clear h hc
    go_enter Try.func8, Try.ntmps8
    go_wp2
    go_loopw [4] (fun i wr => ∃ k : Nat, k ≤ n ∧ i = .int .i64 k ∧ RowE wr 5 (some ⟨w.heap.size, 0, none⟩) w.heap.size n (rqF (fun j => if j < k then RQ j else rqZ)) ∧ w.heap.size < wr.heap.size ∧ Below w.heap.size w wr) (fun i _ => n - (intOf i).toNat)
    case atStart => exact ⟨0, by omega, rfl, (RowE.rqMade w n).congr (fun i hi j hj => by simp [rqF]), S0.out, (Below.refl _ _).alloc (Nat.le_refl _) _⟩
    case round =>
      obtain ⟨k, hk, rfl, hrow, hsz, hb⟩ := hrel
      have HS : Hid (w.heap.size < wr.heap.size) := hsz
      clear hsz
      by_cases hlt : k < n
      · obtain ⟨c0, c1, c2, c3, c4⟩ := Els.rqC HC.out k hlt
        have d0 : wr.cell? ⟨b, off + k * 5, none⟩ = some (.int .i64 (RQ k).s) := by rw [hb.cell (strBlock c0)]; exact c0
        have d1 : wr.cell? ⟨b, off + k * 5 + 1, none⟩ = some (.int .i64 (RQ k).q) := by rw [hb.cell (strBlock c1)]; exact c1
        have d2 : wr.cell? ⟨b, off + k * 5 + 2, none⟩ = some (.int .i64 (RQ k).v) := by rw [hb.cell (strBlock c2)]; exact c2
        have d3 : wr.cell? ⟨b, off + k * 5 + 3, none⟩ = some (.int .i64 (RQ k).c) := by rw [hb.cell (strBlock c3)]; exact c3
        have d4 : wr.cell? ⟨b, off + k * 5 + 4, none⟩ = some (.string (RQ k).r) := by rw [hb.cell (strBlock c4)]; exact c4
        have TP : Hid (∀ w : World, Calls Try.prog 36 #[.agg #[.int .i64 (RQ k).s, .int .i64 (RQ k).q, .int .i64 (RQ k).v, .int .i64 (RQ k).c, .string (RQ k).r]] w fun e w' => e = .returned (.agg #[.int .i64 (RQ k).s, .int .i64 (RQ k).q, .int .i64 (RQ k).v, .int .i64 (RQ k).c, .string (RQ k).r]) ∧ Below w.heap.size w w') := toRequest_any _ _ _ _ _
        have HR : Hid (RowE wr 5 (some ⟨w.heap.size, 0, none⟩) w.heap.size n (rqF (fun j => if j < k then RQ j else rqZ))) := hrow
        have HB : Hid (Below w.heap.size w wr) := hb
        clear hrow hb c0 c1 c2 c3 c4 m1
        go_wp2_with fail
        refine (TP.out _).mono ?_
        rintro e w1 ⟨rfl, hb⟩
        have R1 := HR.out.below (by omega) hb
        obtain ⟨g0, g1, g2, g3, g4⟩ := R1.rqC k hlt
        obtain ⟨f0, f1, f2, f3, f4⟩ := R1.rqFr k hlt
        have H1 : Hid (RowE w1 5 (some ⟨w.heap.size, 0, none⟩) w.heap.size n (rqF (fun j => if j < k then RQ j else rqZ))) := R1
        have B1 : Hid (Below w.heap.size w w1) := HB.out.trans (hb.mono HB.out.size)
        replace HS : Hid (w.heap.size < w1.heap.size) := Nat.lt_of_lt_of_le HS.out hb.size
        generalize (if k < k then RQ k else rqZ) = u at *
        clear R1 hb HR HB TP d0 d1 d2 d3 d4
        go_wp2
        go_roundw
        case rel =>
          refine ⟨k + 1, by omega, by go_num, (H1.out.rqPut k (RQ k)).congr (fun i hi j hj => ?_), by have := HS.out; simpa using this, (((((B1.out.setCell (by simp) _).setCell (by simp) _).setCell (by simp) _).setCell (by simp) _).setCell (by simp) _)⟩
          unfold rqF
          congr 1
          by_cases e : i = k
          · subst e; simp
          · simp only [if_neg e]
            by_cases g : i < k
            · rw [if_pos g, if_pos (by omega)]
            · rw [if_neg g, if_neg (by omega)]
        case measure => simp [intOf]; omega
      · have HR : Hid (RowE wr 5 (some ⟨w.heap.size, 0, none⟩) w.heap.size n (rqF RQ)) := hrow.congr (fun i hi j hj => by unfold rqF; dsimp only; rw [if_pos (by omega)])
        have HB : Hid (Below w.heap.size w wr) := hb
        clear hrow hb m1
        go_wp2
        go_ret
        exact ⟨rfl, HR.out, HS.out, HB.out⟩
set_option maxRecDepth 100000 in
theorem szRequest_any (s : Int) (q : Int) (v : Int) (c : Int) (r : ByteArray) (x : Int) (w : World) (hx0 : 0 ≤ x) (hx : x ≤ 1048576) (hs : r.size ≤ maxLen) :
    Calls Try.prog 32 #[.agg #[.int .i64 s, .int .i64 q, .int .i64 v, .int .i64 c, .string r], .int .i64 x] w fun e w' => (∃ y : Int, e = .returned (.int .i64 y) ∧ -1 ≤ y ∧ y ≤ 1048576) ∧ Below w.heap.size w w' := by
  unfold maxLen at hs
  have x2 : IntKind.i64.wrap (x - (r.size : Int)) = x - (r.size : Int) := IntWalk.i64_in _ (by omega)
  by_cases h0 : x - (r.size : Int) < 0
  · go_enter Try.func32, Try.ntmps32
    go_wp2
    go_ret
    exact ⟨⟨-1, rfl, by omega, by omega⟩, (Below.refl w.heap.size w).alloc (Nat.le_refl _) _⟩
  · go_enter Try.func32, Try.ntmps32
    go_wp2
    go_ret
    exact ⟨⟨_, rfl, by omega, by omega⟩, (Below.refl w.heap.size w).alloc (Nat.le_refl _) _⟩
set_option maxRecDepth 100000 in
set_option maxHeartbeats 1000000 in
theorem szRequestS_any (a : Option Addr) (n c : Nat) (RQ : Nat → Rqst) (x : Int) (w : World) (h : Els w 5 a n (rqF RQ)) (hx0 : 0 ≤ x) (hx : x ≤ 1048576) (hn : n ≤ maxLen) (hf : ∀ i, i < n → (RQ i).r.size ≤ maxLen) :
    Calls Try.prog 6 #[.slice a n c, .int .i64 x] w fun e w' => (∃ y : Int, e = .returned (.int .i64 y) ∧ y ≤ 1048576 ∧ (0 ≤ y → n ≤ 1048576)) ∧ Below w.heap.size w w' := by
  unfold maxLen at hn
  by_cases h0 : (n : Int) ≤ x
  · obtain ⟨y, hy⟩ : ∃ y, y = x - (n : Int) := ⟨_, rfl⟩
    have ey : x - (n : Int) = y := hy.symm
    have e0 : ¬ y < 0 := by omega
    have e1 : n ≤ 1048576 := by omega
    have HA : Hid (Els w 5 a n (rqF RQ)) := h
    have HF : Hid (∀ i, i < n → (RQ i).r.size ≤ maxLen) := hf
    have y0 : y ≤ 1048576 := by omega
    clear h hf hy
    go_enter Try.func6, Try.ntmps6
    go_wp2
    go_loopw [1, 5] (fun l i wr => ∃ (k : Nat) (z : Int), k ≤ n ∧ i = .int .i64 k ∧ l = .int .i64 z ∧ 0 ≤ z ∧ z ≤ 1048576 ∧ Below w.heap.size w wr) (fun _ i _ => n - (intOf i).toNat)
    case atStart => exact ⟨0, y, by omega, rfl, rfl, by omega, by omega, Below.refl _ _⟩
    case round =>
      obtain ⟨k, z, hk, rfl, rfl, hz, hz2, hb⟩ := hrel
      have HB : Hid (Below w.heap.size w wr) := hb
      by_cases hlt : k < n
      · obtain ⟨b, off, rfl, hc⟩ := (HA.out.below hb).opened (by omega)
        obtain ⟨c0, c1, c2, c3, c4⟩ := Els.rqC hc k hlt
        have hlt' : (k : Int) < (n : Int) := by omega
        have SP : Hid (∀ w : World, Calls Try.prog 32 #[.agg #[.int .i64 (RQ k).s, .int .i64 (RQ k).q, .int .i64 (RQ k).v, .int .i64 (RQ k).c, .string (RQ k).r], .int .i64 z] w fun e w' => (∃ y : Int, e = .returned (.int .i64 y) ∧ -1 ≤ y ∧ y ≤ 1048576) ∧ Below w.heap.size w w') := fun w => szRequest_any _ _ _ _ _ z w hz hz2 (HF.out k hlt)
        clear hc hb
        go_wp2_with fail
        refine (SP.out _).mono ?_
        rintro e w1 ⟨⟨y1, rfl, hy1, hy2⟩, hb⟩
        have B1 : Hid (Below w.heap.size w w1) := HB.out.trans (hb.mono HB.out.size)
        clear hb HB SP c0 c1 c2 c3 c4
        by_cases hz3 : y1 < 0
        · go_wp2
          go_ret
          exact ⟨⟨-1, rfl, by omega, by omega⟩, B1.out⟩
        · go_wp2
          go_roundw
          case rel => exact ⟨k + 1, y1, by omega, by go_num, rfl, by omega, by omega, B1.out⟩
          case measure => simp [intOf]; omega
      · have hlt' : ¬ (k : Int) < (n : Int) := by omega
        clear hb
        go_wp2
        go_ret
        exact ⟨⟨z, rfl, hz2⟩, HB.out⟩
  · have e0 : x - (n : Int) < 0 := by omega
    go_enter Try.func6, Try.ntmps6
    go_wp2
    go_ret
    exact ⟨⟨-1, rfl, by omega, by omega⟩, Below.refl _ _⟩
set_option maxRecDepth 100000 in
theorem eqRequest_yes (s : Int) (q : Int) (v : Int) (c : Int) (r : ByteArray) (w : World) :
    Calls Try.prog 41 #[.agg #[.int .i64 s, .int .i64 q, .int .i64 v, .int .i64 c, .string r], .agg #[.int .i64 s, .int .i64 q, .int .i64 v, .int .i64 c, .string r]] w fun e w' => e = .returned (.bool true) ∧ Below w.heap.size w w' := by
  have e0 : (s != s) = false := by simp
  have e1 : (q != q) = false := by simp
  have e2 : (v != v) = false := by simp
  have e3 : (c != c) = false := by simp
  go_enter Try.func41, Try.ntmps41
  go_wp2
  go_ret
  exact ⟨rfl, ((Below.refl w.heap.size w).alloc (Nat.le_refl _) _).alloc (by simp) _⟩
set_option maxRecDepth 100000 in
set_option maxHeartbeats 1000000 in
theorem eqRequestS_yes (a b : Option Addr) (n c d : Nat) (RQ : Nat → Rqst) (w : World) (h : Els w 5 a n (rqF RQ)) (h' : Els w 5 b n (rqF RQ)) (hn : n ≤ 1048576) :
    Calls Try.prog 12 #[.slice a n c, .slice b n d] w fun e w' => e = .returned (.bool true) ∧ Below w.heap.size w w' := by
  have HA : Hid (Els w 5 a n (rqF RQ)) := h
  have HA' : Hid (Els w 5 b n (rqF RQ)) := h'
  have hne : ((n : Int) != (n : Int)) = false := by simp
  clear h h'
  go_enter Try.func12, Try.ntmps12
  go_wp2
  go_loopw [5] (fun i wr => ∃ k : Nat, k ≤ n ∧ i = .int .i64 k ∧ Below w.heap.size w wr) (fun i _ => n - (intOf i).toNat)
  case atStart => exact ⟨0, by omega, rfl, Below.refl _ _⟩
  case round =>
    obtain ⟨k, hk, rfl, hb⟩ := hrel
    have HB : Hid (Below w.heap.size w wr) := hb
    by_cases hlt : k < n
    · obtain ⟨b1, o1, rfl, hc⟩ := (HA.out.below hb).opened (by omega)
      obtain ⟨b2, o2, rfl, hc'⟩ := (HA'.out.below hb).opened (by omega)
      obtain ⟨c0, c1, c2, c3, c4⟩ := Els.rqC hc k hlt
      obtain ⟨d0, d1, d2, d3, d4⟩ := Els.rqC hc' k hlt
      have hlt' : (k : Int) < (n : Int) := by omega
      have EP : Hid (∀ w : World, Calls Try.prog 41 #[.agg #[.int .i64 (RQ k).s, .int .i64 (RQ k).q, .int .i64 (RQ k).v, .int .i64 (RQ k).c, .string (RQ k).r], .agg #[.int .i64 (RQ k).s, .int .i64 (RQ k).q, .int .i64 (RQ k).v, .int .i64 (RQ k).c, .string (RQ k).r]] w fun e w' => e = .returned (.bool true) ∧ Below w.heap.size w w') := eqRequest_yes _ _ _ _ _
      generalize RQ k = y at *
      clear hc hc' hb
      go_wp2_with fail
      go_region_with (go_at_call 41; refine (EP.out _).mono ?_; rintro e w' ⟨rfl, hb⟩)
      all_goals
        have B1 : Hid (Below w.heap.size w w') := HB.out.drew.trans (hb.mono HB.out.size)
        clear hb HB EP c0 d0 c1 d1 c2 d2 c3 d3 c4 d4
        dsimp only [Act.put]
        go_wp2
        go_roundw
        case rel => exact ⟨k + 1, by omega, by go_num, B1.out⟩
        case measure => simp [intOf]; omega
    · go_wp2
      go_ret
      exact ⟨rfl, HB.out⟩
/-- What is marked from k on. -/
def rqM (k : Nat) (i : Nat) : Rqst := ⟨((k + 5 * i : Nat) : Int), ((k + 5 * i + 1 : Nat) : Int), ((k + 5 * i + 2 : Nat) : Int), ((k + 5 * i + 3 : Nat) : Int), mt (k + 5 * i + 4)⟩
set_option maxRecDepth 100000 in
set_option maxHeartbeats 2000000 in
theorem markRequestK (a : Option Addr) (g n c k : Nat) (RQ : Nat → Rqst) (hk : 1 ≤ k) (hn : k + 5 * n ≤ 10000000) (w : World) (h : RowE w 5 a g n (rqF RQ)) :
    Calls Try.prog 13 #[.slice a n c, .int .i64 (k : Int)] w fun e w' => e = .returned (.int .i64 ((k + 5 * n : Nat) : Int)) ∧ RowE w' 5 a g n (rqF (rqM k)) ∧ TurnedE g n w w' := by
  have H : Hid (RowE w 5 a g n (rqF RQ)) := h
  clear h
  go_enter Try.func13, Try.ntmps13
  go_wp2
  go_loopw [1, 5] (fun kv i wr => ∃ q : Nat, q ≤ n ∧ i = .int .i64 q ∧ kv = .int .i64 ((k + 5 * q : Nat) : Int) ∧ RowE wr 5 a g n (rqF (fun i => if i < q then rqM k i else RQ i)) ∧ TurnedE g n w wr) (fun _ i _ => n - (intOf i).toNat)
  case atStart => exact ⟨0, by omega, rfl, rfl, H.out.congr (fun i hi j hj => by unfold rqF; dsimp only; rw [if_neg (by omega)]), TurnedE.refl _ _ _⟩
  case round =>
    obtain ⟨q, hq, rfl, rfl, hrow, ho⟩ := hrel
    by_cases hlt : q < n
    · obtain ⟨m, hm⟩ : ∃ m, m = k + 5 * q := ⟨_, rfl⟩
      have MT4 : Hid (∀ w : World, Calls Try.prog 42 #[.int .i64 ((m : Int) + 4)] w fun e w' => e = .returned (.string (mt (m + 4))) ∧ Below w.heap.size w w') := fun w => by
        have := markText_any (m + 4) (by omega) (by omega) w
        rwa [show ((m + 4 : Nat) : Int) = (m : Int) + 4 from by omega] at this
      rw [← hm]
      have hlt' : (q : Int) < (n : Int) := by omega
      obtain rfl := hrow.a (by omega)
      obtain ⟨c0, c1, c2, c3, c4⟩ := hrow.rqC q hlt
      obtain ⟨f0, f1, f2, f3, f4⟩ := hrow.rqFr q hlt
      rw [if_neg (show ¬ q < q by omega)] at c0 c1 c2 c3 c4
      have HRW : Hid (RowE wr 5 (some ⟨g, 0, none⟩) g n (rqF (fun i => if i < q then rqM k i else RQ i))) := hrow
      have HO : Hid (OnlyB g w wr) := ho.1
      have HM : Hid (m = k + 5 * q) := hm
      have m1 : (m : Int) ≤ 10000000 := by omega
      have m0 : (0 : Int) ≤ (m : Int) := by omega
      clear hrow ho hm
      go_wp2_with fail
      have R4 := (((((HRW.out.set q 0 (by omega) (.int .i64 ((m : Int)))).set q 1 (by omega) (.int .i64 ((m : Int) + 1))).set q 2 (by omega) (.int .i64 ((m : Int) + 2))).set q 3 (by omega) (.int .i64 ((m : Int) + 3))) : RowE ((((wr.setCell ⟨g, q * 5, none⟩ (.int .i64 ((m : Int)))).setCell ⟨g, q * 5 + 1, none⟩ (.int .i64 ((m : Int) + 1))).setCell ⟨g, q * 5 + 2, none⟩ (.int .i64 ((m : Int) + 2))).setCell ⟨g, q * 5 + 3, none⟩ (.int .i64 ((m : Int) + 3))) _ _ _ _ _)
      have O4 : OnlyB g w ((((wr.setCell ⟨g, q * 5, none⟩ (.int .i64 ((m : Int)))).setCell ⟨g, q * 5 + 1, none⟩ (.int .i64 ((m : Int) + 1))).setCell ⟨g, q * 5 + 2, none⟩ (.int .i64 ((m : Int) + 2))).setCell ⟨g, q * 5 + 3, none⟩ (.int .i64 ((m : Int) + 3))) := ((((HO.out.setCell (q * 5) (.int .i64 ((m : Int)))).setCell (q * 5 + 1) (.int .i64 ((m : Int) + 1))).setCell (q * 5 + 2) (.int .i64 ((m : Int) + 2))).setCell (q * 5 + 3) (.int .i64 ((m : Int) + 3)))
      refine (MT4.out _).mono ?_
      rintro e w5 ⟨rfl, hb⟩
      have RH : Hid (RowE w5 5 (some ⟨g, 0, none⟩) g n _) := R4.below (by omega) hb
      have OH : Hid (OnlyB g w w5) := O4.below hb
      have x4 : w5.cell? ⟨g, q * 5 + 4, none⟩ = some (.string (RQ q).r) := by
        have := RH.out.c q hlt 4 (by omega)
        simpa [setF, rqF, rqV] using this
      have y4 : w5.frozen? ⟨g, q * 5 + 4, none⟩ = false := RH.out.z _ (by omega)
      generalize hV4 : mt (m + 4) = V4 at *
      have HV4 : Hid (mt (m + 4) = V4) := hV4
      clear hb R4 O4 MT4 hV4
      clear HRW HO c0 f0 c1 f1 c2 f2 c3 f3 c4 f4
      go_wp2
      go_roundw
      case rel =>
        have := HM.out
        refine ⟨q + 1, by omega, by go_num, numEqS (by omega), (RH.out.set q 4 (by omega) _).congr (fun i hi j hj => ?_), (OH.out.setCell (q * 5 + 4) _), fun z => absurd z (by omega)⟩
        have e4 := HV4.out
        unfold setF rqF
        by_cases e : i = q
        · subst e
          dsimp only
          rw [if_pos (show i < i + 1 by omega)]
          rcases (show j = 0 ∨ j = 1 ∨ j = 2 ∨ j = 3 ∨ j = 4 by omega) with rfl | rfl | rfl | rfl | rfl <;> simp [rqV, rqM] <;> first | omega | (rw [← this]; assumption) | (rw [← this]; exact (by assumption : _ = _).symm) | (subst this; simp_all)
        · simp only [e, false_and, if_false]
          congr 1
          by_cases g : i < q
          · rw [if_pos g, if_pos (by omega)]
          · rw [if_neg g, if_neg (by omega)]
      case measure => simp [intOf]; omega
    · obtain rfl : q = n := by omega
      have HF : Hid (RowE wr 5 a g q (rqF (rqM k))) := hrow.congr (fun i hi j hj => by unfold rqF; dsimp only; rw [if_pos hi])
      have HO : Hid (TurnedE g q w wr) := ho
      clear hrow ho
      go_wp2
      go_ret
      exact ⟨rfl, HF.out, HO.out⟩
end Go.Proofs.Ytfhjenohgafjlab
