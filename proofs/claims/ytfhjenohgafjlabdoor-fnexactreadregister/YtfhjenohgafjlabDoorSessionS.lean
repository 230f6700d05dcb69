/-
  Slices of Session: what they hold, and the laws' own helpers on them (written by tools/mkels.py).
-/
import Derived.Test.YtfhjenohgafjlabDoorEls
import Derived.Test.YtfhjenohgafjlabDoorRetCell
import Derived.Deep.RegionWith
namespace Go.Proofs.YtfhjenohgafjlabDoor
open Go.ChangeShapes Go.WideShapes Go.ChangeAt Go.RowKit
set_option linter.unusedVariables false
structure Se where
  id : Int
  sq : Int
  cd : Int
  ma : Int
def seV (x : Se) : Nat → Value
  | 0 => .int .i64 x.id
  | 1 => .int .i64 x.sq
  | 2 => .int .i64 x.cd
  | _ => .int .i64 x.ma
/-- The cells of elements. -/
def seF (SE : Nat → Se) (i j : Nat) : Value := seV (SE i) j
def seZ : Se := ⟨0, 0, 0, 0⟩
theorem Els.seC {w : World} {b off n : Nat} {SE : Nat → Se} (h : ∀ i, i < n → ∀ j, j < 4 → w.cell? ⟨b, off + i * 4 + j, none⟩ = some (seF SE i j)) (k : Nat) (hk : k < n) : w.cell? ⟨b, off + k * 4, none⟩ = some (.int .i64 (SE k).id) ∧ w.cell? ⟨b, off + k * 4 + 1, none⟩ = some (.int .i64 (SE k).sq) ∧ w.cell? ⟨b, off + k * 4 + 2, none⟩ = some (.int .i64 (SE k).cd) ∧ w.cell? ⟨b, off + k * 4 + 3, none⟩ = some (.int .i64 (SE k).ma) := ⟨h k hk 0 (by omega), h k hk 1 (by omega), h k hk 2 (by omega), h k hk 3 (by omega)⟩
theorem RowE.seC {w : World} {a : Option Addr} {g n : Nat} {SE : Nat → Se} (h : RowE w 4 a g n (seF SE)) (k : Nat) (hk : k < n) : w.cell? ⟨g, k * 4, none⟩ = some (.int .i64 (SE k).id) ∧ w.cell? ⟨g, k * 4 + 1, none⟩ = some (.int .i64 (SE k).sq) ∧ w.cell? ⟨g, k * 4 + 2, none⟩ = some (.int .i64 (SE k).cd) ∧ w.cell? ⟨g, k * 4 + 3, none⟩ = some (.int .i64 (SE k).ma) := ⟨h.c k hk 0 (by omega), h.c k hk 1 (by omega), h.c k hk 2 (by omega), h.c k hk 3 (by omega)⟩
theorem RowE.seFr {w : World} {a : Option Addr} {g n : Nat} {F : Nat → Nat → Value} (h : RowE w 4 a g n F) (k : Nat) (hk : k < n) : w.frozen? ⟨g, k * 4, none⟩ = false ∧ w.frozen? ⟨g, k * 4 + 1, none⟩ = false ∧ w.frozen? ⟨g, k * 4 + 2, none⟩ = false ∧ w.frozen? ⟨g, k * 4 + 3, none⟩ = false := ⟨h.z _ (by omega), h.z _ (by omega), h.z _ (by omega), h.z _ (by omega)⟩
theorem RowE.sePut {w : World} {a : Option Addr} {g n : Nat} {SE : Nat → Se} (h : RowE w 4 a g n (seF SE)) (k : Nat) (x : Se) : RowE ((((w.setCell ⟨g, k * 4, none⟩ (.int .i64 x.id)).setCell ⟨g, k * 4 + 1, none⟩ (.int .i64 x.sq)).setCell ⟨g, k * 4 + 2, none⟩ (.int .i64 x.cd)).setCell ⟨g, k * 4 + 3, none⟩ (.int .i64 x.ma)) 4 a g n (seF (fun i => if i = k then x else SE i)) := by
  refine (((((h.set k 0 (by omega) (.int .i64 x.id)).set k 1 (by omega) (.int .i64 x.sq)).set k 2 (by omega) (.int .i64 x.cd)).set k 3 (by omega) (.int .i64 x.ma)) : RowE _ _ _ _ _ _).congr (fun i hi j hj => ?_)
  unfold setF seF
  by_cases e : i = k
  · subst e
    rcases (show j = 0 ∨ j = 1 ∨ j = 2 ∨ j = 3 by omega) with rfl | rfl | rfl | rfl <;> simp [seV]
  · simp [e]
theorem Tryd.infoSe : (Tryd.prog.info? 64).map (fun i => (i.zero, i.size, i.bytes)) = some (some (.agg #[.int .i64 0, .int .i64 0, .int .i64 0, .int .i64 0]), 4, 32) := by kernel_rfl
theorem mkSe (n : Nat) (hn : n ≤ 1048576) (w : World) : (Instr.makeSlice 32 (.int .i64 n) (.int .i64 n)).run Tryd.prog w = .ok (.slice (some ⟨w.heap.size, 0, none⟩) n n) (w.alloc (.cells (madeCells #[.int .i64 0, .int .i64 0, .int .i64 0, .int .i64 0] (n * 4)) 64)) := by
  obtain ⟨i, hi, hzz⟩ := Option.map_eq_some_iff.1 Tryd.infoSe
  simp only [Prod.mk.injEq] at hzz
  obtain ⟨hz, hs, hb⟩ := hzz
  have hr := run_make (P := Tryd.prog) w 32 64 i _ Tryd.underlying32 hi hz .i64 .i64 n n (by omega) (Int.le_refl _) (by rw [hb]; omega) (by omega)
  simp only [Int.toNat_natCast, hs] at hr
  exact hr
theorem RowE.seMade (w : World) (n : Nat) : RowE (w.alloc (.cells (madeCells #[.int .i64 0, .int .i64 0, .int .i64 0, .int .i64 0] (n * 4)) 64)) 4 (some ⟨w.heap.size, 0, none⟩) w.heap.size n (seF (fun _ => seZ)) := RowE.made w 4 n _ _ rfl _ (fun i j hj => by
  rcases (show j = 0 ∨ j = 1 ∨ j = 2 ∨ j = 3 by omega) with rfl | rfl | rfl | rfl <;> rfl)
set_option maxRecDepth 100000 in
theorem toSession_any (id : Int) (sq : Int) (cd : Int) (ma : Int) (w : World) :
    Calls Tryd.prog 43 #[.agg #[.int .i64 id, .int .i64 sq, .int .i64 cd, .int .i64 ma]] w fun e w' => e = .returned (.agg #[.int .i64 id, .int .i64 sq, .int .i64 cd, .int .i64 ma]) ∧ Below w.heap.size w w' := by
  go_enter Tryd.func43, Tryd.ntmps43
  go_wp2
  refine ret_cell (b := w.heap.size + 1) (v := .agg #[.int .i64 id, .int .i64 sq, .int .i64 cd, .int .i64 ma]) Tryd.results43 rfl (by go_simp) ⟨rfl, (((Below.refl w.heap.size w).alloc (Nat.le_refl _) _).alloc (by simp) _).alloc (by simp; omega) _⟩
set_option maxRecDepth 100000 in
set_option maxHeartbeats 1000000 in
theorem toSessionS_any (a : Option Addr) (n c : Nat) (SE : Nat → Se) (w : World) (h : Els w 4 a n (seF SE)) (hn : n ≤ 1048576) :
    Calls Tryd.prog 22 #[.slice a n c] w fun e w' => e = .returned (.slice (some ⟨w.heap.size, 0, none⟩) n n) ∧ RowE w' 4 (some ⟨w.heap.size, 0, none⟩) w.heap.size n (seF SE) ∧ w.heap.size < w'.heap.size ∧ Below w.heap.size w w' := by
  have m1 := mkSe n hn
  have S0 : Hid (w.heap.size < (w.alloc (.cells (madeCells #[.int .i64 0, .int .i64 0, .int .i64 0, .int .i64 0] (n * 4)) 64)).heap.size) := by show _ < _; simp
  rcases Nat.eq_zero_or_pos n with rfl | hpos
  · have m0 : ∀ w : World, (Instr.makeSlice 32 (.int .i64 0) (.int .i64 0)).run Tryd.prog w = .ok (.slice (some ⟨w.heap.size, 0, none⟩) 0 0) (w.alloc (.cells (madeCells #[.int .i64 0, .int .i64 0, .int .i64 0, .int .i64 0] (0 * 4)) 64)) := mkSe 0 (by omega)
    have B0 : Hid (Below w.heap.size w (w.alloc (.cells (madeCells #[.int .i64 0, .int .i64 0, .int .i64 0, .int .i64 0] (0 * 4)) 64))) := (Below.refl _ _).alloc (Nat.le_refl _) _
    clear m1
    go_enter Tryd.func22, Tryd.ntmps22
    go_wp2
    go_loopw [4] (fun i wr => i = .int .i64 0 ∧ wr = (w.alloc (.cells (madeCells #[.int .i64 0, .int .i64 0, .int .i64 0, .int .i64 0] (0 * 4)) 64))) (fun _ _ => 0)
    case atStart => exact ⟨rfl, rfl⟩
    case round =>
      obtain ⟨rfl, rfl⟩ := hrel
      go_wp2
      go_ret
      exact ⟨rfl, RowE.nil _ _ _ _ _, S0.out, B0.out⟩
  · obtain ⟨b, off, rfl, hc⟩ := h.opened hpos
    have HC : Hid (∀ i, i < n → ∀ j, j < 4 → w.cell? ⟨b, off + i * 4 + j, none⟩ = some (seF SE i j)) := hc
    clear h hc
    go_enter Tryd.func22, Tryd.ntmps22
    go_wp2
    go_loopw [4] (fun i wr => ∃ k : Nat, k ≤ n ∧ i = .int .i64 k ∧ RowE wr 4 (some ⟨w.heap.size, 0, none⟩) w.heap.size n (seF (fun j => if j < k then SE j else seZ)) ∧ w.heap.size < wr.heap.size ∧ Below w.heap.size w wr) (fun i _ => n - (intOf i).toNat)
    case atStart => exact ⟨0, by omega, rfl, (RowE.seMade w n).congr (fun i hi j hj => by simp [seF]), S0.out, (Below.refl _ _).alloc (Nat.le_refl _) _⟩
    case round =>
      obtain ⟨k, hk, rfl, hrow, hsz, hb⟩ := hrel
      have HS : Hid (w.heap.size < wr.heap.size) := hsz
      clear hsz
      by_cases hlt : k < n
      · obtain ⟨c0, c1, c2, c3⟩ := Els.seC HC.out k hlt
        have d0 : wr.cell? ⟨b, off + k * 4, none⟩ = some (.int .i64 (SE k).id) := by rw [hb.cell (strBlock c0)]; exact c0
        have d1 : wr.cell? ⟨b, off + k * 4 + 1, none⟩ = some (.int .i64 (SE k).sq) := by rw [hb.cell (strBlock c1)]; exact c1
        have d2 : wr.cell? ⟨b, off + k * 4 + 2, none⟩ = some (.int .i64 (SE k).cd) := by rw [hb.cell (strBlock c2)]; exact c2
        have d3 : wr.cell? ⟨b, off + k * 4 + 3, none⟩ = some (.int .i64 (SE k).ma) := by rw [hb.cell (strBlock c3)]; exact c3
        have TP : Hid (∀ w : World, Calls Tryd.prog 43 #[.agg #[.int .i64 (SE k).id, .int .i64 (SE k).sq, .int .i64 (SE k).cd, .int .i64 (SE k).ma]] w fun e w' => e = .returned (.agg #[.int .i64 (SE k).id, .int .i64 (SE k).sq, .int .i64 (SE k).cd, .int .i64 (SE k).ma]) ∧ Below w.heap.size w w') := toSession_any _ _ _ _
        have HR : Hid (RowE wr 4 (some ⟨w.heap.size, 0, none⟩) w.heap.size n (seF (fun j => if j < k then SE j else seZ))) := hrow
        have HB : Hid (Below w.heap.size w wr) := hb
        clear hrow hb c0 c1 c2 c3 m1
        go_wp2_with fail
        refine (TP.out _).mono ?_
        rintro e w1 ⟨rfl, hb⟩
        have R1 := HR.out.below (by omega) hb
        obtain ⟨g0, g1, g2, g3⟩ := R1.seC k hlt
        obtain ⟨f0, f1, f2, f3⟩ := R1.seFr k hlt
        have H1 : Hid (RowE w1 4 (some ⟨w.heap.size, 0, none⟩) w.heap.size n (seF (fun j => if j < k then SE j else seZ))) := R1
        have B1 : Hid (Below w.heap.size w w1) := HB.out.trans (hb.mono HB.out.size)
        replace HS : Hid (w.heap.size < w1.heap.size) := Nat.lt_of_lt_of_le HS.out hb.size
        generalize (if k < k then SE k else seZ) = u at *
        clear R1 hb HR HB TP d0 d1 d2 d3
        go_wp2
        go_roundw
        case rel =>
          refine ⟨k + 1, by omega, by go_num, (H1.out.sePut k (SE k)).congr (fun i hi j hj => ?_), by have := HS.out; simpa using this, ((((B1.out.setCell (by simp) _).setCell (by simp) _).setCell (by simp) _).setCell (by simp) _)⟩
          unfold seF
          congr 1
          by_cases e : i = k
          · subst e; simp
          · simp only [if_neg e]
            by_cases g : i < k
            · rw [if_pos g, if_pos (by omega)]
            · rw [if_neg g, if_neg (by omega)]
        case measure => simp [intOf]; omega
      · have HR : Hid (RowE wr 4 (some ⟨w.heap.size, 0, none⟩) w.heap.size n (seF SE)) := hrow.congr (fun i hi j hj => by unfold seF; dsimp only; rw [if_pos (by omega)])
        have HB : Hid (Below w.heap.size w wr) := hb
        clear hrow hb m1
        go_wp2
        go_ret
        exact ⟨rfl, HR.out, HS.out, HB.out⟩
set_option maxRecDepth 100000 in
theorem szSessionS_any (a : Option Addr) (n c : Nat) (x : Int) (w : World) (hx0 : 0 ≤ x) (hx : x ≤ 1048576) (hn : n ≤ maxLen) :
    Calls Tryd.prog 18 #[.slice a n c, .int .i64 x] w fun e w' => (∃ y : Int, e = .returned (.int .i64 y) ∧ y ≤ 1048576 ∧ (0 ≤ y → n ≤ 1048576)) ∧ Below w.heap.size w w' := by
  unfold maxLen at hn
  have x2 : IntKind.i64.wrap (x - (n : Int)) = x - (n : Int) := IntWalk.i64_in _ (by omega)
  by_cases h0 : x - (n : Int) < 0
  · go_enter Tryd.func18, Tryd.ntmps18
    go_wp2
    go_ret
    exact ⟨⟨-1, rfl, by omega, by omega⟩, Below.refl _ _⟩
  · go_enter Tryd.func18, Tryd.ntmps18
    go_wp2
    go_ret
    exact ⟨⟨_, rfl, by omega, by omega⟩, Below.refl _ _⟩
set_option maxRecDepth 100000 in
theorem eqSession_yes (id : Int) (sq : Int) (cd : Int) (ma : Int) (w : World) :
    Calls Tryd.prog 48 #[.agg #[.int .i64 id, .int .i64 sq, .int .i64 cd, .int .i64 ma], .agg #[.int .i64 id, .int .i64 sq, .int .i64 cd, .int .i64 ma]] w fun e w' => e = .returned (.bool true) ∧ Below w.heap.size w w' := by
  have e0 : (id != id) = false := by simp
  have e1 : (sq != sq) = false := by simp
  have e2 : (cd != cd) = false := by simp
  have e3 : (ma != ma) = false := by simp
  go_enter Tryd.func48, Tryd.ntmps48
  go_wp2
  go_ret
  exact ⟨rfl, ((Below.refl w.heap.size w).alloc (Nat.le_refl _) _).alloc (by simp) _⟩
set_option maxRecDepth 100000 in
set_option maxHeartbeats 1000000 in
theorem eqSessionS_yes (a b : Option Addr) (n c d : Nat) (SE : Nat → Se) (w : World) (h : Els w 4 a n (seF SE)) (h' : Els w 4 b n (seF SE)) (hn : n ≤ 1048576) :
    Calls Tryd.prog 27 #[.slice a n c, .slice b n d] w fun e w' => e = .returned (.bool true) ∧ Below w.heap.size w w' := by
  have HA : Hid (Els w 4 a n (seF SE)) := h
  have HA' : Hid (Els w 4 b n (seF SE)) := h'
  have hne : ((n : Int) != (n : Int)) = false := by simp
  clear h h'
  go_enter Tryd.func27, Tryd.ntmps27
  go_wp2
  go_loopw [5] (fun i wr => ∃ k : Nat, k ≤ n ∧ i = .int .i64 k ∧ Below w.heap.size w wr) (fun i _ => n - (intOf i).toNat)
  case atStart => exact ⟨0, by omega, rfl, Below.refl _ _⟩
  case round =>
    obtain ⟨k, hk, rfl, hb⟩ := hrel
    have HB : Hid (Below w.heap.size w wr) := hb
    by_cases hlt : k < n
    · obtain ⟨b1, o1, rfl, hc⟩ := (HA.out.below hb).opened (by omega)
      obtain ⟨b2, o2, rfl, hc'⟩ := (HA'.out.below hb).opened (by omega)
      obtain ⟨c0, c1, c2, c3⟩ := Els.seC hc k hlt
      obtain ⟨d0, d1, d2, d3⟩ := Els.seC hc' k hlt
      have hlt' : (k : Int) < (n : Int) := by omega
      have EP : Hid (∀ w : World, Calls Tryd.prog 48 #[.agg #[.int .i64 (SE k).id, .int .i64 (SE k).sq, .int .i64 (SE k).cd, .int .i64 (SE k).ma], .agg #[.int .i64 (SE k).id, .int .i64 (SE k).sq, .int .i64 (SE k).cd, .int .i64 (SE k).ma]] w fun e w' => e = .returned (.bool true) ∧ Below w.heap.size w w') := eqSession_yes _ _ _ _
      generalize SE k = y at *
      clear hc hc' hb
      go_wp2_with fail
      go_region_with (go_at_call 48; refine (EP.out _).mono ?_; rintro e w' ⟨rfl, hb⟩)
      all_goals
        have B1 : Hid (Below w.heap.size w w') := HB.out.drew.trans (hb.mono HB.out.size)
        clear hb HB EP c0 d0 c1 d1 c2 d2 c3 d3
        dsimp only [Act.put]
        go_wp2
        go_roundw
        case rel => exact ⟨k + 1, by omega, by go_num, B1.out⟩
        case measure => simp [intOf]; omega
    · go_wp2
      go_ret
      exact ⟨rfl, HB.out⟩
/-- What is marked from k on. -/
def seM (k : Nat) (i : Nat) : Se := ⟨((k + 4 * i : Nat) : Int), ((k + 4 * i + 1 : Nat) : Int), ((k + 4 * i + 2 : Nat) : Int), ((k + 4 * i + 3 : Nat) : Int)⟩
set_option maxRecDepth 100000 in
set_option maxHeartbeats 2000000 in
theorem markSessionK (a : Option Addr) (g n c k : Nat) (SE : Nat → Se) (hk : 1 ≤ k) (hn : k + 4 * n ≤ 10000000) (w : World) (h : RowE w 4 a g n (seF SE)) :
    Calls Tryd.prog 36 #[.slice a n c, .int .i64 (k : Int)] w fun e w' => e = .returned (.int .i64 ((k + 4 * n : Nat) : Int)) ∧ RowE w' 4 a g n (seF (seM k)) ∧ TurnedE g n w w' := by
  have H : Hid (RowE w 4 a g n (seF SE)) := h
  clear h
  go_enter Tryd.func36, Tryd.ntmps36
  go_wp2
  go_loopw [1, 5] (fun kv i wr => ∃ q : Nat, q ≤ n ∧ i = .int .i64 q ∧ kv = .int .i64 ((k + 4 * q : Nat) : Int) ∧ RowE wr 4 a g n (seF (fun i => if i < q then seM k i else SE i)) ∧ TurnedE g n w wr) (fun _ i _ => n - (intOf i).toNat)
  case atStart => exact ⟨0, by omega, rfl, rfl, H.out.congr (fun i hi j hj => by unfold seF; dsimp only; rw [if_neg (by omega)]), TurnedE.refl _ _ _⟩
  case round =>
    obtain ⟨q, hq, rfl, rfl, hrow, ho⟩ := hrel
    by_cases hlt : q < n
    · obtain ⟨m, hm⟩ : ∃ m, m = k + 4 * q := ⟨_, rfl⟩
      rw [← hm]
      have hlt' : (q : Int) < (n : Int) := by omega
      obtain rfl := hrow.a (by omega)
      obtain ⟨c0, c1, c2, c3⟩ := hrow.seC q hlt
      obtain ⟨f0, f1, f2, f3⟩ := hrow.seFr q hlt
      rw [if_neg (show ¬ q < q by omega)] at c0 c1 c2 c3
      have HRW : Hid (RowE wr 4 (some ⟨g, 0, none⟩) g n (seF (fun i => if i < q then seM k i else SE i))) := hrow
      have HO : Hid (OnlyB g w wr) := ho.1
      have HM : Hid (m = k + 4 * q) := hm
      have m1 : (m : Int) ≤ 10000000 := by omega
      have m0 : (0 : Int) ≤ (m : Int) := by omega
      clear hrow ho hm
      go_wp2
      go_roundw
      case rel =>
        have := HM.out
        refine ⟨q + 1, by omega, by go_num, numEqS (by omega), ((((HRW.out.set q 0 (by omega) _).set q 1 (by omega) _).set q 2 (by omega) _).set q 3 (by omega) _).congr (fun i hi j hj => ?_), ((((HO.out.setCell (q * 4) _).setCell (q * 4 + 1) _).setCell (q * 4 + 2) _).setCell (q * 4 + 3) _), fun z => absurd z (by omega)⟩
        unfold setF seF
        by_cases e : i = q
        · subst e
          dsimp only
          rw [if_pos (show i < i + 1 by omega)]
          rcases (show j = 0 ∨ j = 1 ∨ j = 2 ∨ j = 3 by omega) with rfl | rfl | rfl | rfl <;> simp [seV, seM] <;> first | omega | (rw [← this]; assumption) | (rw [← this]; exact (by assumption : _ = _).symm) | (subst this; simp_all)
        · simp only [e, false_and, if_false]
          congr 1
          by_cases g : i < q
          · rw [if_pos g, if_pos (by omega)]
          · rw [if_neg g, if_neg (by omega)]
      case measure => simp [intOf]; omega
    · obtain rfl : q = n := by omega
      have HF : Hid (RowE wr 4 a g q (seF (seM k))) := hrow.congr (fun i hi j hj => by unfold seF; dsimp only; rw [if_pos hi])
      have HO : Hid (TurnedE g q w wr) := ho
      clear hrow ho
      go_wp2
      go_ret
      exact ⟨rfl, HF.out, HO.out⟩
set_option maxRecDepth 100000 in
set_option maxHeartbeats 2000000 in
theorem heldSessionK (a : Option Addr) (n c k : Nat) (hk : 1 ≤ k) (hn : k + 4 * n ≤ 10000000) (w : World) (h : Els w 4 a n (seF (seM k))) :
    Calls Tryd.prog 38 #[.slice a n c, .int .i64 (k : Int)] w fun e w' => e = .returned (.int .i64 ((k + 4 * n : Nat) : Int)) ∧ Below w.heap.size w w' := by
  have H : Hid (Els w 4 a n (seF (seM k))) := h
  clear h
  go_enter Tryd.func38, Tryd.ntmps38
  go_wp2
  go_loopw [1, 5] (fun kv i wr => ∃ q : Nat, q ≤ n ∧ i = .int .i64 q ∧ kv = .int .i64 ((k + 4 * q : Nat) : Int) ∧ Below w.heap.size w wr) (fun _ i _ => n - (intOf i).toNat)
  case atStart => exact ⟨0, by omega, rfl, rfl, Below.refl _ _⟩
  case round =>
    obtain ⟨q, hq, rfl, rfl, hb⟩ := hrel
    have HB : Hid (Below w.heap.size w wr) := hb
    by_cases hlt : q < n
    · obtain ⟨b, off, rfl, hc⟩ := (H.out.below hb).opened (by omega)
      obtain ⟨c0, c1, c2, c3⟩ := Els.seC hc q hlt
      have hlt' : (q : Int) < (n : Int) := by omega
      unfold seM at c0 c1 c2 c3
      obtain ⟨m, hm⟩ : ∃ m, m = k + 4 * q := ⟨_, rfl⟩
      rw [← hm] at c0 c1 c2 c3 ⊢
      replace c0 : wr.cell? ⟨b, off + q * 4, none⟩ = some (.int .i64 ((m : Int))) := c0.trans (by first | rfl | simp)
      have r0 : (((m : Int)) != ((m : Int))) = false := by simp
      replace c1 : wr.cell? ⟨b, off + q * 4 + 1, none⟩ = some (.int .i64 ((m : Int) + 1)) := c1.trans (by first | rfl | simp)
      have r1 : (((m : Int) + 1) != ((m : Int) + 1)) = false := by simp
      replace c2 : wr.cell? ⟨b, off + q * 4 + 2, none⟩ = some (.int .i64 ((m : Int) + 2)) := c2.trans (by first | rfl | simp)
      have r2 : (((m : Int) + 2) != ((m : Int) + 2)) = false := by simp
      replace c3 : wr.cell? ⟨b, off + q * 4 + 3, none⟩ = some (.int .i64 ((m : Int) + 3)) := c3.trans (by first | rfl | simp)
      have r3 : (((m : Int) + 3) != ((m : Int) + 3)) = false := by simp
      have HM : Hid (m = k + 4 * q) := hm
      have m1 : (m : Int) ≤ 10000000 := by omega
      have m0 : (0 : Int) ≤ (m : Int) := by omega
      clear hc hb hm
      clear H
      go_wp2
      go_roundw
      case rel =>
        have := HM.out
        exact ⟨q + 1, by omega, by go_num, numEqS (by omega), HB.out⟩
      case measure => simp [intOf]; omega
    · obtain rfl : q = n := by omega
      clear hb
      go_wp2
      go_ret
      exact ⟨rfl, HB.out⟩
end Go.Proofs.YtfhjenohgafjlabDoor
