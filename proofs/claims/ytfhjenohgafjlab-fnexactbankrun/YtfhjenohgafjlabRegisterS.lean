/-
  Slices of Register: what they hold, and the laws' own helpers on them (written by tools/mkels.py).
-/
import Derived.Test.YtfhjenohgafjlabEls
import Derived.Test.YtfhjenohgafjlabRetCell
import Derived.Deep.RegionWith
namespace Go.Proofs.Ytfhjenohgafjlab
open Go.ChangeShapes Go.WideShapes Go.ChangeAt Go.RowKit
set_option linter.unusedVariables false
structure Rg where
  v : Int
  c : Int
  r : ByteArray
def rgV (x : Rg) : Nat → Value
  | 0 => .int .i64 x.v
  | 1 => .int .i64 x.c
  | _ => .string x.r
/-- The cells of elements. -/
def rgF (RG : Nat → Rg) (i j : Nat) : Value := rgV (RG i) j
def rgZ : Rg := ⟨0, 0, ⟨#[]⟩⟩
theorem Els.rgC {w : World} {b off n : Nat} {RG : Nat → Rg} (h : ∀ i, i < n → ∀ j, j < 3 → w.cell? ⟨b, off + i * 3 + j, none⟩ = some (rgF RG i j)) (k : Nat) (hk : k < n) : w.cell? ⟨b, off + k * 3, none⟩ = some (.int .i64 (RG k).v) ∧ w.cell? ⟨b, off + k * 3 + 1, none⟩ = some (.int .i64 (RG k).c) ∧ w.cell? ⟨b, off + k * 3 + 2, none⟩ = some (.string (RG k).r) := ⟨h k hk 0 (by omega), h k hk 1 (by omega), h k hk 2 (by omega)⟩
theorem RowE.rgC {w : World} {a : Option Addr} {g n : Nat} {RG : Nat → Rg} (h : RowE w 3 a g n (rgF RG)) (k : Nat) (hk : k < n) : w.cell? ⟨g, k * 3, none⟩ = some (.int .i64 (RG k).v) ∧ w.cell? ⟨g, k * 3 + 1, none⟩ = some (.int .i64 (RG k).c) ∧ w.cell? ⟨g, k * 3 + 2, none⟩ = some (.string (RG k).r) := ⟨h.c k hk 0 (by omega), h.c k hk 1 (by omega), h.c k hk 2 (by omega)⟩
theorem RowE.rgFr {w : World} {a : Option Addr} {g n : Nat} {F : Nat → Nat → Value} (h : RowE w 3 a g n F) (k : Nat) (hk : k < n) : w.frozen? ⟨g, k * 3, none⟩ = false ∧ w.frozen? ⟨g, k * 3 + 1, none⟩ = false ∧ w.frozen? ⟨g, k * 3 + 2, none⟩ = false := ⟨h.z _ (by omega), h.z _ (by omega), h.z _ (by omega)⟩
theorem RowE.rgPut {w : World} {a : Option Addr} {g n : Nat} {RG : Nat → Rg} (h : RowE w 3 a g n (rgF RG)) (k : Nat) (x : Rg) : RowE (((w.setCell ⟨g, k * 3, none⟩ (.int .i64 x.v)).setCell ⟨g, k * 3 + 1, none⟩ (.int .i64 x.c)).setCell ⟨g, k * 3 + 2, none⟩ (.string x.r)) 3 a g n (rgF (fun i => if i = k then x else RG i)) := by
  refine ((((h.set k 0 (by omega) (.int .i64 x.v)).set k 1 (by omega) (.int .i64 x.c)).set k 2 (by omega) (.string x.r)) : RowE _ _ _ _ _ _).congr (fun i hi j hj => ?_)
  unfold setF rgF
  by_cases e : i = k
  · subst e
    rcases (show j = 0 ∨ j = 1 ∨ j = 2 by omega) with rfl | rfl | rfl <;> simp [rgV]
  · simp [e]
theorem Try.infoRg : (Try.prog.info? 110).map (fun i => (i.zero, i.size, i.bytes)) = some (some (.agg #[.int .i64 0, .int .i64 0, .string ⟨#[]⟩]), 3, 32) := by kernel_rfl
set_option maxRecDepth 100000 in
theorem eqRegister_yes (v : Int) (c : Int) (r : ByteArray) (w : World) :
    Calls Try.prog 80 #[.agg #[.int .i64 v, .int .i64 c, .string r], .agg #[.int .i64 v, .int .i64 c, .string r]] w fun e w' => e = .returned (.bool true) ∧ Below w.heap.size w w' := by
  have e0 : (v != v) = false := by simp
  have e1 : (c != c) = false := by simp
  go_enter Try.func80, Try.ntmps80
  go_wp2
  go_ret
  exact ⟨rfl, ((Below.refl w.heap.size w).alloc (Nat.le_refl _) _).alloc (by simp) _⟩
set_option maxRecDepth 100000 in
set_option maxHeartbeats 1000000 in
theorem eqRegisterS_yes (a b : Option Addr) (n c d : Nat) (RG : Nat → Rg) (w : World) (h : Els w 3 a n (rgF RG)) (h' : Els w 3 b n (rgF RG)) (hn : n ≤ 1048576) :
    Calls Try.prog 39 #[.slice a n c, .slice b n d] w fun e w' => e = .returned (.bool true) ∧ Below w.heap.size w w' := by
  have HA : Hid (Els w 3 a n (rgF RG)) := h
  have HA' : Hid (Els w 3 b n (rgF RG)) := h'
  have hne : ((n : Int) != (n : Int)) = false := by simp
  clear h h'
  go_enter Try.func39, Try.ntmps39
  go_wp2
  go_loopw [5] (fun i wr => ∃ k : Nat, k ≤ n ∧ i = .int .i64 k ∧ Below w.heap.size w wr) (fun i _ => n - (intOf i).toNat)
  case atStart => exact ⟨0, by omega, rfl, Below.refl _ _⟩
  case round =>
    obtain ⟨k, hk, rfl, hb⟩ := hrel
    have HB : Hid (Below w.heap.size w wr) := hb
    by_cases hlt : k < n
    · obtain ⟨b1, o1, rfl, hc⟩ := (HA.out.below hb).opened (by omega)
      obtain ⟨b2, o2, rfl, hc'⟩ := (HA'.out.below hb).opened (by omega)
      obtain ⟨c0, c1, c2⟩ := Els.rgC hc k hlt
      obtain ⟨d0, d1, d2⟩ := Els.rgC hc' k hlt
      have hlt' : (k : Int) < (n : Int) := by omega
      have EP : Hid (∀ w : World, Calls Try.prog 80 #[.agg #[.int .i64 (RG k).v, .int .i64 (RG k).c, .string (RG k).r], .agg #[.int .i64 (RG k).v, .int .i64 (RG k).c, .string (RG k).r]] w fun e w' => e = .returned (.bool true) ∧ Below w.heap.size w w') := eqRegister_yes _ _ _
      generalize RG k = y at *
      clear hc hc' hb
      go_wp2_with fail
      go_region_with (go_at_call 80; refine (EP.out _).mono ?_; rintro e w' ⟨rfl, hb⟩)
      all_goals
        have B1 : Hid (Below w.heap.size w w') := HB.out.drew.trans (hb.mono HB.out.size)
        clear hb HB EP c0 d0 c1 d1 c2 d2
        dsimp only [Act.put]
        go_wp2
        go_roundw
        case rel => exact ⟨k + 1, by omega, by go_num, B1.out⟩
        case measure => simp [intOf]; omega
    · go_wp2
      go_ret
      exact ⟨rfl, HB.out⟩
/-- What is marked from k on. -/
def rgM (k : Nat) (i : Nat) : Rg := ⟨((k + 3 * i : Nat) : Int), ((k + 3 * i + 1 : Nat) : Int), mt (k + 3 * i + 2)⟩
set_option maxRecDepth 100000 in
set_option maxHeartbeats 2000000 in
theorem markRegisterK (a : Option Addr) (g n c k : Nat) (RG : Nat → Rg) (hk : 1 ≤ k) (hn : k + 3 * n ≤ 10000000) (w : World) (h : RowE w 3 a g n (rgF RG)) :
    Calls Try.prog 43 #[.slice a n c, .int .i64 (k : Int)] w fun e w' => e = .returned (.int .i64 ((k + 3 * n : Nat) : Int)) ∧ RowE w' 3 a g n (rgF (rgM k)) ∧ TurnedE g n w w' := by
  have H : Hid (RowE w 3 a g n (rgF RG)) := h
  clear h
  go_enter Try.func43, Try.ntmps43
  go_wp2
  go_loopw [1, 5] (fun kv i wr => ∃ q : Nat, q ≤ n ∧ i = .int .i64 q ∧ kv = .int .i64 ((k + 3 * q : Nat) : Int) ∧ RowE wr 3 a g n (rgF (fun i => if i < q then rgM k i else RG i)) ∧ TurnedE g n w wr) (fun _ i _ => n - (intOf i).toNat)
  case atStart => exact ⟨0, by omega, rfl, rfl, H.out.congr (fun i hi j hj => by unfold rgF; dsimp only; rw [if_neg (by omega)]), TurnedE.refl _ _ _⟩
  case round =>
    obtain ⟨q, hq, rfl, rfl, hrow, ho⟩ := hrel
    by_cases hlt : q < n
    · obtain ⟨m, hm⟩ : ∃ m, m = k + 3 * q := ⟨_, rfl⟩
      have MT2 : Hid (∀ w : World, Calls Try.prog 42 #[.int .i64 ((m : Int) + 2)] w fun e w' => e = .returned (.string (mt (m + 2))) ∧ Below w.heap.size w w') := fun w => by
        have := markText_any (m + 2) (by omega) (by omega) w
        rwa [show ((m + 2 : Nat) : Int) = (m : Int) + 2 from by omega] at this
      rw [← hm]
      have hlt' : (q : Int) < (n : Int) := by omega
      obtain rfl := hrow.a (by omega)
      obtain ⟨c0, c1, c2⟩ := hrow.rgC q hlt
      obtain ⟨f0, f1, f2⟩ := hrow.rgFr q hlt
      rw [if_neg (show ¬ q < q by omega)] at c0 c1 c2
      have HRW : Hid (RowE wr 3 (some ⟨g, 0, none⟩) g n (rgF (fun i => if i < q then rgM k i else RG i))) := hrow
      have HO : Hid (OnlyB g w wr) := ho.1
      have HM : Hid (m = k + 3 * q) := hm
      have m1 : (m : Int) ≤ 10000000 := by omega
      have m0 : (0 : Int) ≤ (m : Int) := by omega
      clear hrow ho hm
      go_wp2_with fail
      have R2 := (((HRW.out.set q 0 (by omega) (.int .i64 ((m : Int)))).set q 1 (by omega) (.int .i64 ((m : Int) + 1))) : RowE ((wr.setCell ⟨g, q * 3, none⟩ (.int .i64 ((m : Int)))).setCell ⟨g, q * 3 + 1, none⟩ (.int .i64 ((m : Int) + 1))) _ _ _ _ _)
      have O2 : OnlyB g w ((wr.setCell ⟨g, q * 3, none⟩ (.int .i64 ((m : Int)))).setCell ⟨g, q * 3 + 1, none⟩ (.int .i64 ((m : Int) + 1))) := ((HO.out.setCell (q * 3) (.int .i64 ((m : Int)))).setCell (q * 3 + 1) (.int .i64 ((m : Int) + 1)))
      refine (MT2.out _).mono ?_
      rintro e w3 ⟨rfl, hb⟩
      have RH : Hid (RowE w3 3 (some ⟨g, 0, none⟩) g n _) := R2.below (by omega) hb
      have OH : Hid (OnlyB g w w3) := O2.below hb
      have x2 : w3.cell? ⟨g, q * 3 + 2, none⟩ = some (.string (RG q).r) := by
        have := RH.out.c q hlt 2 (by omega)
        simpa [setF, rgF, rgV] using this
      have y2 : w3.frozen? ⟨g, q * 3 + 2, none⟩ = false := RH.out.z _ (by omega)
      generalize hV2 : mt (m + 2) = V2 at *
      have HV2 : Hid (mt (m + 2) = V2) := hV2
      clear hb R2 O2 MT2 hV2
      clear HRW HO c0 f0 c1 f1 c2 f2
      go_wp2
      go_roundw
      case rel =>
        have := HM.out
        refine ⟨q + 1, by omega, by go_num, numEqS (by omega), (RH.out.set q 2 (by omega) _).congr (fun i hi j hj => ?_), (OH.out.setCell (q * 3 + 2) _), fun z => absurd z (by omega)⟩
        have e2 := HV2.out
        unfold setF rgF
        by_cases e : i = q
        · subst e
          dsimp only
          rw [if_pos (show i < i + 1 by omega)]
          rcases (show j = 0 ∨ j = 1 ∨ j = 2 by omega) with rfl | rfl | rfl <;> simp [rgV, rgM] <;> first | omega | (rw [← this]; assumption) | (rw [← this]; exact (by assumption : _ = _).symm) | (subst this; simp_all)
        · simp only [e, false_and, if_false]
          congr 1
          by_cases g : i < q
          · rw [if_pos g, if_pos (by omega)]
          · rw [if_neg g, if_neg (by omega)]
      case measure => simp [intOf]; omega
    · obtain rfl : q = n := by omega
      have HF : Hid (RowE wr 3 a g q (rgF (rgM k))) := hrow.congr (fun i hi j hj => by unfold rgF; dsimp only; rw [if_pos hi])
      have HO : Hid (TurnedE g q w wr) := ho
      clear hrow ho
      go_wp2
      go_ret
      exact ⟨rfl, HF.out, HO.out⟩
set_option maxRecDepth 100000 in
set_option maxHeartbeats 2000000 in
theorem heldRegisterK (a : Option Addr) (n c k : Nat) (hk : 1 ≤ k) (hn : k + 3 * n ≤ 10000000) (w : World) (h : Els w 3 a n (rgF (rgM k))) :
    Calls Try.prog 45 #[.slice a n c, .int .i64 (k : Int)] w fun e w' => e = .returned (.int .i64 ((k + 3 * n : Nat) : Int)) ∧ Below w.heap.size w w' := by
  have H : Hid (Els w 3 a n (rgF (rgM k))) := h
  clear h
  go_enter Try.func45, Try.ntmps45
  go_wp2
  go_loopw [1, 5] (fun kv i wr => ∃ q : Nat, q ≤ n ∧ i = .int .i64 q ∧ kv = .int .i64 ((k + 3 * q : Nat) : Int) ∧ Below w.heap.size w wr) (fun _ i _ => n - (intOf i).toNat)
  case atStart => exact ⟨0, by omega, rfl, rfl, Below.refl _ _⟩
  case round =>
    obtain ⟨q, hq, rfl, rfl, hb⟩ := hrel
    have HB : Hid (Below w.heap.size w wr) := hb
    by_cases hlt : q < n
    · obtain ⟨b, off, rfl, hc⟩ := (H.out.below hb).opened (by omega)
      obtain ⟨c0, c1, c2⟩ := Els.rgC hc q hlt
      have hlt' : (q : Int) < (n : Int) := by omega
      unfold rgM at c0 c1 c2
      obtain ⟨m, hm⟩ : ∃ m, m = k + 3 * q := ⟨_, rfl⟩
      have MT2 : Hid (∀ w : World, Calls Try.prog 42 #[.int .i64 ((m : Int) + 2)] w fun e w' => e = .returned (.string (mt (m + 2))) ∧ Below w.heap.size w w') := fun w => by
        have := markText_any (m + 2) (by omega) (by omega) w
        rwa [show ((m + 2 : Nat) : Int) = (m : Int) + 2 from by omega] at this
      rw [← hm] at c0 c1 c2 ⊢
      replace c0 : wr.cell? ⟨b, off + q * 3, none⟩ = some (.int .i64 ((m : Int))) := c0.trans (by first | rfl | simp)
      have r0 : (((m : Int)) != ((m : Int))) = false := by simp
      replace c1 : wr.cell? ⟨b, off + q * 3 + 1, none⟩ = some (.int .i64 ((m : Int) + 1)) := c1.trans (by first | rfl | simp)
      have r1 : (((m : Int) + 1) != ((m : Int) + 1)) = false := by simp
      have HM : Hid (m = k + 3 * q) := hm
      have m1 : (m : Int) ≤ 10000000 := by omega
      have m0 : (0 : Int) ≤ (m : Int) := by omega
      generalize mt (m + 2) = V2 at *
      have C2 : Hid (wr.drew.cell? ⟨b, off + q * 3 + 2, none⟩ = some (.string V2)) := c2
      clear hc hb hm
      go_wp2_with fail
      go_region_with (go_at_call 42; refine (MT2.out _).mono ?_; rintro e w' ⟨rfl, hb⟩; have k2 : w'.cell? ⟨b, off + q * 3 + 2, none⟩ = some (.string V2) := (hb.cell (strBlock C2.out)).trans C2.out)
      all_goals
        have B1 : Hid (Below w.heap.size w w') := HB.out.drew.trans (hb.mono HB.out.size)
        clear hb HB MT2 c0 c1 c2 C2
        dsimp only [Act.put]
        go_wp2
        go_roundw
        case rel =>
          have := HM.out
          exact ⟨q + 1, by omega, by go_num, numEqS (by omega), B1.out⟩
        case measure => simp [intOf]; omega
    · obtain rfl : q = n := by omega
      clear hb
      go_wp2
      go_ret
      exact ⟨rfl, HB.out⟩
end Go.Proofs.Ytfhjenohgafjlab
