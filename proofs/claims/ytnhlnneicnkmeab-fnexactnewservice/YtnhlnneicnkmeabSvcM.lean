/-
  Marks of a new service, and a look at them: the laws' helpers.
-/
import Derived.Test.YtnhlnneicnkmeabSvcE
namespace Go.Proofs.Ytnhlnneicnkmeab
open Go.ChangeShapes Go.WideShapes Go.ChangeAt Go.RowKit
set_option linter.unusedVariables false
/-- A new replica that was marked, the i-th from mark K on. -/
def rpM (K i : Nat) : Rp := ⟨((K + 7 * i : Nat) : Int) % 3 == 0, ((K + 7 * i + 1 : Nat) : Int), ((K + 7 * i + 2 : Nat) : Int), ((K + 7 * i + 3 : Nat) : Int), ((K + 7 * i + 4 : Nat) : Int), 0, fun _ => 0, ((K + 7 * i + 5 : Nat) : Int), ((K + 7 * i + 6 : Nat) : Int)⟩
def rpH (K k : Nat) (i : Nat) : Rp := if i < k then rpM K i else rpZ
set_option maxRecDepth 100000 in
set_option maxHeartbeats 4000000 in
theorem markReplicaS_new (g n c K : Nat) (hn : n ≤ 1000) (hK : K ≤ 100000) (A : Nat → Option Addr) (w : World) (h : RowE w 8 (some ⟨g, 0, none⟩) g n (rpF (fun _ => rpZ) (fun i => .slice (A i) 0 0))) :
    Calls Try.prog 46 #[.slice (some ⟨g, 0, none⟩) n c, .int .i64 (K : Int)] w fun e w' => e = .returned (.int .i64 ((K + 7 * n : Nat) : Int)) ∧ RowE w' 8 (some ⟨g, 0, none⟩) g n (rpF (rpM K) (fun i => .slice (A i) 0 0)) ∧ TurnedE g n w w' := by
  have H0 : Hid (RowE w 8 (some ⟨g, 0, none⟩) g n (rpF (fun _ => rpZ) (fun i => .slice (A i) 0 0))) := h
  have MI : Hid (∀ (a : Option Addr) (x : Nat) (w : World), x ≤ 9000000 → Calls Try.prog 15 #[.slice a 0 0, .int .i64 (x : Int)] w fun e w' => e = .returned (.int .i64 (x : Int)) ∧ Below w.heap.size w w') := fun a x w hx => (markIntK a 0 0 0 x (fun _ => 0) (by omega) w (RowE.nil _ _ _ _ _)).mono fun e w' q => ⟨q.1, q.2.2.2 rfl⟩
  clear h
  go_enter Try.func46, Try.ntmps46
  go_wp2_with fail
  go_loopw [1, 5] (fun x i wr => ∃ k : Nat, k ≤ n ∧ i = .int .i64 (k : Int) ∧ x = .int .i64 ((K + 7 * k : Nat) : Int) ∧ RowE wr 8 (some ⟨g, 0, none⟩) g n (rpF (rpH K k) (fun i => .slice (A i) 0 0)) ∧ TurnedE g n w wr) (fun _ i _ => n - (intOf i).toNat)
  case atStart => exact ⟨0, by omega, rfl, rfl, H0.out.congr (fun i hi j hj => by unfold rpF rpH; rw [if_neg (by omega)]), TurnedE.refl _ _ _⟩
  case round =>
    obtain ⟨k, hk, rfl, rfl, hr, ht⟩ := hrel
    by_cases hlt : k < n
    · have hlt' : (k : Int) < (n : Int) := by omega
      have hk0 : (0 : Int) ≤ (k : Int) := by omega
      have t0 := hr.c k hlt 0 (by omega)
      have t1 := hr.c k hlt 1 (by omega)
      have t2 := hr.c k hlt 2 (by omega)
      have t3 := hr.c k hlt 3 (by omega)
      have t4 := hr.c k hlt 4 (by omega)
      have t5 := hr.c k hlt 5 (by omega)
      have t6 := hr.c k hlt 6 (by omega)
      have t7 := hr.c k hlt 7 (by omega)
      have z0 := hr.z (k * 8 + 0) (by omega)
      have z1 := hr.z (k * 8 + 1) (by omega)
      have z2 := hr.z (k * 8 + 2) (by omega)
      have z3 := hr.z (k * 8 + 3) (by omega)
      have z4 := hr.z (k * 8 + 4) (by omega)
      have z5 := hr.z (k * 8 + 5) (by omega)
      have z6 := hr.z (k * 8 + 6) (by omega)
      have z7 := hr.z (k * 8 + 7) (by omega)
      rw [Nat.add_zero] at t0 z0
      have t5' : wr.cell? ⟨g, k * 8 + 5, none⟩ = some (.slice (A k) 0 0) := t5
      clear t5
      obtain ⟨q, hq⟩ : ∃ q : Nat, q = K + 7 * k := ⟨_, rfl⟩
      rw [← hq]
      have hq9 : q ≤ 200000 := by omega
      have QH : Hid (q = K + 7 * k) := hq
      clear hq
      have R5 : Hid (RowE (((((wr.setCell ⟨g, k * 8, none⟩ (.bool ((q : Int) % 3 == 0))).setCell ⟨g, k * 8 + 1, none⟩ (.int .i64 ((q : Int) + 1))).setCell ⟨g, k * 8 + 1 + 1, none⟩ (.int .i64 ((q : Int) + 1 + 1))).setCell ⟨g, k * 8 + 3, none⟩ (.int .i64 ((q : Int) + 1 + 1 + 1))).setCell ⟨g, k * 8 + 3 + 1, none⟩ (.int .i64 ((q : Int) + 1 + 1 + 1 + 1))) 8 (some ⟨g, 0, none⟩) g n (setF (setF (setF (setF (setF (rpF (rpH K k) (fun i => .slice (A i) 0 0)) k 0 (.bool ((q : Int) % 3 == 0))) k 1 (.int .i64 ((q : Int) + 1))) k 2 (.int .i64 ((q : Int) + 1 + 1))) k 3 (.int .i64 ((q : Int) + 1 + 1 + 1))) k 4 (.int .i64 ((q : Int) + 1 + 1 + 1 + 1)))) := ((((hr.set k 0 (by omega) (.bool ((q : Int) % 3 == 0))).set k 1 (by omega) (.int .i64 ((q : Int) + 1))).set k 2 (by omega) (.int .i64 ((q : Int) + 1 + 1))).set k 3 (by omega) (.int .i64 ((q : Int) + 1 + 1 + 1))).set k 4 (by omega) (.int .i64 ((q : Int) + 1 + 1 + 1 + 1))
      have T5 : Hid (OnlyB g w (((((wr.setCell ⟨g, k * 8, none⟩ (.bool ((q : Int) % 3 == 0))).setCell ⟨g, k * 8 + 1, none⟩ (.int .i64 ((q : Int) + 1))).setCell ⟨g, k * 8 + 1 + 1, none⟩ (.int .i64 ((q : Int) + 1 + 1))).setCell ⟨g, k * 8 + 3, none⟩ (.int .i64 ((q : Int) + 1 + 1 + 1))).setCell ⟨g, k * 8 + 3 + 1, none⟩ (.int .i64 ((q : Int) + 1 + 1 + 1 + 1)))) := ((((ht.1.setCell (k * 8) _).setCell (k * 8 + 1) _).setCell (k * 8 + 1 + 1) _).setCell (k * 8 + 3) _).setCell (k * 8 + 3 + 1) _
      have lt5 : Hid (g < (((((wr.setCell ⟨g, k * 8, none⟩ (.bool ((q : Int) % 3 == 0))).setCell ⟨g, k * 8 + 1, none⟩ (.int .i64 ((q : Int) + 1))).setCell ⟨g, k * 8 + 1 + 1, none⟩ (.int .i64 ((q : Int) + 1 + 1))).setCell ⟨g, k * 8 + 3, none⟩ (.int .i64 ((q : Int) + 1 + 1 + 1))).setCell ⟨g, k * 8 + 3 + 1, none⟩ (.int .i64 ((q : Int) + 1 + 1 + 1 + 1))).heap.size) := by show g < _; simp; exact hr.lt (by omega) (by omega)
      clear hr ht
      have q5 : ((q : Int) + 1 + 1 + 1 + 1 + 1) = ((q + 5 : Nat) : Int) := by omega
      have Q5 : Hid (((q : Int) + 1 + 1 + 1 + 1 + 1) = ((q + 5 : Nat) : Int)) := q5
      clear q5
      go_wp2_with fail
      generalize (((((wr.setCell ⟨g, k * 8, none⟩ (.bool ((q : Int) % 3 == 0))).setCell ⟨g, k * 8 + 1, none⟩ (.int .i64 ((q : Int) + 1))).setCell ⟨g, k * 8 + 1 + 1, none⟩ (.int .i64 ((q : Int) + 1 + 1))).setCell ⟨g, k * 8 + 3, none⟩ (.int .i64 ((q : Int) + 1 + 1 + 1))).setCell ⟨g, k * 8 + 3 + 1, none⟩ (.int .i64 ((q : Int) + 1 + 1 + 1 + 1))) = w5 at *
      rw [Q5.out]
      refine (MI.out _ (q + 5) _ (by omega)).mono ?_
      rintro e w1 ⟨rfl, hb⟩
      rw [← Q5.out]
      have R6 := R5.out.below (by omega) hb
      have T6 : OnlyB g w w1 := ⟨hb.os.trans T5.out.os, hb.tape.trans T5.out.tape, hb.output.trans T5.out.output, Nat.le_trans T5.out.size hb.size, fun b h1 h2 => (hb.block b (Nat.lt_of_lt_of_le h1 T5.out.size)).trans (T5.out.block b h1 h2)⟩
      have s6 := R6.c k hlt 6 (by omega)
      have s7 := R6.c k hlt 7 (by omega)
      have y6 := R6.z (k * 8 + 6) (by omega)
      have y7 := R6.z (k * 8 + 7) (by omega)
      have R7 : Hid (RowE ((w1.setCell ⟨g, k * 8 + 6, none⟩ (.int .i64 ((q : Int) + 1 + 1 + 1 + 1 + 1))).setCell ⟨g, k * 8 + 6 + 1, none⟩ (.int .i64 ((q : Int) + 1 + 1 + 1 + 1 + 1 + 1))) 8 (some ⟨g, 0, none⟩) g n (setF (setF (setF (setF (setF (setF (setF (rpF (rpH K k) (fun i => .slice (A i) 0 0)) k 0 (.bool ((q : Int) % 3 == 0))) k 1 (.int .i64 ((q : Int) + 1))) k 2 (.int .i64 ((q : Int) + 1 + 1))) k 3 (.int .i64 ((q : Int) + 1 + 1 + 1))) k 4 (.int .i64 ((q : Int) + 1 + 1 + 1 + 1))) k 6 (.int .i64 ((q : Int) + 1 + 1 + 1 + 1 + 1))) k 7 (.int .i64 ((q : Int) + 1 + 1 + 1 + 1 + 1 + 1)))) := (R6.set k 6 (by omega) (.int .i64 ((q : Int) + 1 + 1 + 1 + 1 + 1))).set k 7 (by omega) (.int .i64 ((q : Int) + 1 + 1 + 1 + 1 + 1 + 1))
      have T7 : Hid (TurnedE g n w ((w1.setCell ⟨g, k * 8 + 6, none⟩ (.int .i64 ((q : Int) + 1 + 1 + 1 + 1 + 1))).setCell ⟨g, k * 8 + 6 + 1, none⟩ (.int .i64 ((q : Int) + 1 + 1 + 1 + 1 + 1 + 1)))) := ⟨(T6.setCell (k * 8 + 6) _).setCell (k * 8 + 6 + 1) _, fun e => absurd e (by omega)⟩
      clear R6 T6 R5 T5 hb t0 t1 t2 t3 t4 t5' t6 t7 z0 z1 z2 z3 z4 z5 z6 z7
      go_wp2
      go_roundw
      case rel =>
        refine ⟨k + 1, by omega, by go_num, ?_, R7.out.congr (fun i hi j hj => ?_), T7.out⟩
        · have := QH.out
          exact congrArg (Value.int .i64) (by omega)
        · unfold setF rpF rpH
          by_cases e : i = k
          · subst e
            have hq := QH.out
            rcases (show j = 0 ∨ j = 1 ∨ j = 2 ∨ j = 3 ∨ j = 4 ∨ j = 5 ∨ j = 6 ∨ j = 7 by omega) with rfl | rfl | rfl | rfl | rfl | rfl | rfl | rfl
            all_goals simp [rpV, rpM, hq]
            all_goals omega
          · by_cases e2 : i < k
            · simp [e, e2, show i < k + 1 by omega]
            · simp [e, e2, show ¬ i < k + 1 by omega]
      case measure => simp [intOf]; omega
    · obtain rfl : k = n := by omega
      have hlt' : ¬ (k : Int) < (k : Int) := by omega
      have R2 : Hid (RowE wr 8 (some ⟨g, 0, none⟩) g k (rpF (rpM K) (fun i => .slice (A i) 0 0))) := hr.congr (fun i hi l hl => by unfold rpF rpH; rw [if_pos hi])
      have T2 : Hid (TurnedE g k w wr) := ht
      clear hr ht
      go_wp2
      go_ret
      exact ⟨rfl, R2.out, T2.out⟩
set_option maxRecDepth 100000 in
set_option maxHeartbeats 4000000 in
theorem heldReplicaS_new (g n c K : Nat) (hn : n ≤ 1000) (hK : K ≤ 100000) (A : Nat → Option Addr) (w : World) (h : RowE w 8 (some ⟨g, 0, none⟩) g n (rpF (rpM K) (fun i => .slice (A i) 0 0))) :
    Calls Try.prog 49 #[.slice (some ⟨g, 0, none⟩) n c, .int .i64 (K : Int)] w fun e w' => e = .returned (.int .i64 ((K + 7 * n : Nat) : Int)) ∧ Below w.heap.size w w' := by
  have H0 : Hid (RowE w 8 (some ⟨g, 0, none⟩) g n (rpF (rpM K) (fun i => .slice (A i) 0 0))) := h
  have MI : Hid (∀ (a : Option Addr) (x : Nat) (w : World), x ≤ 9000000 → Calls Try.prog 17 #[.slice a 0 0, .int .i64 (x : Int)] w fun e w' => e = .returned (.int .i64 (x : Int)) ∧ Below w.heap.size w w') := fun a x w hx => (heldIntK a 0 0 x (by omega) w (fun i hi => absurd hi (Nat.not_lt_zero _))).mono fun e w' q => ⟨q.1, q.2⟩
  clear h
  go_enter Try.func49, Try.ntmps49
  go_wp2_with fail
  go_loopw [1, 5] (fun x i wr => ∃ k : Nat, k ≤ n ∧ i = .int .i64 (k : Int) ∧ x = .int .i64 ((K + 7 * k : Nat) : Int) ∧ Below w.heap.size w wr) (fun _ i _ => n - (intOf i).toNat)
  case atStart => exact ⟨0, by omega, rfl, rfl, Below.refl _ _⟩
  case round =>
    obtain ⟨k, hk, rfl, rfl, hb0⟩ := hrel
    have A1 : Hid (Below w.heap.size w wr) := hb0
    clear hb0
    by_cases hlt : k < n
    · have hlt' : (k : Int) < (n : Int) := by omega
      have hk0 : (0 : Int) ≤ (k : Int) := by omega
      have hr := H0.out.below (by omega) A1.out
      obtain ⟨q, hq⟩ : ∃ q : Nat, q = K + 7 * k := ⟨_, rfl⟩
      have t0 := hr.c k hlt 0 (by omega)
      have t1 := hr.c k hlt 1 (by omega)
      have t2 := hr.c k hlt 2 (by omega)
      have t3 := hr.c k hlt 3 (by omega)
      have t4 := hr.c k hlt 4 (by omega)
      have t5 := hr.c k hlt 5 (by omega)
      have t6 := hr.c k hlt 6 (by omega)
      have t7 := hr.c k hlt 7 (by omega)
      simp only [rpF, rpV, rpM, Nat.add_zero] at t0 t1 t2 t3 t4 t5 t6 t7
      rw [← hq] at t0 t1 t2 t3 t4 t6 t7 ⊢
      have hq9 : q ≤ 200000 := by omega
      have QH : Hid (q = K + 7 * k) := hq
      have e0 : (((q : Int) % 3 == 0) != ((q : Int) % 3 == 0)) = false := by simp
      have HR : Hid (RowE wr 8 (some ⟨g, 0, none⟩) g n (rpF (rpM K) (fun i => .slice (A i) 0 0))) := hr
      have T6 : Hid (wr.cell? ⟨g, k * 8 + 6, none⟩ = some (.int .i64 ((q + 5 : Nat) : Int)) ∧ wr.cell? ⟨g, k * 8 + 7, none⟩ = some (.int .i64 ((q + 6 : Nat) : Int))) := ⟨t6, t7⟩
      have t2' : wr.cell? ⟨g, k * 8 + 2, none⟩ = some (.int .i64 ((q : Int) + 1 + 1)) := t2.trans (congrArg (fun x => some (Value.int .i64 x)) (by omega))
      have t3' : wr.cell? ⟨g, k * 8 + 3, none⟩ = some (.int .i64 ((q : Int) + 1 + 1 + 1)) := t3.trans (congrArg (fun x => some (Value.int .i64 x)) (by omega))
      have t4' : wr.cell? ⟨g, k * 8 + 4, none⟩ = some (.int .i64 ((q : Int) + 1 + 1 + 1 + 1)) := t4.trans (congrArg (fun x => some (Value.int .i64 x)) (by omega))
      clear hq hr t6 t7 t2 t3 t4
      have Q5 : Hid (((q : Int) + 1 + 1 + 1 + 1 + 1) = ((q + 5 : Nat) : Int)) := (by omega : ((q : Int) + 1 + 1 + 1 + 1 + 1) = ((q + 5 : Nat) : Int))
      go_wp2_with fail
      rw [Q5.out]
      refine (MI.out _ (q + 5) _ (by omega)).mono ?_
      rintro e w1 ⟨rfl, hb⟩
      rw [← Q5.out]
      replace A1 : Hid (Below w.heap.size w w1) := A1.out.trans (hb.mono A1.out.size)
      have t6 : w1.cell? ⟨g, k * 8 + 6, none⟩ = some (.int .i64 ((q : Int) + 1 + 1 + 1 + 1 + 1)) := (hb.cell (strBlock T6.out.1)).trans (T6.out.1.trans (congrArg (fun x => some (Value.int .i64 x)) (by omega)))
      have t7 : w1.cell? ⟨g, k * 8 + 7, none⟩ = some (.int .i64 ((q : Int) + 1 + 1 + 1 + 1 + 1 + 1)) := (hb.cell (strBlock T6.out.2)).trans (T6.out.2.trans (congrArg (fun x => some (Value.int .i64 x)) (by omega)))
      have nz : ¬ ((q : Int) + 1 + 1 + 1 + 1 + 1) < 0 := by omega
      clear hb t0 t1 t5 t2' t3' t4' T6 HR
      go_wp2
      go_roundw
      case rel =>
        refine ⟨k + 1, by omega, by go_num, ?_, A1.out⟩
        have := QH.out
        exact congrArg (Value.int .i64) (by omega)
      case measure => simp [intOf]; omega
    · obtain rfl : k = n := by omega
      have hlt' : ¬ (k : Int) < (k : Int) := by omega
      go_wp2
      go_ret
      exact ⟨rfl, A1.out⟩
end Go.Proofs.Ytnhlnneicnkmeab
