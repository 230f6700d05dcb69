/-
  Pieces of an image: which lists are right, JoinImage of the program and of the model.
-/
import Derived.Test.YtonccbgolbcjfaaImgM
import Derived.Test.YtonccbgolbcjfaaByRow
namespace Go.Proofs.Ytonccbgolbcjfaa
open Go.ChangeShapes Go.WideShapes Go.ChangeAt Go.RowKit
set_option linter.unusedVariables false
/-- One piece of n is right. -/
def PcOne (n : Nat) (F : Nat → ByteArray) (i : Nat) : Prop := (1 ≤ (F i).size ∧ (F i).size ≤ 64) ∧ (i + 1 < n → (F i).size = 64)
theorem isPiece_any (s : ByteArray) (r : Bool) (hr : r = decide (1 ≤ s.size ∧ s.size ≤ 64)) (w : World) :
    Calls Try.prog 47 #[.string s] w fun e w' => e = .returned (.bool r) ∧ w = w' := by
  by_cases h1 : 1 ≤ s.size
  · by_cases h2 : s.size ≤ 64
    · obtain rfl : r = true := by rw [hr]; simp; omega
      have e1 : (1 : Int) ≤ (s.size : Int) := by omega
      have e2 : (s.size : Int) ≤ 64 := by omega
      clear hr
      go_enter Try.func47, Try.ntmps47
      go_wp2
      go_ret
      exact ⟨rfl, rfl⟩
    · obtain rfl : r = false := by rw [hr]; simp; omega
      have e1 : (1 : Int) ≤ (s.size : Int) := by omega
      have e2 : ¬ (s.size : Int) ≤ 64 := by omega
      clear hr
      go_enter Try.func47, Try.ntmps47
      go_wp2
      go_ret
      exact ⟨rfl, rfl⟩
  · obtain rfl : r = false := by rw [hr]; simp; omega
    have e1 : ¬ (1 : Int) ≤ (s.size : Int) := by omega
    clear hr
    go_enter Try.func47, Try.ntmps47
    go_wp2
    go_ret
    exact ⟨rfl, rfl⟩
set_option maxRecDepth 100000 in
set_option maxHeartbeats 2000000 in
theorem arePieces_any (a : Option Addr) (n c : Nat) (F : Nat → ByteArray) (w : World) (h : Strs w a n F) (z : Bool) (hz : z = gB (PcsOk n F)) :
    Calls Try.prog 45 #[.slice a n c] w fun e w' => e = .returned (.bool z) ∧ w = w' := by
  by_cases h16 : n ≤ 16
  · have n0 : ¬ (16 : Int) < (n : Int) := by omega
    have n1 : (n : Int) ≤ 16 := by omega
    have HC : Hid (Strs w a n F) := h
    have HZ : Hid (z = gB (PcsOk n F)) := hz
    have H16 : Hid (n ≤ 16) := h16
    clear h hz h16
    go_enter Try.func45, Try.ntmps45
    go_wp2
    go_loopw [10] (fun i wr => ∃ k : Nat, k ≤ n ∧ i = .int .i64 k ∧ (∀ j, j < k → PcOne n F j) ∧ w = wr) (fun i _ => n - (intOf i).toNat)
    case atStart => exact ⟨0, by omega, rfl, fun j hj => absurd hj (by omega), rfl⟩
    case round =>
      obtain ⟨k, hk, rfl, hall, rfl⟩ := hrel
      have HA : Hid (∀ j, j < k → PcOne n F j) := hall
      clear hall
      by_cases hlt : k < n
      · have hlt' : (k : Int) < (n : Int) := by omega
        have k0 : (0 : Int) ≤ (k : Int) := by omega
        obtain ⟨b, off, rfl, hc⟩ := HC.out.opened (by omega)
        have c1 := hc k hlt
        clear hc
        have HN : Hid (PcOne n F k → PcOne n F k) := id
        have HF : Hid (∀ V, V = F k → ¬ ((1 ≤ V.size ∧ V.size ≤ 64) ∧ (k + 1 < n → V.size = 64)) → z = false) := fun V e q => by
          subst e
          rw [HZ.out]
          exact gB_no (fun p => q (p.2 k hlt))
        have HT : Hid (∀ V, V = F k → ((1 ≤ V.size ∧ V.size ≤ 64) ∧ (k + 1 < n → V.size = 64)) → ∀ j, j < k + 1 → PcOne n F j) := fun V e q j hj => by
          subst e
          by_cases e : j = k
          · subst e; exact q
          · exact HA.out j (by omega)
        obtain ⟨V, hV⟩ : ∃ V, V = F k := ⟨_, rfl⟩
        rw [← hV] at c1
        have HF1 := HF.out V hV
        have HT1 : Hid (((1 ≤ V.size ∧ V.size ≤ 64) ∧ (k + 1 < n → V.size = 64)) → ∀ j, j < k + 1 → PcOne n F j) := HT.out V hV
        have HM : Hid (k < n) := hlt
        clear hV HF HT HN HA
        by_cases hp : 1 ≤ V.size ∧ V.size ≤ 64
        · have IP : Hid (∀ w : World, Calls Try.prog 47 #[.string V] w fun e w' => e = .returned (.bool true) ∧ w = w') := fun w => isPiece_any V true (by simp; omega) w
          by_cases hl : k + 1 = n
          · have HT2 : Hid (∀ j, j < k + 1 → PcOne n F j) := HT1.out ⟨hp, fun q => by omega⟩
            have el : ((k : Int) == (n : Int) - 1) = true := by simp; omega
            clear HF1 HT1 hp hl hlt hk
            go_wp2_with fail
            refine (IP.out _).mono ?_
            rintro e _ ⟨rfl, rfl⟩
            go_wp2
            go_roundw
            case rel => exact ⟨k + 1, by have := HM.out; omega, by go_num, HT2.out, by trivial⟩
            case measure => have := HM.out; simp [intOf]; omega
          · have el : ((k : Int) == (n : Int) - 1) = false := by simp; omega
            by_cases h64 : V.size = 64
            · have HT2 : Hid (∀ j, j < k + 1 → PcOne n F j) := HT1.out ⟨hp, fun q => h64⟩
              have e64 : ((V.size : Int) != 64) = false := by simp; omega
              clear HF1 HT1 hp hl hlt hk h64
              go_wp2_with fail
              refine (IP.out _).mono ?_
              rintro e _ ⟨rfl, rfl⟩
              go_wp2
              go_roundw
              case rel => exact ⟨k + 1, by have := HM.out; omega, by go_num, HT2.out, by trivial⟩
              case measure => have := HM.out; simp [intOf]; omega
            · obtain rfl := HF1 (fun q => h64 (q.2 (by omega)))
              have e64 : ((V.size : Int) != 64) = true := by simp; omega
              clear HF1 HT1 hp hl hlt hk h64 HZ
              go_wp2_with fail
              refine (IP.out _).mono ?_
              rintro e _ ⟨rfl, rfl⟩
              go_wp2
              go_ret
              exact ⟨rfl, rfl⟩
        · obtain rfl := HF1 (fun q => hp q.1)
          have IP : Hid (∀ w : World, Calls Try.prog 47 #[.string V] w fun e w' => e = .returned (.bool false) ∧ w = w') := fun w => isPiece_any V false (by simp; omega) w
          obtain ⟨el, hel⟩ : ∃ el, el = ((k : Int) == (n : Int) - 1) := ⟨_, rfl⟩
          clear HF1 HT1 hp hlt hk HZ hel
          go_wp2_with fail
          refine (IP.out _).mono ?_
          rintro e _ ⟨rfl, rfl⟩
          go_wp2
          go_ret
          exact ⟨rfl, rfl⟩
      · obtain rfl : k = n := by omega
        obtain rfl : z = true := by rw [HZ.out]; exact gB_yes ⟨H16.out, HA.out⟩
        clear HZ HC
        go_wp2
        go_ret
        exact ⟨rfl, rfl⟩
  · have n0 : (16 : Int) < (n : Int) := by omega
    obtain rfl : z = false := by rw [hz]; exact gB_no (fun q => h16 q.1)
    clear h hz h16
    go_enter Try.func45, Try.ntmps45
    go_wp2
    go_ret
    exact ⟨rfl, rfl⟩
set_option maxRecDepth 100000 in
set_option maxHeartbeats 2000000 in
theorem l12Pieces_any (a : Option Addr) (n c : Nat) (F : Nat → ByteArray) (w : World) (h : Strs w a n F) (z : Bool) (hz : z = gB (PcsOk n F)) :
    Calls Try.prog 37 #[.slice a n c] w fun e w' => e = .returned (.bool z) ∧ w = w' := by
  by_cases h16 : n ≤ 16
  · have n0 : ¬ (16 : Int) < (n : Int) := by omega
    have n1 : (n : Int) ≤ 16 := by omega
    have HC : Hid (Strs w a n F) := h
    have HZ : Hid (z = gB (PcsOk n F)) := hz
    have H16 : Hid (n ≤ 16) := h16
    clear h hz h16
    go_enter Try.func37, Try.ntmps37
    go_wp2
    go_loopw [3] (fun i wr => ∃ k : Nat, k ≤ n ∧ i = .int .i64 k ∧ (∀ j, j < k → PcOne n F j) ∧ w = wr) (fun i _ => n - (intOf i).toNat)
    case atStart => exact ⟨0, by omega, rfl, fun j hj => absurd hj (by omega), rfl⟩
    case round =>
      obtain ⟨k, hk, rfl, hall, rfl⟩ := hrel
      have HA : Hid (∀ j, j < k → PcOne n F j) := hall
      clear hall
      by_cases hlt : k < n
      · have hlt' : (k : Int) < (n : Int) := by omega
        have k0 : (0 : Int) ≤ (k : Int) := by omega
        obtain ⟨b, off, rfl, hc⟩ := HC.out.opened (by omega)
        have c1 := hc k hlt
        clear hc
        have HF : Hid (∀ V, V = F k → ¬ ((1 ≤ V.size ∧ V.size ≤ 64) ∧ (k + 1 < n → V.size = 64)) → z = false) := fun V e q => by
          subst e
          rw [HZ.out]
          exact gB_no (fun p => q (p.2 k hlt))
        have HT : Hid (∀ V, V = F k → ((1 ≤ V.size ∧ V.size ≤ 64) ∧ (k + 1 < n → V.size = 64)) → ∀ j, j < k + 1 → PcOne n F j) := fun V e q j hj => by
          subst e
          by_cases e : j = k
          · subst e; exact q
          · exact HA.out j (by omega)
        obtain ⟨V, hV⟩ : ∃ V, V = F k := ⟨_, rfl⟩
        rw [← hV] at c1
        have HF1 := HF.out V hV
        have HT1 : Hid (((1 ≤ V.size ∧ V.size ≤ 64) ∧ (k + 1 < n → V.size = 64)) → ∀ j, j < k + 1 → PcOne n F j) := HT.out V hV
        have HM : Hid (k < n) := hlt
        clear hV HF HT HA
        by_cases hp : 1 ≤ V.size ∧ V.size ≤ 64
        · have IP : Hid (∀ w : World, Calls Try.prog 39 #[.int .i64 (V.size : Int), .int .i64 1, .int .i64 64] w fun e w' => e = .returned (.bool true) ∧ w = w') := fun w => in_any V.size 1 64 true (by simp; omega) w
          by_cases hl : k + 1 = n
          · have HT2 : Hid (∀ j, j < k + 1 → PcOne n F j) := HT1.out ⟨hp, fun q => by omega⟩
            have el : ¬ (k : Int) < (n : Int) - 1 := by omega
            clear HF1 HT1 hp hl hlt hk
            go_wp2_with fail
            refine (IP.out _).mono ?_
            rintro e _ ⟨rfl, rfl⟩
            go_wp2
            go_roundw
            case rel => exact ⟨k + 1, by have := HM.out; omega, by go_num, HT2.out, by trivial⟩
            case measure => have := HM.out; simp [intOf]; omega
          · have el : (k : Int) < (n : Int) - 1 := by omega
            by_cases h64 : V.size = 64
            · have HT2 : Hid (∀ j, j < k + 1 → PcOne n F j) := HT1.out ⟨hp, fun q => h64⟩
              have e64 : ((V.size : Int) != 64) = false := by simp; omega
              clear HF1 HT1 hp hl hlt hk h64
              go_wp2_with fail
              refine (IP.out _).mono ?_
              rintro e _ ⟨rfl, rfl⟩
              go_wp2
              go_roundw
              case rel => exact ⟨k + 1, by have := HM.out; omega, by go_num, HT2.out, by trivial⟩
              case measure => have := HM.out; simp [intOf]; omega
            · obtain rfl := HF1 (fun q => h64 (q.2 (by omega)))
              have e64 : ((V.size : Int) != 64) = true := by simp; omega
              clear HF1 HT1 hp hl hlt hk h64 HZ
              go_wp2_with fail
              refine (IP.out _).mono ?_
              rintro e _ ⟨rfl, rfl⟩
              go_wp2
              go_ret
              exact ⟨rfl, rfl⟩
        · obtain rfl := HF1 (fun q => hp q.1)
          have IP : Hid (∀ w : World, Calls Try.prog 39 #[.int .i64 (V.size : Int), .int .i64 1, .int .i64 64] w fun e w' => e = .returned (.bool false) ∧ w = w') := fun w => in_any V.size 1 64 false (by simp; omega) w
          clear HF1 HT1 hp hlt hk HZ
          go_wp2_with fail
          refine (IP.out _).mono ?_
          rintro e _ ⟨rfl, rfl⟩
          go_wp2
          go_ret
          exact ⟨rfl, rfl⟩
      · obtain rfl : k = n := by omega
        obtain rfl : z = true := by rw [HZ.out]; exact gB_yes ⟨H16.out, HA.out⟩
        clear HZ HC
        go_wp2
        go_ret
        exact ⟨rfl, rfl⟩
  · have n0 : (16 : Int) < (n : Int) := by omega
    obtain rfl : z = false := by rw [hz]; exact gB_no (fun q => h16 q.1)
    clear h hz h16
    go_enter Try.func37, Try.ntmps37
    go_wp2
    go_ret
    exact ⟨rfl, rfl⟩
end Go.Proofs.Ytonccbgolbcjfaa
