/-
  Links that are right: LinkOK of the program and of the model.
-/
import Derived.Test.YtkhglllicblbbaaDoorWin
import Derived.Test.YtkhglllicblbbaaDoorInAny
namespace Go.Proofs.YtkhglllicblbbaaDoor
open Go.ChangeShapes Go.WideShapes Go.ChangeAt Go.RowKit
set_option linter.unusedVariables false
/-- A link that is right. -/
def LkOk (K : ByteArray) (se to : Int) (n : Nat) (f : Nat → Bool) : Prop :=
  K.size = 32 ∧ (0 ≤ se ∧ se ≤ 1000000) ∧ (0 ≤ to ∧ to ≤ 1000000) ∧ n = 32 ∧ f 0 = decide (0 < to) ∧ ∀ i, 1 ≤ i → i < 32 → f i = true → (i : Int) < to
theorem win_zero (f : Nat → Bool) (t : Nat) : winN f 32 / 2 ^ min t 32 = 0 ↔ ∀ i, t ≤ i → i < 32 → f i = false := by
  rw [shr_zero _ _ (winN_lt f 32)]
  constructor
  · intro h i h1 h2
    have := h i h1
    rw [winN_bit] at this
    simpa [h2] using this
  · intro h i h1
    rw [winN_bit]
    by_cases h2 : i < 32
    · simp [h i h1 h2]
    · simp [h2]
theorem lk_iff (K : ByteArray) (se : Int) (t : Nat) (f : Nat → Bool) (h1 : K.size = 32) (h2 : 0 ≤ se ∧ se ≤ 1000000) (h3 : t ≤ 1000000) :
    LkOk K se (t : Int) 32 f ↔ (f 0 = decide (0 < t) ∧ winN f 32 / 2 ^ min t 32 = 0) := by
  rw [win_zero]
  constructor
  · rintro ⟨-, -, -, -, a, b⟩
    have a' : f 0 = decide (0 < t) := by rw [a]; simp
    refine ⟨a', fun i g1 g2 => ?_⟩
    cases hv : f i with
    | false => rfl
    | true =>
      exfalso
      rcases Nat.eq_zero_or_pos i with rfl | hp
      · rw [hv] at a'
        have : 0 < t := by simpa using a'.symm
        omega
      · have := b i hp g2 hv
        omega
  · rintro ⟨a, b⟩
    refine ⟨h1, h2, ⟨by omega, by omega⟩, rfl, by rw [a]; simp, fun i g1 g2 g3 => ?_⟩
    rcases Nat.lt_or_ge i t with g | g
    · omega
    · rw [b i g g2] at g3; cases g3
set_option maxRecDepth 100000 in
set_option maxHeartbeats 4000000 in
theorem implLinkOK_any (K : ByteArray) (se to : Int) (a : Option Addr) (n c : Nat) (f : Nat → Bool) (r : Bool) (hr : r = true ↔ LkOk K se to n f) (w : World) (h : Bools w a n f) :
    Calls Tryd.prog 30 #[.agg #[.string K, .int .i64 se, .int .i64 to, .slice a n c]] w fun e w' => e = .returned (.bool r) ∧ Below w.heap.size w w' := by
  have RF : Hid (¬ LkOk K se to n f → r = false) := fun h => by cases r with
    | false => rfl
    | true => exact absurd (hr.1 rfl) h
  have RT : Hid (LkOk K se to n f → r = true) := fun h => hr.2 h
  have A1 : Hid (Below w.heap.size w (w.alloc (.cells #[.string K, .int .i64 se, .int .i64 to, .slice a n c] 52))) := (Below.refl _ _).alloc (Nat.le_refl _) _
  have HB : Hid (Bools w a n f) := h
  clear hr h
  by_cases h1 : K.size = 32
  · by_cases h2 : n = 32
    · subst h2
      have g1 : ((K.size : Int) != 32) = false := by simp; omega
      by_cases h3 : se < 0
      · obtain rfl : r = false := RF.out (fun q => by have := q.2.1; omega)
        clear h1 RF RT HB
        go_enter Tryd.func30, Tryd.ntmps30
        go_wp2
        go_ret
        exact ⟨rfl, A1.out⟩
      · by_cases h4 : 1000000 < se
        · obtain rfl : r = false := RF.out (fun q => by have := q.2.1; omega)
          clear h1 RF RT HB
          go_enter Tryd.func30, Tryd.ntmps30
          go_wp2
          go_ret
          exact ⟨rfl, A1.out⟩
        · by_cases h5 : to < 0
          · obtain rfl : r = false := RF.out (fun q => by have := q.2.2.1; omega)
            clear h1 RF RT HB
            go_enter Tryd.func30, Tryd.ntmps30
            go_wp2
            go_ret
            exact ⟨rfl, A1.out⟩
          · by_cases h6 : 1000000 < to
            · obtain rfl : r = false := RF.out (fun q => by have := q.2.2.1; omega)
              clear h1 RF RT HB
              go_enter Tryd.func30, Tryd.ntmps30
              go_wp2
              go_ret
              exact ⟨rfl, A1.out⟩
            · obtain ⟨t, rfl⟩ : ∃ t : Nat, to = (t : Int) := ⟨to.toNat, by omega⟩
              have HI : Hid (LkOk K se (t : Int) 32 f ↔ (f 0 = decide (0 < t) ∧ winN f 32 / 2 ^ min t 32 = 0)) := lk_iff K se t f h1 (by omega) (by omega)
              have WO : Hid (∀ w : World, Bools w a 32 f → Calls Tryd.prog 70 #[.slice a 32 c] w fun e w' => e = .returned (.int .u32 ((winN f 32 : Nat) : Int)) ∧ w = w') := fun w h => windowOf_any a c f w h
              have b0 : (winN f 32).testBit 0 = f 0 := by rw [winN_bit]; simp
              have HA : Hid (∀ w : World, Calls Tryd.prog 74 #[.int .u32 ((winN f 32 : Nat) : Int), .int .i64 0] w fun e w' => e = .returned (.bool (f 0)) ∧ w = w') := fun w => by have := has_any (winN f 32) 0 (winN_lt f 32) (by omega) w; rw [b0] at this; exact this
              have s1 := shift_shr_any .u32 .i64 ((winN f 32 : Nat) : Int) (t : Int) (by omega)
              have e1 : ((winN f 32 : Nat) : Int) / 2 ^ min t 32 = ((winN f 32 / 2 ^ min t 32 : Nat) : Int) := by simp
              clear b0
              generalize winN f 32 = X at *
              obtain ⟨V, hV⟩ : ∃ V, V = f 0 := ⟨_, rfl⟩
              rw [← hV] at HA HI
              clear hV
              generalize hY : X / 2 ^ min t 32 = Y at *
              have HY : Hid (X / 2 ^ min t 32 = Y) := hY
              clear hY h1
              by_cases k1 : V = decide (0 < t)
              · have k2 : (V == ((t : Int) != 0)) = true := by
                  rw [k1]
                  rcases Nat.eq_zero_or_pos t with q | q
                  · subst q; rfl
                  · have q1 : decide (0 < t) = true := by simpa using q
                    have q2 : ((t : Int) != 0) = true := by simp; omega
                    rw [q1, q2]; rfl
                by_cases k3 : Y = 0
                · obtain rfl : r = true := RT.out (HI.out.2 ⟨k1, k3⟩)
                  subst k3
                  clear RF RT HI k1
                  go_enter Tryd.func30, Tryd.ntmps30
                  go_wp2_with fail
                  refine (WO.out _ (HB.out.below A1.out)).mono ?_
                  rintro e w1 ⟨rfl, rfl⟩
                  clear WO HB
                  go_wp2_with fail
                  go_quiet (exact ((HA.out _).mono fun _ _ h => ⟨h.1, _, h.2.symm⟩))
                  go_wp2
                  go_ret
                  exact ⟨rfl, ⟨A1.out.os, A1.out.tape, A1.out.output, A1.out.size, A1.out.block⟩⟩
                · obtain rfl : r = false := RF.out (fun q => k3 (HI.out.1 q).2)
                  have k4 : (((Y : Nat) : Int) == 0) = false := by simp; exact k3
                  clear RF RT HI k1
                  go_enter Tryd.func30, Tryd.ntmps30
                  go_wp2_with fail
                  refine (WO.out _ (HB.out.below A1.out)).mono ?_
                  rintro e w1 ⟨rfl, rfl⟩
                  clear WO HB
                  go_wp2_with fail
                  go_quiet (exact ((HA.out _).mono fun _ _ h => ⟨h.1, _, h.2.symm⟩))
                  go_wp2
                  go_ret
                  exact ⟨rfl, ⟨A1.out.os, A1.out.tape, A1.out.output, A1.out.size, A1.out.block⟩⟩
              · have k2 : (V == ((t : Int) != 0)) = false := by
                  cases V <;> by_cases q : t = 0 <;> simp [q] at k1 ⊢ <;> omega
                obtain rfl : r = false := RF.out (fun q => k1 (HI.out.1 q).1)
                clear RF RT HI k1
                go_enter Tryd.func30, Tryd.ntmps30
                go_wp2_with fail
                refine (WO.out _ (HB.out.below A1.out)).mono ?_
                rintro e w1 ⟨rfl, rfl⟩
                clear WO HB
                go_wp2_with fail
                go_quiet (exact ((HA.out _).mono fun _ _ h => ⟨h.1, _, h.2.symm⟩))
                go_wp2
                go_ret
                exact ⟨rfl, ⟨A1.out.os, A1.out.tape, A1.out.output, A1.out.size, A1.out.block⟩⟩
    · obtain rfl : r = false := RF.out (fun q => h2 q.2.2.2.1)
      have g1 : ((K.size : Int) != 32) = false := by simp; omega
      have g2 : ((n : Int) != 32) = true := by simp; omega
      clear h1 RF RT HB
      go_enter Tryd.func30, Tryd.ntmps30
      go_wp2
      go_ret
      exact ⟨rfl, A1.out⟩
  · obtain rfl : r = false := RF.out (fun q => h1 q.1)
    have g1 : ((K.size : Int) != 32) = true := by simp; omega
    clear RF RT HB
    go_enter Tryd.func30, Tryd.ntmps30
    go_wp2
    go_ret
    exact ⟨rfl, A1.out⟩
def inR (x : Int) : Bool := decide (0 ≤ x ∧ x ≤ 1000000)
theorem lk_loop (K : ByteArray) (se to : Int) (f : Nat → Bool) (h1 : K.size = 32) (h2 : 0 ≤ se ∧ se ≤ 1000000) (h3 : 0 ≤ to ∧ to ≤ 1000000) (h4 : f 0 = decide (0 < to)) (h : ∀ i, 1 ≤ i → i < 32 → ¬ (f i = true ∧ to ≤ (i : Int))) : LkOk K se to 32 f :=
  ⟨h1, h2, h3, rfl, h4, fun i a b c => by have := h i a b; by_cases q : to ≤ (i : Int); exact absurd ⟨c, q⟩ this; omega⟩
set_option maxRecDepth 100000 in
set_option maxHeartbeats 4000000 in
theorem specLinkOK_any (K : ByteArray) (se to : Int) (a : Option Addr) (n c : Nat) (f : Nat → Bool) (r : Bool) (hr : r = true ↔ LkOk K se to n f) (w : World) (h : Bools w a n f) :
    Calls Tryd.prog 72 #[.agg #[.string K, .int .i64 se, .int .i64 to, .slice a n c]] w fun e w' => e = .returned (.bool r) ∧ Below w.heap.size w w' := by
  have IN : Hid (∀ (x : Int) (w : World), Calls Tryd.prog 63 #[.int .i64 x, .int .i64 0, .int .i64 1000000] w fun e w' => e = .returned (.bool (inR x)) ∧ w = w') := fun x w => in_any x _ _ _ rfl w
  have RF : Hid (¬ LkOk K se to n f → r = false) := fun h => by cases r with
    | false => rfl
    | true => exact absurd (hr.1 rfl) h
  have RT : Hid (LkOk K se to n f → r = true) := fun h => hr.2 h
  have A1 : Hid (Below w.heap.size w (w.alloc (.cells #[.string K, .int .i64 se, .int .i64 to, .slice a n c] 52))) := (Below.refl _ _).alloc (Nat.le_refl _) _
  have HB : Hid (Bools w a n f) := h
  clear hr h
  by_cases h1 : K.size = 32
  · have g1 : ((K.size : Int) != 32) = false := by simp; omega
    have H1 : Hid (K.size = 32) := h1
    clear h1
    by_cases h2 : 0 ≤ se ∧ se ≤ 1000000
    · have d1 : inR se = true := by unfold inR; simpa using h2
      have H2 : Hid (0 ≤ se ∧ se ≤ 1000000) := h2
      clear h2
      by_cases h3 : 0 ≤ to ∧ to ≤ 1000000
      · have d2 : inR to = true := by unfold inR; simpa using h3
        have H3 : Hid (0 ≤ to ∧ to ≤ 1000000) := h3
        clear h3
        by_cases h4 : n = 32
        · subst h4
          obtain ⟨b, off, rfl, hc⟩ := (HB.out.below A1.out).opened (by omega)
          have HC : Hid (∀ i, i < 32 → (w.alloc (.cells #[.string K, .int .i64 se, .int .i64 to, .slice (some ⟨b, off, none⟩) 32 c] 52)).cell? ⟨b, off + i, none⟩ = some (.bool (f i))) := hc
          have c0 := hc 0 (by omega)
          rw [Nat.add_zero] at c0
          clear hc HB
          by_cases h5 : f 0 = decide (0 < to)
          · have H5 : Hid (f 0 = decide (0 < to)) := h5
            have g5 : (f 0 == decide (0 < to)) = true := by rw [h5]; simp
            clear h5
            obtain ⟨V, hV⟩ : ∃ V, V = f 0 := ⟨_, rfl⟩
            rw [← hV] at c0 g5
            clear hV
            go_enter Tryd.func72, Tryd.ntmps72
            go_wp2_with fail
            go_quiet (exact ((IN.out _ _).mono fun _ _ h => ⟨h.1, _, h.2.symm⟩))
            go_wp2
            clear c0 g5 g1 d1 d2 IN
            go_loopw [3] (fun i wr => ∃ (k q : Nat), 1 ≤ k ∧ k ≤ 32 ∧ i = .int .i64 (k : Int) ∧ (∀ j, 1 ≤ j → j < k → ¬ (f j = true ∧ to ≤ (j : Int))) ∧ wr = (w.alloc (.cells #[.string K, .int .i64 se, .int .i64 to, .slice (some ⟨b, off, none⟩) 32 c] 52)).drewN q) (fun i _ => 32 - (intOf i).toNat)
            case atStart => exact ⟨1, _, by omega, by omega, rfl, fun j h1 h2 => by omega, rfl⟩
            case round =>
              obtain ⟨k, q, hk1, hk2, rfl, hj, rfl⟩ := hrel
              have HJ : Hid (∀ j, 1 ≤ j → j < k → ¬ (f j = true ∧ to ≤ (j : Int))) := hj
              clear hj
              by_cases hlt : k < 32
              · have ck := HC.out k hlt
                have x0 : (0 : Int) ≤ (k : Int) := by omega
                have x1 : (k : Int) < 32 := by omega
                have HV : Hid (∃ V, V = f k) := ⟨_, rfl⟩
                cases hv : f k with
                | false =>
                  rw [hv] at ck
                  have HN : Hid (f k = false) := hv
                  clear hv
                  go_wp2
                  go_roundw
                  case rel => exact ⟨k + 1, q, by omega, by omega, by go_num, fun j h1 h2 => by
                    rcases (show j < k ∨ j = k by omega) with g | rfl
                    · exact HJ.out j h1 g
                    · rw [HN.out]; simp, rfl⟩
                  case measure => simp [intOf]; omega
                | true =>
                  rw [hv] at ck
                  have HN : Hid (f k = true) := hv
                  clear hv
                  by_cases ht : to ≤ (k : Int)
                  · obtain rfl : r = false := RF.out (fun z => by have := z.2.2.2.2.2 k hk1 hlt HN.out; omega)
                    go_wp2
                    go_ret
                    exact ⟨rfl, ⟨A1.out.os, A1.out.tape, A1.out.output, A1.out.size, A1.out.block⟩⟩
                  · have HT : Hid (¬ to ≤ (k : Int)) := ht
                    go_wp2
                    go_roundw
                    case rel => exact ⟨k + 1, q, by omega, by omega, by go_num, fun j h1 h2 => by
                      rcases (show j < k ∨ j = k by omega) with g | rfl
                      · exact HJ.out j h1 g
                      · exact fun z => HT.out z.2, rfl⟩
                    case measure => simp [intOf]; omega
              · have x1 : ¬ (k : Int) < 32 := by omega
                obtain rfl : r = true := RT.out (lk_loop K se to f H1.out H2.out H3.out H5.out (fun i a b => HJ.out i a (by omega)))
                clear RF RT
                go_wp2
                go_ret
                exact ⟨rfl, ⟨A1.out.os, A1.out.tape, A1.out.output, A1.out.size, A1.out.block⟩⟩
          · obtain rfl : r = false := RF.out (fun q => h5 q.2.2.2.2.1)
            have g5 : (f 0 == decide (0 < to)) = false := by simpa using h5
            clear RF RT h5
            generalize f 0 = V at *
            go_enter Tryd.func72, Tryd.ntmps72
            go_wp2_with fail
            go_quiet (exact ((IN.out _ _).mono fun _ _ h => ⟨h.1, _, h.2.symm⟩))
            go_wp2
            go_ret
            exact ⟨rfl, ⟨A1.out.os, A1.out.tape, A1.out.output, A1.out.size, A1.out.block⟩⟩
        · obtain rfl : r = false := RF.out (fun q => h4 q.2.2.2.1)
          have g4 : ((n : Int) != 32) = true := by simp; omega
          clear RF RT HB h4
          go_enter Tryd.func72, Tryd.ntmps72
          go_wp2_with fail
          go_quiet (exact ((IN.out _ _).mono fun _ _ h => ⟨h.1, _, h.2.symm⟩))
          go_wp2
          go_ret
          exact ⟨rfl, ⟨A1.out.os, A1.out.tape, A1.out.output, A1.out.size, A1.out.block⟩⟩
      · obtain rfl : r = false := RF.out (fun q => h3 q.2.2.1)
        have d2 : inR to = false := by unfold inR; simpa using h3
        clear RF RT HB h3
        go_enter Tryd.func72, Tryd.ntmps72
        go_wp2_with fail
        go_quiet (exact ((IN.out _ _).mono fun _ _ h => ⟨h.1, _, h.2.symm⟩))
        go_wp2
        go_ret
        exact ⟨rfl, ⟨A1.out.os, A1.out.tape, A1.out.output, A1.out.size, A1.out.block⟩⟩
    · obtain rfl : r = false := RF.out (fun q => h2 q.2.1)
      have d1 : inR se = false := by unfold inR; simpa using h2
      clear RF RT HB h2
      go_enter Tryd.func72, Tryd.ntmps72
      go_wp2_with fail
      go_quiet (exact ((IN.out _ _).mono fun _ _ h => ⟨h.1, _, h.2.symm⟩))
      go_wp2
      go_ret
      exact ⟨rfl, ⟨A1.out.os, A1.out.tape, A1.out.output, A1.out.size, A1.out.block⟩⟩
  · obtain rfl : r = false := RF.out (fun q => h1 q.1)
    have g1 : ((K.size : Int) != 32) = true := by simp; omega
    clear RF RT HB
    go_enter Tryd.func72, Tryd.ntmps72
    go_wp2_with fail
    go_quiet (fail)
    go_wp2
    go_ret
    exact ⟨rfl, ⟨A1.out.os, A1.out.tape, A1.out.output, A1.out.size, A1.out.block⟩⟩
end Go.Proofs.YtkhglllicblbbaaDoor
