/-
  Contracts of padding in the model: l02Pad, l02Unpad, PadBlocks, UnpadBlocks.
-/
import Derived.Test.YtbhlgcenfanicaaSlices
import Derived.Test.YtbhlgcenfanicaaPadMath
namespace Go.Proofs.Ytbhlgcenfanicaa
open Go.ChangeShapes Go.WideShapes Go.ChangeAt Go.RowKit
theorem l01In_any (x a b : Int) (r : Bool) (hr : r = decide (a ≤ x ∧ x ≤ b)) (w : World) :
    Calls Try.prog 72 #[.int .i64 x, .int .i64 a, .int .i64 b] w fun e w' => e = .returned (.bool r) ∧ w = w' := by
  by_cases h1 : a ≤ x
  · by_cases h2 : x ≤ b
    · obtain rfl : r = true := by rw [hr]; simp; omega
      clear hr
      go_enter Try.func72, Try.ntmps72
      go_wp2
      go_ret
      exact ⟨rfl, rfl⟩
    · obtain rfl : r = false := by rw [hr]; simp; omega
      clear hr
      go_enter Try.func72, Try.ntmps72
      go_wp2
      go_ret
      exact ⟨rfl, rfl⟩
  · obtain rfl : r = false := by rw [hr]; simp; omega
    clear hr
    go_enter Try.func72, Try.ntmps72
    go_wp2
    go_ret
    exact ⟨rfl, rfl⟩
theorem one_new8 (w : World) (x : Nat) (t : TypeId) : ∀ j u, [Value.int .u8 (x : Nat)][j]? = some u → (w.alloc (.cells #[.int .u8 (x : Nat)] t)).cell? ((⟨w.heap.size, 0, none⟩ : Addr).add j) = some u := fun j u hj => by
  have hj0 : j = 0 := by have := (List.getElem?_eq_some_iff.1 hj).1; simp at this; omega
  subst hj0
  cases hj
  rw [Addr.add_lit]
  simp
theorem one_one8 (x : Nat) : ∀ u ∈ [Value.int .u8 (x : Nat)], u.oneCell' = true := fun u hu => by
  simp at hu
  subst hu
  rfl
set_option maxRecDepth 100000 in
set_option maxHeartbeats 1000000 in
/-- spec.l02Pad -/
theorem l02Pad_any (b o n c : Nat) (f : Nat → Nat) (hn : n ≤ 65536) (w : World) (h : Code8 w (some ⟨b, o, none⟩) n f) :
    Calls Try.prog 59 #[.slice (some ⟨b, o, none⟩) n c] w fun e w' => RetB w w' e (n + fillN n) (padF n f) ∧ Below w.heap.size w w' := by
  obtain ⟨i0, hi⟩ := info_parts Try.info8
  have HI : Hid (Try.prog.info? 5 = some i0 ∧ i0.zero = some (.int .u8 0) ∧ i0.size = 1 ∧ i0.bytes = 1) := hi
  obtain ⟨p, hp⟩ : ∃ p, p = fillN n := ⟨_, rfl⟩
  have hp1 : 1 ≤ p := by rw [hp]; exact (fillN_bd n).1
  have hp2 : p ≤ 16 := by rw [hp]; exact (fillN_bd n).2
  have e1 : 16 - (n : Int) % 16 = (p : Int) := by rw [hp]; unfold fillN; omega
  have e2 : (p : Int) % 256 = (p : Int) := by omega
  have HP : Hid (padF n f = fun i => if i < n then f i else p) := by rw [hp]; rfl
  have HC : Hid (Code8 w (some ⟨b, o, none⟩) n f) := h
  rw [HP.out, ← hp]
  clear h hi hp HP
  go_enter Try.func59, Try.ntmps59
  go_wp2_with (at_builtin; refine wpList_append_own _ rfl _ _ 22 rfl w.heap.size 5 i0 (.int .u8 0) 1 1 Try.underlying22 HI.out.1 HI.out.2.1 HI.out.2.2.1 HI.out.2.2.2 rfl (by decide) _ _ _ rfl (World.ownsRow_made w #[] 0 (Nat.le_refl _) (Nat.zero_le _) (by simp)) ⟨b, o, none⟩ n c (bv n f) rfl (by rw [bv_length, Nat.mul_one]) ?qc2 (bv_one n f) (by unfold maxLen; omega) (by omega) (by simp) ?_)
  case qc2 =>
    intro j u hj
    exact Lib.cell?_alloc_some _ (bv_news HC.out j u hj)
  intro v' w1 hown hgrow hnil
  have HB : Hid (Below w.heap.size w w1) := ((Below.refl _ w).alloc (Nat.le_refl _) _).grown hgrow (by simp) (by intro k hk; simp [Value.ownBlock] at hk; omega)
  obtain ⟨b', c', hb', rfl, -⟩ := own8_of_own hown hnil
  have HO : Hid (w1.ownsRow w.heap.size 5 1 (.slice (some ⟨b', 0, none⟩) n c') n (bv n (fun i => if i < n then f i else p))) := by
    have e : bv n (fun i => if i < n then f i else p) = bv n f := bv_congr (fun i hi => by rw [if_pos hi])
    show w1.ownsRow _ _ _ _ _ _
    rw [e]; exact hown
  clear hown hgrow hnil HC
  go_wp2_with fail
  go_loopw [3, 5] (fun x i wr => ∃ k b' c' : Nat, k ≤ p ∧ i = .int .i64 k ∧ x = .slice (some ⟨b', 0, none⟩) (n + k) c' ∧ wr.ownsRow w.heap.size 5 1 (.slice (some ⟨b', 0, none⟩) (n + k) c') (n + k) (bv (n + k) (fun i => if i < n then f i else p)) ∧ Below w.heap.size w wr) (fun _ i _ => p - (intOf i).toNat)
  case atStart => exact ⟨0, b', c', by omega, rfl, rfl, HO.out, HB.out⟩
  case round =>
    clear HO HB
    obtain ⟨k, b1, c1, hk, rfl, rfl, ho, hb⟩ := hrel
    have HO : Hid (wr.ownsRow w.heap.size 5 1 (.slice (some ⟨b1, 0, none⟩) (n + k) c1) (n + k) (bv (n + k) (fun i => if i < n then f i else p))) := ho
    have HB : Hid (Below w.heap.size w wr) := hb
    have hsz := hb.size
    clear ho hb
    by_cases hlt : k < p
    · have g1 : (k : Int) < (p : Int) := by omega
      go_wp2_with (at_builtin; refine wpList_append_own _ rfl _ _ 22 rfl w.heap.size 5 i0 (.int .u8 0) 1 1 Try.underlying22 HI.out.1 HI.out.2.1 HI.out.2.2.1 HI.out.2.2.2 rfl (by decide) _ _ _ rfl (HO.out.alloc _) ⟨wr.heap.size, 0, none⟩ 1 1 [.int .u8 (p : Nat)] rfl rfl (one_new8 _ _ _) (one_one8 _) (by unfold maxLen; omega) (by omega) (by simp; omega) ?_)
      intro v2 w2 hown2 hgrow2 hnil2
      have BG := grown_below (HO.out.alloc _) hgrow2 (by simp; omega)
      have HB2 : Hid (Below w.heap.size w w2) := (HB.out.alloc hsz _).trans BG
      have hown3 : w2.ownsRow w.heap.size 5 1 v2 (n + (k + 1)) (bv (n + (k + 1)) (fun i => if i < n then f i else p)) := by
        have e := bv_snoc (n + k) (fun i => if i < n then f i else p)
        rw [if_neg (by omega)] at e
        rw [← Nat.add_assoc, ← e]; exact hown2
      obtain ⟨b3, c3, hb3, rfl, -⟩ := own8_of_own hown3 hnil2
      have HO3 : Hid (w2.ownsRow w.heap.size 5 1 (.slice (some ⟨b3, 0, none⟩) (n + (k + 1)) c3) (n + (k + 1)) (bv (n + (k + 1)) (fun i => if i < n then f i else p))) := hown3
      clear hown2 hown3 hgrow2 hnil2 BG HO HB
      go_wp2
      go_roundw
      case rel => exact ⟨k + 1, b3, c3, by omega, by go_num, rfl, HO3.out, HB2.out⟩
      case measure => simp [intOf]; omega
    · obtain rfl : k = p := by omega
      obtain ⟨b3, c3, hb3, e3, ho3⟩ := own8_of_own HO.out (by intro h; cases h)
      cases e3
      have HO3 : Hid (Own8 wr b1 (n + k) (fun i => if i < n then f i else k)) := ho3
      have g1 : ¬ (k : Int) < (k : Int) := by omega
      clear ho3 HO
      go_wp2
      go_ret
      exact ⟨⟨_, _, hb3, rfl, HO3.out⟩, HB.out⟩
set_option maxRecDepth 100000 in
set_option maxHeartbeats 1000000 in
/-- spec.l02Unpad -/
theorem l02Unpad_any (a : Option Addr) (n c : Nat) (f : Nat → Nat) (hf : ∀ i, f i < 256) (hn : n ≤ 65536) (hnc : n ≤ c) (w : World) (h : Code8 w a n f) (sz : Nat) (r : Bool) (hr : (UnOK n f ∧ sz = n - f (n - 1) ∧ r = true) ∨ (¬ UnOK n f ∧ sz = 0 ∧ r = false)) :
    Calls Try.prog 45 #[.slice a n c] w fun e w' => RetB2 w w' e sz f (.bool r) ∧ Below w.heap.size w w' := by
  by_cases h0 : n = 0
  · subst h0
    have hu : ¬ UnOK 0 f := fun h => by have := h.1; omega
    obtain ⟨rfl, rfl⟩ : sz = 0 ∧ r = false := by rcases hr with ⟨h, _⟩ | ⟨_, h⟩; exact absurd h hu; exact h
    go_enter Try.func45, Try.ntmps45
    go_wp2
    go_ret2
    exact ⟨RetB2.made w f _, (Below.refl _ _).alloc (Nat.le_refl _) _⟩
  · have e0 : ((n : Int) == 0) = false := by rw [beq_eq_false_iff_ne]; omega
    by_cases h1 : n % 16 = 0
    · obtain ⟨b, o, rfl, hc⟩ := h.opened (by omega)
      have e1 : ((n : Int) % 16 != 0) = false := by rw [bne_eq_false_iff_eq]; omega
      have c1 := hc (n - 1) (by omega)
      have HC : Hid (∀ i, i < n → w.cell? ⟨b, o + i, none⟩ = some (.int .u8 (f i : Nat))) := hc
      have HH : Hid (Code8 w (some ⟨b, o, none⟩) n f) := h
      have l1 := hf (n - 1)
      have ei : ((n : Int) - 1) = ((n - 1 : Nat) : Int) := by omega
      have x1 : (0 : Int) ≤ ((n - 1 : Nat) : Int) := by omega
      have x2 : ((n - 1 : Nat) : Int) < (n : Int) := by omega
      have LI : Hid (∀ w : World, Calls Try.prog 72 #[.int .i64 ((f (n - 1) : Nat) : Int), .int .i64 1, .int .i64 16] w fun e w' => e = .returned (.bool (decide (1 ≤ ((f (n - 1) : Nat) : Int) ∧ ((f (n - 1) : Nat) : Int) ≤ 16))) ∧ w = w') := fun w => l01In_any _ _ _ _ rfl w
      have HF : Hid (∀ i, f i < 256) := hf
      clear h hc hf
      by_cases h2 : 1 ≤ f (n - 1) ∧ f (n - 1) ≤ 16
      · have HU : Hid ((∀ i, n - f (n - 1) ≤ i → i < n → f i = f (n - 1)) → (sz = n - f (n - 1) ∧ r = true)) := fun hall => by
          rcases hr with ⟨_, h⟩ | ⟨h, _⟩
          · exact h
          · exact absurd ⟨by omega, h1, h2.1, h2.2, hall⟩ h
        have HN : Hid (∀ i, n - f (n - 1) ≤ i → i < n → f i ≠ f (n - 1) → (sz = 0 ∧ r = false)) := fun i hi1 hi2 hne => by
          rcases hr with ⟨h, _⟩ | ⟨_, h⟩
          · exact absurd (h.2.2.2.2 i hi1 hi2) hne
          · exact h
        obtain ⟨h2a, h2b⟩ := h2
        have dd : decide (1 ≤ ((f (n - 1) : Nat) : Int) ∧ ((f (n - 1) : Nat) : Int) ≤ 16) = true := by simp; omega
        rw [dd] at LI
        clear hr dd
        generalize f (n - 1) = F at *
        have hFn : F ≤ n := by omega
        have y1 : (0 : Int) ≤ (n : Int) - (F : Int) := by omega
        have y2 : (n : Int) - (F : Int) ≤ (c : Int) := by omega
        have y4 : ((n : Int) - (F : Int)).toNat = n - F := by omega
        go_enter Try.func45, Try.ntmps45
        go_wp2_with fail
        refine (LI.out _).mono ?_
        rintro e w1 ⟨rfl, rfl⟩
        go_wp2
        go_loop [5] (fun i => ∃ k : Nat, k ≤ F ∧ i = .int .i64 ((n : Int) - (F : Int) + (k : Int)) ∧ ∀ j, j < k → f (n - F + j) = F) (fun i => n - (intOf i).toNat)
        case atStart => exact ⟨0, by omega, numEq8 (by omega), fun j hj => absurd hj (by omega)⟩
        case round =>
          obtain ⟨k, hk, rfl, hall⟩ := hrel
          have HA : Hid (∀ j, j < k → f (n - F + j) = F) := hall
          have ek : ((n : Int) - (F : Int) + (k : Int)) = ((n - F + k : Nat) : Int) := by omega
          clear hall
          by_cases hlt : k < F
          · have c2 := HC.out (n - F + k) (by omega)
            have g0 : (0 : Int) ≤ ((n - F + k : Nat) : Int) := by omega
            have g1 : ((n - F + k : Nat) : Int) < (n : Int) := by omega
            have lk := HF.out (n - F + k)
            have ek1 : ((n - F + k : Nat) : Int) + 1 = (n : Int) - (F : Int) + ((k + 1 : Nat) : Int) := by omega
            have EK1 : Hid (((n - F + k : Nat) : Int) + 1 = (n : Int) - (F : Int) + ((k + 1 : Nat) : Int)) := ek1
            have hms : n - (((n - F + k : Nat) : Int) + 1).toNat < n - ((n - F + k : Nat) : Int).toNat := by omega
            clear ek1
            by_cases he : f (n - F + k) = F
            · have g2 : (((f (n - F + k) : Nat) : Int) != (F : Int)) = false := by rw [bne_eq_false_iff_eq]; omega
              have HE : Hid (∀ j, j < k + 1 → f (n - F + j) = F) := fun j hj => by
                by_cases ej : j = k
                · rw [ej]; exact he
                · exact HA.out j (by omega)
              clear he
              generalize f (n - F + k) = V at *
              rw [ek]
              clear ek
              generalize n - F + k = X at *
              go_wp2
              go_round
              case rel => exact ⟨k + 1, by omega, numEq8 EK1.out, HE.out⟩
              case measure => simp [intOf]; omega
            · have g2 : (((f (n - F + k) : Nat) : Int) != (F : Int)) = true := by rw [bne_iff_ne]; omega
              obtain ⟨rfl, rfl⟩ := HN.out (n - F + k) (by omega) (by omega) he
              clear he
              generalize f (n - F + k) = V at *
              rw [ek]
              clear ek
              generalize n - F + k = X at *
              go_wp2
              go_ret2
              exact ⟨RetB2.made w f _, (Below.refl _ _).alloc (Nat.le_refl _) _⟩
          · obtain ⟨rfl, rfl⟩ := HU.out (fun i hi1 hi2 => by
              have := HA.out (i - (n - F)) (by omega)
              rwa [show n - F + (i - (n - F)) = i from by omega] at this)
            have g1 : ¬ ((n : Int) - (F : Int) + (k : Int)) < (n : Int) := by omega
            obtain ⟨i0, hi⟩ := info_parts Try.info8
            have HI : Hid (Try.prog.info? 5 = some i0 ∧ i0.zero = some (.int .u8 0) ∧ i0.size = 1 ∧ i0.bytes = 1) := hi
            have HC2 : Hid (Code8 w (some ⟨b, o, none⟩) (n - F) f) := HH.out.part (by omega)
            clear hi ek HU HN HA
            go_wp2_with (at_builtin; refine wpList_append_own _ rfl _ _ 22 rfl w.heap.size 5 i0 (.int .u8 0) 1 1 Try.underlying22 HI.out.1 HI.out.2.1 HI.out.2.2.1 HI.out.2.2.2 rfl (by decide) _ _ _ rfl (World.ownsRow_made w #[] 0 (Nat.le_refl _) (Nat.zero_le _) (by simp)) ⟨b, o, none⟩ (n - F) c (bv (n - F) f) rfl (by rw [bv_length, Nat.mul_one]) ?qc2 (bv_one (n - F) f) (by unfold maxLen; omega) (by omega) (by simp) ?_)
            case qc2 =>
              intro j u hj
              exact Lib.cell?_alloc_some _ (by have := bv_news HC2.out j u hj; rwa [Addr.add_lit] at this)
            intro v' w1 hown hgrow hnil
            have HB : Hid (Below w.heap.size w w1) := ((Below.refl _ w).alloc (Nat.le_refl _) _).grown hgrow (by simp) (by intro k hk; simp [Value.ownBlock] at hk; omega)
            obtain ⟨b', c', hb', rfl, ho⟩ := own8_of_own hown hnil
            have HO : Hid (Own8 w1 b' (n - F) f) := ho
            clear hown hgrow hnil ho
            go_wp2
            go_ret2
            exact ⟨⟨_, _, hb', rfl, HO.out⟩, HB.out⟩
      · obtain ⟨rfl, rfl⟩ : sz = 0 ∧ r = false := by
          rcases hr with ⟨h, _⟩ | ⟨_, h⟩
          · exact absurd ⟨h.2.2.1, h.2.2.2.1⟩ h2
          · exact h
        have dd : decide (1 ≤ ((f (n - 1) : Nat) : Int) ∧ ((f (n - 1) : Nat) : Int) ≤ 16) = false := by simp; omega
        rw [dd] at LI
        clear hr dd
        generalize f (n - 1) = F at *
        go_enter Try.func45, Try.ntmps45
        go_wp2_with fail
        refine (LI.out _).mono ?_
        rintro e w1 ⟨rfl, rfl⟩
        go_wp2
        go_ret2
        exact ⟨RetB2.made w f _, (Below.refl _ _).alloc (Nat.le_refl _) _⟩
    · have hu : ¬ UnOK n f := fun h => h1 h.2.1
      obtain ⟨rfl, rfl⟩ : sz = 0 ∧ r = false := by rcases hr with ⟨h, _⟩ | ⟨_, h⟩; exact absurd h hu; exact h
      have e1 : ((n : Int) % 16 != 0) = true := by rw [bne_iff_ne]; omega
      clear hr hu h
      go_enter Try.func45, Try.ntmps45
      go_wp2
      go_ret2
      exact ⟨RetB2.made w f _, (Below.refl _ _).alloc (Nat.le_refl _) _⟩
end Go.Proofs.Ytbhlgcenfanicaa
