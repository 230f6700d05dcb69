/-
  The model: the number that a word tells (l00Number).
-/
import Derived.Test.YthebbijbedffpaaDoorRlC
namespace Go.Proofs.YthebbijbedffpaaDoor
open Go.ChangeShapes Go.WideShapes Go.ChangeAt Go.RowKit
set_option linter.unusedVariables false
/-- The number that the first i signs tell. -/
def vN (u : ByteArray) (i : Nat) : Nat := valL 0 (u.data.toList.take i)
def dgs (u : ByteArray) (i : Nat) : Prop := ∀ j, j < i → 48 ≤ byteAt u j ∧ byteAt u j ≤ 57
theorem lst_at (u : ByteArray) (i : Nat) (h : i < u.size) : ∃ c : UInt8, u.data.toList[i]? = some c ∧ (c.toNat : Int) = byteAt u i := by
  refine ⟨u[i], ?_, byteAt_eq u i h⟩
  rw [Array.getElem?_toList]
  exact Array.getElem?_eq_getElem h
theorem dig_at {u : ByteArray} {i : Nat} {c : UInt8} (h : (c.toNat : Int) = byteAt u i) : digB c = true ↔ 48 ≤ byteAt u i ∧ byteAt u i ≤ 57 := by
  unfold digB
  rw [decide_eq_true_iff, ← h]
  omega
theorem len_lst (u : ByteArray) : u.data.toList.length = u.size := rfl
theorem take_at {u : ByteArray} {i : Nat} {c : UInt8} (h : u.data.toList[i]? = some c) : u.data.toList.take (i + 1) = u.data.toList.take i ++ [c] := by
  rw [List.take_add_one, h]; rfl
theorem vN_succ {u : ByteArray} {i : Nat} (h : i < u.size) (hd : 48 ≤ byteAt u i ∧ byteAt u i ≤ 57) : (vN u (i + 1) : Int) = (vN u i : Int) * 10 + byteAt u i - 48 := by
  obtain ⟨c, hc, he⟩ := lst_at u i h
  unfold vN
  rw [take_at hc, valL_snoc]
  omega
theorem dgs_all {u : ByteArray} : ∀ {i : Nat}, i ≤ u.size → dgs u i → (u.data.toList.take i).all digB = true
  | 0, _, _ => rfl
  | i + 1, h, hd => by
    obtain ⟨c, hc, he⟩ := lst_at u i h
    rw [take_at hc, List.all_append, dgs_all (by omega) (fun j hj => hd j (by omega))]
    simp [(dig_at he).2 (hd i (by omega))]
theorem vN_lt {u : ByteArray} {i : Nat} (h : i ≤ u.size) (hd : dgs u i) : vN u i < 10 ^ i := by
  have := valL_lt (u.data.toList.take i) 0 0 (dgs_all h hd) (by simp)
  rw [Nat.zero_add, List.length_take, len_lst, Nat.min_eq_left h] at this
  exact this
theorem vN_18 {u : ByteArray} {i : Nat} (h : i ≤ u.size) (hd : dgs u i) (hi : i ≤ 17) : vN u i < 100000000000000000 := Nat.lt_of_lt_of_le (vN_lt h hd) (Nat.pow_le_pow_right (n := 10) (by omega) hi)
theorem vN_19 {u : ByteArray} {i : Nat} (h : i ≤ u.size) (hd : dgs u i) (hi : i ≤ 18) : vN u i < 1000000000000000000 := Nat.lt_of_lt_of_le (vN_lt h hd) (Nat.pow_le_pow_right (n := 10) (by omega) hi)
theorem all_dgs {u : ByteArray} (h : u.data.toList.all digB = true) : dgs u u.size := fun j hj => by
  obtain ⟨c, hc, he⟩ := lst_at u j hj
  exact (dig_at he).1 (List.all_eq_true.1 h c (List.mem_of_getElem? hc))
theorem head_at {u : ByteArray} (h : 0 < u.size) (k : UInt8) : u.data.toList.head? = some k ↔ byteAt u 0 = k.toNat := by
  obtain ⟨c, hc, he⟩ := lst_at u 0 h
  rw [List.head?_eq_getElem?, hc, ← he]
  constructor
  · intro e; cases e; rfl
  · intro e; exact congrArg some (UInt8.toNat_inj.1 (by omega))
/-- u is what is left of s behind a sign, if there is one. -/
def Sgn (s u : ByteArray) (sg : Int) : Prop := (sg = -1 ∧ s.data.toList.head? = some 45 ∧ u.data.toList = s.data.toList.tail) ∨ (sg = 1 ∧ s.data.toList.head? ≠ some 45 ∧ u = s)
theorem sgn_no {s : ByteArray} (h : ¬ (0 < s.size ∧ byteAt s 0 = 45)) : Sgn s s 1 := .inr ⟨rfl, fun e => h (by
  have hs : 0 < s.size := by
    rcases Nat.eq_zero_or_pos s.size with z | z
    · rw [List.head?_eq_getElem?, List.getElem?_eq_none (by rw [len_lst]; omega)] at e; cases e
    · exact z
  exact ⟨hs, (head_at hs 45).1 e⟩), rfl⟩
theorem sgn_yes {s : ByteArray} (h : 0 < s.size) (hb : byteAt s 0 = 45) : Sgn s (s.extract 1 s.size) (-1) := .inl ⟨rfl, (head_at h 45).2 hb, by
  rw [ByteArray.data_extract, Array.toList_extract, List.extract_eq_take_drop, List.drop_one]
  exact List.take_of_length_le (by rw [List.length_tail]; exact Nat.le_refl _)⟩
theorem num_bad {s u : ByteArray} {sg : Int} (h : Sgn s u sg) (hb : u.size = 0 ∨ 18 < u.size ∨ (byteAt u 0 = 48 ∧ (1 < u.size ∨ sg = -1))) : numL s.data.toList = none := by
  have key : ∀ l, l = u.data.toList → canL l → l.length ≤ 18 → byteAt u 0 = 48 ∧ u.size = 1 ∧ sg = -1 := by
    rintro l rfl ⟨h1, h2, h3⟩ h4
    rw [len_lst] at h4
    have h5 : 0 < u.size := by
      rcases Nat.eq_zero_or_pos u.size with z | z
      · exact absurd (List.length_eq_zero_iff.1 (by rw [len_lst]; exact z)) h2
      · exact z
    rcases hb with z | z | ⟨z1, z2⟩
    · omega
    · omega
    · rcases h3 with q | q
      · rw [len_lst] at q
        rcases z2 with y | y
        · omega
        · exact ⟨z1, q, y⟩
      · exact absurd ((head_at h5 48).2 z1) q
  unfold numL
  rcases h with ⟨e1, e2, e3⟩ | ⟨e1, e2, e3⟩
  · rw [if_pos e2, if_neg]
    rintro ⟨c1, c2, c3⟩
    obtain ⟨k1, k2, k3⟩ := key _ e3.symm c1 c3
    rw [← e3] at c2
    exact c2 ((head_at (by omega) 48).2 k1)
  · rw [if_neg e2, if_neg]
    rintro ⟨c1, c3⟩
    obtain ⟨k1, k2, k3⟩ := key _ (by rw [e3]) c1 c3
    omega
theorem num_letter {s u : ByteArray} {sg : Int} (h : Sgn s u sg) {i : Nat} (hi : i < u.size) (hd : ¬ (48 ≤ byteAt u i ∧ byteAt u i ≤ 57)) : numL s.data.toList = none := by
  have key : ∀ l, l = u.data.toList → ¬ canL l := by
    rintro l rfl ⟨h1, h2, h3⟩
    exact hd (all_dgs h1 i hi)
  unfold numL
  rcases h with ⟨e1, e2, e3⟩ | ⟨e1, e2, e3⟩
  · rw [if_pos e2, if_neg (fun c => key _ e3.symm c.1)]
  · rw [if_neg e2, if_neg (fun c => key _ (by rw [e3]) c.1)]
theorem num_good {s u : ByteArray} {sg : Int} (h : Sgn s u sg) (h0 : 0 < u.size) (h18 : u.size ≤ 18) (hz : byteAt u 0 = 48 → u.size = 1 ∧ sg = 1) (hd : dgs u u.size) : numL s.data.toList = some (sg * (vN u u.size : Int)) := by
  have hv : vN u u.size = valL 0 u.data.toList := by unfold vN; rw [← len_lst, List.take_length]
  have hc : canL u.data.toList := by
    refine ⟨?_, fun e => by have := congrArg List.length e; rw [len_lst] at this; exact absurd this (by show ¬ u.size = 0; omega), ?_⟩
    · have := dgs_all (Nat.le_refl _) hd
      rwa [← len_lst, List.take_length] at this
    · by_cases hb : byteAt u 0 = 48
      · exact .inl (by rw [len_lst]; exact (hz hb).1)
      · exact .inr (fun e => hb ((head_at h0 48).1 e))
  unfold numL
  rw [hv]
  rcases h with ⟨e1, e2, e3⟩ | ⟨e1, e2, e3⟩
  · rw [if_pos e2, ← e3, if_pos ⟨hc, fun e => by have := (hz ((head_at h0 48).1 e)).2; omega, by rw [len_lst]; exact h18⟩, e1]
    exact congrArg some (by omega)
  · rw [if_neg e2, ← e3, if_pos ⟨hc, by rw [len_lst]; exact h18⟩, e1]
    exact congrArg some (by omega)
set_option maxRecDepth 100000 in
set_option maxHeartbeats 4000000 in
theorem l00Number_any (s : ByteArray) (hs : s.size ≤ 65536) (w : World) :
    Calls Tryd.prog 38 #[.string s] w fun e w' => e = .returned (.tuple #[.int .i64 ((numL s.data.toList).getD 0), .bool (numL s.data.toList).isSome]) ∧ w' = w := by
  have s1 : (s.size : Int) ≤ 65536 := by omega
  obtain ⟨r, hr⟩ : ∃ r, numL s.data.toList = r := ⟨_, rfl⟩
  rw [hr]
  have HR : Hid (numL s.data.toList = r) := hr
  clear hr
  go_enter Tryd.func38, Tryd.ntmps38
  by_cases hb : 0 < s.size ∧ byteAt s 0 = 45
  · obtain ⟨h0, hb⟩ := hb
    have h0' : (0 : Int) < (s.size : Int) := by omega
    have e0 := byteAt_eq s 0 h0
    have g0 : (byteAt s 0 == 45) = true := by simpa using hb
    have HS0 : Hid (Sgn s (s.extract 1 s.size) (-1)) := sgn_yes h0 hb
    have l1 : (1 : Int) ≤ (s.size : Int) := by omega
    have hu : (s.extract 1 s.size).size = s.size - 1 := by rw [ByteArray.size_extract]; omega
    obtain ⟨u, hu2⟩ : ∃ u, s.extract 1 s.size = u := ⟨_, rfl⟩
    rw [hu2] at HS0 hu
    have HS : Hid (Sgn s u (-1)) := HS0
    have hu3 : u.size ≤ 65536 := by omega
    clear hu HS0
    have s2 : (u.size : Int) ≤ 65536 := by omega
    by_cases p0 : 0 < u.size
    · have p0' : ((u.size : Int) == 0) = false := by rw [beq_eq_false_iff_ne]; omega
      have p0'' : (0 : Int) < (u.size : Int) := by omega
      have eu := byteAt_eq u 0 p0
      by_cases p18 : u.size ≤ 18
      · have p18' : ¬ (18 : Int) < (u.size : Int) := by omega
        by_cases pb : byteAt u 0 = 48
        · have gb : (byteAt u 0 == 48) = true := by simpa using pb
          by_cases p1 : 1 < u.size
          · have p1' : (1 : Int) < (u.size : Int) := by omega
            have HN : Hid (r = none) := HR.out.symm.trans (num_bad HS.out (.inr (.inr ⟨pb, .inl p1⟩)))
            go_wp2
            go_ret2
            exact ⟨by rw [HN.out]; rfl, rfl⟩
          · have p1' : ¬ (1 : Int) < (u.size : Int) := by omega
            have HN : Hid (r = none) := HR.out.symm.trans (num_bad HS.out (.inr (.inr ⟨pb, .inr rfl⟩)))
            go_wp2
            go_ret2
            exact ⟨by rw [HN.out]; rfl, rfl⟩
        · have gb : (byteAt u 0 == 48) = false := by simpa using pb
          have pz : Hid (byteAt u 0 = 48 → u.size = 1 ∧ (-1 : Int) = 1) := fun h => absurd h pb
          go_wp2
          go_loopw [5, 6] (fun n i wr => ∃ k : Nat, k ≤ u.size ∧ dgs u k ∧ n = .int .i64 (vN u k : Int) ∧ i = .int .i64 (k : Int) ∧ wr = w) (fun _ i _ => u.size - (intOf i).toNat)
          case atStart => exact ⟨0, Nat.zero_le _, fun j hj => absurd hj (Nat.not_lt_zero j), rfl, rfl, rfl⟩
          case round =>
            obtain ⟨k, hk, hd, rfl, rfl, hw2⟩ := hrel
            have HW2 : Hid (wr = w) := hw2
            have HD : Hid (dgs u k) := hd
            clear hw2 hd
            have hv := vN_19 hk HD.out (by omega)
            by_cases hk1 : k < u.size
            · have hk1' : (k : Int) < (u.size : Int) := by omega
              have hv2 := vN_18 hk HD.out (by omega)
              have ek := byteAt_eq u k hk1
              by_cases d1 : byteAt u k < 48
              · have HN : Hid (r = none) := HR.out.symm.trans (num_letter HS.out hk1 (by omega))
                clear hv hv2
                generalize vN u k = v at *
                go_wp2
                go_ret2
                exact ⟨by rw [HN.out]; rfl, HW2.out⟩
              · by_cases d2 : 57 < byteAt u k
                · have HN : Hid (r = none) := HR.out.symm.trans (num_letter HS.out hk1 (by omega))
                  clear hv hv2
                  generalize vN u k = v at *
                  go_wp2
                  go_ret2
                  exact ⟨by rw [HN.out]; rfl, HW2.out⟩
                · have VS : Hid ((vN u (k + 1) : Int) = (vN u k : Int) * 10 + byteAt u k - 48) := vN_succ hk1 (by omega)
                  have D2 : Hid (dgs u (k + 1)) := fun j hj => by
                    rcases Nat.lt_or_ge j k with z | z
                    · exact HD.out j z
                    · obtain rfl : j = k := by omega
                      omega
                  generalize vN u k = v at *
                  have b1 : (v : Int) < 100000000000000000 := by omega
                  have b2 : 48 ≤ byteAt u k := by omega
                  have b3 : byteAt u k ≤ 57 := by omega
                  clear HD hv hv2
                  generalize byteAt u k = bk at *
                  go_wp2
                  go_roundw
                  case rel => exact ⟨k + 1, hk1, D2.out, by first | (rw [VS.out]; done) | (rw [VS.out]; go_num), by go_num, HW2.out⟩
                  case measure => first | (simp [intOf]; omega) | simp [intOf]
            · have hk1' : ¬ (k : Int) < (u.size : Int) := by omega
              obtain rfl : k = u.size := by omega
              have HN : Hid (r = some (-1 * (vN u u.size : Int))) := HR.out.symm.trans (num_good HS.out p0 p18 pz.out HD.out)
              clear HD
              have b1 : (vN u u.size : Int) < 1000000000000000000 := by omega
              generalize vN u u.size = v at *
              clear hv
              go_wp2
              go_ret2
              exact ⟨by rw [HN.out]; first | rfl | (simp; done) | (simp; omega), HW2.out⟩
      · have p18' : (18 : Int) < (u.size : Int) := by omega
        have HN : Hid (r = none) := HR.out.symm.trans (num_bad HS.out (.inr (.inl (by omega))))
        go_wp2
        go_ret2
        exact ⟨by rw [HN.out]; rfl, rfl⟩
    · have p0' : ((u.size : Int) == 0) = true := by rw [beq_iff_eq]; omega
      have HN : Hid (r = none) := HR.out.symm.trans (num_bad HS.out (.inl (by omega)))
      go_wp2
      go_ret2
      exact ⟨by rw [HN.out]; rfl, rfl⟩
  · have HS : Hid (Sgn s s 1) := sgn_no hb
    by_cases h0 : 0 < s.size
    · have h0' : (0 : Int) < (s.size : Int) := by omega
      have e0 := byteAt_eq s 0 h0
      have g0 : (byteAt s 0 == 45) = false := by
        rw [beq_eq_false_iff_ne]
        exact fun e => hb ⟨h0, e⟩
      clear hb
      have s2 : (s.size : Int) ≤ 65536 := by omega
      by_cases p0 : 0 < s.size
      · have p0' : ((s.size : Int) == 0) = false := by rw [beq_eq_false_iff_ne]; omega
        have p0'' : (0 : Int) < (s.size : Int) := by omega
        have eu := byteAt_eq s 0 p0
        by_cases p18 : s.size ≤ 18
        · have p18' : ¬ (18 : Int) < (s.size : Int) := by omega
          by_cases pb : byteAt s 0 = 48
          · have gb : (byteAt s 0 == 48) = true := by simpa using pb
            by_cases p1 : 1 < s.size
            · have p1' : (1 : Int) < (s.size : Int) := by omega
              have HN : Hid (r = none) := HR.out.symm.trans (num_bad HS.out (.inr (.inr ⟨pb, .inl p1⟩)))
              go_wp2
              go_ret2
              exact ⟨by rw [HN.out]; rfl, rfl⟩
            · have p1' : ¬ (1 : Int) < (s.size : Int) := by omega
              have pz : Hid (byteAt s 0 = 48 → s.size = 1 ∧ (1 : Int) = 1) := fun _ => ⟨by omega, rfl⟩
              go_wp2
              go_loopw [5, 6] (fun n i wr => ∃ k : Nat, k ≤ s.size ∧ dgs s k ∧ n = .int .i64 (vN s k : Int) ∧ i = .int .i64 (k : Int) ∧ wr = w) (fun _ i _ => s.size - (intOf i).toNat)
              case atStart => exact ⟨0, Nat.zero_le _, fun j hj => absurd hj (Nat.not_lt_zero j), rfl, rfl, rfl⟩
              case round =>
                obtain ⟨k, hk, hd, rfl, rfl, hw2⟩ := hrel
                have HW2 : Hid (wr = w) := hw2
                have HD : Hid (dgs s k) := hd
                clear hw2 hd
                have hv := vN_19 hk HD.out (by omega)
                by_cases hk1 : k < s.size
                · have hk1' : (k : Int) < (s.size : Int) := by omega
                  have hv2 := vN_18 hk HD.out (by omega)
                  have ek := byteAt_eq s k hk1
                  by_cases d1 : byteAt s k < 48
                  · have HN : Hid (r = none) := HR.out.symm.trans (num_letter HS.out hk1 (by omega))
                    clear hv hv2
                    generalize vN s k = v at *
                    go_wp2
                    go_ret2
                    exact ⟨by rw [HN.out]; rfl, HW2.out⟩
                  · by_cases d2 : 57 < byteAt s k
                    · have HN : Hid (r = none) := HR.out.symm.trans (num_letter HS.out hk1 (by omega))
                      clear hv hv2
                      generalize vN s k = v at *
                      go_wp2
                      go_ret2
                      exact ⟨by rw [HN.out]; rfl, HW2.out⟩
                    · have VS : Hid ((vN s (k + 1) : Int) = (vN s k : Int) * 10 + byteAt s k - 48) := vN_succ hk1 (by omega)
                      have D2 : Hid (dgs s (k + 1)) := fun j hj => by
                        rcases Nat.lt_or_ge j k with z | z
                        · exact HD.out j z
                        · obtain rfl : j = k := by omega
                          omega
                      generalize vN s k = v at *
                      have b1 : (v : Int) < 100000000000000000 := by omega
                      have b2 : 48 ≤ byteAt s k := by omega
                      have b3 : byteAt s k ≤ 57 := by omega
                      clear HD hv hv2
                      generalize byteAt s k = bk at *
                      go_wp2
                      go_roundw
                      case rel => exact ⟨k + 1, hk1, D2.out, by first | (rw [VS.out]; done) | (rw [VS.out]; go_num), by go_num, HW2.out⟩
                      case measure => first | (simp [intOf]; omega) | simp [intOf]
                · have hk1' : ¬ (k : Int) < (s.size : Int) := by omega
                  obtain rfl : k = s.size := by omega
                  have HN : Hid (r = some (1 * (vN s s.size : Int))) := HR.out.symm.trans (num_good HS.out p0 p18 (fun h => ⟨(pz.out h).1, rfl⟩) HD.out)
                  clear HD
                  have b1 : (vN s s.size : Int) < 1000000000000000000 := by omega
                  generalize vN s s.size = v at *
                  clear hv
                  go_wp2
                  go_ret2
                  exact ⟨by rw [HN.out]; first | rfl | (simp; done) | (simp; omega), HW2.out⟩
          · have gb : (byteAt s 0 == 48) = false := by simpa using pb
            have pz : Hid (byteAt s 0 = 48 → s.size = 1 ∧ (1 : Int) = 1) := fun h => absurd h pb
            go_wp2
            go_loopw [5, 6] (fun n i wr => ∃ k : Nat, k ≤ s.size ∧ dgs s k ∧ n = .int .i64 (vN s k : Int) ∧ i = .int .i64 (k : Int) ∧ wr = w) (fun _ i _ => s.size - (intOf i).toNat)
            case atStart => exact ⟨0, Nat.zero_le _, fun j hj => absurd hj (Nat.not_lt_zero j), rfl, rfl, rfl⟩
            case round =>
              obtain ⟨k, hk, hd, rfl, rfl, hw2⟩ := hrel
              have HW2 : Hid (wr = w) := hw2
              have HD : Hid (dgs s k) := hd
              clear hw2 hd
              have hv := vN_19 hk HD.out (by omega)
              by_cases hk1 : k < s.size
              · have hk1' : (k : Int) < (s.size : Int) := by omega
                have hv2 := vN_18 hk HD.out (by omega)
                have ek := byteAt_eq s k hk1
                by_cases d1 : byteAt s k < 48
                · have HN : Hid (r = none) := HR.out.symm.trans (num_letter HS.out hk1 (by omega))
                  clear hv hv2
                  generalize vN s k = v at *
                  go_wp2
                  go_ret2
                  exact ⟨by rw [HN.out]; rfl, HW2.out⟩
                · by_cases d2 : 57 < byteAt s k
                  · have HN : Hid (r = none) := HR.out.symm.trans (num_letter HS.out hk1 (by omega))
                    clear hv hv2
                    generalize vN s k = v at *
                    go_wp2
                    go_ret2
                    exact ⟨by rw [HN.out]; rfl, HW2.out⟩
                  · have VS : Hid ((vN s (k + 1) : Int) = (vN s k : Int) * 10 + byteAt s k - 48) := vN_succ hk1 (by omega)
                    have D2 : Hid (dgs s (k + 1)) := fun j hj => by
                      rcases Nat.lt_or_ge j k with z | z
                      · exact HD.out j z
                      · obtain rfl : j = k := by omega
                        omega
                    generalize vN s k = v at *
                    have b1 : (v : Int) < 100000000000000000 := by omega
                    have b2 : 48 ≤ byteAt s k := by omega
                    have b3 : byteAt s k ≤ 57 := by omega
                    clear HD hv hv2
                    generalize byteAt s k = bk at *
                    go_wp2
                    go_roundw
                    case rel => exact ⟨k + 1, hk1, D2.out, by first | (rw [VS.out]; done) | (rw [VS.out]; go_num), by go_num, HW2.out⟩
                    case measure => first | (simp [intOf]; omega) | simp [intOf]
              · have hk1' : ¬ (k : Int) < (s.size : Int) := by omega
                obtain rfl : k = s.size := by omega
                have HN : Hid (r = some (1 * (vN s s.size : Int))) := HR.out.symm.trans (num_good HS.out p0 p18 (fun h => ⟨(pz.out h).1, rfl⟩) HD.out)
                clear HD
                have b1 : (vN s s.size : Int) < 1000000000000000000 := by omega
                generalize vN s s.size = v at *
                clear hv
                go_wp2
                go_ret2
                exact ⟨by rw [HN.out]; first | rfl | (simp; done) | (simp; omega), HW2.out⟩
        · have p18' : (18 : Int) < (s.size : Int) := by omega
          have HN : Hid (r = none) := HR.out.symm.trans (num_bad HS.out (.inr (.inl (by omega))))
          go_wp2
          go_ret2
          exact ⟨by rw [HN.out]; rfl, rfl⟩
      · have p0' : ((s.size : Int) == 0) = true := by rw [beq_iff_eq]; omega
        have HN : Hid (r = none) := HR.out.symm.trans (num_bad HS.out (.inl (by omega)))
        go_wp2
        go_ret2
        exact ⟨by rw [HN.out]; rfl, rfl⟩
    · have h0' : ¬ (0 : Int) < (s.size : Int) := by omega
      have p0' : ((s.size : Int) == 0) = true := by rw [beq_iff_eq]; omega
      clear hb
      have HN : Hid (r = none) := HR.out.symm.trans (num_bad HS.out (.inl (by omega)))
      go_wp2
      go_ret2
      exact ⟨by rw [HN.out]; rfl, rfl⟩
end Go.Proofs.YthebbijbedffpaaDoor
