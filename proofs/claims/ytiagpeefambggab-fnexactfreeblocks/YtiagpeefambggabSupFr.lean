/-
  Free blocks: FreeBlocks of the program and of the model.
-/
import Derived.Test.YtiagpeefambggabSupB
import Derived.Test.YtiagpeefambggabNumsL
import Derived.Deep.Cut
namespace Go.Proofs.Ytiagpeefambggab
open Go.ChangeShapes Go.WideShapes Go.ChangeAt Go.RowKit
set_option linter.unusedVariables false
/-- Block i is free. -/
def FreeAt (n : Nat) (P : Nat → Plc) (i : Nat) : Prop := 2 ≤ i ∧ ¬ ∃ j, j < n ∧ (P j).bk = (i : Int)
theorem free2 (n : Nat) (P : Nat → Plc) : dirL (FreeAt n P) 2 = [] := by
  rw [dirL_no (fun h => absurd h.1 (by omega)), dirL_no (fun h => absurd h.1 (by omega))]
  rfl
theorem free1 (n : Nat) (P : Nat → Plc) : dirL (FreeAt n P) 1 = [] := by
  rw [dirL_no (fun h => absurd h.1 (by omega))]
  rfl
/-- What FreeBlocks answers. -/
def FbIs (z : Int) (n : Nat) (P : Nat → Plc) (r : ByteArray) (k : Int) (L : List Nat) (c : Int) : Prop :=
  (¬ SupOk z n P r ∧ c = 1 ∧ L = []) ∨ (SupOk z n P r ∧ ¬ (1 ≤ k ∧ k ≤ 64) ∧ c = 4 ∧ L = []) ∨ (SupOk z n P r ∧ (1 ≤ k ∧ k ≤ 64) ∧ c = 0 ∧ L = dirL (FreeAt n P) k.toNat)
set_option maxRecDepth 100000 in
set_option maxHeartbeats 4000000 in
theorem beside_any (a : Option Addr) (n c m : Nat) (P : Nat → Plc) (hm : m ≤ 64) (hn : n ≤ 1048576) (w : World) (h : Els w 2 a n (pcF P)) :
    Calls Try.prog 19 #[.slice a n c, .int .i64 (m : Int)] w fun e w' => (∃ a' c', e = .returned (.slice a' (dirL (FreeAt n P) m).length c') ∧ IE w' w.heap.size (.slice a' (dirL (FreeAt n P) m).length c') (dirL (FreeAt n P) m).length (nthI (dirL (FreeAt n P) m))) ∧ Below w.heap.size w w' := by
  have HM : Hid (m ≤ 64) := hm
  have HL : Hid (∀ k, (dirL (FreeAt n P) k).length ≤ k) := dirL_le _
  have HBk : Hid (∀ (i : Nat) (q : Bool), q = gB (∃ j, j < n ∧ (P j).bk = (i : Int)) → ∀ w : World, Els w 2 a n (pcF P) → Calls Try.prog 26 #[.slice a n c, .int .i64 (i : Int)] w fun e w' => e = .returned (.bool q) ∧ Below w.heap.size w w') := fun i q hq w h => hasBlock_any a n c P (i : Int) hn w h q hq
  have EW0 : Hid (Els w 2 a n (pcF P)) := h
  clear h hn hm
  go_enter Try.func19, Try.ntmps19
  go_wp2
  go_loopw [5, 8] (fun s i wr => ∃ (k q c2 : Nat) (a2 : Option Addr), k ≤ m ∧ q = (dirL (FreeAt n P) k).length ∧ i = .int .i64 k ∧ s = .slice a2 q c2 ∧ IE wr w.heap.size (.slice a2 q c2) q (nthI (dirL (FreeAt n P) k)) ∧ Below w.heap.size w wr) (fun _ i _ => m - (intOf i).toNat)
  case atStart => exact ⟨0, 0, 0, none, by omega, rfl, rfl, rfl, EO.nil _ _ _ _ _, Below.refl _ _⟩
  case round =>
    obtain ⟨k, q, c2, a2, hk, hq, rfl, rfl, ho, hb⟩ := hrel
    have HQ : Hid (q = (dirL (FreeAt n P) k).length) := hq
    by_cases hlt : k < m
    · have hlt' : (k : Int) < (m : Int) := by omega
      have kb : (k : Int) ≤ 64 := by have := HM.out; omega
      have q16 : q ≤ 1000 := by have := HL.out k; have := HM.out; omega
      have HK : Hid (k < m) := hlt
      have HO : Hid (IE wr w.heap.size (.slice a2 q c2) q (nthI (dirL (FreeAt n P) k))) := ho
      have HB : Hid (Below w.heap.size w wr) := hb
      have EW : Hid (Els wr 2 a n (pcF P)) := EW0.out.below hb
      clear ho hb hq
      by_cases h2 : 2 ≤ k
      · have e2 : (2 : Int) ≤ (k : Int) := by omega
        by_cases hh : ∃ j, j < n ∧ (P j).bk = (k : Int)
        · have HC : Hid _ := HBk.out k true (gB_yes hh).symm wr EW.out
          have ND : ¬ FreeAt n P k := fun t => t.2 hh
          have HQ2 : Hid (q = (dirL (FreeAt n P) (k + 1)).length) := by show _ = _; rw [dirL_no ND]; exact HQ.out
          have HO2 : Hid (IE wr w.heap.size (.slice a2 q c2) q (nthI (dirL (FreeAt n P) (k + 1)))) := by show IE _ _ _ _ _; rw [dirL_no ND]; exact HO.out
          clear hlt hk h2 hh ND HQ HO q16
          go_wp2_with fail
          refine Calls.mono HC.out ?_
          rintro e w1 ⟨rfl, hb⟩
          have HO3 : Hid (IE w1 w.heap.size (.slice a2 q c2) q (nthI (dirL (FreeAt n P) (k + 1)))) := EO.below HO2.out hb
          have HB3 : Hid (Below w.heap.size w w1) := HB.out.trans (hb.mono HB.out.size)
          clear hb HC HO2 HB EW
          go_wp2
          go_roundw
          case rel => exact ⟨k + 1, q, c2, a2, by have := HK.out; omega, HQ2.out, by go_num, rfl, HO3.out, HB3.out⟩
          case measure => have := HK.out; simp [intOf]; omega
        · have HC : Hid _ := HBk.out k false (gB_no hh).symm wr EW.out
          have YD : Hid (FreeAt n P k) := ⟨h2, hh⟩
          clear hlt hk h2 hh
          go_wp2_with fail
          refine Calls.mono HC.out ?_
          rintro e w1 ⟨rfl, hb⟩
          obtain ⟨a3, c3, w3, hr, hO3, hB3⟩ := appNum k HQ.out q16 (EO.below HO.out hb) (HB.out.trans (hb.mono HB.out.size))
          have HQ3 : Hid (q + 1 = (dirL (FreeAt n P) (k + 1)).length) := by show _ = _; rw [dirL_yes YD.out, List.length_append, ← HQ.out]; rfl
          have HO3 : Hid (IE w3 w.heap.size (.slice a3 (q + 1) c3) (q + 1) (nthI (dirL (FreeAt n P) (k + 1)))) := by show IE _ _ _ _ _; rw [dirL_yes YD.out]; exact hO3
          have HB3 : Hid (Below w.heap.size w w3) := hB3
          clear hb HC HO HB EW hO3 hB3 HQ YD q16
          go_wp2_with (at_builtin; refine Lib.wpList_append_run _ rfl (.tmp 19) (.tmp 21) 26 26 rfl (.slice a2 q c2) (.slice (some ⟨w1.heap.size, 0, none⟩) 1 1) rfl rfl _ _ (hr _) ?_)
          go_roundw
          case rel => exact ⟨k + 1, q + 1, c3, a3, by have := HK.out; omega, HQ3.out, by go_num, rfl, HO3.out, HB3.out⟩
          case measure => have := HK.out; simp [intOf]; omega
      · have e2 : ¬ (2 : Int) ≤ (k : Int) := by omega
        have ND : ¬ FreeAt n P k := fun t => h2 t.1
        have HQ2 : Hid (q = (dirL (FreeAt n P) (k + 1)).length) := by show _ = _; rw [dirL_no ND]; exact HQ.out
        have HO2 : Hid (IE wr w.heap.size (.slice a2 q c2) q (nthI (dirL (FreeAt n P) (k + 1)))) := by show IE _ _ _ _ _; rw [dirL_no ND]; exact HO.out
        clear hlt hk h2 ND HQ HO q16
        go_wp2
        go_roundw
        case rel => exact ⟨k + 1, q, c2, a2, by have := HK.out; omega, HQ2.out, by go_num, rfl, HO2.out, HB.out⟩
        case measure => have := HK.out; simp [intOf]; omega
    · obtain rfl : k = m := by omega
      subst hq
      have HR : Hid (IE wr w.heap.size (.slice a2 (dirL (FreeAt n P) k).length c2) (dirL (FreeAt n P) k).length (nthI (dirL (FreeAt n P) k))) := ho
      have HB : Hid (Below w.heap.size w wr) := hb
      clear ho hb hlt hk HL HQ
      go_wp2
      go_ret
      exact ⟨⟨a2, c2, rfl, HR.out⟩, HB.out⟩
set_option maxRecDepth 100000 in
set_option maxHeartbeats 4000000 in
theorem implFree_any (z : Int) (a : Option Addr) (n c : Nat) (P : Nat → Plc) (r : ByteArray) (k : Int) (L : List Nat) (cd : Int) (hA : FbIs z n P r k L cd) (hsl : SlP a n c) (hn : n ≤ 1048576) (w : World) (h : Els w 2 a n (pcF P)) :
    Calls Try.prog 7 #[.agg #[.int .i64 z, .slice a n c, .string r], .int .i64 k] w fun e w' => (∃ a' c', e = .returned (.tuple #[.slice a' L.length c', .int .i64 cd]) ∧ IE w' w.heap.size (.slice a' L.length c') L.length (nthI L)) ∧ Below w.heap.size w w' := by
  have A0 : Hid (Below w.heap.size w (w.alloc (.cells #[.int .i64 z, .slice a n c, .string r] 31))) := (Below.refl _ _).alloc (Nat.le_refl _) _
  have X : Hid (Box3 (w.alloc (.cells #[.int .i64 z, .slice a n c, .string r] 31)) w.heap.size 31 (.int .i64 z) (.slice a n c) (.string r)) := Box3.made _ _ _ _ _
  have E0 : Hid (Els (w.alloc (.cells #[.int .i64 z, .slice a n c, .string r] 31)) 2 a n (pcF P)) := h.below A0.out
  have SK : Hid (∀ q : Bool, q = gB (SupOk z n P r) → Calls Try.prog 18 #[.agg #[.int .i64 z, .slice a n c, .string r]] (w.alloc (.cells #[.int .i64 z, .slice a n c, .string r] 31)) fun e w' => e = .returned (.bool q) ∧ Below (w.alloc (.cells #[.int .i64 z, .slice a n c, .string r] 31)).heap.size (w.alloc (.cells #[.int .i64 z, .slice a n c, .string r] 31)) w') := fun q hq => implSupOK_any z a n c P r hsl hn _ E0.out q hq
  have k0 := X.out.c0
  have k1 := X.out.c1
  have k2 := X.out.c2
  rcases hA with ⟨hok, rfl, rfl⟩ | ⟨hok, hk, rfl, rfl⟩ | ⟨hok, hk, rfl, rfl⟩
  · have S1 : Hid _ := SK.out false (gB_no hok).symm
    clear h hok hn hsl SK
    go_enter Try.func7, Try.ntmps7
    go_wp2_with fail
    clear k0 k1 k2
    generalize (w.alloc (.cells #[.int .i64 z, .slice a n c, .string r] 31)) = v at *
    refine Calls.mono S1.out ?_
    rintro e v1 ⟨rfl, hb⟩
    have A1 : Hid (Below w.heap.size w v1) := A0.out.trans (hb.mono A0.out.size)
    clear hb S1 X A0 E0
    go_wp2
    exact bodyPost_ret (results_tmp2 Try.results7 _ _ _) rfl ⟨⟨none, 0, rfl, EO.nil _ _ _ _ _⟩, A1.out⟩
  · have S1 : Hid _ := SK.out true (gB_yes hok).symm
    clear h hok hn hsl SK
    go_enter Try.func7, Try.ntmps7
    go_wp2_with fail
    clear k0 k1 k2
    generalize (w.alloc (.cells #[.int .i64 z, .slice a n c, .string r] 31)) = v at *
    refine Calls.mono S1.out ?_
    rintro e v1 ⟨rfl, hb⟩
    have A1 : Hid (Below w.heap.size w v1) := A0.out.trans (hb.mono A0.out.size)
    clear hb S1 X A0 E0
    by_cases q : k < 1
    · clear hk
      go_wp2
      exact bodyPost_ret (results_tmp2 Try.results7 _ _ _) rfl ⟨⟨none, 0, rfl, EO.nil _ _ _ _ _⟩, A1.out⟩
    · have q2 : 64 < k := by omega
      clear hk
      go_wp2
      exact bodyPost_ret (results_tmp2 Try.results7 _ _ _) rfl ⟨⟨none, 0, rfl, EO.nil _ _ _ _ _⟩, A1.out⟩
  · have S1 : Hid _ := SK.out true (gB_yes hok).symm
    obtain ⟨m, rfl⟩ := Int.eq_ofNat_of_zero_le (show 0 ≤ k by omega)
    have hm : m ≤ 64 := by omega
    have q1 : ¬ (m : Int) < 1 := by omega
    have q2 : ¬ (64 : Int) < (m : Int) := by omega
    have HM : Hid (m ≤ 64) := hm
    have HL : Hid (∀ k, (dirL (FreeAt n P) k).length ≤ k) := dirL_le _
    have HBS : Hid (∀ w : World, Els w 2 a n (pcF P) → Calls Try.prog 19 #[.slice a n c, .int .i64 (m : Int)] w fun e w' => (∃ a' c', e = .returned (.slice a' (dirL (FreeAt n P) m).length c') ∧ IE w' w.heap.size (.slice a' (dirL (FreeAt n P) m).length c') (dirL (FreeAt n P) m).length (nthI (dirL (FreeAt n P) m))) ∧ Below w.heap.size w w') := fun w h => beside_any a n c m P hm hn w h
    have ET : Hid ((m : Int).toNat = m) := Int.toNat_natCast m
    rw [ET.out]
    generalize dirL (FreeAt n P) m = L at *
    clear h hok hn hsl SK hm hk HL
    go_enter Try.func7, Try.ntmps7
    go_wp2_with fail
    clear k0 k1 k2
    generalize (w.alloc (.cells #[.int .i64 z, .slice a n c, .string r] 31)) = v at *
    obtain ⟨vb, hvb⟩ : ∃ x, x = w.heap.size := ⟨_, rfl⟩
    rw [← hvb] at X ⊢
    clear hvb
    refine Calls.mono S1.out ?_
    rintro e v1 ⟨rfl, hb⟩
    have A1 : Hid (Below w.heap.size w v1) := A0.out.trans (hb.mono A0.out.size)
    have x1 := (X.out.below hb).c1
    have E1 : Hid (Els v1 2 a n (pcF P)) := E0.out.below hb
    clear hb S1 X A0 E0 ET
    go_wp2_with fail
    refine Calls.mono (HBS.out _ E1.out) ?_
    rintro e w1 ⟨⟨a2, c2, rfl, ho⟩, hb⟩
    have HR : Hid (IE w1 w.heap.size (.slice a2 L.length c2) L.length (nthI L)) := EO.mono ho A1.out.size
    have HB : Hid (Below w.heap.size w w1) := A1.out.trans (hb.mono A1.out.size)
    clear ho hb HBS E1 A1 x1
    go_wp2
    exact bodyPost_ret (results_tmp2 Try.results7 _ _ _) rfl ⟨⟨a2, c2, rfl, HR.out⟩, HB.out⟩
set_option maxRecDepth 100000 in
set_option maxHeartbeats 4000000 in
theorem l12Free_any (z : Int) (a : Option Addr) (n c : Nat) (P : Nat → Plc) (r : ByteArray) (m : Nat) (hm1 : 1 ≤ m) (hm : m ≤ 64) (hn : n ≤ 16) (w : World) (h : Els w 2 a n (pcF P)) :
    Calls Try.prog 16 #[.agg #[.int .i64 z, .slice a n c, .string r], .int .i64 (m : Int)] w fun e w' => (∃ a' c', e = .returned (.slice a' (dirL (FreeAt n P) m).length c') ∧ IE w' w.heap.size (.slice a' (dirL (FreeAt n P) m).length c') (dirL (FreeAt n P) m).length (nthI (dirL (FreeAt n P) m))) ∧ Below w.heap.size w w' := by
  have A0 : Hid (Below w.heap.size w ((w.alloc (.cells #[.int .i64 z, .slice a n c, .string r] 31)).alloc (.cells #[] 3))) := ((Below.refl _ _).alloc (Nat.le_refl _) _).alloc (by simp) _
  have X : Hid (Box3 ((w.alloc (.cells #[.int .i64 z, .slice a n c, .string r] 31)).alloc (.cells #[] 3)) w.heap.size 31 (.int .i64 z) (.slice a n c) (.string r)) := (Box3.made _ _ _ _ _).alloc _
  have O0 : Hid (IE ((w.alloc (.cells #[.int .i64 z, .slice a n c, .string r] 31)).alloc (.cells #[] 3)) (w.alloc (.cells #[.int .i64 z, .slice a n c, .string r] 31)).heap.size (.slice (some ⟨(w.alloc (.cells #[.int .i64 z, .slice a n c, .string r] 31)).heap.size, 0, none⟩) 0 0) 0 (nthI (dirL (FreeAt n P) 2))) := EO.lit _ _ _ _ (Nat.le_refl _) _
  have B0 : Hid (Below (w.alloc (.cells #[.int .i64 z, .slice a n c, .string r] 31)).heap.size (w.alloc (.cells #[.int .i64 z, .slice a n c, .string r] 31)) ((w.alloc (.cells #[.int .i64 z, .slice a n c, .string r] 31)).alloc (.cells #[] 3))) := (Below.refl _ _).alloc (Nat.le_refl _) _
  have A9 : Hid (Below w.heap.size w (w.alloc (.cells #[.int .i64 z, .slice a n c, .string r] 31))) := (Below.refl _ _).alloc (Nat.le_refl _) _
  have X9 : Hid (Box3 (w.alloc (.cells #[.int .i64 z, .slice a n c, .string r] 31)) w.heap.size 31 (.int .i64 z) (.slice a n c) (.string r)) := Box3.made _ _ _ _ _
  have E9 : Hid (Els (w.alloc (.cells #[.int .i64 z, .slice a n c, .string r] 31)) 2 a n (pcF P)) := h.below A9.out
  have HM : Hid (1 ≤ m ∧ m ≤ 64) := ⟨hm1, hm⟩
  have HN : Hid (n ≤ 16) := hn
  have HL : Hid (∀ k, (dirL (FreeAt n P) k).length ≤ k) := dirL_le _
  have F2 : Hid (dirL (FreeAt n P) 2 = []) := free2 n P
  have F1 : Hid (dirL (FreeAt n P) 1 = []) := free1 n P
  clear h hm1 hm hn A0 X
  go_enter Try.func16, Try.ntmps16
  go_upto_region 2 with fail
  generalize ((w.alloc (.cells #[.int .i64 z, .slice a n c, .string r] 31)).alloc (.cells #[] 3)) = v1 at *
  generalize hva : (w.alloc (.cells #[.int .i64 z, .slice a n c, .string r] 31)) = v at *
  have hvs : w.heap.size + 1 = v.heap.size := by rw [← hva]; simp
  clear hva
  rw [hvs]
  obtain ⟨vb, hvb⟩ : ∃ x, x = w.heap.size := ⟨_, rfl⟩
  rw [← hvb] at X9 ⊢
  clear hvb hvs
  generalize (some (⟨v.heap.size, 0, none⟩ : Addr)) = az at *
  go_wp2
  go_loopw [5, 6] (fun s i wr => ∃ (k q c2 : Nat) (a2 : Option Addr), (2 ≤ k ∧ (k ≤ m ∨ k = 2)) ∧ q = (dirL (FreeAt n P) k).length ∧ i = .int .i64 k ∧ s = .slice a2 q c2 ∧ IE wr v.heap.size (.slice a2 q c2) q (nthI (dirL (FreeAt n P) k)) ∧ Below v.heap.size v wr) (fun _ i _ => m - (intOf i).toNat)
  case atStart => exact ⟨2, 0, 0, az, ⟨by omega, .inr rfl⟩, by rw [F2.out]; rfl, rfl, rfl, O0.out, B0.out⟩
  case round =>
    clear O0 B0
    obtain ⟨k, q, c2, a2, ⟨hk2, hk⟩, hq, rfl, rfl, ho, hb⟩ := hrel
    have HQ : Hid (q = (dirL (FreeAt n P) k).length) := hq
    by_cases hlt : k < m
    · have hlt' : (k : Int) < (m : Int) := by omega
      have kb : (k : Int) ≤ 64 := by have := HM.out; omega
      have kb0 : (0 : Int) ≤ (k : Int) := by omega
      have q16 : q ≤ 1000 := by have := HL.out k; have := HM.out; omega
      have HK : Hid (k < m ∧ 2 ≤ k) := ⟨hlt, hk2⟩
      have HO : Hid (IE wr v.heap.size (.slice a2 q c2) q (nthI (dirL (FreeAt n P) k))) := ho
      have HB : Hid (Below v.heap.size v wr) := hb
      have x1 := (X9.out.below hb).c1
      have EW : Hid (Els wr 2 a n (pcF P)) := E9.out.below hb
      have HU : Hid (∀ l, l ≤ n → ¬ l < n → gB (∃ j, j < l ∧ (P j).bk = (k : Int)) = gB (∃ j, j < n ∧ (P j).bk = (k : Int))) := fun l h1 h2 => by
        obtain rfl : l = n := by omega
        rfl
      clear ho hb hq hlt hk
      go_wp2
      go_loopw [7, 8] (fun u j w2 => ∃ (l : Nat) (ub : Bool), l ≤ n ∧ j = .int .i64 l ∧ u = .bool ub ∧ ub = gB (∃ j, j < l ∧ (P j).bk = (k : Int)) ∧ wr = w2) (fun _ j _ => n - (intOf j).toNat)
      case atStart => exact ⟨0, false, by omega, rfl, rfl, (gB_no (fun ⟨j, hj, _⟩ => absurd hj (by omega))).symm, rfl⟩
      case round =>
        obtain ⟨l, ub, hl, rfl, rfl, hu, rfl⟩ := hrel
        by_cases hln : l < n
        · have hln' : (l : Int) < (n : Int) := by omega
          have l0 : (0 : Int) ≤ (l : Int) := by omega
          have lb : (l : Int) ≤ 16 := by have := HN.out; omega
          have HLN : Hid (l < n) := hln
          obtain ⟨b, off, rfl, hc⟩ := EW.out.opened (by omega)
          have d0 : wr.cell? ⟨b, off + l * 2, none⟩ = some (.int .i64 (P l).bk) := hc l hln 0 (by omega)
          clear hc
          cases ub with
          | true =>
            have HU2 : Hid (true = gB (∃ j, j < l + 1 ∧ (P j).bk = (k : Int))) := by
              show _ = _
              by_cases t : ∃ j, j < l ∧ (P j).bk = (k : Int)
              · obtain ⟨j, hj, e⟩ := t
                exact (gB_yes ⟨j, by omega, e⟩).symm
              · rw [gB_no t] at hu
                cases hu
            clear hu hln hl
            generalize (P l).bk = pl at *
            go_wp2
            go_roundw
            case rel => exact ⟨l + 1, true, by have := HLN.out; omega, by go_num, rfl, HU2.out, by trivial⟩
            case measure => have := HLN.out; simp [intOf]; omega
          | false =>
            have NT : ¬ ∃ j, j < l ∧ (P j).bk = (k : Int) := fun t => by
              rw [gB_yes t] at hu
              cases hu
            by_cases e : (P l).bk = (k : Int)
            · have HU2 : Hid (true = gB (∃ j, j < l + 1 ∧ (P j).bk = (k : Int))) := (gB_yes ⟨l, by omega, e⟩).symm
              have e1 : ((P l).bk == (k : Int)) = true := by simp [e]
              clear hu hln hl NT e
              generalize (P l).bk = pl at *
              go_wp2
              go_roundw
              case rel => exact ⟨l + 1, true, by have := HLN.out; omega, by go_num, rfl, HU2.out, by trivial⟩
              case measure => have := HLN.out; simp [intOf]; omega
            · have HU2 : Hid (false = gB (∃ j, j < l + 1 ∧ (P j).bk = (k : Int))) := (gB_no (fun ⟨j, hj, q⟩ => by
                by_cases e2 : j = l
                · subst e2; exact e q
                · exact NT ⟨j, by omega, q⟩)).symm
              have e1 : ((P l).bk == (k : Int)) = false := by simp [e]
              clear hu hln hl NT e
              generalize (P l).bk = pl at *
              go_wp2
              go_roundw
              case rel => exact ⟨l + 1, false, by have := HLN.out; omega, by go_num, rfl, HU2.out, by trivial⟩
              case measure => have := HLN.out; simp [intOf]; omega
        · have hu2 := hu.trans (HU.out l hl hln)
          have hln' : ¬ (l : Int) < (n : Int) := by omega
          clear hu
          cases ub with
          | true =>
            have ND : ¬ FreeAt n P k := fun t => by rw [gB_no t.2] at hu2; cases hu2
            have HQ2 : Hid (q = (dirL (FreeAt n P) (k + 1)).length) := by show _ = _; rw [dirL_no ND]; exact HQ.out
            have HO2 : Hid (IE wr v.heap.size (.slice a2 q c2) q (nthI (dirL (FreeAt n P) (k + 1)))) := by show IE _ _ _ _ _; rw [dirL_no ND]; exact HO.out
            clear hu2 ND hln hl HQ HO q16
            go_wp2
            go_roundw
            case rel => exact ⟨k + 1, q, c2, a2, ⟨by omega, .inl (by have := HK.out; omega)⟩, HQ2.out, by go_num, rfl, HO2.out, HB.out⟩
            case measure => have := HK.out; simp [intOf]; omega
          | false =>
            have YD : FreeAt n P k := ⟨HK.out.2, fun t => by rw [gB_yes t] at hu2; cases hu2⟩
            obtain ⟨a3, c3, w3, hr, hO3, hB3⟩ := appNum k HQ.out q16 HO.out HB.out
            have HQ3 : Hid (q + 1 = (dirL (FreeAt n P) (k + 1)).length) := by show _ = _; rw [dirL_yes YD, List.length_append, ← HQ.out]; rfl
            have HO3 : Hid (IE w3 v.heap.size (.slice a3 (q + 1) c3) (q + 1) (nthI (dirL (FreeAt n P) (k + 1)))) := by show IE _ _ _ _ _; rw [dirL_yes YD]; exact hO3
            have HB3 : Hid (Below v.heap.size v w3) := hB3
            clear hu2 YD hln hl HQ HO HB hO3 hB3 q16
            go_wp2_with (at_builtin; refine Lib.wpList_append_run _ rfl (.tmp 35) (.tmp 37) 26 26 rfl (.slice a2 q c2) (.slice (some ⟨wr.heap.size, 0, none⟩) 1 1) rfl rfl _ _ (hr _) ?_)
            go_roundw
            case rel => exact ⟨k + 1, q + 1, c3, a3, ⟨by omega, .inl (by have := HK.out; omega)⟩, HQ3.out, by go_num, rfl, HO3.out, HB3.out⟩
            case measure => have := HK.out; simp [intOf]; omega
    · have hlt' : ¬ (k : Int) < (m : Int) := by omega
      have ek : dirL (FreeAt n P) k = dirL (FreeAt n P) m := by
        rcases hk with hk | rfl
        · obtain rfl : k = m := by omega
          rfl
        · rcases (show m = 1 ∨ m = 2 by have := HM.out; omega) with rfl | rfl
          · rw [F2.out, F1.out]
          · rfl
      rw [ek] at hq ho
      subst hq
      have HR : Hid (IE wr w.heap.size (.slice a2 (dirL (FreeAt n P) m).length c2) (dirL (FreeAt n P) m).length (nthI (dirL (FreeAt n P) m))) := EO.mono ho A9.out.size
      have HB : Hid (Below w.heap.size w wr) := A9.out.trans (hb.mono A9.out.size)
      clear ho hb hlt hk HL HQ ek
      go_wp2
      go_ret
      exact ⟨⟨a2, c2, rfl, HR.out⟩, HB.out⟩
set_option maxRecDepth 100000 in
set_option maxHeartbeats 4000000 in
theorem specFree_any (z : Int) (a : Option Addr) (n c : Nat) (P : Nat → Plc) (r : ByteArray) (k : Int) (L : List Nat) (cd : Int) (hA : FbIs z n P r k L cd) (hn : n ≤ 1048576) (w : World) (h : Els w 2 a n (pcF P)) :
    Calls Try.prog 5 #[.agg #[.int .i64 z, .slice a n c, .string r], .int .i64 k] w fun e w' => (∃ a' c', e = .returned (.tuple #[.slice a' L.length c', .int .i64 cd]) ∧ IE w' w.heap.size (.slice a' L.length c') L.length (nthI L)) ∧ Below w.heap.size w w' := by
  have A0 : Hid (Below w.heap.size w (w.alloc (.cells #[.int .i64 z, .slice a n c, .string r] 31))) := (Below.refl _ _).alloc (Nat.le_refl _) _
  have X : Hid (Box3 (w.alloc (.cells #[.int .i64 z, .slice a n c, .string r] 31)) w.heap.size 31 (.int .i64 z) (.slice a n c) (.string r)) := Box3.made _ _ _ _ _
  have E0 : Hid (Els (w.alloc (.cells #[.int .i64 z, .slice a n c, .string r] 31)) 2 a n (pcF P)) := h.below A0.out
  have SK : Hid (∀ q : Bool, q = gB (SupOk z n P r) → Calls Try.prog 14 #[.agg #[.int .i64 z, .slice a n c, .string r]] (w.alloc (.cells #[.int .i64 z, .slice a n c, .string r] 31)) fun e w' => e = .returned (.bool q) ∧ Below (w.alloc (.cells #[.int .i64 z, .slice a n c, .string r] 31)).heap.size (w.alloc (.cells #[.int .i64 z, .slice a n c, .string r] 31)) w') := fun q hq => specSupOK_any z a n c P r hn _ E0.out q hq
  have k0 := X.out.c0
  have k1 := X.out.c1
  have k2 := X.out.c2
  rcases hA with ⟨hok, rfl, rfl⟩ | ⟨hok, hk, rfl, rfl⟩ | ⟨hok, hk, rfl, rfl⟩
  · have S1 : Hid _ := SK.out false (gB_no hok).symm
    clear h hok hn SK
    go_enter Try.func5, Try.ntmps5
    go_wp2_with fail
    clear k0 k1 k2
    generalize (w.alloc (.cells #[.int .i64 z, .slice a n c, .string r] 31)) = v at *
    refine Calls.mono S1.out ?_
    rintro e v1 ⟨rfl, hb⟩
    have A1 : Hid (Below w.heap.size w v1) := A0.out.trans (hb.mono A0.out.size)
    clear hb S1 X A0 E0
    go_wp2
    exact bodyPost_ret (results_tmp2 Try.results5 _ _ _) rfl ⟨⟨_, 0, rfl, EO.lit _ _ _ _ A1.out.size _⟩, A1.out.trans (((Below.refl _ _).alloc (Nat.le_refl _) _).mono A1.out.size)⟩
  · have S1 : Hid _ := SK.out true (gB_yes hok).symm
    have IN : Hid (∀ w : World, Calls Try.prog 15 #[.int .i64 k, .int .i64 1, .int .i64 64] w fun e w' => e = .returned (.bool false) ∧ w = w') := fun w => in_any k 1 64 false (by simp; omega) w
    clear h hok hn SK hk
    go_enter Try.func5, Try.ntmps5
    go_wp2_with fail
    clear k0 k1 k2
    generalize (w.alloc (.cells #[.int .i64 z, .slice a n c, .string r] 31)) = v at *
    refine Calls.mono S1.out ?_
    rintro e v1 ⟨rfl, hb⟩
    have A1 : Hid (Below w.heap.size w v1) := A0.out.trans (hb.mono A0.out.size)
    clear hb S1 X A0 E0
    go_wp2_with fail
    refine (IN.out _).mono ?_
    rintro e _ ⟨rfl, rfl⟩
    go_wp2
    exact bodyPost_ret (results_tmp2 Try.results5 _ _ _) rfl ⟨⟨_, 0, rfl, EO.lit _ _ _ _ A1.out.size _⟩, A1.out.trans (((Below.refl _ _).alloc (Nat.le_refl _) _).mono A1.out.size)⟩
  · have S1 : Hid _ := SK.out true (gB_yes hok).symm
    obtain ⟨m, rfl⟩ := Int.eq_ofNat_of_zero_le (show 0 ≤ k by omega)
    have IN : Hid (∀ w : World, Calls Try.prog 15 #[.int .i64 (m : Int), .int .i64 1, .int .i64 64] w fun e w' => e = .returned (.bool true) ∧ w = w') := fun w => in_any m 1 64 true (by simp; omega) w
    have LF : Hid (∀ w : World, Els w 2 a n (pcF P) → Calls Try.prog 16 #[.agg #[.int .i64 z, .slice a n c, .string r], .int .i64 (m : Int)] w fun e w' => (∃ a' c', e = .returned (.slice a' (dirL (FreeAt n P) m).length c') ∧ IE w' w.heap.size (.slice a' (dirL (FreeAt n P) m).length c') (dirL (FreeAt n P) m).length (nthI (dirL (FreeAt n P) m))) ∧ Below w.heap.size w w') := fun w h => l12Free_any z a n c P r m (by omega) (by omega) hok.n16 w h
    have ET : Hid ((m : Int).toNat = m) := Int.toNat_natCast m
    rw [ET.out]
    clear h hok hn SK hk ET
    go_enter Try.func5, Try.ntmps5
    go_wp2_with fail
    clear k0 k1 k2
    generalize (w.alloc (.cells #[.int .i64 z, .slice a n c, .string r] 31)) = v at *
    obtain ⟨vb, hvb⟩ : ∃ x, x = w.heap.size := ⟨_, rfl⟩
    rw [← hvb] at X ⊢
    clear hvb
    refine Calls.mono S1.out ?_
    rintro e v1 ⟨rfl, hb⟩
    have A1 : Hid (Below w.heap.size w v1) := A0.out.trans (hb.mono A0.out.size)
    have E1 : Hid (Els v1 2 a n (pcF P)) := E0.out.below hb
    have k0 := (X.out.below hb).c0
    have k1 := (X.out.below hb).c1
    have k2 := (X.out.below hb).c2
    clear hb S1 X A0 E0
    go_wp2_with fail
    refine (IN.out _).mono ?_
    rintro e _ ⟨rfl, rfl⟩
    go_wp2_with fail
    refine (LF.out _ E1.out).mono ?_
    rintro e v2 ⟨⟨a', c', rfl, ho⟩, hb⟩
    have O2 : Hid (IE v2 w.heap.size (.slice a' (dirL (FreeAt n P) m).length c') (dirL (FreeAt n P) m).length (nthI (dirL (FreeAt n P) m))) := EO.mono ho A1.out.size
    have B2 : Hid (Below w.heap.size w v2) := A1.out.trans (hb.mono A1.out.size)
    clear ho hb LF A1 E1 k0 k1 k2 IN
    go_wp2
    exact bodyPost_ret (results_tmp2 Try.results5 _ _ _) rfl ⟨⟨a', c', rfl, O2.out⟩, B2.out⟩
/-- Both answer alike. -/
theorem freeBlocks_both (z : Int) (n : Nat) (P : Nat → Plc) (r : ByteArray) (k : Int) (hn : n ≤ 1048576) : ∃ (N : Nat) (EL : Nat → Int) (cd : Int), N ≤ 1000 ∧
    (∀ (g : Nat) (w : World), Els w 2 (some ⟨g, 0, none⟩) n (pcF P) → Calls Try.prog 5 #[.agg #[.int .i64 z, .slice (some ⟨g, 0, none⟩) n n, .string r], .int .i64 k] w fun e w' => (∃ (b : Option Addr) (x g : Nat), e = .returned (.tuple #[.slice b N x, .int .i64 cd]) ∧ RowE w' 1 b g N (inF EL) ∧ (0 < N → w.heap.size ≤ g ∧ g < w'.heap.size)) ∧ Below w.heap.size w w') ∧
    (∀ (g : Nat) (w : World), Els w 2 (some ⟨g, 0, none⟩) n (pcF P) → Calls Try.prog 7 #[.agg #[.int .i64 z, .slice (some ⟨g, 0, none⟩) n n, .string r], .int .i64 k] w fun e w' => (∃ (b : Option Addr) (x g : Nat), e = .returned (.tuple #[.slice b N x, .int .i64 cd]) ∧ RowE w' 1 b g N (inF EL) ∧ (0 < N → w.heap.size ≤ g ∧ g < w'.heap.size)) ∧ Below w.heap.size w w') := by
  obtain ⟨L, cd, hA, hl⟩ : ∃ (L : List Nat) (cd : Int), FbIs z n P r k L cd ∧ L.length ≤ 1000 := by
    by_cases hok : SupOk z n P r
    · by_cases hk : 1 ≤ k ∧ k ≤ 64
      · exact ⟨_, 0, .inr (.inr ⟨hok, hk, rfl, rfl⟩), Nat.le_trans (dirL_le _ _) (by omega)⟩
      · exact ⟨[], 4, .inr (.inl ⟨hok, hk, rfl, rfl⟩), by simp⟩
    · exact ⟨[], 1, .inl ⟨hok, rfl, rfl⟩, by simp⟩
  refine ⟨L.length, nthI L, cd, hl, fun g w h => (specFree_any z _ n n P r k L cd hA hn w h).mono ?_, fun g w h => (implFree_any z _ n n P r k L cd hA (slpN g n hn) hn w h).mono ?_⟩
  · rintro e w' ⟨⟨a', c', rfl, ho⟩, hb⟩
    obtain ⟨g, hr, hg⟩ := EO.rowE ho
    exact ⟨⟨a', c', g, rfl, hr, fun z => ⟨hg z, hr.lt (by omega) z⟩⟩, hb⟩
  · rintro e w' ⟨⟨a', c', rfl, ho⟩, hb⟩
    obtain ⟨g, hr, hg⟩ := EO.rowE ho
    exact ⟨⟨a', c', g, rfl, hr, fun z => ⟨hg z, hr.lt (by omega) z⟩⟩, hb⟩
end Go.Proofs.Ytiagpeefambggab
