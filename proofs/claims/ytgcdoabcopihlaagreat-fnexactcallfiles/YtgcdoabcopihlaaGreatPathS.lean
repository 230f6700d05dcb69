/-
  Paths in the model: the pieces between slashes, l11Path, PathOK; parents, in the program too.
-/
import Derived.Test.YtgcdoabcopihlaaGreatCutM
import Derived.Test.YtgcdoabcopihlaaGreatTxE
namespace Go.Proofs.YtgcdoabcopihlaaGreat
open Go.ChangeShapes Go.WideShapes Go.ChangeAt Go.RowKit
set_option linter.unusedVariables false
theorem litPx (w : World) (x : ByteArray) : ∀ j, j < 1 → (w.alloc (.cells #[.string x] 9)).cell? ⟨w.heap.size, 0 + j, none⟩ = some (pxV x j) := fun j hj => by
  obtain rfl : j = 0 := by omega
  simp [pxV]
set_option maxRecDepth 100000 in
set_option maxHeartbeats 1000000 in
theorem l00Cut_any (s : ByteArray) (hs : s.size ≤ 40) (w : World) :
    Calls Tryz.prog 95 #[.string s, .int .u8 47] w fun e w' => (∃ a c, e = .returned (.slice a (scan s 0 0).length c) ∧ EO w' w.heap.size 9 1 (.slice a (scan s 0 0).length c) (scan s 0 0).length (pxF (nthT (scan s 0 0)))) ∧ Below w.heap.size w w' := by
  obtain ⟨SC, hSC⟩ : ∃ L, L = scan s 0 0 := ⟨_, rfl⟩
  rw [← hSC]
  have HS : Hid (SC = scan s 0 0) := hSC
  have A0 : Hid (EO (w.alloc (.cells #[] 9)) w.heap.size 9 1 (.slice (some ⟨w.heap.size, 0, none⟩) 0 0) 0 (pxF (nthT []))) := EO.lit w w.heap.size _ 1 (Nat.le_refl _) _
  have B0 : Hid (Below w.heap.size w (w.alloc (.cells #[] 9))) := (Below.refl _ _).alloc (Nat.le_refl _) _
  have s1 : (s.size : Int) ≤ 40 := by omega
  clear hSC
  go_enter Tryz.func95, Tryz.ntmps95
  go_wp2
  go_loopw [5, 6, 7] (fun v f i wr => ∃ (L : List ByteArray) (o k : Nat), o ≤ k ∧ k ≤ s.size ∧ L.length ≤ k ∧ f = .int .i64 o ∧ i = .int .i64 k ∧ EO wr w.heap.size 9 1 v L.length (pxF (nthT L)) ∧ scan s 0 0 = L ++ scan s o k ∧ Below w.heap.size w wr) (fun _ _ i _ => s.size - (intOf i).toNat)
  case atStart => exact ⟨[], 0, 0, Nat.le_refl _, by omega, Nat.le_refl _, rfl, rfl, A0.out, rfl, B0.out⟩
  case round =>
    obtain ⟨L, o, k, hok, hk, hL, rfl, rfl, ho, hsc, hb⟩ := hrel
    obtain ⟨pa, pc, rfl⟩ := ho.form
    have HSC : Hid (scan s 0 0 = L ++ scan s o k) := hsc
    have c1 : (0 : Int) ≤ ↑o := by omega
    have c2 : (↑o : Int) ≤ ↑k := by omega
    have c3 : (↑k : Int) ≤ ↑s.size := by omega
    have c4 : (↑o : Int) ≤ ↑s.size := by omega
    by_cases hlt : k < s.size
    · have hlt' : (k : Int) < (s.size : Int) := by omega
      have e0 := byteAt_eq s k hlt
      by_cases he : byteAt s k = 47
      · have g0 : (byteAt s k == 47) = true := by simp [he]
        have WB : Below wr.heap.size wr (wr.alloc (.cells #[.string (s.extract o k)] 9)) := (Below.refl _ _).alloc (Nat.le_refl _) _
        obtain ⟨v', w', hr, ho2, hg, hloc⟩ := appPx (wr.alloc (.cells #[.string (s.extract o k)] 9)) w.heap.size _ L.length wr.heap.size (nthT L) (s.extract o k) (by have := hb.size; simp; omega) (by omega) (ho.below WB) (litPx wr _)
        have B2 : Below w.heap.size w w' := (hb.trans (WB.mono hb.size)).grown hg (by have := hb.size; simp; omega) (fun g e => ho.ge g e |>.1)
        have HO : Hid (EO w' w.heap.size 9 1 v' (L ++ [s.extract o k]).length (pxF (nthT (L ++ [s.extract o k])))) := by
          show EO _ _ _ _ _ _ _
          rw [List.length_append]
          exact ho2.congr (fun i hi j hj => by unfold pxF; rw [nthT_snoc L _ i hi])
        have HB : Hid (Below w.heap.size w w') := B2
        have HE : Hid (byteAt s k = 47) := he
        clear ho ho2 hg hloc WB B2 hb hsc he
        go_wp2_with (at_builtin; refine Lib.wpList_append_run _ rfl (.tmp 20) (.tmp 25) 73 73 rfl (.slice pa L.length pc) (.slice (some ⟨wr.heap.size, 0, none⟩) 1 1) rfl rfl _ _ (hr _) ?_)
        go_roundw
        case rel => exact ⟨L ++ [s.extract o k], k + 1, k + 1, Nat.le_refl _, by omega, by simp; omega, by go_num, by go_num, HO.out, by rw [HSC.out, scan_hit s o k hlt HE.out]; simp, HB.out⟩
        case measure => simp [intOf]; omega
      · have g0 : (byteAt s k == 47) = false := by simpa using he
        have HE : Hid (byteAt s k ≠ 47) := he
        have HO : Hid (EO wr w.heap.size 9 1 (.slice pa L.length pc) L.length (pxF (nthT L))) := ho
        have HB : Hid (Below w.heap.size w wr) := hb
        clear ho hb hsc he
        go_wp2
        go_roundw
        case rel => exact ⟨L, o, k + 1, by omega, by omega, by omega, rfl, by go_num, HO.out, by rw [HSC.out, scan_on s o k hlt HE.out], HB.out⟩
        case measure => simp [intOf]; omega
    · obtain rfl : k = s.size := by omega
      have WB : Below wr.heap.size wr (wr.alloc (.cells #[.string (s.extract o s.size)] 9)) := (Below.refl _ _).alloc (Nat.le_refl _) _
      obtain ⟨v', w', hr, ho2, hg, hloc⟩ := appPx (wr.alloc (.cells #[.string (s.extract o s.size)] 9)) w.heap.size _ L.length wr.heap.size (nthT L) (s.extract o s.size) (by have := hb.size; simp; omega) (by omega) (ho.below WB) (litPx wr _)
      have B2 : Below w.heap.size w w' := (hb.trans (WB.mono hb.size)).grown hg (by have := hb.size; simp; omega) (fun g e => ho.ge g e |>.1)
      have e1 : SC = L ++ [s.extract o s.size] := by rw [HS.out, hsc, scan_end s o _ (Nat.le_refl _)]
      have HO : Hid (∃ a c, v' = .slice a SC.length c ∧ EO w' w.heap.size 9 1 (.slice a SC.length c) SC.length (pxF (nthT SC))) := by
        have ho3 : EO w' w.heap.size 9 1 v' SC.length (pxF (nthT SC)) := by
          rw [e1, List.length_append]
          exact ho2.congr (fun i hi j hj => by unfold pxF; rw [nthT_snoc L _ i hi])
        obtain ⟨a, c, rfl⟩ := ho3.form
        exact ⟨a, c, rfl, ho3⟩
      have HB : Hid (Below w.heap.size w w') := B2
      clear ho ho2 hg hloc WB B2 hb hsc e1 HS
      go_wp2_with (at_builtin; refine Lib.wpList_append_run _ rfl (.tmp 29) (.tmp 33) 73 73 rfl (.slice pa L.length pc) (.slice (some ⟨wr.heap.size, 0, none⟩) 1 1) rfl rfl _ _ (hr _) ?_)
      go_ret
      obtain ⟨a, c, e, h⟩ := HO.out
      subst e
      exact ⟨⟨a, c, rfl, h⟩, HB.out⟩
theorem specName_all (s : ByteArray) (w : World) :
    Calls Tryz.prog 96 #[.string s] w fun e w' => Says e (Nm s) ∧ w' = w := by
  by_cases hs : s.size ≤ maxLen
  · exact specNameOK_any s hs w
  · unfold maxLen at hs
    have H : Hid (¬ Nm s) := fun h => by have := h.2.1; omega
    have HW : Hid (∀ w : World, Calls Tryz.prog 117 #[.string s] w fun e w' => Says e (Nm s) ∧ w' = w) := fun w => by
      have g1 : decide ((s.size : Int) < 1) = false := by simp; omega
      have g2 : decide (40 < (s.size : Int)) = true := by simp; omega
      clear hs
      go_enter Tryz.func117, Tryz.ntmps117
      go_wp2
      go_ret
      exact ⟨⟨false, rfl, by simp [H.out]⟩, rfl⟩
    clear hs H
    go_enter Tryz.func96, Tryz.ntmps96
    go_wp2_with fail
    refine (HW.out _).mono ?_
    rintro e w' ⟨⟨b, rfl, hb⟩, rfl⟩
    have HB : Hid (b = true ↔ Nm s) := hb
    clear hb HW
    go_wp2
    go_ret
    exact ⟨⟨b, rfl, HB.out⟩, rfl⟩
set_option maxRecDepth 100000 in
set_option maxHeartbeats 1000000 in
theorem l11Path_any (s : ByteArray) (hs : s.size ≤ maxLen) (w : World) :
    Calls Tryz.prog 60 #[.string s] w fun e w' => Says e (PathOk s) ∧ Below w.heap.size w w' := by
  unfold maxLen at hs
  by_cases h40 : 40 < s.size
  · have g2 : decide (40 < (s.size : Int)) = true := by simp; omega
    have H : Hid (¬ PathOk s) := fun h => by have := h.1; omega
    clear hs
    go_enter Tryz.func60, Tryz.ntmps60
    go_wp2
    go_ret
    exact ⟨⟨false, rfl, by simp [H.out]⟩, Below.refl _ _⟩
  · have g2 : decide (40 < (s.size : Int)) = false := by simp; omega
    have HC : Hid (∀ w : World, Calls Tryz.prog 95 #[.string s, .int .u8 47] w fun e w' => (∃ a c, e = .returned (.slice a (scan s 0 0).length c) ∧ EO w' w.heap.size 9 1 (.slice a (scan s 0 0).length c) (scan s 0 0).length (pxF (nthT (scan s 0 0)))) ∧ Below w.heap.size w w') := l00Cut_any s (by omega)
    have HP : Hid (PathOk s ↔ ∀ i, i < (scan s 0 0).length → Nm (nthT (scan s 0 0) i)) := by
      show _ ↔ _
      constructor
      · intro h i hi; exact h.2 _ (nthT_mem _ _ hi)
      · intro h
        refine ⟨by omega, fun x hx => ?_⟩
        obtain ⟨i, hi, rfl⟩ := mem_nthT hx
        exact h i hi
    have hl : (scan s 0 0).length ≤ 41 := Nat.le_trans (scan_len s 0 0 (Nat.zero_le _)) (by omega)
    have HN : Hid (∀ (x : ByteArray) (w : World), Calls Tryz.prog 96 #[.string x] w fun e w' => Says e (Nm x) ∧ w' = w) := specName_all
    generalize scan s 0 0 = L at *
    clear hs h40
    go_enter Tryz.func60, Tryz.ntmps60
    go_wp2_with fail
    refine (HC.out _).mono ?_
    rintro e w1 ⟨⟨a, c, rfl, ho⟩, hb⟩
    have HA : Hid (Els w1 1 a L.length (pxF (nthT L))) := ho.els
    have HB : Hid (Below w.heap.size w w1) := hb
    clear ho hb HC
    go_wp2
    go_loopw [4] (fun i wr => ∃ k : Nat, k ≤ L.length ∧ i = .int .i64 k ∧ (∀ j, j < k → Nm (nthT L j)) ∧ wr = w1) (fun i _ => L.length - (intOf i).toNat)
    case atStart => exact ⟨0, by omega, rfl, fun j hj => absurd hj (by omega), rfl⟩
    case round =>
      obtain ⟨k, hk, rfl, hn, rfl⟩ := hrel
      have HJ : Hid (∀ j, j < k → Nm (nthT L j)) := hn
      clear hn
      by_cases hlt : k < L.length
      · obtain ⟨b, off, rfl, hc⟩ := HA.out.opened (by omega)
        have c0 : wr.cell? ⟨b, off + k, none⟩ = some (.string (nthT L k)) := by have := hc k hlt 0 (by omega); simpa [pxF, pxV] using this
        have hlt' : (k : Int) < (L.length : Int) := by omega
        clear hc
        go_wp2_with fail
        refine (HN.out _ _).mono ?_
        rintro e w' ⟨⟨b', rfl, hb'⟩, rfl⟩
        have HY : Hid (b' = true ↔ Nm (nthT L k)) := hb'
        clear hb' c0
        cases b' with
        | true =>
          go_wp2
          go_roundw
          case rel => exact ⟨k + 1, by omega, by go_num, fun j hj => by
            by_cases e : j = k
            · subst e; exact HY.out.1 (by trivial)
            · exact HJ.out j (by omega), by trivial⟩
          case measure => simp [intOf]; omega
        | false =>
          go_wp2
          go_ret
          exact ⟨⟨false, rfl, by simp; exact fun h => by have := HY.out.2 (HP.out.1 h k hlt); cases this⟩, HB.out⟩
      · obtain rfl : k = L.length := by omega
        go_wp2
        go_ret
        exact ⟨⟨true, rfl, by simp; exact HP.out.2 HJ.out⟩, HB.out⟩
/-- The last slash below k, or 0. -/
def lastTo (s : ByteArray) : Nat → Nat
  | 0 => 0
  | k + 1 => if byteAt s k = 47 then k else lastTo s k
theorem lastTo_le (s : ByteArray) : ∀ k, lastTo s k ≤ k
  | 0 => Nat.le_refl _
  | k + 1 => by unfold lastTo; split; omega; have := lastTo_le s k; omega
/-- The parent of a path. -/
def par (s : ByteArray) : ByteArray := s.extract 0 (lastTo s s.size)
theorem extract_none (s : ByteArray) : s.extract 0 0 = ⟨#[]⟩ := by
  apply ByteArray.ext; simp
set_option maxRecDepth 100000 in
set_option maxHeartbeats 1000000 in
theorem l11Parent_any (s : ByteArray) (hs : s.size ≤ 1048576) (w : World) :
    Calls Tryz.prog 62 #[.string s] w fun e w' => e = .returned (.string (par s)) ∧ w' = w := by
  obtain ⟨PA, hPA⟩ : ∃ P, P = par s := ⟨_, rfl⟩
  rw [← hPA]
  have HP : Hid (PA = par s) := hPA
  have HE : Hid (s.extract 0 0 = ⟨#[]⟩) := extract_none s
  have m0 : (s.size : Int) ≤ 1048576 := by omega
  clear hPA
  go_enter Tryz.func62, Tryz.ntmps62
  go_wp2
  go_loopw [3] (fun i wr => ∃ k : Nat, k ≤ s.size ∧ i = .int .i64 ((k : Int) - 1) ∧ lastTo s s.size = lastTo s k ∧ wr = w) (fun i _ => (intOf i + 1).toNat)
  case atStart => exact ⟨s.size, Nat.le_refl _, by go_num, rfl, rfl⟩
  case round =>
    obtain ⟨k, hk, rfl, hl, rfl⟩ := hrel
    have HL : Hid (lastTo s s.size = lastTo s k) := hl
    clear hl
    cases k with
    | zero =>
      go_wp2
      go_ret
      refine ⟨?_, rfl⟩
      rw [HP.out]; unfold par; rw [HL.out]; unfold lastTo; rw [HE.out]; rfl
    | succ k =>
      have e0 := byteAt_eq s k (by omega)
      have e1 : ((k + 1 : Nat) : Int) - 1 = (k : Int) := by omega
      have e2 : ((k : Int) + 1) - 1 = (k : Int) := by omega
      have c1 : (0 : Int) ≤ (k : Int) := by omega
      have c2 : (k : Int) < (s.size : Int) := by omega
      have c3 : (k : Int) ≤ (s.size : Int) := by omega
      by_cases he : byteAt s k = 47
      · have g0 : (byteAt s k == 47) = true := by simp [he]
        have HX : Hid (PA = s.extract 0 k) := by show _ = _; rw [HP.out]; unfold par; rw [HL.out]; unfold lastTo; rw [if_pos he]
        clear he HL HP HE
        rw [e1]
        go_wp2
        go_ret
        exact ⟨by rw [HX.out]; rfl, rfl⟩
      · have g0 : (byteAt s k == 47) = false := by simpa using he
        have HX : Hid (lastTo s s.size = lastTo s k) := by rw [HL.out]; show lastTo s (k + 1) = _; rw [lastTo, if_neg he]
        clear he HL
        rw [e1]
        go_wp2
        go_roundw
        case rel => exact ⟨k, by omega, by go_num, HX.out, by trivial⟩
        case measure => simp [intOf]
set_option maxRecDepth 100000 in
set_option maxHeartbeats 1000000 in
theorem lastByte_any (s : ByteArray) (hs : s.size ≤ 1048576) (w : World) :
    Calls Tryz.prog 104 #[.string s, .int .u8 47] w fun e w' => (∃ v : Int, e = .returned (.int .i64 v) ∧ (v = (lastTo s s.size : Nat) ∨ v = -1 ∧ lastTo s s.size = 0)) ∧ w' = w := by
  have m0 : (s.size : Int) ≤ 1048576 := by omega
  go_enter Tryz.func104, Tryz.ntmps104
  go_wp2
  go_loopw [5] (fun i wr => ∃ k : Nat, k ≤ s.size ∧ i = .int .i64 ((k : Int) - 1) ∧ lastTo s s.size = lastTo s k ∧ wr = w) (fun i _ => (intOf i + 1).toNat)
  case atStart => exact ⟨s.size, Nat.le_refl _, by go_num, rfl, rfl⟩
  case round =>
    obtain ⟨k, hk, rfl, hl, rfl⟩ := hrel
    have HL : Hid (lastTo s s.size = lastTo s k) := hl
    clear hl
    cases k with
    | zero =>
      go_wp2
      go_ret
      exact ⟨⟨-1, rfl, .inr ⟨rfl, HL.out⟩⟩, rfl⟩
    | succ k =>
      have e0 := byteAt_eq s k (by omega)
      have e1 : ((k + 1 : Nat) : Int) - 1 = (k : Int) := by omega
      have c1 : (0 : Int) ≤ (k : Int) := by omega
      have c2 : (k : Int) < (s.size : Int) := by omega
      by_cases he : byteAt s k = 47
      · have g0 : (byteAt s k == 47) = true := by simp [he]
        have HX : Hid (lastTo s s.size = k) := by rw [HL.out]; show lastTo s (k + 1) = _; rw [lastTo, if_pos he]
        clear he HL
        rw [e1]
        go_wp2
        go_ret
        exact ⟨⟨_, rfl, .inl (by rw [HX.out])⟩, rfl⟩
      · have g0 : (byteAt s k == 47) = false := by simpa using he
        have HX : Hid (lastTo s s.size = lastTo s k) := by rw [HL.out]; show lastTo s (k + 1) = _; rw [lastTo, if_neg he]
        clear he HL
        rw [e1]
        go_wp2
        go_roundw
        case rel => exact ⟨k, by omega, by go_num, HX.out, by trivial⟩
        case measure => simp [intOf]
theorem lastIndex_any (s : ByteArray) (hs : s.size ≤ 1048576) (w : World) :
    Calls Tryz.prog 71 #[.string s, .string ⟨#[47]⟩] w fun e w' => (∃ v : Int, e = .returned (.int .i64 v) ∧ (v = (lastTo s s.size : Nat) ∨ v = -1 ∧ lastTo s s.size = 0)) ∧ w' = w := by
  have HL : Hid (∀ w : World, Calls Tryz.prog 104 #[.string s, .int .u8 47] w fun e w' => (∃ v : Int, e = .returned (.int .i64 v) ∧ (v = (lastTo s s.size : Nat) ∨ v = -1 ∧ lastTo s s.size = 0)) ∧ w' = w) := lastByte_any s hs
  clear hs
  go_enter Tryz.func71, Tryz.ntmps71
  go_wp2_with fail
  refine (HL.out _).mono ?_
  rintro e w' ⟨⟨v, rfl, hv⟩, rfl⟩
  have HV : Hid (v = (lastTo s s.size : Nat) ∨ v = -1 ∧ lastTo s s.size = 0) := hv
  clear hv HL
  go_wp2
  go_ret
  exact ⟨⟨v, rfl, HV.out⟩, rfl⟩
set_option maxRecDepth 100000 in
theorem parentOf_any (s : ByteArray) (hs : s.size ≤ 1048576) (w : World) :
    Calls Tryz.prog 33 #[.string s] w fun e w' => e = .returned (.string (par s)) ∧ w' = w := by
  obtain ⟨q, hq⟩ : ∃ q, q = lastTo s s.size := ⟨_, rfl⟩
  have hq2 : q ≤ s.size := by rw [hq]; exact lastTo_le _ _
  have HL : Hid (∀ w : World, Calls Tryz.prog 71 #[.string s, .string ⟨#[47]⟩] w fun e w' => (∃ v : Int, e = .returned (.int .i64 v) ∧ (v = (q : Nat) ∨ v = -1 ∧ q = 0)) ∧ w' = w) := by rw [hq]; exact lastIndex_any s hs
  have HX : Hid (par s = s.extract 0 q) := by rw [hq]; rfl
  clear hq
  go_enter Tryz.func33, Tryz.ntmps33
  go_wp2_with fail
  refine (HL.out _).mono ?_
  rintro e w' ⟨⟨v, rfl, hv⟩, rfl⟩
  have hm : (if (0 : Int) < v then v else 0) = (q : Int) := by rcases hv with rfl | ⟨rfl, rfl⟩ <;> simp <;> omega
  have c1 : (0 : Int) ≤ (q : Int) := by omega
  have c2 : (q : Int) ≤ (s.size : Int) := by omega
  clear hv HL hs
  go_wp2
  go_ret
  exact ⟨by rw [HX.out]; rfl, rfl⟩
end Go.Proofs.YtgcdoabcopihlaaGreat
