/-
  The faults of files and paths: filesFault, fileFault, newFault of the program; l11Code, l11New, l11File of the model.
-/
import Derived.Test.YtgcdoabcopihlaaGreatFileOkI
import Derived.Test.YtgcdoabcopihlaaGreatFileOkI
namespace Go.Proofs.YtgcdoabcopihlaaGreat
open Go.ChangeShapes Go.WideShapes Go.ChangeAt Go.RowKit
set_option linter.unusedVariables false
theorem isLong_any (t : ByteArray) (w : World) : Calls Tryz.prog 48 #[.string t] w fun e w' => e = .returned (.bool (decide (65536 < (t.size : Int)))) ∧ w' = w := by
  go_enter Tryz.func48, Tryz.ntmps48
  go_wp2
  go_ret
  exact ⟨rfl, rfl⟩
/-- Among texts one is too long. -/
def LongT (m : Nat) (t : Nat → ByteArray) : Prop := ∃ i, i < m ∧ 65536 < (t i).size
set_option maxRecDepth 100000 in
set_option maxHeartbeats 1000000 in
theorem indexT_any (a : Option Addr) (m c : Nat) (t : Nat → ByteArray) (hm : m ≤ 1048576) (w : World) (h : Strs w a m t) :
    Calls Tryz.prog 120 #[.slice a m c, .func (.func 48) #[] #[]] w fun e w' => (∃ r : Int, e = .returned (.int .i64 r) ∧ (0 ≤ r ∧ LongT m t ∨ r = -1 ∧ ¬ LongT m t)) ∧ w' = w := by
  have H : Hid (Strs w a m t) := h
  have HL : Hid (∀ (t : ByteArray) (w : World), Calls Tryz.prog 48 #[.string t] w fun e w' => e = .returned (.bool (decide (65536 < (t.size : Int)))) ∧ w' = w) := isLong_any
  clear h
  go_enter Tryz.func120, Tryz.ntmps120
  go_wp2
  go_loopw [8] (fun i wr => ∃ k : Nat, k ≤ m ∧ i = .int .i64 k ∧ (∀ j, j < k → ¬ 65536 < (t j).size) ∧ wr = w) (fun i _ => m - (intOf i).toNat)
  case atStart => exact ⟨0, by omega, rfl, fun j hj => absurd hj (by omega), rfl⟩
  case round =>
    obtain ⟨k, hk, rfl, hI, rfl⟩ := hrel
    have HI : Hid (∀ j, j < k → ¬ 65536 < (t j).size) := hI
    clear hI
    by_cases hlt : k < m
    · have hlt' : (k : Int) < (m : Int) := by omega
      obtain ⟨b, off, rfl, hc⟩ := H.out.opened (by omega)
      have c0 := hc k hlt
      have HW := HL.out (t k)
      by_cases hl : 65536 < (t k).size
      · have g : decide (65536 < ((t k).size : Int)) = true := by simp; omega
        rw [g] at HW
        have HX : Hid (LongT m t) := ⟨k, hlt, hl⟩
        have HW2 : Hid (∀ w : World, Calls Tryz.prog 48 #[.string (t k)] w fun e w' => e = .returned (.bool true) ∧ w' = w) := HW
        clear hc hl g HW HL
        go_wp2_with fail
        refine (HW2.out _).mono ?_
        rintro e w1 ⟨rfl, rfl⟩
        clear HW2 c0
        go_wp2
        go_ret
        exact ⟨⟨_, rfl, .inl ⟨by omega, HX.out⟩⟩, rfl⟩
      · have g : decide (65536 < ((t k).size : Int)) = false := by simp; omega
        rw [g] at HW
        have HX : Hid (¬ 65536 < (t k).size) := hl
        have HW2 : Hid (∀ w : World, Calls Tryz.prog 48 #[.string (t k)] w fun e w' => e = .returned (.bool false) ∧ w' = w) := HW
        clear hc hl g HW
        go_wp2_with fail
        refine (HW2.out _).mono ?_
        rintro e w1 ⟨rfl, rfl⟩
        clear HW2 c0
        go_wp2
        go_roundw
        case rel => exact ⟨k + 1, by omega, by go_num, fun j hj => by
          by_cases e : j = k
          · subst e; exact HX.out
          · exact HI.out j (by omega), by trivial⟩
        case measure => simp [intOf]; omega
    · obtain rfl : k = m := by omega
      go_wp2
      go_ret
      exact ⟨⟨-1, rfl, .inr ⟨rfl, fun ⟨i, hi, q⟩ => HI.out i hi q⟩⟩, rfl⟩
set_option maxRecDepth 100000 in
theorem containsT_any (a : Option Addr) (m c : Nat) (t : Nat → ByteArray) (hm : m ≤ 1048576) (w : World) (h : Strs w a m t) :
    Calls Tryz.prog 106 #[.slice a m c, .func (.func 48) #[] #[]] w fun e w' => Says e (LongT m t) ∧ w' = w := by
  have IX : Hid (Calls Tryz.prog 120 #[.slice a m c, .func (.func 48) #[] #[]] w fun e w' => (∃ r : Int, e = .returned (.int .i64 r) ∧ (0 ≤ r ∧ LongT m t ∨ r = -1 ∧ ¬ LongT m t)) ∧ w' = w) := indexT_any a m c t hm w h
  clear h
  go_enter Tryz.func106, Tryz.ntmps106
  go_wp2_with fail
  refine IX.out.mono ?_
  rintro e w1 ⟨⟨r, rfl, hr⟩, rfl⟩
  rcases hr with ⟨h0, h1⟩ | ⟨rfl, h1⟩
  · have HX : Hid (LongT m t) := h1
    have g : decide ((0 : Int) ≤ r) = true := decide_eq_true h0
    clear h1 IX
    go_wp2
    go_ret
    exact ⟨⟨_, rfl, by simp [HX.out]⟩, rfl⟩
  · have HX : Hid (¬ LongT m t) := h1
    clear h1 IX
    go_wp2
    go_ret
    exact ⟨⟨_, rfl, by simp [HX.out]⟩, rfl⟩
/-- What filesFault tells of files and of what is to be a path. -/
def FtIs (n : Nat) (F : Nat → Fi) (m : Nat) (t : Nat → ByteArray) (c : Int) : Prop :=
  ((4096 < n ∨ LongT m t) ∧ c = 2) ∨ (¬ (4096 < n ∨ LongT m t) ∧ ((¬ FsOk n F ∧ c = 1) ∨ (FsOk n F ∧ (((∃ i, i < m ∧ ¬ PathOk (t i)) ∧ c = 16) ∨ ((∀ i, i < m → PathOk (t i)) ∧ c = 0)))))
theorem FtIs.uniq {n : Nat} {F : Nat → Fi} {m : Nat} {t : Nat → ByteArray} {c c' : Int} (h : FtIs n F m t c) (h' : FtIs n F m t c') : c = c' := by
  rcases h with ⟨a, rfl⟩ | ⟨a, ⟨b, rfl⟩ | ⟨b, ⟨⟨i, hi, g⟩, rfl⟩ | ⟨g, rfl⟩⟩⟩ <;> rcases h' with ⟨a', rfl⟩ | ⟨a', ⟨b', rfl⟩ | ⟨b', ⟨⟨i', hi', g'⟩, rfl⟩ | ⟨g', rfl⟩⟩⟩ <;> first | rfl | exact absurd a a' | exact absurd a' a | exact absurd b b' | exact absurd b' b | exact absurd (g i' hi') g' | exact absurd (g' i hi) g
set_option maxRecDepth 100000 in
set_option maxHeartbeats 1000000 in
theorem filesFault_any (a : Option Addr) (n c : Nat) (F : Nat → Fi) (ta : Option Addr) (m tc : Nat) (t : Nat → ByteArray) (hsz : ∀ i, i < n → (F i).p.size ≤ 1048576) (hnn : n ≤ 1048576) (hsl : SlP a n c) (hm : m ≤ 1048576) (w : World) (h : Els w 3 a n (fiF F)) (ht : Strs w ta m t) :
    Calls Tryz.prog 78 #[.slice a n c, .slice ta m tc] w fun e w' => (∃ x : Int, e = .returned (.int .i64 x) ∧ FtIs n F m t x) ∧ Below w.heap.size w w' := by
  by_cases h0 : 4096 < n
  · have g0 : decide ((4096 : Int) < (n : Int)) = true := by simp; omega
    have g0' : (4096 : Int) < (n : Int) := by omega
    have HX : Hid (FtIs n F m t 2) := .inl ⟨.inl h0, rfl⟩
    clear h ht hsz
    go_enter Tryz.func78, Tryz.ntmps78
    go_wp2
    go_ret
    exact ⟨⟨_, rfl, HX.out⟩, Below.refl _ _⟩
  · have g0 : decide ((4096 : Int) < (n : Int)) = false := by simp; omega
    have g0' : ¬ (4096 : Int) < (n : Int) := by omega
    have HN : Hid (¬ 4096 < n) := h0
    have CT : Hid (Calls Tryz.prog 106 #[.slice ta m tc, .func (.func 48) #[] #[]] w fun e w' => Says e (LongT m t) ∧ w' = w) := containsT_any ta m tc t hm w ht
    have FO : Hid (Calls Tryz.prog 10 #[.slice a n c] w fun e w' => Says e (FsOk n F) ∧ Below w.heap.size w w') := implFilesOK_any a n c F hsz hsl w h
    have HT : Hid (Strs w ta m t) := ht
    clear h ht hsz h0
    go_enter Tryz.func78, Tryz.ntmps78
    go_wp2_with fail
    refine (Calls.mono CT.out) ?_
    rintro e w1 ⟨⟨b, rfl, hb⟩, rfl⟩
    have HLb : Hid (b = true ↔ LongT m t) := hb
    clear hb CT
    cases b with
    | true =>
      have HX : Hid (FtIs n F m t 2) := .inl ⟨.inr (HLb.out.1 rfl), rfl⟩
      clear HLb
      go_wp2
      go_ret
      exact ⟨⟨_, rfl, HX.out⟩, Below.refl _ _⟩
    | false =>
      have HL : Hid (¬ (4096 < n ∨ LongT m t)) := fun q => q.elim HN.out (fun q => by have := HLb.out.2 q; cases this)
      clear HLb
      go_wp2_with fail
      refine (Calls.mono FO.out) ?_
      rintro e w3 ⟨⟨b, rfl, hb'⟩, hb⟩
      have HK : Hid (b = true ↔ FsOk n F) := hb'
      clear hb' FO
      cases b with
      | false =>
        have HX : Hid (FtIs n F m t 1) := .inr ⟨HL.out, .inl ⟨(fun q => by have := HK.out.2 q; cases this), rfl⟩⟩
        clear HK
        go_wp2
        go_ret
        exact ⟨⟨_, rfl, HX.out⟩, hb⟩
      | true =>
        have HO : Hid (FsOk n F) := HK.out.1 rfl
        have HS : Hid (Strs w3 ta m t) := HT.out.below hb
        have HB2 : Hid (Below w1.heap.size w1 w3) := hb
        have HSZ : Hid (∀ i, i < m → (t i).size ≤ 1048576) := fun i hi => by
          rcases Nat.lt_or_ge 65536 (t i).size with q | q
          · exact absurd (.inr ⟨i, hi, q⟩) HL.out
          · omega
        clear HK hb HT
        go_wp2
        go_loopw [19] (fun i wr => ∃ k : Nat, k ≤ m ∧ i = .int .i64 k ∧ (∀ j, j < k → PathOk (t j)) ∧ Below w1.heap.size w1 wr ∧ Strs wr ta m t) (fun i _ => m - (intOf i).toNat)
        case atStart => exact ⟨0, by omega, rfl, fun j hj => absurd hj (by omega), HB2.out, HS.out⟩
        case round =>
          obtain ⟨k, hk, rfl, hI, hb, hs⟩ := hrel
          have HI : Hid (∀ j, j < k → PathOk (t j)) := hI
          have HB : Hid (Below w1.heap.size w1 wr) := hb
          have HT : Hid (Strs wr ta m t) := hs
          clear hI hb hs HB2 HS
          by_cases hlt : k < m
          · have hlt' : (k : Int) < (m : Int) := by omega
            obtain ⟨b, off, rfl, hc⟩ := HT.out.opened (by omega)
            have c0 := hc k hlt
            have PO : Hid (∀ w : World, Calls Tryz.prog 30 #[.string (t k)] w fun e w' => Says e (PathOk (t k)) ∧ Below w.heap.size w w') := implPathOK_any (t k) (HSZ.out k hlt)
            clear hc
            go_wp2_with fail
            refine (PO.out _).mono ?_
            rintro e w2 ⟨⟨b', rfl, hb'⟩, hb⟩
            have HP : Hid (b' = true ↔ PathOk (t k)) := hb'
            have B2 : Hid (Below w1.heap.size w1 w2) := HB.out.trans (hb.mono HB.out.size)
            have T2 : Hid (Strs w2 (some ⟨b, off, none⟩) m t) := HT.out.below hb
            clear hb' hb PO c0 HB HT
            cases b' with
            | true =>
              have HPk : Hid (PathOk (t k)) := HP.out.1 rfl
              clear HP
              go_wp2
              go_roundw
              case rel => exact ⟨k + 1, by omega, by go_num, fun j hj => by
                by_cases e : j = k
                · subst e; exact HPk.out
                · exact HI.out j (by omega), B2.out, T2.out⟩
              case measure => simp [intOf]; omega
            | false =>
              have HX : Hid (FtIs n F m t 16) := .inr ⟨HL.out, .inr ⟨HO.out, .inl ⟨⟨k, hlt, fun q => by have := HP.out.2 q; cases this⟩, rfl⟩⟩⟩
              clear HP
              go_wp2
              go_ret
              exact ⟨⟨_, rfl, HX.out⟩, B2.out⟩
          · obtain rfl : k = m := by omega
            have HX : Hid (FtIs n F k t 0) := .inr ⟨HL.out, .inr ⟨HO.out, .inr ⟨HI.out, rfl⟩⟩⟩
            go_wp2
            go_ret
            exact ⟨⟨_, rfl, HX.out⟩, HB.out⟩
end Go.Proofs.YtgcdoabcopihlaaGreat
