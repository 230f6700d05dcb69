/-
  The exact law of ReadBank (written by tools/bankgen.py).
-/
import Derived.Test.YtmejmpdnmhnheabDoorReadB
import Derived.Test.YtmejmpdnmhnheabDoorReadBS
import Derived.Test.YtmejmpdnmhnheabDoorBankTo
import Derived.Test.YtmejmpdnmhnheabDoorByteS
namespace Go.Proofs.YtmejmpdnmhnheabDoor
open Go.ChangeShapes Go.WideShapes Go.ChangeAt Go.RowKit
set_option linter.unusedVariables false
theorem rows_of_ret {w w' : World} {e : Ending} {d : Bk} (h : RetBk w w' e d) : ∃ a0 x0 a1 x1 g0 g1, e = .returned (.tuple #[.agg #[.slice a0 d.nr x0, .slice a1 d.ns x1], .int .i64 0]) ∧ RowB w' d a0 a1 g0 g1 ∧ (0 < d.nr → w.heap.size ≤ g0 ∧ g0 < w'.heap.size) ∧ (0 < d.ns → w.heap.size ≤ g1 ∧ g1 < w'.heap.size) := by
  obtain ⟨a0, c0, a1, c1, he, h0, h1, hn⟩ := h
  obtain ⟨g0, r0, b0⟩ := h0.rowE
  obtain ⟨g1, r1, b1⟩ := h1.rowE
  refine ⟨a0, c0, a1, c1, g0, g1, he, ⟨r0, r1, fun q0 q1 e => ?_⟩, fun q => ⟨b0 q, r0.lt (by omega) q⟩, fun q => ⟨b1 q, r1.lt (by omega) q⟩⟩
  have e0 := r0.a q0
  have e1 := r1.a q1
  subst e0
  subst e1
  exact hn g0 rfl (by rw [e]; rfl)
def bkZ : Bk := ⟨0, fun _ => rgZ, 0, fun _ => seZ⟩
theorem rows_no (w : World) : RowB w bkZ none none 0 0 := ⟨RowE.nil _ _ _ _ _, RowE.nil _ _ _ _ _, fun q => absurd q (by show ¬ 0 < 0; omega)⟩
set_option maxRecDepth 100000 in
theorem implReadBank_long (a : Option Addr) (N c : Nat) (hN : 65536 < N) (w : World) : Calls Tryd.prog 22 #[.slice a N c] w fun e w' => RetNo e 2 ∧ Below w.heap.size w w' := by
  have n1 : (65536 : Int) < (N : Int) := by omega
  have X : Hid (Box2 (w.alloc (.cells #[.slice none 0 0, .slice none 0 0] 33)) w.heap.size 33 (.slice none 0 0) (.slice none 0 0)) := Box2.made _ _ _ _
  go_enter Tryd.func22, Tryd.ntmps22
  go_wp2
  exact ret_cell2 (b := w.heap.size) Tryd.results22 rfl rfl (Box2.loadB X.out) ⟨rfl, (Below.refl _ _).alloc (Nat.le_refl _) _⟩
set_option maxRecDepth 100000 in
theorem specReadBank_long (a : Option Addr) (N c : Nat) (hN : 65536 < N) (w : World) : Calls Tryd.prog 20 #[.slice a N c] w fun e w' => RetNo e 2 ∧ Below w.heap.size w w' := by
  have n1 : (65536 : Int) < (N : Int) := by omega
  have X : Hid (Box2 (w.alloc (.cells #[.slice none 0 0, .slice none 0 0] 33)) w.heap.size 33 (.slice none 0 0) (.slice none 0 0)) := Box2.made _ _ _ _
  go_enter Tryd.func20, Tryd.ntmps20
  go_wp2
  exact ret_cell2 (b := w.heap.size) Tryd.results20 rfl rfl (Box2.loadB X.out) ⟨rfl, (Below.refl _ _).alloc (Nat.le_refl _) _⟩
/-- The answers of both, alike. -/
theorem rb_some (T : ByteArray) : ∃ (d : Bk) (cd : Int), d.nr ≤ 1000 ∧ d.ns ≤ 1000 ∧ (∀ (b o c : Nat) (w : World), Code8 w (some ⟨b, o, none⟩) T.size (strB T) → Calls Tryd.prog 20 #[.slice (some ⟨b, o, none⟩) T.size c] w fun e w' => (∃ a0 x0 a1 x1 g0 g1, e = .returned (.tuple #[.agg #[.slice a0 d.nr x0, .slice a1 d.ns x1], .int .i64 cd]) ∧ RowB w' d a0 a1 g0 g1 ∧ (0 < d.nr → w.heap.size ≤ g0 ∧ g0 < w'.heap.size) ∧ (0 < d.ns → w.heap.size ≤ g1 ∧ g1 < w'.heap.size)) ∧ Below w.heap.size w w') ∧ (∀ (b o c : Nat) (w : World), T.size ≤ c → Code8 w (some ⟨b, o, none⟩) T.size (strB T) → TabW w → Calls Tryd.prog 22 #[.slice (some ⟨b, o, none⟩) T.size c] w fun e w' => (∃ a0 x0 a1 x1 g0 g1, e = .returned (.tuple #[.agg #[.slice a0 d.nr x0, .slice a1 d.ns x1], .int .i64 cd]) ∧ RowB w' d a0 a1 g0 g1 ∧ (0 < d.nr → w.heap.size ≤ g0 ∧ g0 < w'.heap.size) ∧ (0 < d.ns → w.heap.size ≤ g1 ∧ g1 < w'.heap.size)) ∧ Below w.heap.size w w') := by
  by_cases hN : T.size ≤ 65536
  · by_cases hG : Whole T.size (strB T) ∧ (pB (strB T)).Ok
    · refine ⟨pB (strB T), 0, by have := hG.2.1.1; omega, by have := hG.2.2.1; omega, fun b o c w h => (specReadBank_is T b o c hN w h).mono ?_, fun b o c w hc h hT => (implReadBank_is (some ⟨b, o, none⟩) T.size c (strB T) (strB_lt T) hN hc w h hT).mono ?_⟩
      · rintro e w' ⟨⟨_, hr⟩ | ⟨hn, _⟩, hb⟩
        · exact ⟨rows_of_ret hr, hb⟩
        · exact absurd hG hn
      · rintro e w' ⟨⟨_, hr⟩ | ⟨hn, _⟩, hb⟩
        · exact ⟨rows_of_ret hr, hb⟩
        · exact absurd hG hn
    · refine ⟨bkZ, 3, by show 0 ≤ 1000; omega, by show 0 ≤ 1000; omega, fun b o c w h => (specReadBank_is T b o c hN w h).mono ?_, fun b o c w hc h hT => (implReadBank_is (some ⟨b, o, none⟩) T.size c (strB T) (strB_lt T) hN hc w h hT).mono ?_⟩
      · rintro e w' ⟨⟨hn, _⟩ | ⟨_, hr⟩, hb⟩
        · exact absurd hn hG
        · exact ⟨⟨none, 0, none, 0, 0, 0, hr, rows_no w', fun q => absurd q (by show ¬ 0 < 0; omega), fun q => absurd q (by show ¬ 0 < 0; omega)⟩, hb⟩
      · rintro e w' ⟨⟨hn, _⟩ | ⟨_, hr⟩, hb⟩
        · exact absurd hn hG
        · exact ⟨⟨none, 0, none, 0, 0, 0, hr, rows_no w', fun q => absurd q (by show ¬ 0 < 0; omega), fun q => absurd q (by show ¬ 0 < 0; omega)⟩, hb⟩
  · refine ⟨bkZ, 2, by show 0 ≤ 1000; omega, by show 0 ≤ 1000; omega, fun b o c w h => (specReadBank_long _ T.size c (by omega) w).mono ?_, fun b o c w hc h hT => (implReadBank_long _ T.size c (by omega) w).mono ?_⟩
    · rintro e w' ⟨hr, hb⟩
      exact ⟨⟨none, 0, none, 0, 0, 0, hr, rows_no w', fun q => absurd q (by show ¬ 0 < 0; omega), fun q => absurd q (by show ¬ 0 < 0; omega)⟩, hb⟩
    · rintro e w' ⟨hr, hb⟩
      exact ⟨⟨none, 0, none, 0, 0, 0, hr, rows_no w', fun q => absurd q (by show ¬ 0 < 0; omega), fun q => absurd q (by show ¬ 0 < 0; omega)⟩, hb⟩
theorem RowB.onlyB {w w' : World} {b : Bk} {a0 a1 : Option Addr} {g0 g1 q : Nat} (h : RowB w b a0 a1 g0 g1) (ho : OnlyB q w w') (n0 : 0 < b.nr → g0 ≠ q) (n1 : 0 < b.ns → g1 ≠ q) : RowB w' b a0 a1 g0 g1 := ⟨h.s0.onlyB (by omega) ho n0, h.s1.onlyB (by omega) ho n1, h.ne⟩
set_option maxRecDepth 100000 in
set_option maxHeartbeats 4000000 in
theorem lawc_readBank (a : Option Addr) (T : ByteArray) (c : Nat) (hm : T.size ≤ maxLen) (w : World) (h : Code8 w a T.size (strB T)) (hT : TabW w) :
    Calls Tryd.prog 5 #[.slice a T.size c] w fun e w' => e = .returned (.bool true) ∧ Below w.heap.size w w' := by
  unfold maxLen at hm
  by_cases hl : 1048576 < T.size
  · have hl' : (1048576 : Int) < (T.size : Int) := by omega
    go_enter Tryd.func5, Tryd.ntmps5
    go_wp2
    go_ret
    exact ⟨rfl, Below.refl _ _⟩
  · have hl' : ¬ (1048576 : Int) < (T.size : Int) := by omega
    have hn : T.size ≤ 1048576 := by omega
    obtain ⟨d, cd, hd0, hd1, hS, hI⟩ := rb_some T
    have SO : Hid (∀ (b o c : Nat) (w : World), Code8 w (some ⟨b, o, none⟩) T.size (strB T) → Calls Tryd.prog 20 #[.slice (some ⟨b, o, none⟩) T.size c] w fun e w' => (∃ a0 x0 a1 x1 g0 g1, e = .returned (.tuple #[.agg #[.slice a0 d.nr x0, .slice a1 d.ns x1], .int .i64 cd]) ∧ RowB w' d a0 a1 g0 g1 ∧ (0 < d.nr → w.heap.size ≤ g0 ∧ g0 < w'.heap.size) ∧ (0 < d.ns → w.heap.size ≤ g1 ∧ g1 < w'.heap.size)) ∧ Below w.heap.size w w') := hS
    have IY : Hid (∀ (b o c : Nat) (w : World), T.size ≤ c → Code8 w (some ⟨b, o, none⟩) T.size (strB T) → TabW w → Calls Tryd.prog 22 #[.slice (some ⟨b, o, none⟩) T.size c] w fun e w' => (∃ a0 x0 a1 x1 g0 g1, e = .returned (.tuple #[.agg #[.slice a0 d.nr x0, .slice a1 d.ns x1], .int .i64 cd]) ∧ RowB w' d a0 a1 g0 g1 ∧ (0 < d.nr → w.heap.size ≤ g0 ∧ g0 < w'.heap.size) ∧ (0 < d.ns → w.heap.size ≤ g1 ∧ g1 < w'.heap.size)) ∧ Below w.heap.size w w') := hI
    have TO : Hid (∀ w : World, Code8 w a T.size (strB T) → Calls Tryd.prog 21 #[.slice a T.size c] w fun e w' => (e = .returned (.slice (some ⟨w.heap.size, 0, none⟩) T.size T.size) ∧ Own8 w' w.heap.size T.size (strB T)) ∧ Below w.heap.size w w') := fun w h => (toByteS_any a T.size c (strB T) w h hn).mono fun _ _ q => ⟨⟨q.1, q.2.1⟩, q.2.2⟩
    have EB : Hid (∀ (a b : Option Addr) (x y : Nat) (w : World), Code8 w a T.size (strB T) → Code8 w b T.size (strB T) → Calls Tryd.prog 17 #[.slice a T.size x, .slice b T.size y] w fun e w' => e = .returned (.bool true) ∧ Below w.heap.size w w') := fun a b x y w h h' => (eqByteS_yes a b T.size x y (strB T) w h h' hn).mono fun _ _ q => ⟨q.1, by obtain ⟨k, rfl⟩ := q.2; exact below_drewN8 (Below.refl _ _) k⟩
    have MB : Hid (∀ (b x : Nat) (w : World), Own8 w b T.size (strB T) → Calls Tryd.prog 18 #[.slice (some ⟨b, 0, none⟩) T.size x, .int .i64 1] w fun e w' => e = .returned (.int .i64 ((T.size + 1 : Nat) : Int)) ∧ OnlyB b w w') := fun b x w h => (markOwn b T.size x (strB T) w h hn).mono fun _ _ q => ⟨q.1, q.2.2⟩
    have EQ : Hid (∀ (b0 b1 e0 e1 : Option Addr) (x0 x1 y0 y1 : Nat) (w : World), BankV w d b0 b1 → BankV w d e0 e1 → Calls Tryd.prog 12 #[.agg #[.slice b0 d.nr x0, .slice b1 d.ns x1], .agg #[.slice e0 d.nr y0, .slice e1 d.ns y1]] w fun e w' => e = .returned (.bool true) ∧ Below w.heap.size w w') := fun b0 b1 e0 e1 x0 x1 y0 y1 w h h' => eqBank_yes d b0 b1 e0 e1 x0 x1 y0 y1 w h h' (by omega) (by omega)
    have MK : Hid (∀ (B : Nat) (b0 b1 : Option Addr) (x0 x1 g0 g1 : Nat) (w : World), (0 < d.nr → B ≤ g0) ∧ (0 < d.ns → B ≤ g1) → B ≤ w.heap.size → RowB w d b0 b1 g0 g1 → Calls Tryd.prog 13 #[.agg #[.slice b0 d.nr x0, .slice b1 d.ns x1], .int .i64 1] w fun e w' => e = .returned (.int .i64 ((1 + 3 * d.nr + 4 * d.ns : Nat) : Int)) ∧ RowB w' (d.marked 1) b0 b1 g0 g1 ∧ KeepB w w' d g0 g1 ∧ Below B w w') := fun B b0 b1 x0 x1 g0 g1 w hB hw h => markBank_any B d b0 b1 x0 x1 g0 g1 1 (by omega) (by omega) hB w hw h
    have HH : Hid (∀ (b0 b1 : Option Addr) (x0 x1 : Nat) (w : World), BankV w (d.marked 1) b0 b1 → Calls Tryd.prog 14 #[.agg #[.slice b0 d.nr x0, .slice b1 d.ns x1], .int .i64 1] w fun e w' => e = .returned (.int .i64 ((1 + 3 * d.nr + 4 * d.ns : Nat) : Int)) ∧ Below w.heap.size w w') := fun b0 b1 x0 x1 w h => heldBank_yes d b0 b1 x0 x1 1 (by omega) (by omega) w h
    have rr : (cd != cd) = false := by simp
    have kz : ¬ ((1 + 3 * d.nr + 4 * d.ns : Nat) : Int) < 0 := by omega
    have ke : (((1 + 3 * d.nr + 4 * d.ns : Nat) : Int) != ((1 + 3 * d.nr + 4 * d.ns : Nat) : Int)) = false := by simp
    have nz : ¬ ((T.size + 1 : Nat) : Int) < 0 := by omega
    clear hS hI hn hl hd0 hd1 hm
    generalize ((1 + 3 * d.nr + 4 * d.ns : Nat) : Int) = K1 at *
    generalize ((T.size + 1 : Nat) : Int) = N1 at *
    have HC : Hid (Code8 w a T.size (strB T)) := h
    have TW : Hid (TabW w) := hT
    have A1 : Hid (Below w.heap.size w w) := Below.refl _ _
    clear h hT
    go_enter Tryd.func5, Tryd.ntmps5
    go_wp2_with fail
    refine (TO.out _ (HC.out.below A1.out)).mono ?_
    rintro e v1 ⟨⟨rfl, hx⟩, hb⟩
    replace A1 : Hid (Below w.heap.size w v1) := A1.out.trans (hb.mono A1.out.size)
    have XA : Hid (Code8 v1 (some ⟨w.heap.size, 0, none⟩) T.size (strB T)) := hx.code
    clear hb hx
    go_wp2_with fail
    refine (SO.out _ _ _ _ XA.out).mono ?_
    rintro e v2 ⟨⟨wa0, wx0, wa1, wx1, wg0, wg1, rfl, hr, hl0, hl1⟩, hb⟩
    replace A1 : Hid (Below w.heap.size w v2) := A1.out.trans (hb.mono A1.out.size)
    have W0 : Hid (BankV v2 d wa0 wa1) := hr.bankV
    clear hb hr hl0 hl1 SO XA
    have hb : Below v2.heap.size v2 (v2.alloc (.cells #[.slice wa0 d.nr wx0, .slice wa1 d.ns wx1] 33)) := (Below.refl _ _).alloc (Nat.le_refl _) _
    have PW : Hid (Box2 (v2.alloc (.cells #[.slice wa0 d.nr wx0, .slice wa1 d.ns wx1] 33)) v2.heap.size 33 (.slice wa0 d.nr wx0) (.slice wa1 d.ns wx1)) := Box2.madeAt rfl _ _ _
    go_wp2_with fail
    generalize (v2.alloc (.cells #[.slice wa0 d.nr wx0, .slice wa1 d.ns wx1] 33)) = v3 at *
    replace A1 : Hid (Below w.heap.size w v3) := A1.out.trans (hb.mono A1.out.size)
    replace W0 : Hid (BankV v3 d wa0 wa1) := W0.out.below hb
    clear hb 
    obtain ⟨pw, hpw⟩ : ∃ bx, bx = v2.heap.size := ⟨_, rfl⟩
    rw [← hpw] at PW ⊢
    clear hpw
    refine (TO.out _ (HC.out.below A1.out)).mono ?_
    rintro e v4 ⟨⟨rfl, hx⟩, hb⟩
    have AX : Hid (Below w.heap.size w v3) := A1.out
    have KX : Hid (Below v3.heap.size v3 v4) := hb
    obtain ⟨gX, hgX⟩ : ∃ gX, gX = v3.heap.size := ⟨_, rfl⟩
    rw [← hgX] at hx ⊢
    have GX : Hid (gX = v3.heap.size) := hgX
    have XO : Hid (Own8 v4 gX T.size (strB T)) := hx
    have LX : Hid (gX < v4.heap.size) := hx.lt
    clear hx hb hgX A1
    have VI : Hid (gX < v4.heap.size ∧ v3.heap.size ≤ v4.heap.size) := ⟨LX.out, KX.out.size⟩
    clear LX
    go_wp2_with fail
    refine (IY.out _ _ _ _ (Nat.le_refl _) XO.out.code (TW.out.below (AX.out.trans (KX.out.mono AX.out.size)))).mono ?_
    rintro e v5 ⟨⟨ga0, gx0, ga1, gx1, gg0, gg1, rfl, hr, hl0, hl1⟩, hb⟩
    replace KX : Hid (Below v3.heap.size v3 v5) := (KX.out).trans (hb.mono KX.out.size)
    replace XO : Hid (Own8 v5 gX T.size (strB T)) := XO.out.below hb
    have GG : Hid (RowB v5 d ga0 ga1 gg0 gg1) := hr
    have GL : Hid ((0 < d.nr → v4.heap.size ≤ gg0 ∧ gg0 < v5.heap.size) ∧ (0 < d.ns → v4.heap.size ≤ gg1 ∧ gg1 < v5.heap.size)) := ⟨hl0, hl1⟩
    have VJ : Hid (v4.heap.size ≤ v5.heap.size) := hb.size
    clear hb hr hl0 hl1
    have hb : Below v5.heap.size v5 (v5.alloc (.cells #[.slice ga0 d.nr gx0, .slice ga1 d.ns gx1] 33)) := (Below.refl _ _).alloc (Nat.le_refl _) _
    have PG : Hid (Box2 (v5.alloc (.cells #[.slice ga0 d.nr gx0, .slice ga1 d.ns gx1] 33)) v5.heap.size 33 (.slice ga0 d.nr gx0) (.slice ga1 d.ns gx1)) := Box2.madeAt rfl _ _ _
    have VK : Hid (v4.heap.size ≤ v5.heap.size) := VJ.out
    have w0a := (PW.out.below (KX.out.trans (hb.mono KX.out.size))).c0
    have w0b := (PW.out.below (KX.out.trans (hb.mono KX.out.size))).c1
    go_wp2_with fail
    generalize (v5.alloc (.cells #[.slice ga0 d.nr gx0, .slice ga1 d.ns gx1] 33)) = v6 at *
    replace KX : Hid (Below v3.heap.size v3 v6) := (KX.out).trans (hb.mono KX.out.size)
    replace XO : Hid (Own8 v6 gX T.size (strB T)) := XO.out.below hb
    replace GG : Hid (RowB v6 d ga0 ga1 gg0 gg1) := GG.out.below hb
    replace VJ : Hid (v4.heap.size ≤ v6.heap.size) := Nat.le_trans VJ.out hb.size
    clear hb w0a w0b
    obtain ⟨pg, hpg⟩ : ∃ bx, bx = v5.heap.size := ⟨_, rfl⟩
    rw [← hpg] at PG GL ⊢
    have VP : Hid (v4.heap.size ≤ pg) := by rw [hpg]; exact VK.out
    clear hpg VK
    refine (EQ.out _ _ _ _ _ _ _ _ _ GG.out.bankV (W0.out.below KX.out)).mono ?_
    rintro e v7 ⟨rfl, hb⟩
    replace KX : Hid (Below v3.heap.size v3 v7) := (KX.out).trans (hb.mono KX.out.size)
    replace XO : Hid (Own8 v7 gX T.size (strB T)) := XO.out.below hb
    replace GG : Hid (RowB v7 d ga0 ga1 gg0 gg1) := GG.out.below hb
    replace VJ : Hid (v4.heap.size ≤ v7.heap.size) := Nat.le_trans VJ.out hb.size
    replace PG : Hid (Box2 v7 pg 33 (.slice ga0 d.nr gx0) (.slice ga1 d.ns gx1)) := PG.out.below hb
    clear hb 
    go_wp2_with fail
    refine (TO.out _ (HC.out.below (AX.out.trans (KX.out.mono AX.out.size)))).mono ?_
    rintro e v8 ⟨⟨rfl, hx⟩, hb⟩
    replace KX : Hid (Below v3.heap.size v3 v8) := (KX.out).trans (hb.mono KX.out.size)
    replace XO : Hid (Own8 v8 gX T.size (strB T)) := XO.out.below hb
    replace GG : Hid (RowB v8 d ga0 ga1 gg0 gg1) := GG.out.below hb
    replace VJ : Hid (v4.heap.size ≤ v8.heap.size) := Nat.le_trans VJ.out hb.size
    replace PG : Hid (Box2 v8 pg 33 (.slice ga0 d.nr gx0) (.slice ga1 d.ns gx1)) := PG.out.below hb
    have XC : Hid (Code8 v8 (some ⟨v7.heap.size, 0, none⟩) T.size (strB T)) := hx.code
    clear hb hx
    go_wp2_with fail
    refine (EB.out _ _ _ _ _ XO.out.code XC.out).mono ?_
    rintro e v9 ⟨rfl, hb⟩
    replace KX : Hid (Below v3.heap.size v3 v9) := (KX.out).trans (hb.mono KX.out.size)
    replace XO : Hid (Own8 v9 gX T.size (strB T)) := XO.out.below hb
    replace GG : Hid (RowB v9 d ga0 ga1 gg0 gg1) := GG.out.below hb
    replace VJ : Hid (v4.heap.size ≤ v9.heap.size) := Nat.le_trans VJ.out hb.size
    replace PG : Hid (Box2 v9 pg 33 (.slice ga0 d.nr gx0) (.slice ga1 d.ns gx1)) := PG.out.below hb
    clear hb XC
    go_wp2_with fail
    refine (MB.out _ _ _ XO.out).mono ?_
    rintro e v10 ⟨rfl, ho⟩
    replace GG : Hid (RowB v10 d ga0 ga1 gg0 gg1) := GG.out.onlyB ho (fun q => by have q1 := GL.out.1 q; have q2 := VI.out; omega) (fun q => by have q1 := GL.out.2 q; have q2 := VI.out; omega)
    replace PG : Hid (Box2 v10 pg 33 (.slice ga0 d.nr gx0) (.slice ga1 d.ns gx1)) := PG.out.onlyB ho (by have q1 := VP.out; have q2 := VI.out; omega)
    replace KX : Hid (Below v3.heap.size v3 v10) := KX.out.trans (ho.toBelow (by rw [GX.out]; exact Nat.le_refl _) KX.out.size)
    replace VJ : Hid (v4.heap.size ≤ v10.heap.size) := Nat.le_trans VJ.out ho.size
    clear ho XO MB
    have w0a := (PW.out.below KX.out).c0
    have w0b := (PW.out.below KX.out).c1
    have g0a := PG.out.c0
    have g0b := PG.out.c1
    go_wp2_with fail
    clear w0a w0b g0a g0b
    refine (EQ.out _ _ _ _ _ _ _ _ _ GG.out.bankV (W0.out.below KX.out)).mono ?_
    rintro e v11 ⟨rfl, hb⟩
    replace KX : Hid (Below v3.heap.size v3 v11) := (KX.out).trans (hb.mono KX.out.size)
    replace GG : Hid (RowB v11 d ga0 ga1 gg0 gg1) := GG.out.below hb
    replace VJ : Hid (v4.heap.size ≤ v11.heap.size) := Nat.le_trans VJ.out hb.size
    replace PG : Hid (Box2 v11 pg 33 (.slice ga0 d.nr gx0) (.slice ga1 d.ns gx1)) := PG.out.below hb
    clear hb 
    have g0a := PG.out.c0
    have g0b := PG.out.c1
    go_wp2_with fail
    clear g0a g0b
    refine (MK.out v4.heap.size _ _ _ _ gg0 gg1 _ ⟨fun q => (GL.out.1 q).1, fun q => (GL.out.2 q).1⟩ VJ.out GG.out).mono ?_
    rintro e v12 ⟨rfl, hr, hk, hb⟩
    replace GG : Hid (BankV v12 (d.marked 1) ga0 ga1) := hr.bankV
    replace PG : Hid (Box2 v12 pg 33 (.slice ga0 d.nr gx0) (.slice ga1 d.ns gx1)) := PG.out.ofBlock (hk.2 pg PG.out.lt (fun q => by have q1 := GL.out.1 q; omega) (fun q => by have q1 := GL.out.2 q; omega))
    replace KX : Hid (Below v3.heap.size v3 v12) := KX.out.trans (hb.mono VI.out.2)
    clear hr hk hb MK VJ GL VP
    have g0a := PG.out.c0
    have g0b := PG.out.c1
    go_wp2_with fail
    clear g0a g0b
    refine (HH.out _ _ _ _ _ GG.out).mono ?_
    rintro e v13 ⟨rfl, hb⟩
    replace KX : Hid (Below v3.heap.size v3 v13) := (KX.out).trans (hb.mono KX.out.size)
    replace PG : Hid (Box2 v13 pg 33 (.slice ga0 d.nr gx0) (.slice ga1 d.ns gx1)) := PG.out.below hb
    replace GG : Hid (BankV v13 (d.marked 1) ga0 ga1) := GG.out.below hb
    clear hb 
    go_wp2_with fail
    refine (TO.out _ (HC.out.below (AX.out.trans (KX.out.mono AX.out.size)))).mono ?_
    rintro e v14 ⟨⟨rfl, hx⟩, hb⟩
    replace KX : Hid (Below v3.heap.size v3 v14) := (KX.out).trans (hb.mono KX.out.size)
    replace PG : Hid (Box2 v14 pg 33 (.slice ga0 d.nr gx0) (.slice ga1 d.ns gx1)) := PG.out.below hb
    replace GG : Hid (BankV v14 (d.marked 1) ga0 ga1) := GG.out.below hb
    have XC : Hid (Code8 v14 (some ⟨v13.heap.size, 0, none⟩) T.size (strB T)) := hx.code
    clear hb hx TO
    go_wp2_with fail
    refine (IY.out _ _ _ _ (Nat.le_refl _) XC.out (TW.out.below (AX.out.trans (KX.out.mono AX.out.size)))).mono ?_
    rintro e v15 ⟨⟨ha0, hx0, ha1, hx1, hg0, hg1, rfl, hr, hl0, hl1⟩, hb⟩
    replace KX : Hid (Below v3.heap.size v3 v15) := (KX.out).trans (hb.mono KX.out.size)
    replace PG : Hid (Box2 v15 pg 33 (.slice ga0 d.nr gx0) (.slice ga1 d.ns gx1)) := PG.out.below hb
    replace GG : Hid (BankV v15 (d.marked 1) ga0 ga1) := GG.out.below hb
    have H0 : Hid (BankV v15 d ha0 ha1) := hr.bankV
    clear hb hr hl0 hl1 XC IY
    have hb : Below v15.heap.size v15 (v15.alloc (.cells #[.slice ha0 d.nr hx0, .slice ha1 d.ns hx1] 33)) := (Below.refl _ _).alloc (Nat.le_refl _) _
    have w0a := (PW.out.below (KX.out.trans (hb.mono KX.out.size))).c0
    have w0b := (PW.out.below (KX.out.trans (hb.mono KX.out.size))).c1
    go_wp2_with fail
    generalize (v15.alloc (.cells #[.slice ha0 d.nr hx0, .slice ha1 d.ns hx1] 33)) = v16 at *
    replace KX : Hid (Below v3.heap.size v3 v16) := (KX.out).trans (hb.mono KX.out.size)
    replace PG : Hid (Box2 v16 pg 33 (.slice ga0 d.nr gx0) (.slice ga1 d.ns gx1)) := PG.out.below hb
    replace GG : Hid (BankV v16 (d.marked 1) ga0 ga1) := GG.out.below hb
    replace H0 : Hid (BankV v16 d ha0 ha1) := H0.out.below hb
    clear hb w0a w0b
    refine (EQ.out _ _ _ _ _ _ _ _ _ H0.out (W0.out.below KX.out)).mono ?_
    rintro e v17 ⟨rfl, hb⟩
    replace KX : Hid (Below v3.heap.size v3 v17) := (KX.out).trans (hb.mono KX.out.size)
    replace PG : Hid (Box2 v17 pg 33 (.slice ga0 d.nr gx0) (.slice ga1 d.ns gx1)) := PG.out.below hb
    replace GG : Hid (BankV v17 (d.marked 1) ga0 ga1) := GG.out.below hb
    replace H0 : Hid (BankV v17 d ha0 ha1) := H0.out.below hb
    clear hb EQ
    clear H0
    have g0a := PG.out.c0
    have g0b := PG.out.c1
    go_wp2_with fail
    clear g0a g0b
    refine (HH.out _ _ _ _ _ GG.out).mono ?_
    rintro e v18 ⟨rfl, hb⟩
    replace KX : Hid (Below v3.heap.size v3 v18) := (KX.out).trans (hb.mono KX.out.size)
    replace PG : Hid (Box2 v18 pg 33 (.slice ga0 d.nr gx0) (.slice ga1 d.ns gx1)) := PG.out.below hb
    replace GG : Hid (BankV v18 (d.marked 1) ga0 ga1) := GG.out.below hb
    clear hb HH
    have FB : Hid (Below w.heap.size w v18) := AX.out.trans (KX.out.mono AX.out.size)
    clear HC TW W0 PW KX PG GG AX GX VI EB
    go_wp2
    go_ret
    exact ⟨rfl, FB.out⟩
theorem law_readBank (a : Option Addr) (len cap : Nat) (zs : List Int) (w : World) (h : IsRow .u8 w a len cap zs) (hm : len ≤ maxLen) (hT : TabW w) :
    Calls Tryd.prog 5 #[.slice a len cap] w fun e w' => e = .returned (.bool true) ∧ Below w.heap.size w w' := by
  obtain ⟨z, hz, hc⟩ := code8_of_row h
  have hs := kstr_size z 0 len
  have key := lawc_readBank a (kstr z 0 len) cap (by rw [hs]; exact hm) w (by
    rw [hs]
    exact hc.congr (fun i hi => by rw [strB_kstr z 0 len i (by rw [Nat.zero_add]; exact hz i) hi, Nat.zero_add])) hT
  rwa [hs] at key
end Go.Proofs.YtmejmpdnmhnheabDoor
