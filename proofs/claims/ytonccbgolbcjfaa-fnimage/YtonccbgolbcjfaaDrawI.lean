/-
  The draw of an image: spec.ImageOf.
-/
import Derived.Test.YtonccbgolbcjfaaSrcN
import Derived.Test.YtonccbgolbcjfaaZeros
import Derived.Test.YtonccbgolbcjfaaByteS
namespace Go.Proofs.Ytonccbgolbcjfaa
open Go.ChangeShapes Go.WideShapes Go.ChangeAt Go.RowKit
set_option linter.unusedVariables false
theorem one_newI (w : World) (x : Nat) (t : TypeId) : ∀ j u, [Value.int .u8 (x : Nat)][j]? = some u → (w.alloc (.cells #[.int .u8 (x : Nat)] t)).cell? ((⟨w.heap.size, 0, none⟩ : Addr).add j) = some u := fun j u hj => by
  have hj0 : j = 0 := by have := (List.getElem?_eq_some_iff.1 hj).1; simp at this; omega
  subst hj0
  cases hj
  rw [Addr.add_lit]
  simp
theorem one_oneI (x : Nat) : ∀ u ∈ [Value.int .u8 (x : Nat)], u.oneCell' = true := fun u hu => by
  simp at hu
  subst hu
  rfl
theorem bv_extI (k r : Nat) (f : Nat → Nat) : bv k f ++ [.int .u8 (r : Nat)] = bv (k + 1) (fun j => if j = k then r else f j) := by
  have e := bv_snoc k (fun j => if j = k then r else f j)
  rw [if_pos rfl, bv_congr (g := f) (fun i hi => if_neg (by omega))] at e
  exact e
/-- Some bytes of the call's own, at most so many. -/
def SomeI (B : Nat) (w' : World) (e : Ending) (most : Nat) : Prop := ∃ (m : Nat) (f : Nat → Nat) (g c : Nat), m ≤ most ∧ (∀ i, f i < 256) ∧ e = .returned (.slice (some ⟨g, 0, none⟩) m c) ∧ w'.ownsRow B 5 1 (.slice (some ⟨g, 0, none⟩) m c) m (bv m f)
set_option maxRecDepth 100000 in
set_option maxHeartbeats 1000000 in
theorem bytes_exI (L : Nat) (hL1 : 1 ≤ L) (hL2 : L ≤ 255) (b : Nat) (a : Option Addr) (len cap A : Nat) (z : Nat → Nat) (hz : ∀ i, z i < 256) (hA : A ≤ 1000) (hl : len ≤ maxLen) (hsep : ∀ x, 0 < len → a = some x → x.block ≠ b) (w : World) (h : SrcA w b a len cap A) (hc : Code8 w a len z) :
    Calls Try.prog 43 #[.pointer (some ⟨b, 0, none⟩), .int .i64 (L : Int)] w fun e w' => SomeI w.heap.size w' e L ∧ SrcA w' b a len cap (A + (L + 10)) ∧ OnlyB b w w' := by
  obtain ⟨i0, hi⟩ := info_parts Try.info8
  have HI : Hid (Try.prog.info? 5 = some i0 ∧ i0.zero = some (.int .u8 0) ∧ i0.size = 1 ∧ i0.bytes = 1) := hi
  have NX : Hid (∀ (n A : Nat) (w : World), 2 ≤ n → n ≤ 256 → A ≤ 100000 → SrcA w b a len cap A → Code8 w a len z → Calls Try.prog 44 #[.pointer (some ⟨b, 0, none⟩), .int .i64 (n : Int)] w fun e w' => (∃ r : Nat, r < n ∧ e = .returned (.int .i64 (r : Int))) ∧ SrcA w' b a len cap (A + 1) ∧ OnlyB b w w') := fun n A w h1 h2 h3 h4 h5 => next_ex n h1 h2 b a len cap A z hz h3 hl hsep w h4 h5
  have HC : Hid (Code8 w a len z) := hc
  have HSEP : Hid (∀ x, 0 < len → a = some x → x.block ≠ b) := hsep
  have hbl : b < w.heap.size := h.lt
  have H0 : Hid (SrcA (w.alloc (.cells #[] 5)) b a len cap A) := h.below ((Below.refl _ _).alloc (Nat.le_refl _) _)
  have HC0 : Hid (Code8 (w.alloc (.cells #[] 5)) a len z) := hc.below ((Below.refl _ _).alloc (Nat.le_refl _) _)
  have HO0 : Hid ((w.alloc (.cells #[] 5)).ownsRow w.heap.size 5 1 (.slice (some ⟨w.heap.size, 0, none⟩) 0 0) 0 (bv 0 (fun _ => 0))) := World.ownsRow_made w #[] 0 (Nat.le_refl _) (Nat.zero_le _) (by simp)
  have HB0 : Hid (OnlyB b w (w.alloc (.cells #[] 5))) := (OnlyB.refl b w).below ((Below.refl _ _).alloc (Nat.le_refl _) _)
  have NX31 : Hid (∀ w : World, SrcA w b a len cap A → Code8 w a len z → Calls Try.prog 44 #[.pointer (some ⟨b, 0, none⟩), .int .i64 ((L : Int) + 1)] w fun e w' => (∃ r : Nat, r < L + 1 ∧ e = .returned (.int .i64 (r : Int))) ∧ SrcA w' b a len cap (A + 1) ∧ OnlyB b w w') := fun w h1 h2 => by
    have := NX.out (L + 1) A w (by omega) (by omega) (by omega) h1 h2
    rw [show ((L + 1 : Nat) : Int) = (L : Int) + 1 from by omega] at this
    exact this
  clear h hc hsep hz hi
  go_enter Try.func43, Try.ntmps43
  go_wp2_with fail
  refine (NX31.out _ H0.out HC0.out).mono ?_
  rintro e w1 ⟨⟨m, hm, rfl⟩, hs1, ho1⟩
  have HO1 : Hid (w1.ownsRow w.heap.size 5 1 (.slice (some ⟨w.heap.size, 0, none⟩) 0 0) 0 (bv 0 (fun _ => 0))) := ownsRow_onlyBQ HO0.out ho1 hbl
  have HS1 : Hid (SrcA w1 b a len cap (A + 1)) := hs1
  have HB1 : Hid (OnlyB b w w1) := HB0.out.trans ho1
  clear hs1 ho1 HO0 HB0 H0 HC0 NX31
  go_wp2_with fail
  go_loopw [5, 6] (fun v i wr => ∃ (k g c : Nat) (f : Nat → Nat), k ≤ m ∧ i = .int .i64 ((m : Int) - (k : Int)) ∧ v = .slice (some ⟨g, 0, none⟩) k c ∧ (∀ i, f i < 256) ∧ wr.ownsRow w.heap.size 5 1 (.slice (some ⟨g, 0, none⟩) k c) k (bv k f) ∧ SrcA wr b a len cap (A + 1 + k) ∧ OnlyB b w wr) (fun _ i _ => (intOf i).toNat)
  case atStart => exact ⟨0, w.heap.size, 0, fun _ => 0, by omega, numEq8 (by omega), rfl, fun _ => by show (0 : Nat) < 256; omega, HO1.out, HS1.out, HB1.out⟩
  case round =>
    clear HO1 HS1 HB1
    obtain ⟨k, g, c, f, hk, rfl, rfl, hf, hown, hsr, ho⟩ := hrel
    have HF : Hid (∀ i, f i < 256) := hf
    have HO : Hid (wr.ownsRow w.heap.size 5 1 (.slice (some ⟨g, 0, none⟩) k c) k (bv k f)) := hown
    have HS : Hid (SrcA wr b a len cap (A + 1 + k)) := hsr
    have HW : Hid (OnlyB b w wr) := ho
    have HCr : Hid (Code8 wr a len z) := HC.out.onlyB ho HSEP.out
    clear hown hsr ho hf
    by_cases hlt : k < m
    · have x1 : (0 : Int) < (m : Int) - (k : Int) := by omega
      have NXk : Hid (∀ w : World, SrcA w b a len cap (A + 1 + k) → Code8 w a len z → Calls Try.prog 44 #[.pointer (some ⟨b, 0, none⟩), .int .i64 256] w fun e w' => (∃ r : Nat, r < 256 ∧ e = .returned (.int .i64 (r : Int))) ∧ SrcA w' b a len cap (A + 1 + k + 1) ∧ OnlyB b w w') := fun w h1 h2 => NX.out 256 (A + 1 + k) w (by omega) (by omega) (by omega) h1 h2
      go_wp2_with fail
      refine (NXk.out _ HS.out HCr.out).mono ?_
      rintro e w1 ⟨⟨X, hX, rfl⟩, hs1, ho1⟩
      have HO1 : Hid (w1.ownsRow w.heap.size 5 1 (.slice (some ⟨g, 0, none⟩) k c) k (bv k f)) := ownsRow_onlyBQ HO.out ho1 hbl
      have HS1 : Hid (SrcA w1 b a len cap (A + 1 + k + 1)) := hs1
      have HW1 : Hid (OnlyB b w w1) := HW.out.trans ho1
      have hsz := HW1.out.size
      have y0 : (X : Int) % 256 = (X : Int) := by omega
      clear hs1 ho1 HO HS HW HCr NXk
      go_wp2_with (at_builtin; refine wpList_append_own _ rfl _ _ 22 rfl w.heap.size 5 i0 (.int .u8 0) 1 1 Try.underlying22 HI.out.1 HI.out.2.1 HI.out.2.2.1 HI.out.2.2.2 rfl (by decide) (.slice (some ⟨g, 0, none⟩) k c) k _ rfl (HO1.out.alloc _) ⟨w1.heap.size, 0, none⟩ 1 1 [.int .u8 (X : Nat)] rfl rfl (one_newI _ _ _) (one_oneI _) (by unfold maxLen; omega) (by omega) (by simp; omega) ?_)
      intro v' w2 hown' hgrow hnil
      have BG : Below w.heap.size w1 w2 := ((Below.refl w.heap.size w1).alloc hsz _).grown hgrow (by simp; omega) (fun b hb => (HO1.out.lt b hb).1)
      rw [bv_extI] at hown'
      obtain ⟨g2, c2, ⟨hg2, hc2⟩, rfl, -⟩ := own8_of_own hown' hnil
      have HO2 : Hid (w2.ownsRow w.heap.size 5 1 (.slice (some ⟨g2, 0, none⟩) (k + 1) c2) (k + 1) (bv (k + 1) (fun j => if j = k then X else f j))) := hown'
      have HF2 : Hid (∀ i, (fun j => if j = k then X else f j) i < 256) := fun i => by
        show (if i = k then X else f i) < 256
        split
        · exact hX
        · exact HF.out i
      have HW2 : Hid (OnlyB b w w2) := HW1.out.belowS BG (Nat.le_refl _)
      have HS2 : Hid (SrcA w2 b a len cap (A + 1 + (k + 1))) := HS1.out.belowAt BG hbl
      have HK : Hid ((m : Int) - (k : Int) - 1 = (m : Int) - ((k + 1 : Nat) : Int)) := by show (m : Int) - (k : Int) - 1 = _; omega
      clear hown' hgrow hnil HO1 HS1 HW1 BG
      generalize (fun j => if j = k then X else f j) = f2 at *
      go_wp2
      go_roundw
      case rel => exact ⟨k + 1, g2, c2, f2, by omega, numEq8 HK.out, rfl, HF2.out, HO2.out, HS2.out, HW2.out⟩
      case measure => simp [intOf]; omega
    · have x1 : ¬ (0 : Int) < (m : Int) - (k : Int) := by omega
      have HS2 : Hid (SrcA wr b a len cap (A + (L + 10))) := HS.out.mono (by omega)
      go_wp2
      go_ret
      exact ⟨⟨k, f, g, c, by omega, HF.out, rfl, HO.out⟩, HS2.out, HW.out⟩

def imgK (r : Nat) : Nat := if r = 0 then 1 else if r = 1 then 4 else if r = 2 then 64 else if r = 3 then 128 else 200
theorem imgK_bd (r : Nat) : 1 ≤ imgK r ∧ imgK r ≤ 200 := by unfold imgK; split <;> (try omega); split <;> (try omega); split <;> (try omega); split <;> omega
/-- The bytes of an image that is drawn. -/
def SomeG (B : Nat) (w' : World) (e : Ending) : Prop := ∃ (m : Nat) (f : Nat → Nat) (g c : Nat), (1 ≤ m ∧ m ≤ 260 ∧ m ≤ c) ∧ (∀ i, f i < 256) ∧ e = .returned (.slice (some ⟨g, 0, none⟩) m c) ∧ Own8 w' g m f ∧ B ≤ g
set_option maxRecDepth 100000 in
set_option maxHeartbeats 1000000 in
theorem image_ex (b : Nat) (a : Option Addr) (len cap A : Nat) (z : Nat → Nat) (hz : ∀ i, z i < 256) (hA : A ≤ 1000) (hl : len ≤ maxLen) (hsep : ∀ x, 0 < len → a = some x → x.block ≠ b) (w : World) (h : SrcA w b a len cap A) (hc : Code8 w a len z) :
    Calls Try.prog 33 #[.pointer (some ⟨b, 0, none⟩)] w fun e w' => SomeG w.heap.size w' e ∧ OnlyB b w w' := by
  obtain ⟨i0, hi⟩ := info_parts Try.info8
  have HI : Hid (Try.prog.info? 5 = some i0 ∧ i0.zero = some (.int .u8 0) ∧ i0.size = 1 ∧ i0.bytes = 1) := hi
  have BY : Hid (Calls Try.prog 43 #[.pointer (some ⟨b, 0, none⟩), .int .i64 60] w fun e w' => SomeI w.heap.size w' e 60 ∧ SrcA w' b a len cap (A + (60 + 10)) ∧ OnlyB b w w') := bytes_exI 60 (by omega) (by omega) b a len cap A z hz hA hl hsep w h hc
  have NX : Hid (∀ w : World, SrcA w b a len cap (A + (60 + 10)) → Code8 w a len z → Calls Try.prog 44 #[.pointer (some ⟨b, 0, none⟩), .int .i64 5] w fun e w' => (∃ r : Nat, r < 5 ∧ e = .returned (.int .i64 (r : Int))) ∧ SrcA w' b a len cap (A + (60 + 10) + 1) ∧ OnlyB b w w') := fun w h1 h2 => next_ex 5 (by omega) (by omega) b a len cap (A + (60 + 10)) z hz (by omega) hl hsep w h1 h2
  have HC : Hid (∀ w', OnlyB b w w' → Code8 w' a len z) := fun w' ho => hc.onlyB ho hsep
  have hbl : b < w.heap.size := h.lt
  clear h hc hsep hz hi hA hl
  go_enter Try.func33, Try.ntmps33
  go_wp2_with fail
  refine BY.out.mono ?_
  rintro e w1 ⟨⟨m, f, g, c, hm, hf, rfl, hown⟩, hs1, ho1⟩
  have hbb : Below w1.heap.size w1 (w1.alloc (.cells #[.int .i64 1, .int .i64 4, .int .i64 64, .int .i64 128, .int .i64 200] 3)) := (Below.refl _ _).alloc (Nat.le_refl _) _
  have HO1 : Hid (OnlyB b w (w1.alloc (.cells #[.int .i64 1, .int .i64 4, .int .i64 64, .int .i64 128, .int .i64 200] 3))) := ho1.below hbb
  have HW1 : Hid ((w1.alloc (.cells #[.int .i64 1, .int .i64 4, .int .i64 64, .int .i64 128, .int .i64 200] 3)).ownsRow w.heap.size 5 1 (.slice (some ⟨g, 0, none⟩) m c) m (bv m f)) := ownsRow_below8 hown hbb
  have HS1 : Hid (SrcA (w1.alloc (.cells #[.int .i64 1, .int .i64 4, .int .i64 64, .int .i64 128, .int .i64 200] 3)) b a len cap (A + (60 + 10))) := hs1.below hbb
  have HT1 : Hid ((w1.alloc (.cells #[.int .i64 1, .int .i64 4, .int .i64 64, .int .i64 128, .int .i64 200] 3)).rowIs w1.heap.size 3 5 (fun r => .int .i64 ((imgK r : Nat) : Int))) := World.rowIs_alloc w1 #[.int .i64 1, .int .i64 4, .int .i64 64, .int .i64 128, .int .i64 200] 3 _ (fun i hi => by
    have hi' : i < 5 := by simpa using hi
    rcases (show i = 0 ∨ i = 1 ∨ i = 2 ∨ i = 3 ∨ i = 4 by omega) with rfl | rfl | rfl | rfl | rfl <;> rfl)
  have HF : Hid (∀ i, f i < 256) := hf
  have hne : w1.heap.size ≠ b := by have := ho1.size; omega
  clear hown hs1 ho1 hbb hf BY
  go_wp2_with fail
  generalize (w1.alloc (.cells #[.int .i64 1, .int .i64 4, .int .i64 64, .int .i64 128, .int .i64 200] 3)) = w2 at *
  generalize w1.heap.size = tb at *
  refine (NX.out _ HS1.out (HC.out _ HO1.out)).mono ?_
  rintro e w3 ⟨⟨r, hr, rfl⟩, hs3, ho3⟩
  have HO3 : Hid (OnlyB b w w3) := HO1.out.trans ho3
  have HW3 : Hid (w3.ownsRow w.heap.size 5 1 (.slice (some ⟨g, 0, none⟩) m c) m (bv m f)) := ownsRow_onlyBQ HW1.out ho3 hbl
  have t1 : w3.cell? ⟨tb, r, none⟩ = some (.int .i64 ((imgK r : Nat) : Int)) := (HT1.out.of_block (ho3.block _ HT1.out.lt hne)).cell hr
  have hr5 : (r : Int) < 5 := by omega
  have hr0 : (0 : Int) ≤ (r : Int) := by omega
  obtain ⟨hk1, hk2⟩ := imgK_bd r
  clear hs3 ho3 HT1 HS1 HW1 HO1 NX HC
  generalize imgK r = k at *
  obtain ⟨v', w4, hr4, ho4, hg4, hv4⟩ := run_own_zeros (P := Try.prog) w3 w.heap.size 22 3 22 5 i0 Try.underlying22 Try.underlying3 HI.out.1 HI.out.2.1 HI.out.2.2.1 HI.out.2.2.2 g m c k (bv m f) HW3.out (by omega) (by omega) HO3.out.size
  have hr5' : ∀ ty, (Builtin.append_ #[22, 3] ty #[.slice (some ⟨g, 0, none⟩) m c, .int .i64 (k : Int)]).run Try.prog w3 = .ok v' w4 := fun ty => hr4
  have HO4 : Hid (OnlyB b w w4) := HO3.out.belowS (grown_below HW3.out hg4 HO3.out.size) (Nat.le_refl _)
  rw [bv_append] at ho4
  obtain ⟨g5, c5, ⟨hg5, hc5⟩, rfl, hown5⟩ := own8_of_own ho4 hv4
  have HR : Hid (SomeG w.heap.size w4 (.returned (.slice (some ⟨g5, 0, none⟩) (m + k) c5))) := ⟨m + k, _, g5, c5, ⟨by omega, by omega, hc5⟩, fun i => by
    show (if i < m then f i else 0) < 256
    split
    · exact HF.out i
    · omega, rfl, hown5, hg5⟩
  clear ho4 hg4 hv4 hr4 hown5 hg5 hc5 HW3 HO3 HF
  generalize m + k = mk at *
  go_wp2_with (at_builtin; refine Lib.wpList_append_run _ rfl (.tmp 4) (.tmp 9) 22 3 rfl (.slice (some ⟨g, 0, none⟩) m c) (.int .i64 (k : Int)) rfl rfl _ _ (hr5' _) ?_)
  go_ret
  exact ⟨HR.out, HO4.out⟩
set_option maxRecDepth 100000 in
theorem imageOf_ex (a : Option Addr) (len cap : Nat) (z : Nat → Nat) (hz : ∀ i, z i < 256) (hl : len ≤ maxLen) (w : World) (hc : Code8 w a len z) :
    Calls Try.prog 8 #[.slice a len cap] w fun e w' => SomeG w.heap.size w' e ∧ Below w.heap.size w w' := by
  have HC : Hid (Code8 w a len z) := hc
  have SR : Hid (Calls Try.prog 32 #[.slice a len cap] w fun e w' => e = .returned (.pointer (some ⟨w.heap.size, 0, none⟩)) ∧ Src w' w.heap.size a len cap 0 (len % 1000) ∧ Below w.heap.size w w') := source_any a len cap hl w
  clear hc
  go_enter Try.func8, Try.ntmps8
  go_wp2_with fail
  refine SR.out.mono ?_
  rintro e w1 ⟨rfl, hs, hb⟩
  have IM : Hid (Calls Try.prog 33 #[.pointer (some ⟨w.heap.size, 0, none⟩)] w1 fun e w' => SomeG w1.heap.size w' e ∧ OnlyB w.heap.size w1 w') := image_ex w.heap.size a len cap 0 z hz (by omega) hl (fun x h0 hx => Nat.ne_of_lt (HC.out.lt x h0 hx)) w1 ⟨0, len % 1000, by omega, by omega, hs⟩ (HC.out.below hb)
  have HB : Hid (Below w.heap.size w w1) := hb
  clear hs hb SR hz hl
  go_wp2_with fail
  refine IM.out.mono ?_
  rintro e w2 ⟨⟨m, f, g, c, hm, hf, rfl, hown, hg⟩, ho⟩
  have HR : Hid (SomeG w.heap.size w2 (.returned (.slice (some ⟨g, 0, none⟩) m c))) := ⟨m, f, g, c, hm, hf, rfl, hown, Nat.le_trans HB.out.size hg⟩
  have HB2 : Hid (Below w.heap.size w w2) := HB.out.trans (ho.toBelow (Nat.le_refl _) HB.out.size)
  clear hm hf hown hg ho IM
  go_wp2
  go_ret
  exact ⟨HR.out, HB2.out⟩
end Go.Proofs.Ytonccbgolbcjfaa
