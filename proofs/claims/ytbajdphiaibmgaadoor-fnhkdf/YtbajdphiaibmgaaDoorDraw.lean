/-
  The model's draw of bytes: BytesOf, as far as the laws need it.
-/
import Derived.Test.YtbajdphiaibmgaaDoorPlain
namespace Go.Proofs.YtbajdphiaibmgaaDoor
open Go.ChangeShapes Go.WideShapes Go.ChangeAt Go.RowKit
set_option maxRecDepth 100000 in
set_option maxHeartbeats 1000000 in
theorem bytes_exL (L : Nat) (hL1 : 1 ≤ L) (hL2 : L ≤ 255) (b : Nat) (a : Option Addr) (len cap A : Nat) (z : Nat → Nat) (hz : ∀ i, z i < 256) (hA : A ≤ 1000) (hl : len ≤ maxLen) (hsep : ∀ x, 0 < len → a = some x → x.block ≠ b) (w : World) (h : SrcA w b a len cap A) (hc : Code8 w a len z) :
    Calls Tryd.prog 23 #[.pointer (some ⟨b, 0, none⟩), .int .i64 (L : Int)] w fun e w' => SomeOwn w.heap.size w' e L ∧ SrcA w' b a len cap (A + (L + 10)) ∧ OnlyB b w w' := by
  obtain ⟨i0, hi⟩ := info_parts Tryd.info8
  have HI : Hid (Tryd.prog.info? 5 = some i0 ∧ i0.zero = some (.int .u8 0) ∧ i0.size = 1 ∧ i0.bytes = 1) := hi
  have NX : Hid (∀ (n A : Nat) (w : World), 2 ≤ n → n ≤ 256 → A ≤ 100000 → SrcA w b a len cap A → Code8 w a len z → Calls Tryd.prog 33 #[.pointer (some ⟨b, 0, none⟩), .int .i64 (n : Int)] w fun e w' => (∃ r : Nat, r < n ∧ e = .returned (.int .i64 (r : Int))) ∧ SrcA w' b a len cap (A + 1) ∧ OnlyB b w w') := fun n A w h1 h2 h3 h4 h5 => next_ex n h1 h2 b a len cap A z hz h3 hl hsep w h4 h5
  have HC : Hid (Code8 w a len z) := hc
  have HSEP : Hid (∀ x, 0 < len → a = some x → x.block ≠ b) := hsep
  have hbl : b < w.heap.size := h.lt
  have H0 : Hid (SrcA (w.alloc (.cells #[] 5)) b a len cap A) := h.below ((Below.refl _ _).alloc (Nat.le_refl _) _)
  have HC0 : Hid (Code8 (w.alloc (.cells #[] 5)) a len z) := hc.below ((Below.refl _ _).alloc (Nat.le_refl _) _)
  have HO0 : Hid ((w.alloc (.cells #[] 5)).ownsRow w.heap.size 5 1 (.slice (some ⟨w.heap.size, 0, none⟩) 0 0) 0 (bv 0 (fun _ => 0))) := World.ownsRow_made w #[] 0 (Nat.le_refl _) (Nat.zero_le _) (by simp)
  have HB0 : Hid (OnlyB b w (w.alloc (.cells #[] 5))) := (OnlyB.refl b w).below ((Below.refl _ _).alloc (Nat.le_refl _) _)
  have NX31 : Hid (∀ w : World, SrcA w b a len cap A → Code8 w a len z → Calls Tryd.prog 33 #[.pointer (some ⟨b, 0, none⟩), .int .i64 ((L : Int) + 1)] w fun e w' => (∃ r : Nat, r < L + 1 ∧ e = .returned (.int .i64 (r : Int))) ∧ SrcA w' b a len cap (A + 1) ∧ OnlyB b w w') := fun w h1 h2 => by
    have := NX.out (L + 1) A w (by omega) (by omega) (by omega) h1 h2
    rw [show ((L + 1 : Nat) : Int) = (L : Int) + 1 from by omega] at this
    exact this
  clear h hc hsep hz hi
  go_enter Tryd.func23, Tryd.ntmps23
  go_wp2_with fail
  refine (NX31.out _ H0.out HC0.out).mono ?_
  rintro e w1 ⟨⟨m, hm, rfl⟩, hs1, ho1⟩
  have HO1 : Hid (w1.ownsRow w.heap.size 5 1 (.slice (some ⟨w.heap.size, 0, none⟩) 0 0) 0 (bv 0 (fun _ => 0))) := ownsRow_onlyB HO0.out ho1 hbl
  have HS1 : Hid (SrcA w1 b a len cap (A + 1)) := hs1
  have HB1 : Hid (OnlyB b w w1) := HB0.out.trans ho1
  clear hs1 ho1 HO0 HB0 H0 HC0 NX31
  go_wp2_with fail
  go_loopw [5, 6] (fun v i wr => ∃ (k g c : Nat) (f : Nat → Nat), k ≤ m ∧ i = .int .i64 ((m : Int) - (k : Int)) ∧ v = .slice (some ⟨g, 0, none⟩) k c ∧ (∀ i, f i < 256) ∧ wr.ownsRow w.heap.size 5 1 (.slice (some ⟨g, 0, none⟩) k c) k (bv k f) ∧ SrcA wr b a len cap (A + 1 + k) ∧ OnlyB b w wr) (fun _ i _ => (intOf i).toNat)
  case atStart => exact ⟨0, w.heap.size, 0, fun _ => 0, by omega, numEq8 (by omega), rfl, fun _ => by show (0 : Nat) < 256; omega, HO1.out, HS1.out, HB1.out⟩
  case round =>
    clear HO1 HS1 HB1
    obtain ⟨k, g, c, f, hk, rfl, rfl, hf, hown, hsr, ho⟩ := hrel
    have HF : Hid (∀ i, f i < 256) := hf
    have HO : Hid (wr.ownsRow w.heap.size 5 1 (.slice (some ⟨g, 0, none⟩) k c) k (bv k f)) := hown
    have HS : Hid (SrcA wr b a len cap (A + 1 + k)) := hsr
    have HW : Hid (OnlyB b w wr) := ho
    have HCr : Hid (Code8 wr a len z) := HC.out.onlyB ho HSEP.out
    clear hown hsr ho hf
    by_cases hlt : k < m
    · have x1 : (0 : Int) < (m : Int) - (k : Int) := by omega
      have NXk : Hid (∀ w : World, SrcA w b a len cap (A + 1 + k) → Code8 w a len z → Calls Tryd.prog 33 #[.pointer (some ⟨b, 0, none⟩), .int .i64 256] w fun e w' => (∃ r : Nat, r < 256 ∧ e = .returned (.int .i64 (r : Int))) ∧ SrcA w' b a len cap (A + 1 + k + 1) ∧ OnlyB b w w') := fun w h1 h2 => NX.out 256 (A + 1 + k) w (by omega) (by omega) (by omega) h1 h2
      go_wp2_with fail
      refine (NXk.out _ HS.out HCr.out).mono ?_
      rintro e w1 ⟨⟨X, hX, rfl⟩, hs1, ho1⟩
      have HO1 : Hid (w1.ownsRow w.heap.size 5 1 (.slice (some ⟨g, 0, none⟩) k c) k (bv k f)) := ownsRow_onlyB HO.out ho1 hbl
      have HS1 : Hid (SrcA w1 b a len cap (A + 1 + k + 1)) := hs1
      have HW1 : Hid (OnlyB b w w1) := HW.out.trans ho1
      have hsz := HW1.out.size
      have y0 : (X : Int) % 256 = (X : Int) := by omega
      clear hs1 ho1 HO HS HW HCr NXk
      go_wp2_with (at_builtin; refine wpList_append_own _ rfl _ _ 22 rfl w.heap.size 5 i0 (.int .u8 0) 1 1 Tryd.underlying22 HI.out.1 HI.out.2.1 HI.out.2.2.1 HI.out.2.2.2 rfl (by decide) (.slice (some ⟨g, 0, none⟩) k c) k _ rfl (HO1.out.alloc _) ⟨w1.heap.size, 0, none⟩ 1 1 [.int .u8 (X : Nat)] rfl rfl (one_new8 _ _ _) (one_one8 _) (by unfold maxLen; omega) (by omega) (by simp; omega) ?_)
      intro v' w2 hown' hgrow hnil
      have BG : Below w.heap.size w1 w2 := ((Below.refl w.heap.size w1).alloc hsz _).grown hgrow (by simp; omega) (fun b hb => (HO1.out.lt b hb).1)
      rw [bv_ext] at hown'
      obtain ⟨g2, c2, ⟨hg2, hc2⟩, rfl, -⟩ := own8_of_own hown' hnil
      have HO2 : Hid (w2.ownsRow w.heap.size 5 1 (.slice (some ⟨g2, 0, none⟩) (k + 1) c2) (k + 1) (bv (k + 1) (fun j => if j = k then X else f j))) := hown'
      have HF2 : Hid (∀ i, (fun j => if j = k then X else f j) i < 256) := fun i => by
        show (if i = k then X else f i) < 256
        split
        · exact hX
        · exact HF.out i
      have HW2 : Hid (OnlyB b w w2) := HW1.out.belowS BG (Nat.le_refl _)
      have HS2 : Hid (SrcA w2 b a len cap (A + 1 + (k + 1))) := HS1.out.belowAt BG hbl
      have HK : Hid ((m : Int) - (k : Int) - 1 = (m : Int) - ((k + 1 : Nat) : Int)) := by show (m : Int) - (k : Int) - 1 = _; omega
      clear hown' hgrow hnil HO1 HS1 HW1 BG
      generalize (fun j => if j = k then X else f j) = f2 at *
      go_wp2
      go_roundw
      case rel => exact ⟨k + 1, g2, c2, f2, by omega, numEq8 HK.out, rfl, HF2.out, HO2.out, HS2.out, HW2.out⟩
      case measure => simp [intOf]; omega
    · have x1 : ¬ (0 : Int) < (m : Int) - (k : Int) := by omega
      have HS2 : Hid (SrcA wr b a len cap (A + (L + 10))) := HS.out.mono (by omega)
      go_wp2
      go_ret
      exact ⟨⟨k, f, g, c, by omega, HF.out, rfl, HO.out⟩, HS2.out, HW.out⟩
/-- spec.BytesOf -/
theorem bytesOf_ex (L : Nat) (hL1 : 1 ≤ L) (hL2 : L ≤ 255) (a : Option Addr) (len cap : Nat) (z : Nat → Nat) (hz : ∀ i, z i < 256) (hl : len ≤ maxLen) (w : World) (hc : Code8 w a len z) :
    Calls Tryd.prog 7 #[.slice a len cap, .int .i64 (L : Int)] w fun e w' => SomeOwn w.heap.size w' e L ∧ Below w.heap.size w w' := by
  have SO : Hid (∀ w : World, Calls Tryd.prog 22 #[.slice a len cap] w fun e w' => e = .returned (.pointer (some ⟨w.heap.size, 0, none⟩)) ∧ Src w' w.heap.size a len cap 0 (len % 1000) ∧ Below w.heap.size w w') := source_any a len cap hl
  have PL : Hid (∀ (b : Nat) (w : World), (∀ x, 0 < len → a = some x → x.block ≠ b) → SrcA w b a len cap 0 → Code8 w a len z → Calls Tryd.prog 23 #[.pointer (some ⟨b, 0, none⟩), .int .i64 (L : Int)] w fun e w' => SomeOwn w.heap.size w' e L ∧ OnlyB b w w') := fun b w h1 h2 h3 => (bytes_exL L hL1 hL2 b a len cap 0 z hz (by omega) hl h1 w h2 h3).mono fun _ _ h => ⟨h.1, h.2.2⟩
  have HC : Hid (Code8 w a len z) := hc
  have HSEP : Hid (∀ x, 0 < len → a = some x → x.block < w.heap.size) := hc.lt
  clear hc hz
  go_enter Tryd.func7, Tryd.ntmps7
  go_wp2_with fail
  refine (SO.out _).mono ?_
  rintro e w1 ⟨rfl, hs1, hb1⟩
  have HS1 : Hid (SrcA w1 w.heap.size a len cap 0) := ⟨0, _, Nat.le_refl _, by have := Nat.mod_lt len (show 0 < 1000 by omega); omega, hs1⟩
  have HB1 : Hid (Below w.heap.size w w1) := hb1
  have HC1 : Hid (Code8 w1 a len z) := HC.out.below hb1
  clear hs1 hb1
  go_wp2_with fail
  refine (PL.out _ _ (fun x h0 hx => by have := HSEP.out x h0 hx; omega) HS1.out HC1.out).mono ?_
  rintro e w2 ⟨⟨m, f, g, c, hm, hf, rfl, hown⟩, ho2⟩
  have HB2 : Hid (Below w.heap.size w w2) := HB1.out.trans (ho2.toBelow (Nat.le_refl _) HB1.out.size)
  have R : Hid (SomeOwn w.heap.size w2 (.returned (.slice (some ⟨g, 0, none⟩) m c)) L) := ⟨m, f, g, c, hm, hf, rfl, own_mono hown HB1.out.size⟩
  clear ho2 hown hf hm
  go_wp2
  go_ret
  exact ⟨R.out, HB2.out⟩
end Go.Proofs.YtbajdphiaibmgaaDoor
