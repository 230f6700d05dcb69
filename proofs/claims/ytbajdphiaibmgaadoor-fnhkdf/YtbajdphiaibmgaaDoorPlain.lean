/-
  The model's draw of a text: what PlainOf answers, as far as the laws need it: some bytes, few, of the call's own.
-/
import Derived.Test.YtbajdphiaibmgaaDoorSrc
import Derived.Test.YtbajdphiaibmgaaDoorSlices
import Derived.Test.YtbajdphiaibmgaaDoorPadS
import Derived.Test.YtbajdphiaibmgaaDoorZeros
namespace Go.Proofs.YtbajdphiaibmgaaDoor
open Go.ChangeShapes Go.WideShapes Go.ChangeAt Go.RowKit
/-- A source that has drawn at most A times. -/
def SrcA (w : World) (b : Nat) (a : Option Addr) (len cap A : Nat) : Prop := ∃ at_ seed, at_ ≤ A ∧ seed < 2147483648 ∧ Src w b a len cap at_ seed
theorem SrcA.lt {w : World} {b : Nat} {a : Option Addr} {len cap A : Nat} (h : SrcA w b a len cap A) : b < w.heap.size := by
  obtain ⟨_, _, _, _, h⟩ := h
  exact h.lt
theorem SrcA.mono {w : World} {b : Nat} {a : Option Addr} {len cap A A' : Nat} (h : SrcA w b a len cap A) (hA : A ≤ A') : SrcA w b a len cap A' := by
  obtain ⟨x, y, h1, h2, h3⟩ := h
  exact ⟨x, y, Nat.le_trans h1 hA, h2, h3⟩
theorem SrcA.below {w w' : World} {b : Nat} {a : Option Addr} {len cap A : Nat} (h : SrcA w b a len cap A) (hb : Below w.heap.size w w') : SrcA w' b a len cap A := by
  obtain ⟨x, y, h1, h2, h3⟩ := h
  exact ⟨x, y, h1, h2, h3.below hb⟩
theorem SrcA.belowAt {w w' : World} {B b : Nat} {a : Option Addr} {len cap A : Nat} (h : SrcA w b a len cap A) (hb : Below B w w') (hB : b < B) : SrcA w' b a len cap A := by
  obtain ⟨x, y, h1, h2, hs⟩ := h
  have hk := hb.block b hB
  exact ⟨x, y, h1, h2, by rw [World.cell?_of_block (w := w) hk]; exact hs.code, by rw [World.cell?_of_block (w := w) hk]; exact hs.at1, by rw [World.cell?_of_block (w := w) hk]; exact hs.seed2, by rw [World.frozen?_of_block (w := w) hk]; exact hs.free1, by rw [World.frozen?_of_block (w := w) hk]; exact hs.free2⟩
theorem next_ex (n : Nat) (hn : 2 ≤ n) (hn' : n ≤ 256) (b : Nat) (a : Option Addr) (len cap A : Nat) (z : Nat → Nat) (hz : ∀ i, z i < 256) (hA : A ≤ 100000) (hl : len ≤ maxLen) (hsep : ∀ x, 0 < len → a = some x → x.block ≠ b) (w : World) (h : SrcA w b a len cap A) (hc : Code8 w a len z) :
    Calls Tryd.prog 33 #[.pointer (some ⟨b, 0, none⟩), .int .i64 (n : Int)] w fun e w' => (∃ r : Nat, r < n ∧ e = .returned (.int .i64 (r : Int))) ∧ SrcA w' b a len cap (A + 1) ∧ OnlyB b w w' := by
  obtain ⟨x, y, h1, h2, h3⟩ := h
  refine (next_any n hn hn' b a len cap x y z hz (by omega) h2 hl hsep w h3 hc).mono ?_
  rintro e w' ⟨he, hs, ho⟩
  exact ⟨⟨_, Nat.mod_lt _ (by omega), he⟩, ⟨x + 1, _, by omega, (drawB_lt hz h2).2, hs⟩, ho⟩
theorem bv_ext (k r : Nat) (f : Nat → Nat) : bv k f ++ [.int .u8 (r : Nat)] = bv (k + 1) (fun j => if j = k then r else f j) := by
  have e := bv_snoc k (fun j => if j = k then r else f j)
  rw [if_pos rfl, bv_congr (g := f) (fun i hi => if_neg (by omega))] at e
  exact e
theorem OnlyB.belowS {b : Nat} {w w' w'' : World} {B : Nat} (h : OnlyB b w w') (hb : Below B w' w'') (hB : w.heap.size ≤ B) : OnlyB b w w'' :=
  ⟨hb.os.trans h.os, hb.tape.trans h.tape, hb.output.trans h.output, Nat.le_trans h.size hb.size, fun k hk hn => (hb.block k (by omega)).trans (h.block k hk hn)⟩
/-- Some bytes, at most so many, at a row of the call's own. -/
def SomeOwn (B : Nat) (w' : World) (e : Ending) (most : Nat) : Prop := ∃ (m : Nat) (f : Nat → Nat) (g c : Nat), m ≤ most ∧ (∀ i, f i < 256) ∧ e = .returned (.slice (some ⟨g, 0, none⟩) m c) ∧ w'.ownsRow B 5 1 (.slice (some ⟨g, 0, none⟩) m c) m (bv m f)
set_option maxRecDepth 100000 in
set_option maxHeartbeats 1000000 in
theorem bytes_ex (b : Nat) (a : Option Addr) (len cap A : Nat) (z : Nat → Nat) (hz : ∀ i, z i < 256) (hA : A ≤ 1000) (hl : len ≤ maxLen) (hsep : ∀ x, 0 < len → a = some x → x.block ≠ b) (w : World) (h : SrcA w b a len cap A) (hc : Code8 w a len z) :
    Calls Tryd.prog 23 #[.pointer (some ⟨b, 0, none⟩), .int .i64 30] w fun e w' => SomeOwn w.heap.size w' e 30 ∧ SrcA w' b a len cap (A + 40) ∧ OnlyB b w w' := by
  obtain ⟨i0, hi⟩ := info_parts Tryd.info8
  have HI : Hid (Tryd.prog.info? 5 = some i0 ∧ i0.zero = some (.int .u8 0) ∧ i0.size = 1 ∧ i0.bytes = 1) := hi
  have NX : Hid (∀ (n A : Nat) (w : World), 2 ≤ n → n ≤ 256 → A ≤ 100000 → SrcA w b a len cap A → Code8 w a len z → Calls Tryd.prog 33 #[.pointer (some ⟨b, 0, none⟩), .int .i64 (n : Int)] w fun e w' => (∃ r : Nat, r < n ∧ e = .returned (.int .i64 (r : Int))) ∧ SrcA w' b a len cap (A + 1) ∧ OnlyB b w w') := fun n A w h1 h2 h3 h4 h5 => next_ex n h1 h2 b a len cap A z hz h3 hl hsep w h4 h5
  have HC : Hid (Code8 w a len z) := hc
  have HSEP : Hid (∀ x, 0 < len → a = some x → x.block ≠ b) := hsep
  have hbl : b < w.heap.size := h.lt
  have H0 : Hid (SrcA (w.alloc (.cells #[] 5)) b a len cap A) := h.below ((Below.refl _ _).alloc (Nat.le_refl _) _)
  have HC0 : Hid (Code8 (w.alloc (.cells #[] 5)) a len z) := hc.below ((Below.refl _ _).alloc (Nat.le_refl _) _)
  have HO0 : Hid ((w.alloc (.cells #[] 5)).ownsRow w.heap.size 5 1 (.slice (some ⟨w.heap.size, 0, none⟩) 0 0) 0 (bv 0 (fun _ => 0))) := World.ownsRow_made w #[] 0 (Nat.le_refl _) (Nat.zero_le _) (by simp)
  have HB0 : Hid (OnlyB b w (w.alloc (.cells #[] 5))) := (OnlyB.refl b w).below ((Below.refl _ _).alloc (Nat.le_refl _) _)
  have NX31 : Hid (∀ w : World, SrcA w b a len cap A → Code8 w a len z → Calls Tryd.prog 33 #[.pointer (some ⟨b, 0, none⟩), .int .i64 31] w fun e w' => (∃ r : Nat, r < 31 ∧ e = .returned (.int .i64 (r : Int))) ∧ SrcA w' b a len cap (A + 1) ∧ OnlyB b w w') := fun w h1 h2 => NX.out 31 A w (by omega) (by omega) (by omega) h1 h2
  clear h hc hsep hz hi
  go_enter Tryd.func23, Tryd.ntmps23
  go_wp2_with fail
  refine (NX31.out _ H0.out HC0.out).mono ?_
  rintro e w1 ⟨⟨m, hm, rfl⟩, hs1, ho1⟩
  have HO1 : Hid (w1.ownsRow w.heap.size 5 1 (.slice (some ⟨w.heap.size, 0, none⟩) 0 0) 0 (bv 0 (fun _ => 0))) := ownsRow_onlyB HO0.out ho1 hbl
  have HS1 : Hid (SrcA w1 b a len cap (A + 1)) := hs1
  have HB1 : Hid (OnlyB b w w1) := HB0.out.trans ho1
  clear hs1 ho1 HO0 HB0 H0 HC0 NX31
  go_wp2_with fail
  go_loopw [5, 6] (fun v i wr => ∃ (k g c : Nat) (f : Nat → Nat), k ≤ m ∧ i = .int .i64 ((m : Int) - (k : Int)) ∧ v = .slice (some ⟨g, 0, none⟩) k c ∧ (∀ i, f i < 256) ∧ wr.ownsRow w.heap.size 5 1 (.slice (some ⟨g, 0, none⟩) k c) k (bv k f) ∧ SrcA wr b a len cap (A + 1 + k) ∧ OnlyB b w wr) (fun _ i _ => (intOf i).toNat)
  case atStart => exact ⟨0, w.heap.size, 0, fun _ => 0, by omega, numEq8 (by omega), rfl, fun _ => by show (0 : Nat) < 256; omega, HO1.out, HS1.out, HB1.out⟩
  case round =>
    clear HO1 HS1 HB1
    obtain ⟨k, g, c, f, hk, rfl, rfl, hf, hown, hsr, ho⟩ := hrel
    have HF : Hid (∀ i, f i < 256) := hf
    have HO : Hid (wr.ownsRow w.heap.size 5 1 (.slice (some ⟨g, 0, none⟩) k c) k (bv k f)) := hown
    have HS : Hid (SrcA wr b a len cap (A + 1 + k)) := hsr
    have HW : Hid (OnlyB b w wr) := ho
    have HCr : Hid (Code8 wr a len z) := HC.out.onlyB ho HSEP.out
    clear hown hsr ho hf
    by_cases hlt : k < m
    · have x1 : (0 : Int) < (m : Int) - (k : Int) := by omega
      have NXk : Hid (∀ w : World, SrcA w b a len cap (A + 1 + k) → Code8 w a len z → Calls Tryd.prog 33 #[.pointer (some ⟨b, 0, none⟩), .int .i64 256] w fun e w' => (∃ r : Nat, r < 256 ∧ e = .returned (.int .i64 (r : Int))) ∧ SrcA w' b a len cap (A + 1 + k + 1) ∧ OnlyB b w w') := fun w h1 h2 => NX.out 256 (A + 1 + k) w (by omega) (by omega) (by omega) h1 h2
      go_wp2_with fail
      refine (NXk.out _ HS.out HCr.out).mono ?_
      rintro e w1 ⟨⟨X, hX, rfl⟩, hs1, ho1⟩
      have HO1 : Hid (w1.ownsRow w.heap.size 5 1 (.slice (some ⟨g, 0, none⟩) k c) k (bv k f)) := ownsRow_onlyB HO.out ho1 hbl
      have HS1 : Hid (SrcA w1 b a len cap (A + 1 + k + 1)) := hs1
      have HW1 : Hid (OnlyB b w w1) := HW.out.trans ho1
      have hsz := HW1.out.size
      have y0 : (X : Int) % 256 = (X : Int) := by omega
      clear hs1 ho1 HO HS HW HCr NXk
      go_wp2_with (at_builtin; refine wpList_append_own _ rfl _ _ 22 rfl w.heap.size 5 i0 (.int .u8 0) 1 1 Tryd.underlying22 HI.out.1 HI.out.2.1 HI.out.2.2.1 HI.out.2.2.2 rfl (by decide) (.slice (some ⟨g, 0, none⟩) k c) k _ rfl (HO1.out.alloc _) ⟨w1.heap.size, 0, none⟩ 1 1 [.int .u8 (X : Nat)] rfl rfl (one_new8 _ _ _) (one_one8 _) (by unfold maxLen; omega) (by omega) (by simp; omega) ?_)
      intro v' w2 hown' hgrow hnil
      have BG : Below w.heap.size w1 w2 := ((Below.refl w.heap.size w1).alloc hsz _).grown hgrow (by simp; omega) (fun b hb => (HO1.out.lt b hb).1)
      rw [bv_ext] at hown'
      obtain ⟨g2, c2, ⟨hg2, hc2⟩, rfl, -⟩ := own8_of_own hown' hnil
      have HO2 : Hid (w2.ownsRow w.heap.size 5 1 (.slice (some ⟨g2, 0, none⟩) (k + 1) c2) (k + 1) (bv (k + 1) (fun j => if j = k then X else f j))) := hown'
      have HF2 : Hid (∀ i, (fun j => if j = k then X else f j) i < 256) := fun i => by
        show (if i = k then X else f i) < 256
        split
        · exact hX
        · exact HF.out i
      have HW2 : Hid (OnlyB b w w2) := HW1.out.belowS BG (Nat.le_refl _)
      have HS2 : Hid (SrcA w2 b a len cap (A + 1 + (k + 1))) := HS1.out.belowAt BG hbl
      have HK : Hid ((m : Int) - (k : Int) - 1 = (m : Int) - ((k + 1 : Nat) : Int)) := by show (m : Int) - (k : Int) - 1 = _; omega
      clear hown' hgrow hnil HO1 HS1 HW1 BG
      generalize (fun j => if j = k then X else f j) = f2 at *
      go_wp2
      go_roundw
      case rel => exact ⟨k + 1, g2, c2, f2, by omega, numEq8 HK.out, rfl, HF2.out, HO2.out, HS2.out, HW2.out⟩
      case measure => simp [intOf]; omega
    · have x1 : ¬ (0 : Int) < (m : Int) - (k : Int) := by omega
      have HS2 : Hid (SrcA wr b a len cap (A + 40)) := HS.out.mono (by omega)
      go_wp2
      go_ret
      exact ⟨⟨k, f, g, c, by omega, HF.out, rfl, HO.out⟩, HS2.out, HW.out⟩
end Go.Proofs.YtbajdphiaibmgaaDoor
