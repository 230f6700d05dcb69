/-
  Texts of the proof, joined: Slices, PadS, Num, NumV, Cat.
-/
import Derived.Test.YtboekhegbachpaaGreatDoorS05
import Derived.OwnWalk
import Derived.Lib.SliceRun
import Derived.Lib.AppendZeros
import Derived.Laws.IdiomCopy
import Derived.LoopN
import Derived.BigRegion
import Derived.Test.YtboekhegbachpaaGreatDoorS09
import Derived.Test.YtboekhegbachpaaGreatDoorS06
import Derived.Laws.AppendOwnNone
namespace Go.Proofs.YtboekhegbachpaaGreatDoor
open Go.ChangeShapes Go.WideShapes Go.ChangeAt Go.RowKit
def RetB (w w' : World) (e : Ending) (n : Nat) (f : Nat → Nat) : Prop := ∃ b c, (w.heap.size ≤ b ∧ n ≤ c) ∧ e = .returned (.slice (some ⟨b, 0, none⟩) n c) ∧ Own8 w' b n f
set_option maxRecDepth 100000 in
set_option maxHeartbeats 1000000 in
theorem grow_nil (n : Nat) (hn : 1 ≤ n) (hn' : n ≤ 2000000) (w : World) :
  Calls Tryz.prog 104 #[.slice none 0 0, .int .i64 (n : Int)] w fun e w' => (∃ b c, w.heap.size ≤ b ∧ e = .returned (.slice (some ⟨b, 0, none⟩) 0 c) ∧ w'.ownsRow w.heap.size 5 1 (.slice (some ⟨b, 0, none⟩) 0 c) 0 []) ∧ Below w.heap.size w w' := by
 obtain ⟨i0, hi, hz, hs, hb⟩ := info_parts Tryz.info8
 have hrz : ∀ ty, (Builtin.append_ #[84, 3] ty #[.slice none 0 0, .int .i64 (n : Int)]).run Tryz.prog w = _ := fun ty => Lib.run_append_nil_zeros w 84 3 ty 5 i0 (.int .u8 0) .i64 .i64 Tryz.underlying84 Tryz.underlying3 hi hz n (by omega) (by omega) (by omega) (by rw [hb]; omega)
 have hge : n ≤ grownCap w n 0 5 := grownCap_ge w _ _ _
 have hle : grownCap w n 0 5 ≤ maxLen := grownCap_le_maxLen w n 0 5 (by unfold maxLen; omega)
 generalize grownCap w n 0 5 = G at *
 have HO : Hid ((w.drew.alloc (.cells (Builtin.zeroCells (Value.int .u8 0).cells n ++ Builtin.zeroCells (Value.int .u8 0).cells (G - n)) 5)).ownsRow w.heap.size 5 1 (.slice (some ⟨w.heap.size, 0, none⟩) 0 G) 0 []) :=
  World.ownsRow_made w.drew _ G (Nat.le_refl _) hle (by rw [Array.size_append, size_zeroCells, size_zeroCells]; show n * 1 + (G - n) * 1 = G * 1; omega)
 have HB : Hid (Below w.heap.size w (w.drew.alloc (.cells (Builtin.zeroCells (Value.int .u8 0).cells n ++ Builtin.zeroCells (Value.int .u8 0).cells (G - n)) 5))) := (Below.refl _ w).drew.alloc (Nat.le_refl _) _
 generalize w.drew.alloc (.cells (Builtin.zeroCells (Value.int .u8 0).cells n ++ Builtin.zeroCells (Value.int .u8 0).cells (G - n)) 5) = wz at *
 have hGi : (G : Int) ≤ 9223372036854775807 := by unfold maxLen at hle; omega
 clear hi hz hs hb hle
 have x1 : ¬ (n : Int) < 0 := by omega
 have x2 : (0 : Int) < (n : Int) := by omega
 go_enter Tryz.func104, Tryz.ntmps104
 go_wp2_with (at_builtin; refine Lib.wpList_append_run _ rfl _ _ _ _ rfl _ _ rfl rfl _ _ (hrz _) ?_)
 go_ret
 exact ⟨⟨_, Nat.le_refl _, _, rfl, HO.out⟩, HB.out⟩
theorem size8 : (Tryz.prog.info? 5).map (·.size) = some 1 := by kernel_rfl
def RetB2 (w w' : World) (e : Ending) (n : Nat) (f : Nat → Nat) (t : Value) : Prop := ∃ b c, (w.heap.size ≤ b ∧ n ≤ c) ∧ e = .returned (.tuple #[.slice (some ⟨b, 0, none⟩) n c, t]) ∧ Own8 w' b n f
end Go.Proofs.YtboekhegbachpaaGreatDoor
namespace Go.Proofs.YtboekhegbachpaaGreatDoor
open Go.ChangeShapes Go.WideShapes Go.ChangeAt Go.RowKit
theorem one_new8 (w : World) (x : Nat) (t : TypeId) : ∀ j u, [Value.int .u8 (x : Nat)][j]? = some u → (w.alloc (.cells #[.int .u8 (x : Nat)] t)).cell? ((⟨w.heap.size, 0, none⟩ : Addr).add j) = some u := fun j u hj => by
 have hj0 : j = 0 := by have := (List.getElem?_eq_some_iff.1 hj).1; simp at this; omega
 subst hj0
 cases hj
 rw [Addr.add_lit]
 simp
theorem one_one8 (x : Nat) : ∀ u ∈ [Value.int .u8 (x : Nat)], u.oneCell' = true := fun u hu => by
 simp at hu
 subst hu
 rfl
end Go.Proofs.YtboekhegbachpaaGreatDoor
namespace Go.Proofs.YtboekhegbachpaaGreatDoor
open Go.ChangeShapes Go.WideShapes Go.ChangeAt Go.RowKit
theorem bv_extN (k r : Nat) (f : Nat → Nat) : bv k f ++ [.int .u8 (r : Nat)] = bv (k + 1) (fun j => if j = k then r else f j) := by
  have e := bv_snoc k (fun j => if j = k then r else f j)
  rw [if_pos rfl, bv_congr (g := f) (fun i hi => if_neg (by omega))] at e
  exact e
theorem ownsRow_mono {w : World} {base base' : Nat} {e : TypeId} {size : Nat} {v : Value} {n : Nat} {xs : List Value} (h : w.ownsRow base e size v n xs) (hb : base' ≤ base) : w.ownsRow base' e size v n xs := by
  obtain ⟨hl, h0 | ⟨g, cap, cur, hv, h1, h2⟩⟩ := h
  · exact ⟨hl, .inl h0⟩
  · exact ⟨hl, .inr ⟨g, cap, cur, hv, Nat.le_trans hb h1, h2⟩⟩
def numF (k sz x : Nat) (f : Nat → Nat) (j : Nat) : Nat := if j < k then f j else x / 2 ^ (8 * (sz - 1 - (j - k))) % 256
def RetO (B : Nat) (w' : World) (e : Ending) (n : Nat) (f : Nat → Nat) : Prop := ∃ g c, e = .returned (.slice (some ⟨g, 0, none⟩) n c) ∧ w'.ownsRow B 5 1 (.slice (some ⟨g, 0, none⟩) n c) n (bv n f)
theorem mkRoom (c : Nat) (hc : c ≤ 10000000) (w : World) : ∃ w', (Instr.makeSlice 84 (.int .i64 0) (.int .i64 (c : Int))).run Tryz.prog w = .ok (.slice (some ⟨w.heap.size, 0, none⟩) 0 c) w' ∧ w'.ownsRow w.heap.size 5 1 (.slice (some ⟨w.heap.size, 0, none⟩) 0 c) 0 [] ∧ Below w.heap.size w w' := by
  obtain ⟨i0, h1, h2, h3, h4⟩ := info_parts Tryz.info8
  obtain ⟨w', hr, ho, hg⟩ := run_make_own (P := Tryz.prog) w w.heap.size 84 5 i0 (.int .u8 0) 1 Tryz.underlying84 h1 h2 h3 .i64 .i64 c (by rw [h4]; omega) (by unfold maxLen; omega) (Nat.le_refl _)
  exact ⟨w', hr, ho, (Below.refl _ w).grown hg (Nat.le_refl _) (fun k hk => by cases hk)⟩
set_option maxRecDepth 100000 in
set_option maxHeartbeats 1000000 in
theorem appendNumber_any (B g k c x sz : Nat) (f : Nat → Nat) (hsz : sz ≤ 8) (hk : k ≤ 2000000) (w : World) (hB : B ≤ w.heap.size) (h : w.ownsRow B 5 1 (.slice (some ⟨g, 0, none⟩) k c) k (bv k f)) :
    Calls Tryz.prog 71 #[.slice (some ⟨g, 0, none⟩) k c, .int .i64 (x : Int), .int .i64 (sz : Int)] w fun e w' => RetO B w' e (k + sz) (numF k sz x f) ∧ Below B w w' := by
  obtain ⟨i0, hi⟩ := info_parts Tryz.info8
  have HI : Hid (Tryz.prog.info? 5 = some i0 ∧ i0.zero = some (.int .u8 0) ∧ i0.size = 1 ∧ i0.bytes = 1) := hi
  have HO0 : Hid (w.ownsRow B 5 1 (.slice (some ⟨g, 0, none⟩) k c) k (bv k f)) := h
  clear h hi
  go_enter Tryz.func71, Tryz.ntmps71
  go_wp2
  go_loopw [0, 7] (fun s i wr => ∃ r g c : Nat, r ≤ sz ∧ i = .int .i64 ((sz : Int) - 1 - (r : Int)) ∧ s = .slice (some ⟨g, 0, none⟩) (k + r) c ∧ wr.ownsRow B 5 1 (.slice (some ⟨g, 0, none⟩) (k + r) c) (k + r) (bv (k + r) (numF k sz x f)) ∧ Below B w wr) (fun _ i _ => (intOf i + 1).toNat)
  case atStart =>
    refine ⟨0, g, c, by omega, numEq8 (by omega), rfl, ?_, Below.refl _ _⟩
    have e : bv (k + 0) (numF k sz x f) = bv k f := bv_congr (fun i hi => by unfold numF; rw [if_pos (by omega)])
    rw [e]; exact HO0.out
  case round =>
    clear HO0
    obtain ⟨r, g, c, hr, rfl, rfl, hown, hb⟩ := hrel
    have HO : Hid (wr.ownsRow B 5 1 (.slice (some ⟨g, 0, none⟩) (k + r) c) (k + r) (bv (k + r) (numF k sz x f))) := hown
    have HB : Hid (Below B w wr) := hb
    clear hown hb
    by_cases hlt : r < sz
    · have x0 : (0 : Int) ≤ (sz : Int) - 1 - (r : Int) := by omega
      obtain ⟨s, hs⟩ : ∃ s, s = 8 * (sz - 1 - r) := ⟨_, rfl⟩
      have e8 : (8 : Int) * ((sz : Int) - 1 - (r : Int)) = (s : Int) := by omega
      have s0 : (0 : Int) ≤ (s : Int) := by omega
      have s1 : (s : Int) ≤ 64 := by omega
      have eX : (x : Int) / 2 ^ s = ((x / 2 ^ s : Nat) : Int) := by simp
      have HX : Hid (numF k sz x f (k + r) = x / 2 ^ s % 256) := by show numF _ _ _ _ _ = _; unfold numF; rw [if_neg (by omega), show k + r - k = r from by omega, hs]
      generalize x / 2 ^ s = y at *
      have eY : (y : Int) % 256 = ((y % 256 : Nat) : Int) := by omega
      generalize y % 256 = Y at *
      have hsz2 : B ≤ wr.heap.size := Nat.le_trans hB HB.out.size
      clear hs
      go_wp2_with (at_builtin; refine wpList_append_own _ rfl _ _ 84 rfl B 5 i0 (.int .u8 0) 1 1 Tryz.underlying84 HI.out.1 HI.out.2.1 HI.out.2.2.1 HI.out.2.2.2 rfl (by decide) (.slice (some ⟨g, 0, none⟩) (k + r) c) (k + r) _ rfl (HO.out.alloc _) ⟨wr.heap.size, 0, none⟩ 1 1 [.int .u8 (Y : Nat)] rfl rfl (one_new8 _ _ _) (one_one8 _) (by unfold maxLen; omega) (by omega) (by simp; omega) ?_)
      intro v' w2 hown' hgrow hnil
      have BG : Below B wr w2 := ((Below.refl B wr).alloc hsz2 _).grown hgrow (by simp; omega) (fun b hb => (HO.out.lt b hb).1)
      rw [bv_extN, bv_congr (g := numF k sz x f) (fun j hj => by by_cases e : j = k + r
                                                                 · rw [if_pos e, e]; exact HX.out.symm
                                                                 · rw [if_neg e])] at hown'
      obtain ⟨g2, c2, ⟨hg2, hc2⟩, rfl, -⟩ := own8_of_own hown' hnil
      have HO2 : Hid (w2.ownsRow B 5 1 (.slice (some ⟨g2, 0, none⟩) (k + r + 1) c2) (k + r + 1) (bv (k + r + 1) (numF k sz x f))) := hown'
      have HB2 : Hid (Below B w w2) := HB.out.trans BG
      have HK : Hid ((sz : Int) - 1 - (r : Int) - 1 = (sz : Int) - 1 - ((r + 1 : Nat) : Int)) := by show _ = _; omega
      clear hown' hgrow hnil HO HB BG
      go_wp2
      go_roundw
      case rel => exact ⟨r + 1, g2, c2, by omega, numEq8 HK.out, rfl, HO2.out, HB2.out⟩
      case measure => simp [intOf]; omega
    · have x0 : ¬ (0 : Int) ≤ (sz : Int) - 1 - (r : Int) := by omega
      obtain rfl : r = sz := by omega
      go_wp2
      go_ret
      exact ⟨⟨g, c, rfl, HO.out⟩, HB.out⟩
end Go.Proofs.YtboekhegbachpaaGreatDoor
namespace Go.Proofs.YtboekhegbachpaaGreatDoor
open Go.ChangeShapes Go.WideShapes Go.ChangeAt Go.RowKit
set_option maxRecDepth 100000 in
set_option maxHeartbeats 1000000 in
theorem appendNumber_nil (x sz : Nat) (hs0 : 0 < sz) (hsz : sz ≤ 8) (w : World) :
  Calls Tryz.prog 71 #[.slice none 0 0, .int .i64 (x : Int), .int .i64 (sz : Int)] w fun e w' => RetO w.heap.size w' e sz (numF 0 sz x (fun _ => 0)) ∧ Below w.heap.size w w' := by
 obtain ⟨B, hBe⟩ : ∃ B, B = w.heap.size := ⟨_, rfl⟩
 rw [← hBe]
 have hB : B ≤ w.heap.size := by omega
 clear hBe
 obtain ⟨i0, hi⟩ := info_parts Tryz.info8
 have HI : Hid (Tryz.prog.info? 5 = some i0 ∧ i0.zero = some (.int .u8 0) ∧ i0.size = 1 ∧ i0.bytes = 1) := hi
 clear hi
 go_enter Tryz.func71, Tryz.ntmps71
 go_wp2
 go_loopw [0, 7] (fun s i wr => ∃ (r : Nat) (v : Value), r ≤ sz ∧ i = .int .i64 ((sz : Int) - 1 - (r : Int)) ∧ s = v ∧ wr.ownsRow B 5 1 v r (bv r (numF 0 sz x (fun _ => 0))) ∧ (0 < r → ∃ g c, v = .slice (some ⟨g, 0, none⟩) r c) ∧ Below B w wr) (fun _ i _ => (intOf i + 1).toNat)
 case atStart => exact ⟨0, .slice none 0 0, by omega, numEq8 (by omega), rfl, ⟨rfl, .inl ⟨rfl, rfl⟩⟩, fun h => absurd h (by omega), Below.refl _ _⟩
 case round =>
  obtain ⟨r, v, hr, rfl, hsv, hown, hv, hb⟩ := hrel
  have hsv' := hsv.symm
  clear hsv
  subst hsv'
  have HO : Hid (wr.ownsRow B 5 1 v r (bv r (numF 0 sz x (fun _ => 0)))) := hown
  have HB : Hid (Below B w wr) := hb
  clear hown hb
  by_cases hlt : r < sz
  ·have x0 : (0 : Int) ≤ (sz : Int) - 1 - (r : Int) := by omega
   obtain ⟨s, hs⟩ : ∃ s, s = 8 * (sz - 1 - r) := ⟨_, rfl⟩
   have e8 : (8 : Int) * ((sz : Int) - 1 - (r : Int)) = (s : Int) := by omega
   have s0 : (0 : Int) ≤ (s : Int) := by omega
   have s1 : (s : Int) ≤ 64 := by omega
   have eX : (x : Int) / 2 ^ s = ((x / 2 ^ s : Nat) : Int) := by simp
   have HX : Hid (numF 0 sz x (fun _ => 0) (0 + r) = x / 2 ^ s % 256) := by show numF _ _ _ _ _ = _; unfold numF; rw [if_neg (by omega), show 0 + r - 0 = r from by omega, hs]
   have HX2 : Hid (numF 0 sz x (fun _ => 0) r = x / 2 ^ s % 256) := by have h := HX.out; rw [Nat.zero_add] at h; exact h
   generalize x / 2 ^ s = y at *
   have eY : (y : Int) % 256 = ((y % 256 : Nat) : Int) := by omega
   generalize y % 256 = Y at *
   have hsz2 : B ≤ wr.heap.size := Nat.le_trans hB HB.out.size
   clear hs
   go_wp2_with (at_builtin; refine wpList_append_own _ rfl _ _ 84 rfl B 5 i0 (.int .u8 0) 1 1 Tryz.underlying84 HI.out.1 HI.out.2.1 HI.out.2.2.1 HI.out.2.2.2 rfl (by decide) v r _ rfl (HO.out.alloc _) ⟨wr.heap.size, 0, none⟩ 1 1 [.int .u8 (Y : Nat)] rfl rfl (one_new8 _ _ _) (one_one8 _) (by unfold maxLen; omega) (by omega) (by simp; omega) ?_)
   intro v' w2 hown' hgrow hnil
   have BG : Below B wr w2 := ((Below.refl B wr).alloc hsz2 _).grown hgrow (by simp; omega) (fun b hb => (HO.out.lt b hb).1)
   have hcg : ∀ j, j < r + 1 → (if j = r then Y else numF 0 sz x (fun _ => 0) j) = numF 0 sz x (fun _ => 0) j := fun j hj => by
    by_cases e : j = r
    ·rw [if_pos e, e]; exact HX2.out.symm
    ·rw [if_neg e]
   rw [bv_extN, bv_congr hcg] at hown'
   obtain ⟨g2, c2, ⟨hg2, hc2⟩, rfl, -⟩ := own8_of_own hown' hnil
   have HO2 : Hid (w2.ownsRow B 5 1 (.slice (some ⟨g2, 0, none⟩) (r + 1) c2) (r + 1) (bv (r + 1) (numF 0 sz x (fun _ => 0)))) := hown'
   have HB2 : Hid (Below B w w2) := HB.out.trans BG
   have HK : Hid ((sz : Int) - 1 - (r : Int) - 1 = (sz : Int) - 1 - ((r + 1 : Nat) : Int)) := by show _ = _; omega
   clear hown' hgrow hnil HO HB BG
   go_wp2
   go_roundw
   case rel => exact ⟨r + 1, _, by omega, numEq8 HK.out, rfl, HO2.out, fun _ => ⟨g2, c2, rfl⟩, HB2.out⟩
   case measure => simp [intOf]; omega
  ·obtain ⟨g, c, rfl⟩ := hv (by omega)
   have x0 : ¬ (0 : Int) ≤ (sz : Int) - 1 - (r : Int) := by omega
   obtain rfl : r = sz := by omega
   go_wp2
   go_ret
   exact ⟨⟨g, c, rfl, HO.out⟩, HB.out⟩
end Go.Proofs.YtboekhegbachpaaGreatDoor
namespace Go.Proofs.YtboekhegbachpaaGreatDoor
open Go.ChangeShapes Go.WideShapes Go.ChangeAt Go.RowKit
def catN (ns : Nat → Nat) : Nat → Nat
 | 0 => 0
 | k + 1 => catN ns k + ns k
def catF (ns : Nat → Nat) (fs : Nat → Nat → Nat) : Nat → Nat → Nat
 | 0 => fun _ => 0
 | k + 1 => Sha.cat (catN ns k) (catF ns fs k) (fs k)
theorem catN_mono (ns : Nat → Nat) {k m : Nat} (h : k ≤ m) : catN ns k ≤ catN ns m := by
 induction m with
 | zero => rw [Nat.le_zero.1 h]; exact Nat.le_refl _
 | succ m ih =>
  rcases Nat.lt_or_ge m k with g | g
  ·rw [show k = m + 1 from by omega]; exact Nat.le_refl _
  ·exact Nat.le_trans (ih g) (Nat.le_add_right _ _)
structure Parts (w : World) (sb m : Nat) (ads : Nat → Option Addr) (ns cs : Nat → Nat) (fs : Nat → Nat → Nat) : Prop where
 cell : ∀ k, k < m → w.cell? ⟨sb, k, none⟩ = some (.slice (ads k) (ns k) (cs k))
 code : ∀ k, k < m → Code8 w (ads k) (ns k) (fs k)
 nil : ∀ k, k < m → (ads k = none ∧ ns k = 0 ∧ cs k = 0) ∨ ∃ b o, ads k = some ⟨b, o, none⟩
theorem Parts.belowAt {w w' : World} {B sb m : Nat} {ads : Nat → Option Addr} {ns cs : Nat → Nat} {fs : Nat → Nat → Nat} (h : Parts w sb m ads ns cs fs) (hB : w.heap.size ≤ B) (hb : Below B w w') : Parts w' sb m ads ns cs fs :=
 ⟨fun k hk => by rw [(hb.mono hB).cell (p := ⟨sb, k, none⟩) (strBlock (h.cell k hk))]; exact h.cell k hk, fun k hk => (h.code k hk).below (hb.mono hB), h.nil⟩
set_option maxRecDepth 100000 in
set_option maxHeartbeats 2000000 in
theorem concatN_any (sb m : Nat) (ads : Nat → Option Addr) (ns cs : Nat → Nat) (fs : Nat → Nat → Nat) (hmm : m ≤ 1000) (h1 : 1 ≤ catN ns m) (h2 : catN ns m ≤ 2000000) (w : World) (h : Parts w sb m ads ns cs fs) :
  Calls Tryz.prog 90 #[.slice (some ⟨sb, 0, none⟩) m m] w fun e w' => RetO w.heap.size w' e (catN ns m) (catF ns fs m) ∧ Below w.heap.size w w' := by
 obtain ⟨i0, hi⟩ := info_parts Tryz.info8
 have HI : Hid (Tryz.prog.info? 5 = some i0 ∧ i0.zero = some (.int .u8 0) ∧ i0.size = 1 ∧ i0.bytes = 1) := hi
 have GN : Hid (∀ w : World, Calls Tryz.prog 104 #[.slice none 0 0, .int .i64 ((catN ns m : Nat) : Int)] w fun e w' => (∃ b c, w.heap.size ≤ b ∧ e = .returned (.slice (some ⟨b, 0, none⟩) 0 c) ∧ w'.ownsRow w.heap.size 5 1 (.slice (some ⟨b, 0, none⟩) 0 c) 0 []) ∧ Below w.heap.size w w') := grow_nil (catN ns m) h1 h2
 have HP : Hid (Parts w sb m ads ns cs fs) := h
 clear h hi
 go_enter Tryz.func90, Tryz.ntmps90
 go_wp2
 go_loop [3, 5, 11] (fun s _ i => ∃ k : Nat, k ≤ m ∧ i = .int .i64 k ∧ s = .int .i64 ((catN ns k : Nat) : Int)) (fun _ _ i => m - (intOf i).toNat)
 case atStart => exact ⟨0, by omega, rfl, rfl⟩
 case round =>
  obtain ⟨k, hk, rfl, rfl⟩ := hrel
  by_cases hlt : k < m
  ·have hlt' : (k : Int) < (m : Int) := by omega
   have c1 := HP.out.cell k hlt
   have hm := catN_mono ns (show k + 1 ≤ m by omega)
   have eN : Hid (((catN ns (k + 1) : Nat) : Int) = ((catN ns k : Nat) : Int) + ((ns k : Nat) : Int)) := by show ((catN ns k + ns k : Nat) : Int) = _; omega
   have x0 : ¬ ((catN ns k : Nat) : Int) + ((ns k : Nat) : Int) < 0 := by omega
   have x1 : ((catN ns k : Nat) : Int) + ((ns k : Nat) : Int) ≤ 2000000 := by have := eN.out; omega
   generalize hN0 : catN ns k = N0 at *
   generalize ns k = n0 at *
   clear hm hN0
   go_wp2
   go_round
   case rel => exact ⟨k + 1, by omega, by go_num, numEq8 eN.out.symm⟩
   case measure => simp [intOf]; omega
  ·obtain rfl : k = m := by omega
   have hlt' : ¬ (k : Int) < (k : Int) := by omega
   go_wp2_with fail
   refine (GN.out _).mono ?_
   rintro e w1 ⟨⟨b, c, hb, rfl, hown⟩, hB⟩
   have HO : Hid (w1.ownsRow w.heap.size 5 1 (.slice (some ⟨b, 0, none⟩) 0 c) 0 []) := hown
   have HB1 : Hid (Below w.heap.size w w1) := hB
   clear hown hB hlt hlt' GN hk
   go_wp2_with fail
   go_loopw [6, 8, 27] (fun s _ i wr => ∃ q g c : Nat, q ≤ k ∧ i = .int .i64 q ∧ s = .slice (some ⟨g, 0, none⟩) (catN ns q) c ∧ wr.ownsRow w.heap.size 5 1 (.slice (some ⟨g, 0, none⟩) (catN ns q) c) (catN ns q) (bv (catN ns q) (catF ns fs q)) ∧ Below w.heap.size w wr) (fun _ _ i _ => k - (intOf i).toNat)
   case atStart => exact ⟨0, b, c, by omega, rfl, rfl, HO.out, HB1.out⟩
   case round =>
    clear HO HB1
    obtain ⟨q, g, c, hq, rfl, rfl, hown, hb⟩ := hrel
    have HO : Hid (wr.ownsRow w.heap.size 5 1 (.slice (some ⟨g, 0, none⟩) (catN ns q) c) (catN ns q) (bv (catN ns q) (catF ns fs q))) := hown
    have HB : Hid (Below w.heap.size w wr) := hb
    have PW : Parts wr sb k ads ns cs fs := HP.out.belowAt (Nat.le_refl _) hb
    clear hown hb
    by_cases hlt : q < k
    ·have hlt' : (q : Int) < (k : Int) := by omega
     have c1 := PW.cell q hlt
     have HM : Hid (catN ns q + ns q ≤ 2000000) := Nat.le_trans (catN_mono ns (show q + 1 ≤ k by omega)) h2
     have HQ : Hid (Code8 wr (ads q) (ns q) (fs q)) := PW.code q hlt
     have hsz := HB.out.size
     have EF : Hid (bv (catN ns q) (catF ns fs q) ++ bv (ns q) (fs q) = bv (catN ns q + ns q) (catF ns fs (q + 1))) := bv_append _ _ _ _
     rcases PW.nil q hlt with ⟨e1, e2, e3⟩ | ⟨b', o', e1⟩
     ·rw [e1, e2, e3] at c1
      have HO' : Hid (wr.ownsRow w.heap.size 5 1 (.slice (some ⟨g, 0, none⟩) (catN ns q + ns q) c) (catN ns q + ns q) (bv (catN ns q + ns q) (catF ns fs (q + 1)))) := by
       have := HO.out
       rw [← EF.out, e2]
       rw [bv_zero, List.append_nil]
       exact this
      have EE : Hid (catN ns q = catN ns q + ns q) := by show _ = _; omega
      clear PW e1 e2 e3
      have EG : Hid (catN ns (q + 1) = catN ns q + ns q) := rfl
      generalize hN0 : catN ns q = N0 at *
      clear hN0
      go_wp2_with (at_builtin; refine wpList_append_own_none rfl _ _ 84 rfl w.heap.size 5 i0 1 Tryz.underlying84 HI.out.1 (.slice (some ⟨g, 0, none⟩) N0 c) N0 _ rfl HO.out rfl ?_)
      go_roundw
      case rel =>
       refine ⟨q + 1, g, c, by omega, by go_num, ?_, ?_, HB.out⟩
       ·rw [EG.out, ← EE.out]
       ·rw [EG.out]; exact HO'.out
      case measure => simp [intOf]; omega
     ·rw [e1] at c1 HQ
      have EG : Hid (catN ns (q + 1) = catN ns q + ns q) := rfl
      generalize hN0 : catN ns q = N0 at *
      generalize hn0 : ns q = n0 at *
      clear hN0 hn0 PW e1
      go_wp2_with (at_builtin; refine wpList_append_own _ rfl _ _ 84 rfl w.heap.size 5 i0 (.int .u8 0) 1 1 Tryz.underlying84 HI.out.1 HI.out.2.1 HI.out.2.2.1 HI.out.2.2.2 rfl (by decide) (.slice (some ⟨g, 0, none⟩) N0 c) N0 _ rfl HO.out ⟨b', o', none⟩ n0 _ (bv n0 (fs q)) rfl (by rw [bv_length, Nat.mul_one]) (bv_news HQ.out) (bv_one _ _) (by have := HM.out; unfold maxLen; omega) (by have := HM.out; omega) hsz ?_)
      intro v' w2 hown' hgrow hnil
      have BG : Below w.heap.size wr w2 := grown_below HO.out hgrow hsz
      rw [EF.out] at hown'
      obtain ⟨g2, c2, ⟨hg2, hc2⟩, rfl, -⟩ := own8_of_own hown' hnil
      have HO2 : Hid (w2.ownsRow w.heap.size 5 1 (.slice (some ⟨g2, 0, none⟩) (N0 + n0) c2) (N0 + n0) (bv (N0 + n0) (catF ns fs (q + 1)))) := hown'
      have HB2 : Hid (Below w.heap.size w w2) := HB.out.trans BG
      clear hown' hgrow hnil HO HB BG
      go_wp2
      go_roundw
      case rel =>
       refine ⟨q + 1, g2, c2, by omega, by go_num, ?_, ?_, HB2.out⟩
       ·rw [EG.out]
       ·rw [EG.out]; exact HO2.out
      case measure => simp [intOf]; omega
    ·obtain rfl : q = k := by omega
     have hlt' : ¬ (q : Int) < (q : Int) := by omega
     clear PW
     go_wp2
     go_ret
     exact ⟨⟨g, c, rfl, HO.out⟩, HB.out⟩
end Go.Proofs.YtboekhegbachpaaGreatDoor
