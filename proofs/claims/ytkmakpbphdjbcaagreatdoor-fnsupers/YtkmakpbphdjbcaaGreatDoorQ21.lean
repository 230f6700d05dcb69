/-
  Texts of the proof, joined: KMath, PadMath, PadS, Num, Cat, RowM, StateOf, StateOf2, Slices2, Pad, KImpl, AesMath, ModesMath, Nonce.
-/
import Derived.Test.YtkmakpbphdjbcaaGreatDoorQ15
import Derived.Laws.BytesArg
import Derived.Test.YtkmakpbphdjbcaaGreatDoorQ14
import Derived.Test.YtkmakpbphdjbcaaGreatDoorQ16
import Derived.Test.YtkmakpbphdjbcaaGreatDoorQ01
import Derived.Laws.AppendOwnNone
import Derived.Test.YtkmakpbphdjbcaaGreatDoorQ13
import Derived.ArgAppend
import Derived.Lib.AppendStr
import Derived.Laws.IdiomStrings
import Derived.Test.YtkmakpbphdjbcaaGreatDoorQ17
import Derived.Laws.IdiomCopy
import Derived.Deep.Cut
import Derived.Deep.CutRange
import Derived.Deep.DeepCutAuto
import Derived.Deep.RegionHeld3
import Derived.Test.YtkmakpbphdjbcaaGreatDoorQ20
import Derived.Test.YtkmakpbphdjbcaaGreatDoorQ18
import Derived.BigRegion
namespace Go.Proofs.YtkmakpbphdjbcaaGreatDoor
open Go.ChangeShapes Go.WideShapes Go.ChangeAt Go.RowKit
namespace Gf
theorem kt_congr {n : Nat} {L L' : Nat → Nat} {i r : Nat} (hr : r < 4) (h : ∀ r, r < 4 → L r = L' r) : kt n L i r = kt n L' i r := by
  unfold kt
  rw [h 1 (by omega), h ((r + 1) % 4) (Nat.mod_lt _ (by omega)), h r hr]
theorem ws_stay {key : Nat → Nat} {n : Nat} (t : Nat) : ∀ d j, j < (n + t) * 4 → ws key n (t + d) j = ws key n t j := by
  intro d
  induction d with
  | zero => intro j _; rfl
  | succ d ih =>
    intro j hj
    rw [← Nat.add_assoc, ws_old _ _ (Or.inl (by omega)), ih j hj]
theorem ws_key {key : Nat → Nat} {n : Nat} (t j : Nat) (hj : j < n * 4) : ws key n t j = key j := by
  have := ws_stay (key := key) (n := n) 0 t j (by omega)
  rw [Nat.zero_add] at this
  rw [this]
  show (if j < n * 4 then key j else 0) = key j
  rw [if_pos hj]
theorem ws_rec {key : Nat → Nat} {n M : Nat} (hn : 1 ≤ n) (I r : Nat) (hI : n ≤ I) (hM : I < n + M) (hr : r < 4) :
    ws key n M (I * 4 + r) = ws key n M ((I - n) * 4 + r) ^^^ kt n (fun r => ws key n M ((I - 1) * 4 + r)) I r := by
  obtain ⟨t, rfl⟩ : ∃ t, I = n + t := ⟨I - n, by omega⟩
  obtain ⟨d, rfl⟩ : ∃ d, M = t + 1 + d := ⟨M - (t + 1), by omega⟩
  rw [ws_stay (t + 1) d _ (by omega), ws_new t r hr]
  have e1 : ws key n (t + 1 + d) ((n + t - n) * 4 + r) = ws key n t (t * 4 + r) := by
    rw [show n + t - n = t from by omega, show t + 1 + d = t + (1 + d) from by omega, ws_stay t (1 + d) _ (by omega)]
  rw [e1]
  congr 1
  refine kt_congr hr (fun r hr => ?_)
  show _ = ws key n (t + 1 + d) ((n + t - 1) * 4 + r)
  rw [show t + 1 + d = t + (1 + d) from by omega, ws_stay t (1 + d) _ (by omega)]
theorem mul_two : ∀ x, x < 256 → mul x 2 = dbl x := by decide +kernel
end Gf
end Go.Proofs.YtkmakpbphdjbcaaGreatDoor
namespace Go.Proofs.YtkmakpbphdjbcaaGreatDoor
end Go.Proofs.YtkmakpbphdjbcaaGreatDoor
namespace Go.Proofs.YtkmakpbphdjbcaaGreatDoor
open Go.ChangeShapes Go.WideShapes Go.ChangeAt Go.RowKit
theorem one_new8 (w : World) (x : Nat) (t : TypeId) : ∀ j u, [Value.int .u8 (x : Nat)][j]? = some u → (w.alloc (.cells #[.int .u8 (x : Nat)] t)).cell? ((⟨w.heap.size, 0, none⟩ : Addr).add j) = some u := fun j u hj => by
  have hj0 : j = 0 := by have := (List.getElem?_eq_some_iff.1 hj).1; simp at this; omega
  subst hj0
  cases hj
  rw [Addr.add_lit]
  simp
theorem one_one8 (x : Nat) : ∀ u ∈ [Value.int .u8 (x : Nat)], u.oneCell' = true := fun u hu => by
  simp at hu
  subst hu
  rfl
end Go.Proofs.YtkmakpbphdjbcaaGreatDoor
namespace Go.Proofs.YtkmakpbphdjbcaaGreatDoor
open Go.ChangeShapes Go.WideShapes Go.ChangeAt Go.RowKit
theorem bv_extN (k r : Nat) (f : Nat → Nat) : bv k f ++ [.int .u8 (r : Nat)] = bv (k + 1) (fun j => if j = k then r else f j) := by
  have e := bv_snoc k (fun j => if j = k then r else f j)
  rw [if_pos rfl, bv_congr (g := f) (fun i hi => if_neg (by omega))] at e
  exact e
theorem ownsRow_mono {w : World} {base base' : Nat} {e : TypeId} {size : Nat} {v : Value} {n : Nat} {xs : List Value} (h : w.ownsRow base e size v n xs) (hb : base' ≤ base) : w.ownsRow base' e size v n xs := by
  obtain ⟨hl, h0 | ⟨g, cap, cur, hv, h1, h2⟩⟩ := h
  · exact ⟨hl, .inl h0⟩
  · exact ⟨hl, .inr ⟨g, cap, cur, hv, Nat.le_trans hb h1, h2⟩⟩
def numF (k sz x : Nat) (f : Nat → Nat) (j : Nat) : Nat := if j < k then f j else x / 2 ^ (8 * (sz - 1 - (j - k))) % 256
def RetO (B : Nat) (w' : World) (e : Ending) (n : Nat) (f : Nat → Nat) : Prop := ∃ g c, e = .returned (.slice (some ⟨g, 0, none⟩) n c) ∧ w'.ownsRow B 5 1 (.slice (some ⟨g, 0, none⟩) n c) n (bv n f)
theorem mkRoom (c : Nat) (hc : c ≤ 10000000) (w : World) : ∃ w', (Instr.makeSlice 22 (.int .i64 0) (.int .i64 (c : Int))).run Tryz.prog w = .ok (.slice (some ⟨w.heap.size, 0, none⟩) 0 c) w' ∧ w'.ownsRow w.heap.size 5 1 (.slice (some ⟨w.heap.size, 0, none⟩) 0 c) 0 [] ∧ Below w.heap.size w w' := by
  obtain ⟨i0, h1, h2, h3, h4⟩ := info_parts Tryz.info8
  obtain ⟨w', hr, ho, hg⟩ := run_make_own (P := Tryz.prog) w w.heap.size 22 5 i0 (.int .u8 0) 1 Tryz.underlying22 h1 h2 h3 .i64 .i64 c (by rw [h4]; omega) (by unfold maxLen; omega) (Nat.le_refl _)
  exact ⟨w', hr, ho, (Below.refl _ w).grown hg (Nat.le_refl _) (fun k hk => by cases hk)⟩
set_option maxRecDepth 100000 in
set_option maxHeartbeats 1000000 in
theorem appendNumber_any (B g k c x sz : Nat) (f : Nat → Nat) (hsz : sz ≤ 8) (hk : k ≤ 2000000) (w : World) (hB : B ≤ w.heap.size) (h : w.ownsRow B 5 1 (.slice (some ⟨g, 0, none⟩) k c) k (bv k f)) :
    Calls Tryz.prog 22 #[.slice (some ⟨g, 0, none⟩) k c, .int .i64 (x : Int), .int .i64 (sz : Int)] w fun e w' => RetO B w' e (k + sz) (numF k sz x f) ∧ Below B w w' := by
  obtain ⟨i0, hi⟩ := info_parts Tryz.info8
  have HI : Hid (Tryz.prog.info? 5 = some i0 ∧ i0.zero = some (.int .u8 0) ∧ i0.size = 1 ∧ i0.bytes = 1) := hi
  have HO0 : Hid (w.ownsRow B 5 1 (.slice (some ⟨g, 0, none⟩) k c) k (bv k f)) := h
  clear h hi
  go_enter Tryz.func22, Tryz.ntmps22
  go_wp2
  go_loopw [0, 7] (fun s i wr => ∃ r g c : Nat, r ≤ sz ∧ i = .int .i64 ((sz : Int) - 1 - (r : Int)) ∧ s = .slice (some ⟨g, 0, none⟩) (k + r) c ∧ wr.ownsRow B 5 1 (.slice (some ⟨g, 0, none⟩) (k + r) c) (k + r) (bv (k + r) (numF k sz x f)) ∧ Below B w wr) (fun _ i _ => (intOf i + 1).toNat)
  case atStart =>
    refine ⟨0, g, c, by omega, numEq8 (by omega), rfl, ?_, Below.refl _ _⟩
    have e : bv (k + 0) (numF k sz x f) = bv k f := bv_congr (fun i hi => by unfold numF; rw [if_pos (by omega)])
    rw [e]; exact HO0.out
  case round =>
    clear HO0
    obtain ⟨r, g, c, hr, rfl, rfl, hown, hb⟩ := hrel
    have HO : Hid (wr.ownsRow B 5 1 (.slice (some ⟨g, 0, none⟩) (k + r) c) (k + r) (bv (k + r) (numF k sz x f))) := hown
    have HB : Hid (Below B w wr) := hb
    clear hown hb
    by_cases hlt : r < sz
    · have x0 : (0 : Int) ≤ (sz : Int) - 1 - (r : Int) := by omega
      obtain ⟨s, hs⟩ : ∃ s, s = 8 * (sz - 1 - r) := ⟨_, rfl⟩
      have e8 : (8 : Int) * ((sz : Int) - 1 - (r : Int)) = (s : Int) := by omega
      have s0 : (0 : Int) ≤ (s : Int) := by omega
      have s1 : (s : Int) ≤ 64 := by omega
      have eX : (x : Int) / 2 ^ s = ((x / 2 ^ s : Nat) : Int) := by simp
      have HX : Hid (numF k sz x f (k + r) = x / 2 ^ s % 256) := by show numF _ _ _ _ _ = _; unfold numF; rw [if_neg (by omega), show k + r - k = r from by omega, hs]
      generalize x / 2 ^ s = y at *
      have eY : (y : Int) % 256 = ((y % 256 : Nat) : Int) := by omega
      generalize y % 256 = Y at *
      have hsz2 : B ≤ wr.heap.size := Nat.le_trans hB HB.out.size
      clear hs
      go_wp2_with (at_builtin; refine wpList_append_own _ rfl _ _ 22 rfl B 5 i0 (.int .u8 0) 1 1 Tryz.underlying22 HI.out.1 HI.out.2.1 HI.out.2.2.1 HI.out.2.2.2 rfl (by decide) (.slice (some ⟨g, 0, none⟩) (k + r) c) (k + r) _ rfl (HO.out.alloc _) ⟨wr.heap.size, 0, none⟩ 1 1 [.int .u8 (Y : Nat)] rfl rfl (one_new8 _ _ _) (one_one8 _) (by unfold maxLen; omega) (by omega) (by simp; omega) ?_)
      intro v' w2 hown' hgrow hnil
      have BG : Below B wr w2 := ((Below.refl B wr).alloc hsz2 _).grown hgrow (by simp; omega) (fun b hb => (HO.out.lt b hb).1)
      rw [bv_extN, bv_congr (g := numF k sz x f) (fun j hj => by by_cases e : j = k + r
                                                                 · rw [if_pos e, e]; exact HX.out.symm
                                                                 · rw [if_neg e])] at hown'
      obtain ⟨g2, c2, ⟨hg2, hc2⟩, rfl, -⟩ := own8_of_own hown' hnil
      have HO2 : Hid (w2.ownsRow B 5 1 (.slice (some ⟨g2, 0, none⟩) (k + r + 1) c2) (k + r + 1) (bv (k + r + 1) (numF k sz x f))) := hown'
      have HB2 : Hid (Below B w w2) := HB.out.trans BG
      have HK : Hid ((sz : Int) - 1 - (r : Int) - 1 = (sz : Int) - 1 - ((r + 1 : Nat) : Int)) := by show _ = _; omega
      clear hown' hgrow hnil HO HB BG
      go_wp2
      go_roundw
      case rel => exact ⟨r + 1, g2, c2, by omega, numEq8 HK.out, rfl, HO2.out, HB2.out⟩
      case measure => simp [intOf]; omega
    · have x0 : ¬ (0 : Int) ≤ (sz : Int) - 1 - (r : Int) := by omega
      obtain rfl : r = sz := by omega
      go_wp2
      go_ret
      exact ⟨⟨g, c, rfl, HO.out⟩, HB.out⟩
end Go.Proofs.YtkmakpbphdjbcaaGreatDoor
namespace Go.Proofs.YtkmakpbphdjbcaaGreatDoor
open Go.ChangeShapes Go.WideShapes Go.ChangeAt Go.RowKit
def catN (ns : Nat → Nat) : Nat → Nat
  | 0 => 0
  | k + 1 => catN ns k + ns k
def catF (ns : Nat → Nat) (fs : Nat → Nat → Nat) : Nat → Nat → Nat
  | 0 => fun _ => 0
  | k + 1 => Sha.cat (catN ns k) (catF ns fs k) (fs k)
theorem catN_mono (ns : Nat → Nat) {k m : Nat} (h : k ≤ m) : catN ns k ≤ catN ns m := by
  induction m with
  | zero => rw [Nat.le_zero.1 h]; exact Nat.le_refl _
  | succ m ih =>
    rcases Nat.lt_or_ge m k with g | g
    · rw [show k = m + 1 from by omega]; exact Nat.le_refl _
    · exact Nat.le_trans (ih g) (Nat.le_add_right _ _)
structure Parts (w : World) (sb m : Nat) (ads : Nat → Option Addr) (ns cs : Nat → Nat) (fs : Nat → Nat → Nat) : Prop where
  cell : ∀ k, k < m → w.cell? ⟨sb, k, none⟩ = some (.slice (ads k) (ns k) (cs k))
  code : ∀ k, k < m → Code8 w (ads k) (ns k) (fs k)
  nil : ∀ k, k < m → (ads k = none ∧ ns k = 0 ∧ cs k = 0) ∨ ∃ b o, ads k = some ⟨b, o, none⟩
theorem Parts.belowAt {w w' : World} {B sb m : Nat} {ads : Nat → Option Addr} {ns cs : Nat → Nat} {fs : Nat → Nat → Nat} (h : Parts w sb m ads ns cs fs) (hB : w.heap.size ≤ B) (hb : Below B w w') : Parts w' sb m ads ns cs fs :=
  ⟨fun k hk => by rw [(hb.mono hB).cell (p := ⟨sb, k, none⟩) (strBlock (h.cell k hk))]; exact h.cell k hk, fun k hk => (h.code k hk).below (hb.mono hB), h.nil⟩
set_option maxRecDepth 100000 in
set_option maxHeartbeats 2000000 in
theorem concatN_any (sb m : Nat) (ads : Nat → Option Addr) (ns cs : Nat → Nat) (fs : Nat → Nat → Nat) (hmm : m ≤ 1000) (h1 : 1 ≤ catN ns m) (h2 : catN ns m ≤ 2000000) (w : World) (h : Parts w sb m ads ns cs fs) :
    Calls Tryz.prog 70 #[.slice (some ⟨sb, 0, none⟩) m m] w fun e w' => RetO w.heap.size w' e (catN ns m) (catF ns fs m) ∧ Below w.heap.size w w' := by
  obtain ⟨i0, hi⟩ := info_parts Tryz.info8
  have HI : Hid (Tryz.prog.info? 5 = some i0 ∧ i0.zero = some (.int .u8 0) ∧ i0.size = 1 ∧ i0.bytes = 1) := hi
  have GN : Hid (∀ w : World, Calls Tryz.prog 84 #[.slice none 0 0, .int .i64 ((catN ns m : Nat) : Int)] w fun e w' => (∃ b c, w.heap.size ≤ b ∧ e = .returned (.slice (some ⟨b, 0, none⟩) 0 c) ∧ w'.ownsRow w.heap.size 5 1 (.slice (some ⟨b, 0, none⟩) 0 c) 0 []) ∧ Below w.heap.size w w') := grow_nil (catN ns m) h1 h2
  have HP : Hid (Parts w sb m ads ns cs fs) := h
  clear h hi
  go_enter Tryz.func70, Tryz.ntmps70
  go_wp2
  go_loop [3, 5, 11] (fun s _ i => ∃ k : Nat, k ≤ m ∧ i = .int .i64 k ∧ s = .int .i64 ((catN ns k : Nat) : Int)) (fun _ _ i => m - (intOf i).toNat)
  case atStart => exact ⟨0, by omega, rfl, rfl⟩
  case round =>
    obtain ⟨k, hk, rfl, rfl⟩ := hrel
    by_cases hlt : k < m
    · have hlt' : (k : Int) < (m : Int) := by omega
      have c1 := HP.out.cell k hlt
      have hm := catN_mono ns (show k + 1 ≤ m by omega)
      have eN : Hid (((catN ns (k + 1) : Nat) : Int) = ((catN ns k : Nat) : Int) + ((ns k : Nat) : Int)) := by show ((catN ns k + ns k : Nat) : Int) = _; omega
      have x0 : ¬ ((catN ns k : Nat) : Int) + ((ns k : Nat) : Int) < 0 := by omega
      have x1 : ((catN ns k : Nat) : Int) + ((ns k : Nat) : Int) ≤ 2000000 := by have := eN.out; omega
      generalize hN0 : catN ns k = N0 at *
      generalize ns k = n0 at *
      clear hm hN0
      go_wp2
      go_round
      case rel => exact ⟨k + 1, by omega, by go_num, numEq8 eN.out.symm⟩
      case measure => simp [intOf]; omega
    · obtain rfl : k = m := by omega
      have hlt' : ¬ (k : Int) < (k : Int) := by omega
      go_wp2_with fail
      refine (GN.out _).mono ?_
      rintro e w1 ⟨⟨b, c, hb, rfl, hown⟩, hB⟩
      have HO : Hid (w1.ownsRow w.heap.size 5 1 (.slice (some ⟨b, 0, none⟩) 0 c) 0 []) := hown
      have HB1 : Hid (Below w.heap.size w w1) := hB
      clear hown hB hlt hlt' GN hk
      go_wp2_with fail
      go_loopw [6, 8, 27] (fun s _ i wr => ∃ q g c : Nat, q ≤ k ∧ i = .int .i64 q ∧ s = .slice (some ⟨g, 0, none⟩) (catN ns q) c ∧ wr.ownsRow w.heap.size 5 1 (.slice (some ⟨g, 0, none⟩) (catN ns q) c) (catN ns q) (bv (catN ns q) (catF ns fs q)) ∧ Below w.heap.size w wr) (fun _ _ i _ => k - (intOf i).toNat)
      case atStart => exact ⟨0, b, c, by omega, rfl, rfl, HO.out, HB1.out⟩
      case round =>
        clear HO HB1
        obtain ⟨q, g, c, hq, rfl, rfl, hown, hb⟩ := hrel
        have HO : Hid (wr.ownsRow w.heap.size 5 1 (.slice (some ⟨g, 0, none⟩) (catN ns q) c) (catN ns q) (bv (catN ns q) (catF ns fs q))) := hown
        have HB : Hid (Below w.heap.size w wr) := hb
        have PW : Parts wr sb k ads ns cs fs := HP.out.belowAt (Nat.le_refl _) hb
        clear hown hb
        by_cases hlt : q < k
        · have hlt' : (q : Int) < (k : Int) := by omega
          have c1 := PW.cell q hlt
          have HM : Hid (catN ns q + ns q ≤ 2000000) := Nat.le_trans (catN_mono ns (show q + 1 ≤ k by omega)) h2
          have HQ : Hid (Code8 wr (ads q) (ns q) (fs q)) := PW.code q hlt
          have hsz := HB.out.size
          have EF : Hid (bv (catN ns q) (catF ns fs q) ++ bv (ns q) (fs q) = bv (catN ns q + ns q) (catF ns fs (q + 1))) := bv_append _ _ _ _
          rcases PW.nil q hlt with ⟨e1, e2, e3⟩ | ⟨b', o', e1⟩
          · rw [e1, e2, e3] at c1
            have HO' : Hid (wr.ownsRow w.heap.size 5 1 (.slice (some ⟨g, 0, none⟩) (catN ns q + ns q) c) (catN ns q + ns q) (bv (catN ns q + ns q) (catF ns fs (q + 1)))) := by
              have := HO.out
              rw [← EF.out, e2]
              rw [bv_zero, List.append_nil]
              exact this
            have EE : Hid (catN ns q = catN ns q + ns q) := by show _ = _; omega
            clear PW e1 e2 e3
            have EG : Hid (catN ns (q + 1) = catN ns q + ns q) := rfl
            generalize hN0 : catN ns q = N0 at *
            clear hN0
            go_wp2_with (at_builtin; refine wpList_append_own_none rfl _ _ 22 rfl w.heap.size 5 i0 1 Tryz.underlying22 HI.out.1 (.slice (some ⟨g, 0, none⟩) N0 c) N0 _ rfl HO.out rfl ?_)
            go_roundw
            case rel =>
              refine ⟨q + 1, g, c, by omega, by go_num, ?_, ?_, HB.out⟩
              · rw [EG.out, ← EE.out]
              · rw [EG.out]; exact HO'.out
            case measure => simp [intOf]; omega
          · rw [e1] at c1 HQ
            have EG : Hid (catN ns (q + 1) = catN ns q + ns q) := rfl
            generalize hN0 : catN ns q = N0 at *
            generalize hn0 : ns q = n0 at *
            clear hN0 hn0 PW e1
            go_wp2_with (at_builtin; refine wpList_append_own _ rfl _ _ 22 rfl w.heap.size 5 i0 (.int .u8 0) 1 1 Tryz.underlying22 HI.out.1 HI.out.2.1 HI.out.2.2.1 HI.out.2.2.2 rfl (by decide) (.slice (some ⟨g, 0, none⟩) N0 c) N0 _ rfl HO.out ⟨b', o', none⟩ n0 _ (bv n0 (fs q)) rfl (by rw [bv_length, Nat.mul_one]) (bv_news HQ.out) (bv_one _ _) (by have := HM.out; unfold maxLen; omega) (by have := HM.out; omega) hsz ?_)
            intro v' w2 hown' hgrow hnil
            have BG : Below w.heap.size wr w2 := grown_below HO.out hgrow hsz
            rw [EF.out] at hown'
            obtain ⟨g2, c2, ⟨hg2, hc2⟩, rfl, -⟩ := own8_of_own hown' hnil
            have HO2 : Hid (w2.ownsRow w.heap.size 5 1 (.slice (some ⟨g2, 0, none⟩) (N0 + n0) c2) (N0 + n0) (bv (N0 + n0) (catF ns fs (q + 1)))) := hown'
            have HB2 : Hid (Below w.heap.size w w2) := HB.out.trans BG
            clear hown' hgrow hnil HO HB BG
            go_wp2
            go_roundw
            case rel =>
              refine ⟨q + 1, g2, c2, by omega, by go_num, ?_, ?_, HB2.out⟩
              · rw [EG.out]
              · rw [EG.out]; exact HO2.out
            case measure => simp [intOf]; omega
        · obtain rfl : q = k := by omega
          have hlt' : ¬ (q : Int) < (q : Int) := by omega
          clear PW
          go_wp2
          go_ret
          exact ⟨⟨g, c, rfl, HO.out⟩, HB.out⟩
end Go.Proofs.YtkmakpbphdjbcaaGreatDoor
namespace Go.Proofs.YtkmakpbphdjbcaaGreatDoor
open Go.ChangeShapes Go.WideShapes Go.ChangeAt Go.RowKit
def RowM (w : World) (g n cap : Nat) (F : Nat → Nat) : Prop := n ≤ cap ∧ (∀ i, i < n → w.cell? ⟨g, i, none⟩ = some (.int .u8 ((F i : Nat) : Int))) ∧ (∀ i, i < cap → (w.cell? ⟨g, i, none⟩).isSome = true ∧ w.frozen? ⟨g, i, none⟩ = false) ∧ g < w.heap.size
theorem RowM.code {w : World} {g n cap : Nat} {F : Nat → Nat} (h : RowM w g n cap F) : Code8 w (some ⟨g, 0, none⟩) n F := code8_of (fun i hi => by rw [Nat.zero_add]; exact h.2.1 i hi)
theorem RowM.below {w w' : World} {g n cap : Nat} {F : Nat → Nat} (h : RowM w g n cap F) (hb : Below w.heap.size w w') : RowM w' g n cap F :=
  ⟨h.1, fun i hi => by rw [hb.cell (p := ⟨g, i, none⟩) h.2.2.2]; exact h.2.1 i hi, fun i hi => ⟨by rw [hb.cell (p := ⟨g, i, none⟩) h.2.2.2]; exact (h.2.2.1 i hi).1, by rw [hb.frozen (p := ⟨g, i, none⟩) h.2.2.2]; exact (h.2.2.1 i hi).2⟩, Nat.lt_of_lt_of_le h.2.2.2 hb.size⟩
theorem RowM.congr {w : World} {g n cap : Nat} {F G : Nat → Nat} (h : RowM w g n cap F) (e : ∀ i, i < n → F i = G i) : RowM w g n cap G := ⟨h.1, fun i hi => by rw [← e i hi]; exact h.2.1 i hi, h.2.2⟩
theorem bytesOfR (s : ByteArray) (w : World) : ∃ wz gc, (convert 9 22 (.string s)).run Tryz.prog w = .ok (.slice (some ⟨w.heap.size, 0, none⟩) s.size gc) wz ∧ RowM wz w.heap.size s.size gc (strB s) ∧ Below w.heap.size w wz := by
  obtain ⟨gc, hgc⟩ : ∃ gc, gc = grownCap w s.size 0 5 := ⟨_, rfl⟩
  have hge : s.size ≤ gc := by rw [hgc]; exact grownCap_ge _ _ _ _
  have hsz : (bytesRow s gc).size = gc := by
    unfold bytesRow
    rw [Array.size_append, Array.size_map, Array.size_replicate]
    show s.size + (gc - s.size) = gc
    omega
  have hrun := run_bytes_of_string w 9 22 5 s Tryz.underlying9 Tryz.underlying22 Tryz.underlying5
  rw [← hgc, hsz] at hrun
  refine ⟨_, gc, hrun, ⟨hge, fun r hr => ?_, fun r hr => ⟨?_, ?_⟩, ?_⟩, (Below.refl _ _).drew.alloc (Nat.le_refl _) _⟩
  · have e := World.cell?_alloc_mark w.drew (bytesRow s gc) 5 (gc, gc + 1) r
    refine e.trans ?_
    rw [bytesRow_at s gc r hr]
    simp [strB, hr, ByteArray.getElem_eq_getElem_data]
  · have e := World.cell?_alloc_mark w.drew (bytesRow s gc) 5 (gc, gc + 1) r
    have e2 : (w.drew.alloc (.cells (bytesRow s gc) 5 (gc, gc + 1))).cell? ⟨w.heap.size, r, none⟩ = (bytesRow s gc)[r]? := e
    rw [e2, Array.getElem?_eq_getElem (by omega)]
    rfl
  · show (w.drew.alloc (.cells (bytesRow s gc) 5 (gc, gc + 1))).frozen? ⟨w.drew.heap.size, r, none⟩ = false
    rw [World.frozen?_alloc_mark]
    simp
    intro h
    omega
  · show w.heap.size < (w.drew.alloc _).heap.size
    simp
theorem appendM (w : World) (B g n cap : Nat) (F : Nat → Nat) (sb so m c : Nat) (f : Nat → Nat) (hB : B ≤ g) (hBw : B ≤ w.heap.size) (hnm : n + m ≤ 2000000) (h : RowM w g n cap F) (hs : Code8 w (some ⟨sb, so, none⟩) m f) (ty : TypeId) :
    ∃ g' cap' w', (Builtin.append_ #[22, 22] ty #[.slice (some ⟨g, 0, none⟩) n cap, .slice (some ⟨sb, so, none⟩) m c]).run Tryz.prog w = .ok (.slice (some ⟨g', 0, none⟩) (n + m) cap') w' ∧ RowM w' g' (n + m) cap' (Sha.cat n F f) ∧ Below B w w' ∧ B ≤ g' := by
  obtain ⟨i0, h1, h2, h3, h4⟩ := info_parts Tryz.info8
  by_cases hroom : n + m ≤ cap
  · have hth : w.there g 0 cap := fun j hj => by rw [Nat.zero_add]; exact h.2.2.1 j hj
    have hth2 := World.there_setCells hth g n (bv m f)
    have hin : (w.setCells g n (bv m f)).rangeAt g n (bv m f) := World.rangeAt_setCells_same w g n (bv m f) (fun j hj => by rw [bv_length] at hj; exact h.2.2.1 (n + j) (by omega))
    refine ⟨g, cap, w.setCells g n (bv m f), ?_, ⟨hroom, fun i hi => ?_, fun i hi => by have := hth2 i hi; rwa [Nat.zero_add] at this, Nat.lt_of_lt_of_le h.2.2.2 (below_setCells hB (bv m f) n w (Below.refl B w)).size⟩, below_setCells hB _ _ _ (Below.refl _ _), hB⟩
    · have := run_append_room_cells (P := Tryz.prog) w 22 ty 5 i0 Tryz.underlying22 h1 g 0 n cap ⟨sb, so, none⟩ m c (bv m f) (by rw [bv_length, h3, Nat.mul_one]) (bv_news hs) (bv_one _ _) hroom (fun j hj => by rw [bv_length] at hj; rw [h3, Nat.zero_add, Nat.mul_one]; exact (h.2.2.1 (n + j) (by omega)).1) (fun j hj => by rw [bv_length] at hj; rw [h3, Nat.zero_add, Nat.mul_one]; exact (h.2.2.1 (n + j) (by omega)).2)
      rw [h3, Nat.zero_add, Nat.mul_one] at this
      exact this
    · unfold Sha.cat
      by_cases hin2 : i < n
      · rw [if_pos hin2, World.cell?_setCells_out g (bv m f) n w ⟨g, i, none⟩ (fun _ _ => .inl hin2)]
        exact h.2.1 i hin2
      · rw [if_neg hin2]
        have := hin (i - n) _ (bv_at (f := f) (show i - n < m by omega))
        rwa [show n + (i - n) = i from by omega] at this
  · obtain ⟨v', w', hr, ho, hg⟩ := run_append_arg_grows (P := Tryz.prog) w 22 ty 5 i0 (.int .u8 0) 1 1 Tryz.underlying22 h1 h2 h3 h4 rfl (by decide) ⟨g, 0, none⟩ n cap (bv n F) (by rw [bv_length, Nat.mul_one]) (bv_news h.code) ⟨sb, so, none⟩ m c (bv m f) (by rw [bv_length, Nat.mul_one]) (bv_news hs) (by omega) (by unfold maxLen; omega) (by omega)
    rw [bv_append] at ho
    have hne : v' ≠ .slice none 0 0 := fun e => by
      subst e
      rcases ho.2 with ⟨_, h0⟩ | ⟨g', cap', cur, h0, _⟩
      · have := h.1; omega
      · cases h0
    obtain ⟨hl, ⟨e, _⟩ | ⟨g', cap', cur, rfl, hb, hh, hn', hm', hs', ht'⟩⟩ := ho
    · exact absurd e hne
    · have hB2 : Below B w w' := (Below.refl B w).grown hg hBw (fun k hk => by cases hk)
      refine ⟨g', cap', w', hr, ⟨hn', fun i hi => ?_, fun i hi => ⟨?_, ?_⟩, ?_⟩, hB2, by omega⟩
      · have h1 : (cur.toList.take ((n + m) * 1))[i]? = some (.int .u8 ((Sha.cat n F f i : Nat) : Int)) := by rw [ht']; exact bv_at hi
        rw [List.getElem?_take, if_pos (by omega), Array.getElem?_toList] at h1
        simp [World.cell?, hh, h1]
      · simp [World.cell?, hh]; omega
      · simp [World.frozen?, hh]
      · rcases Nat.lt_or_ge g' w'.heap.size with k | k
        · exact k
        · rw [Array.getElem?_eq_none k] at hh; cases hh
def RetM (B : Nat) (w' : World) (e : Ending) (n : Nat) (f : Nat → Nat) : Prop := ∃ g c, e = .returned (.slice (some ⟨g, 0, none⟩) n c) ∧ B ≤ g ∧ RowM w' g n c f
set_option maxRecDepth 100000 in
set_option maxHeartbeats 1000000 in
theorem appendNumberM_any (B g k c x sz : Nat) (f : Nat → Nat) (hsz : sz ≤ 8) (hk : k ≤ 900000) (w : World) (hBg : B ≤ g) (hB : B ≤ w.heap.size) (h : RowM w g k c f) :
    Calls Tryz.prog 22 #[.slice (some ⟨g, 0, none⟩) k c, .int .i64 (x : Int), .int .i64 (sz : Int)] w fun e w' => RetM B w' e (k + sz) (numF k sz x f) ∧ Below B w w' := by
  have HO0 : Hid (RowM w g k c f) := h
  have HBg : Hid (B ≤ g) := hBg
  clear h hBg
  go_enter Tryz.func22, Tryz.ntmps22
  go_wp2
  go_loopw [0, 7] (fun s i wr => ∃ r g c : Nat, r ≤ sz ∧ i = .int .i64 ((sz : Int) - 1 - (r : Int)) ∧ s = .slice (some ⟨g, 0, none⟩) (k + r) c ∧ B ≤ g ∧ RowM wr g (k + r) c (numF k sz x f) ∧ Below B w wr) (fun _ i _ => (intOf i + 1).toNat)
  case atStart =>
    refine ⟨0, g, c, by omega, numEq8 (by omega), rfl, HBg.out, ?_, Below.refl _ _⟩
    exact HO0.out.congr (fun i hi => by unfold numF; rw [if_pos (by omega)])
  case round =>
    clear HO0 HBg
    obtain ⟨r, g, c, hr, rfl, rfl, hBg, hown, hb⟩ := hrel
    have HO : Hid (RowM wr g (k + r) c (numF k sz x f)) := hown
    have HB : Hid (Below B w wr) := hb
    have HBg : Hid (B ≤ g) := hBg
    clear hown hb hBg
    by_cases hlt : r < sz
    · have x0 : (0 : Int) ≤ (sz : Int) - 1 - (r : Int) := by omega
      obtain ⟨s, hs⟩ : ∃ s, s = 8 * (sz - 1 - r) := ⟨_, rfl⟩
      have e8 : (8 : Int) * ((sz : Int) - 1 - (r : Int)) = (s : Int) := by omega
      have s0 : (0 : Int) ≤ (s : Int) := by omega
      have s1 : (s : Int) ≤ 64 := by omega
      have eX : (x : Int) / 2 ^ s = ((x / 2 ^ s : Nat) : Int) := by simp
      have HX : Hid (numF k sz x f (k + r) = x / 2 ^ s % 256) := by show numF _ _ _ _ _ = _; unfold numF; rw [if_neg (by omega), show k + r - k = r from by omega, hs]
      generalize x / 2 ^ s = y at *
      have eY : (y : Int) % 256 = ((y % 256 : Nat) : Int) := by omega
      generalize y % 256 = Y at *
      have hsz2 : B ≤ wr.heap.size := Nat.le_trans hB HB.out.size
      have hA : Below wr.heap.size wr (wr.alloc (.cells #[.int .u8 (Y : Nat)] 5)) := (Below.refl _ _).alloc (Nat.le_refl _) _
      obtain ⟨g2, c2, w2, hap, hr2, hb2, hB2⟩ := appendM (wr.alloc (.cells #[.int .u8 (Y : Nat)] 5)) B g (k + r) c (numF k sz x f) wr.heap.size 0 1 1 (fun _ => Y) HBg.out (Nat.le_trans hsz2 hA.size) (by omega) (HO.out.below hA) (code8_of (fun i hi => by
          obtain rfl : i = 0 := by omega
          simp)) 22
      have HAP : Hid _ := hap
      have HR2 : Hid (RowM w2 g2 (k + r + 1) c2 (numF k sz x f)) := hr2.congr (fun j hj => by
        unfold Sha.cat
        by_cases e : j < k + r
        · rw [if_pos e]
        · rw [if_neg e, show j = k + r from by omega]; exact HX.out.symm)
      have HB2 : Hid (Below B w w2) := HB.out.trans ((hA.mono hsz2).trans hb2)
      have HG2 : Hid (B ≤ g2) := hB2
      have HK : Hid ((sz : Int) - 1 - (r : Int) - 1 = (sz : Int) - 1 - ((r + 1 : Nat) : Int)) := by show _ = _; omega
      clear hs hA hap hr2 hb2 hB2 HO HB HBg
      go_wp2_with (at_builtin; refine Lib.wpList_append_run _ rfl (.tmp 14) (.tmp 20) _ _ rfl _ _ rfl rfl _ _ HAP.out ?_)
      go_roundw
      case rel => exact ⟨r + 1, g2, c2, by omega, numEq8 HK.out, rfl, HG2.out, HR2.out, HB2.out⟩
      case measure => simp [intOf]; omega
    · have x0 : ¬ (0 : Int) ≤ (sz : Int) - 1 - (r : Int) := by omega
      obtain rfl : r = sz := by omega
      go_wp2
      go_ret
      exact ⟨⟨g, c, rfl, HBg.out, HO.out⟩, HB.out⟩
end Go.Proofs.YtkmakpbphdjbcaaGreatDoor
namespace Go.Proofs.YtkmakpbphdjbcaaGreatDoor
open Go.ChangeShapes Go.WideShapes Go.ChangeAt Go.RowKit
theorem bv_text (s : ByteArray) (n : Nat) (h : s.size = n) : bv n (strB s) = s.data.toList.map (fun b => .int .u8 b.toNat) := by
  apply List.ext_getElem
  · rw [bv_length]; simp [h]
  · intro i h1 h2
    have hi : i < n := by rwa [bv_length] at h1
    have hi' : i < s.size := by omega
    have e := bv_at (n := n) (f := strB s) hi
    rw [List.getElem?_eq_getElem h1] at e
    rw [Option.some.inj e, List.getElem_map, ← ba_get s i hi']
    simp [strB, hi']
end Go.Proofs.YtkmakpbphdjbcaaGreatDoor
namespace Go.Proofs.YtkmakpbphdjbcaaGreatDoor
open Go.ChangeShapes Go.WideShapes Go.ChangeAt Go.RowKit
theorem run_copy_le {P : Program} (w : World) (dT sT ty elem : TypeId) (b o dLen dCap : Nat) (s : ByteArray) (cs : List Value)
    (hu : P.underlying dT = some (.slice elem)) (hs : (P.info? elem).map (·.size) = some 1) (hn : s.size ≤ dLen) (hcs : cs = s.data.toList.map (fun b => .int .u8 b.toNat))
    (hc : ∀ j, j < cs.length → (w.cell? ⟨b, o + j, none⟩).isSome = true) (hf : ∀ j, j < cs.length → w.frozen? ⟨b, o + j, none⟩ = false) :
    (Builtin.copy_ #[dT, sT] ty #[.slice (some ⟨b, o, none⟩) dLen dCap, .string s]).run P w = .ok (goInt cs.length) (w.setCells b o cs) := by
  have h1 : ∀ v ∈ cs, v.oneCell' = true := fun v hv => by
    rw [hcs] at hv
    obtain ⟨x, _, rfl⟩ := List.mem_map.1 hv
    rfl
  have hst := run_storeCells_cells (P := P) b o cs 0 w (by simpa using hc) (by simpa using hf) h1
  cases hq : P.info? elem with
  | none => simp [hq] at hs
  | some i =>
    have hl : s.data.toList.length = s.size := by simp
    have hcl : cs.length = s.size := by rw [hcs, List.length_map, hl]
    have hm : min s.size dLen = s.size := Nat.min_eq_left hn
    simp [Builtin.copy_, run_underlying hu, Builtin.lenOf, Builtin.firstCells, sizeOf, typeInfo, hq, hm]
    rw [← hcs, List.take_of_length_le (by omega), hst, hcl]
    rfl
set_option maxRecDepth 100000 in
set_option maxHeartbeats 1000000 in
theorem stateOf_le (s : ByteArray) (hs : s.size ≤ 16) (w : World) :
    Calls Tryz.prog 101 #[.string s] w fun e w' => e = .returned (.agg (bA 16 (strB s))) ∧ Below w.heap.size w w' := by
  have Z2 : Hid (Row8 ((w.alloc (.cells z16 113)).alloc (.cells z16 113)) (w.heap.size + 1) 113 16 (fun _ => 0)) := Row8.z16At (by simp) _
  have Z1 : Hid (Row8 ((w.alloc (.cells z16 113)).alloc (.cells z16 113)) w.heap.size 113 16 (fun _ => 0)) := (Row8.z16At rfl _).alloc _
  have B3 : Hid (Below w.heap.size w ((w.alloc (.cells z16 113)).alloc (.cells z16 113))) := ((Below.refl _ _).alloc (Nat.le_refl _) _).alloc (by simp) _
  have sz : (Tryz.prog.info? 5).map (·.size) = some 1 := by kernel_rfl
  have SZ : Hid ((Tryz.prog.info? 5).map (·.size) = some 1) := sz
  clear sz
  unfold z16 at Z2 Z1 B3
  go_enter Tryz.func101, Tryz.ntmps101
  go_upto_region 2 with fail
  generalize (w.alloc (.cells #[.int .u8 0, .int .u8 0, .int .u8 0, .int .u8 0, .int .u8 0, .int .u8 0, .int .u8 0, .int .u8 0, .int .u8 0, .int .u8 0, .int .u8 0, .int .u8 0, .int .u8 0, .int .u8 0, .int .u8 0, .int .u8 0] 113)).alloc (.cells #[.int .u8 0, .int .u8 0, .int .u8 0, .int .u8 0, .int .u8 0, .int .u8 0, .int .u8 0, .int .u8 0, .int .u8 0, .int .u8 0, .int .u8 0, .int .u8 0, .int .u8 0, .int .u8 0, .int .u8 0, .int .u8 0] 113) = wz at *
  have CP : ∀ ty c, (Builtin.copy_ #[22, 9] ty #[.slice (some ⟨w.heap.size + 1, 0, none⟩) 16 c, .string s]).run Tryz.prog wz = .ok (goInt s.size) (wz.setCells (w.heap.size + 1) 0 (bv s.size (strB s))) := fun ty c => by
    have h := run_copy_le (P := Tryz.prog) wz 22 9 ty 5 (w.heap.size + 1) 0 16 c s (bv s.size (strB s)) Tryz.underlying22 SZ.out hs (bv_text s s.size rfl) (fun j hj => by rw [bv_length] at hj; exact (Z2.out.there j (by omega)).1) (fun j hj => by rw [bv_length] at hj; exact (Z2.out.there j (by omega)).2)
    rw [bv_length] at h
    exact h
  have R2 : Hid (Row8 (wz.setCells (w.heap.size + 1) 0 (bv s.size (strB s))) (w.heap.size + 1) 113 16 (strB s)) := (rowIs_setCells (bv s.size (strB s)) 0 wz _ Z2.out).congr (fun i hi => by
    rw [bv_length]
    by_cases h : i < s.size
    · rw [if_pos (by omega), Nat.sub_zero, List.getD_eq_getElem?_getD, bv_at h]; rfl
    · rw [if_neg (by omega)]
      simp [strB, h])
  have R1 : Hid (Row8 (wz.setCells (w.heap.size + 1) 0 (bv s.size (strB s))) w.heap.size 113 16 (fun _ => 0)) := Z1.out.storedOther (by omega) _ _
  have B4 : Hid (Below w.heap.size w (wz.setCells (w.heap.size + 1) 0 (bv s.size (strB s)))) := below_setCells (by omega) _ _ _ B3.out
  generalize wz.setCells (w.heap.size + 1) 0 (bv s.size (strB s)) = wy at *
  clear Z1 Z2 B3
  go_upto_region 3 with fail
  clear CP
  generalize hG : strB s = G at *
  have HG : Hid (strB s = G) := hG
  clear hG
  refine wp_region_lit ?_
  refine wpList_load_mid rfl 113 (.tmp 3) rfl (w.heap.size + 1) 0 rfl (bv 16 G) _ R2.out.range Tryz.underlying113 rfl (by rw [bv_length]; exact Tryz.sizeSt) ?_
  refine wpList_store_mid rfl 113 (.tmp 2) (.tmp 7) rfl w.heap.size 0 (bA 16 G) rfl rfl (by rw [bA_size]; exact R1.out.there) (by rw [bA_size]; exact Tryz.sizeSt) (bA_one _ _) ?_
  rw [bA_toList]
  have L : Hid ((loadVar 113 ⟨w.heap.size, 0, none⟩).run Tryz.prog (wy.setCells (w.heap.size) 0 (bv 16 G)) = .ok (.agg (bA 16 G)) (wy.setCells (w.heap.size) 0 (bv 16 G))) := (R1.out.stored _).load Tryz.underlying113 rfl Tryz.sizeSt
  have B : Hid (Below w.heap.size w (wy.setCells (w.heap.size) 0 (bv 16 G))) := below_setCells (Nat.le_refl _) _ _ _ B4.out
  have eA : (bv 16 G).toArray = bA 16 G := rfl
  rw [eA]
  generalize wy.setCells (w.heap.size) 0 (bv 16 G) = wf at *
  generalize hA : bA 16 G = AA at *
  have HA : Hid (bA 16 G = AA) := hA
  clear hA eA
  go_wp2
  rw [HG.out, HA.out]
  exact bodyPost_ret (v := .agg AA) (results_cell_one (b := w.heap.size) (o := 0) Tryz.results101 _ _ _ rfl L.out) rfl ⟨rfl, B.out⟩
end Go.Proofs.YtkmakpbphdjbcaaGreatDoor
namespace Go.Proofs.YtkmakpbphdjbcaaGreatDoor
open Go.ChangeShapes Go.WideShapes Go.ChangeAt Go.RowKit
end Go.Proofs.YtkmakpbphdjbcaaGreatDoor
namespace Go.Proofs.YtkmakpbphdjbcaaGreatDoor
open Go.ChangeShapes Go.WideShapes Go.ChangeAt Go.RowKit
end Go.Proofs.YtkmakpbphdjbcaaGreatDoor
namespace Go.Proofs.YtkmakpbphdjbcaaGreatDoor
open Go.ChangeShapes Go.WideShapes Go.ChangeAt Go.RowKit
theorem keyOK_yes (s : ByteArray) (h : s.size = 16 ∨ s.size = 32) (w : World) : Calls Tryz.prog 93 #[.string s] w fun e w' => e = .returned (.bool true) ∧ w' = w := by
  rcases h with h | h
  · go_enter Tryz.func93, Tryz.ntmps93
    go_wp2
    go_ret
    exact ⟨rfl, rfl⟩
  · go_enter Tryz.func93, Tryz.ntmps93
    go_wp2
    go_ret
    exact ⟨rfl, rfl⟩
end Go.Proofs.YtkmakpbphdjbcaaGreatDoor
namespace Go.Proofs.YtkmakpbphdjbcaaGreatDoor
namespace Gf
def Same (f g : Nat → Nat) : Prop := ∀ j, j < 16 → f j = g j
theorem same_addK {f g : Nat → Nat} (h : Same f g) (k : Nat → Nat) : Same (addK f k) (addK g k) := fun j hj => by unfold addK; rw [h j hj]
theorem same_mixS {f g : Nat → Nat} (h : Same f g) : Same (mixS f) (mixS g) := fun j hj => by
  have m := Nat.mod_lt (j % 4 + 1) (show 0 < 4 by omega)
  unfold mixS mixAt
  rw [h (j / 4 * 4) (by omega), h (j / 4 * 4 + 1) (by omega), h (j / 4 * 4 + 2) (by omega), h (j / 4 * 4 + 3) (by omega), h (j / 4 * 4 + j % 4) (by omega), h (j / 4 * 4 + (j % 4 + 1) % 4) (by omega)]
end Gf
theorem kstr_same {f g : Nat → Nat} (h : Gf.Same f g) : kstr f 0 16 = kstr g 0 16 := kstr_congr (fun i hi => by rw [Nat.zero_add]; exact h i hi)
end Go.Proofs.YtkmakpbphdjbcaaGreatDoor
namespace Go.Proofs.YtkmakpbphdjbcaaGreatDoor
namespace Gf
theorem same_subTurn {f g : Nat → Nat} (h : Same f g) : Same (subTurn f) (subTurn g) := fun j _ => by unfold subTurn; rw [h _ (ord_lt j)]
theorem same_encTo {K f g : Nat → Nat} (h : Same f g) : ∀ i, Same (encTo K f i) (encTo K g i)
  | 0 => same_addK h _
  | i + 1 => same_addK (same_mixS (same_subTurn (same_encTo h i))) _
theorem same_enc {K f g : Nat → Nat} {R : Nat} (h : Same f g) : Same (enc K R f) (enc K R g) := same_addK (same_subTurn (same_encTo h _)) _
end Gf
def ctrBlk (N : Nat → Nat) (k j : Nat) : Nat := if j < 12 then N j else k / 256 ^ (15 - j) % 256
theorem ctrBlk_lt {N : Nat → Nat} (hN : ∀ j, N j < 256) (k j : Nat) : ctrBlk N k j < 256 := by
  unfold ctrBlk
  split
  · exact hN j
  · exact Nat.mod_lt _ (by omega)
def ctrK (K : Nat → Nat) (R : Nat) (N : Nat → Nat) (x : Nat) : Nat := Gf.enc K R (ctrBlk N (x / 16 + 1)) (x % 16)
def ctrF (K : Nat → Nat) (R : Nat) (N f : Nat → Nat) (x : Nat) : Nat := f x ^^^ ctrK K R N x
theorem ctrK_lt {K N : Nat → Nat} {R : Nat} (hK : ∀ j, K j < 256) (hN : ∀ j, N j < 256) (x : Nat) : ctrK K R N x < 256 := Gf.enc_lt hK (fun j _ => ctrBlk_lt hN _ j) _
theorem ctrF_lt {K N f : Nat → Nat} {R : Nat} (hK : ∀ j, K j < 256) (hN : ∀ j, N j < 256) (hf : ∀ j, f j < 256) (x : Nat) : ctrF K R N f x < 256 := Gf.xor_lt (hf x) (ctrK_lt hK hN x)
theorem ctrF_twice (K : Nat → Nat) (R : Nat) (N f : Nat → Nat) (x : Nat) : ctrF K R N (ctrF K R N f) x = f x := by
  unfold ctrF
  rw [Nat.xor_assoc, Nat.xor_self, Nat.xor_zero]
end Go.Proofs.YtkmakpbphdjbcaaGreatDoor
namespace Go.Proofs.YtkmakpbphdjbcaaGreatDoor
open Go.ChangeShapes Go.WideShapes Go.ChangeAt Go.RowKit
def fourF (k j : Nat) : Nat := k / 256 ^ (3 - j) % 256
def nonceF (p v : Nat) : Nat → Nat := numF 8 4 v (numF 4 4 p (fun _ => 0))
theorem four_num (k x : Nat) (f : Nat → Nat) (i : Nat) : numF k 4 x f (k + i) = fourF x i := by
  unfold numF fourF
  rw [if_neg (by omega), show k + i - k = i from by omega, show (4 : Nat) - 1 - i = 3 - i from by omega, Nat.pow_mul]
theorem nonce_text (p v : Nat) : kstr (fourF 0) 0 4 ++ kstr (fourF p) 0 4 ++ kstr (fourF v) 0 4 = kstr (nonceF p v) 0 12 := by
  have e0 : kstr (fourF 0) 0 4 = kstr (nonceF p v) 0 4 := kstr_congr (fun i hi => by
    unfold nonceF
    rw [Nat.zero_add]
    show fourF 0 i = if i < 8 then (if i < 4 then 0 else _) else _
    rw [if_pos (by omega), if_pos hi]
    unfold fourF
    rw [Nat.zero_div])
  have e1 : kstr (fourF p) 0 4 = kstr (nonceF p v) 4 4 := kstr_congr (fun i hi => by
    rw [Nat.zero_add]
    show fourF p i = if 4 + i < 8 then numF 4 4 p (fun _ => 0) (4 + i) else _
    rw [if_pos (by omega), four_num])
  have e2 : kstr (fourF v) 0 4 = kstr (nonceF p v) 8 4 := kstr_congr (fun i hi => by
    rw [Nat.zero_add]
    exact (four_num 8 v _ i).symm)
  rw [e0, e1, e2, kstr_append, kstr_append]
theorem l02FourB_any (k : Nat) (hk : k < 4294967296) (w : World) :
    Calls Tryz.prog 75 #[.int .i64 (k : Int)] w fun e w' => e = .returned (.slice (some ⟨w.heap.size, 0, none⟩) 4 4) ∧ Own8 w' w.heap.size 4 (fourF k) ∧ Below w.heap.size w w' := by
  go_enter Tryz.func75, Tryz.ntmps75
  go_wp2
  go_ret
  refine ⟨rfl, Own8.ofRow (World.rowIs_alloc w #[.int .u8 ((k : Int) / 16777216), .int .u8 ((k : Int) / 65536 % 256), .int .u8 ((k : Int) / 256 % 256), .int .u8 ((k : Int) % 256)] 5 _ (fun i hi => ?_)), (Below.refl _ _).alloc (Nat.le_refl _) _⟩
  have hi' : i < 4 := by simpa using hi
  rcases (show i = 0 ∨ i = 1 ∨ i = 2 ∨ i = 3 by omega) with rfl | rfl | rfl | rfl
  · exact congrArg some (numEq8 (by show (k : Int) / 16777216 = ((k / 16777216 % 256 : Nat) : Int); omega))
  · exact congrArg some (numEq8 (by show (k : Int) / 65536 % 256 = ((k / 65536 % 256 : Nat) : Int); omega))
  · exact congrArg some (numEq8 (by show (k : Int) / 256 % 256 = ((k / 256 % 256 : Nat) : Int); omega))
  · exact congrArg some (numEq8 (by show (k : Int) % 256 = ((k / 1 % 256 : Nat) : Int); omega))
set_option maxRecDepth 100000 in
set_option maxHeartbeats 1000000 in
theorem l04Nonce_any (p v : Nat) (hp : p < 4294967296) (hv : v < 4294967296) (w : World) :
    Calls Tryz.prog 60 #[.int .i64 (p : Int), .int .i64 (v : Int)] w fun e w' => e = .returned (.string (kstr (nonceF p v) 0 12)) ∧ Below w.heap.size w w' := by
  have FO : Hid (∀ (k : Nat) (w : World), k < 4294967296 → Calls Tryz.prog 75 #[.int .i64 (k : Int)] w fun e w' => e = .returned (.slice (some ⟨w.heap.size, 0, none⟩) 4 4) ∧ Own8 w' w.heap.size 4 (fourF k) ∧ Below w.heap.size w w') := fun k w h => l02FourB_any k h w
  have F0 : Hid (∀ (w : World), Calls Tryz.prog 75 #[.int .i64 0] w fun e w' => e = .returned (.slice (some ⟨w.heap.size, 0, none⟩) 4 4) ∧ Own8 w' w.heap.size 4 (fourF 0) ∧ Below w.heap.size w w') := fun w => FO.out 0 w (by omega)
  rw [← nonce_text]
  have z0 : (kstr (fourF 0) 0 4).size = 4 := kstr_size _ _ _
  have z1 : (kstr (fourF p) 0 4).size = 4 := kstr_size _ _ _
  have z2 : (kstr (fourF v) 0 4).size = 4 := kstr_size _ _ _
  generalize hg0 : kstr (fourF 0) 0 4 = s0 at *
  generalize hg1 : kstr (fourF p) 0 4 = s1 at *
  generalize hg2 : kstr (fourF v) 0 4 = s2 at *
  go_enter Tryz.func60, Tryz.ntmps60
  go_upto_region 1 with fail
  refine wp_region_noPanic ?_
  refine wp_region_held_drew (S := fun _ => True) (by kernel_rfl) trivial (fun _ => ?_)
  refine wpAnyH_take (i := 2) (v := .int .i64 (p : Int)) rfl (by kernel_rfl) (by kernel_rfl) (by kernel_rfl) (fun _ _ _ h => h) (Or.inl ⟨by rfl, ?_⟩) trivial ?_
  · intro w hSw; go_simp
  change wpAnyH _ _ _ _ _ _ _ { tmps := #[_,_,_,_,_,_,_,_,_,_,_,_,_,_,_], defers := [] } _
  refine wpAnyH_take (i := 6) (v := .int .i64 (v : Int)) rfl (by kernel_rfl) (by kernel_rfl) (by kernel_rfl) (fun _ _ _ h => h) (Or.inl ⟨by rfl, ?_⟩) trivial ?_
  · intro w hSw; go_simp
  change wpAnyH _ _ _ _ _ _ _ { tmps := #[_,_,_,_,_,_,_,_,_,_,_,_,_,_,_], defers := [] } _
  refine wpAnyH_ready (rs := [0]) (by kernel_rfl) (by simp) ?_
  refine AllReadyH.cons rfl (fun KK hK => ?_) AllReadyH.nil
  go_simp
  refine (F0.out _).mono ?_
  rintro e w1 ⟨rfl, ho1, hb1⟩
  refine hK.out _ _ trivial (fun _ => ?_)
  clear hK KK
  change wpAnyH _ _ _ _ _ _ _ { tmps := #[_,_,_,_,_,_,_,_,_,_,_,_,_,_,_], defers := [] } _
  have HB1 : Hid (Below w.heap.size w w1) := (Below.refl _ w).drew.trans hb1
  change Own8 w1 w.heap.size 4 (fourF 0) at ho1
  change wpAnyH _ _ _ _ _ _ _ { tmps := #[_,_,_,_,_, .slice (some ⟨w.heap.size, 0, none⟩) 4 4, _,_,_,_,_,_,_,_,_], defers := [] } _
  clear hb1
  refine wpAnyH_strong (S' := fun w' => Own8 w' w.heap.size 4 (fourF 0)) (fun _ _ => trivial) _ _ _ _ ?_
  refine wpAnyH_take (i := 1) (v := .string s0) rfl (by kernel_rfl) (by kernel_rfl) (by kernel_rfl) (fun _ _ _ h => h) (Or.inl ⟨by rfl, ?_⟩) ho1 ?_
  · intro w' hSw
    have := kstr_of_code (c := 4) hSw.code
    rw [hg0] at this
    go_simp
  change wpAnyH _ _ _ _ _ _ _ { tmps := #[_,_,_,_,_,_,_,_,_,_,_,_,_,_,_], defers := [] } _
  refine wpAnyH_ready (rs := [3]) (by kernel_rfl) (by simp) ?_
  refine AllReadyH.cons rfl (fun KK hK => ?_) AllReadyH.nil
  go_simp
  refine (FO.out p _ hp).mono ?_
  rintro e w2 ⟨rfl, ho2, hb2⟩
  have hk2 : Own8 w2 w.heap.size 4 (fourF 0) := ho1.below hb2
  refine hK.out _ _ hk2 (fun _ => ?_)
  clear hK KK
  change wpAnyH _ _ _ _ _ _ _ { tmps := #[_,_,_,_,_,_,_,_,_,_,_,_,_,_,_], defers := [] } _
  have HB2 : Hid (Below w.heap.size w w2) := HB1.out.trans (hb2.mono HB1.out.size)
  clear hb2 HB1 ho1
  generalize w1.heap.size = b1 at *
  refine wpAnyH_strong (S' := fun w' => Own8 w' b1 4 (fourF p) ∧ Own8 w' w.heap.size 4 (fourF 0)) (fun _ h => h.2) _ _ _ _ ?_
  refine wpAnyH_take (i := 4) (v := .string s1) rfl (by kernel_rfl) (by kernel_rfl) (by kernel_rfl) (fun _ _ _ h => h) (Or.inl ⟨by rfl, ?_⟩) ⟨ho2, hk2⟩ ?_
  · intro w' hSw
    have := kstr_of_code (c := 4) hSw.1.code
    rw [hg1] at this
    go_simp
  change wpAnyH _ _ _ _ _ _ _ { tmps := #[_,_,_,_,_,_,_,_,_,_,_,_,_,_,_], defers := [] } _
  refine wpAnyH_take (i := 5) (v := .string (s0 ++ s1)) rfl (by kernel_rfl) (by kernel_rfl) (by kernel_rfl) (fun _ _ _ h => h) (Or.inl ⟨by rfl, ?_⟩) ⟨ho2, hk2⟩ ?_
  · intro w' hSw; go_simp
  change wpAnyH _ _ _ _ _ _ _ { tmps := #[_,_,_,_,_,_,_,_,_,_,_,_,_,_,_], defers := [] } _
  refine wpAnyH_ready (rs := [7]) (by kernel_rfl) (by simp) ?_
  refine AllReadyH.cons rfl (fun KK hK => ?_) AllReadyH.nil
  go_simp
  refine (FO.out v _ hv).mono ?_
  rintro e w3 ⟨rfl, ho3, hb3⟩
  refine hK.out _ _ ⟨ho2.below hb3, hk2.below hb3⟩ (fun _ => ?_)
  clear hK KK
  change wpAnyH _ _ _ _ _ _ _ { tmps := #[_,_,_,_,_,_,_,_,_,_,_,_,_,_,_], defers := [] } _
  have HB3 : Hid (Below w.heap.size w w3) := HB2.out.trans (hb3.mono HB2.out.size)
  have hS3 : Own8 w3 b1 4 (fourF p) ∧ Own8 w3 w.heap.size 4 (fourF 0) := ⟨ho2.below hb3, hk2.below hb3⟩
  clear hb3 HB2 ho2 hk2
  generalize w2.heap.size = b2 at *
  refine wpAnyH_strong (S' := fun w' => Own8 w' b2 4 (fourF v) ∧ Own8 w' b1 4 (fourF p) ∧ Own8 w' w.heap.size 4 (fourF 0)) (fun _ h => h.2) _ _ _ _ ?_
  refine wpAnyH_take (i := 8) (v := .string s2) rfl (by kernel_rfl) (by kernel_rfl) (by kernel_rfl) (fun _ _ _ h => h) (Or.inl ⟨by rfl, ?_⟩) ⟨ho3, hS3⟩ ?_
  · intro w' hSw
    have := kstr_of_code (c := 4) hSw.1.code
    rw [hg2] at this
    go_simp
  change wpAnyH _ _ _ _ _ _ _ { tmps := #[_,_,_,_,_,_,_,_,_,_,_,_,_,_,_], defers := [] } _
  refine wpAnyH_take (i := 9) (v := .string (s0 ++ s1 ++ s2)) rfl (by kernel_rfl) (by kernel_rfl) (by kernel_rfl) (fun _ _ _ h => h) (Or.inl ⟨by rfl, ?_⟩) ⟨ho3, hS3⟩ ?_
  · intro w' hSw; go_simp
  change wpAnyH _ _ _ _ _ _ _ { tmps := #[_,_,_,_,_,_,_,_,_,_,_,_,_,_,_], defers := [] } _
  refine wpAnyH_take (i := 10) (v := .string (s0 ++ s1 ++ s2)) rfl (by kernel_rfl) (by kernel_rfl) (by kernel_rfl) (fun _ _ _ h => h) (Or.inl ⟨by rfl, ?_⟩) ⟨ho3, hS3⟩ ?_
  · intro w' hSw; go_simp
  change wpAnyH _ _ _ _ _ _ _ { tmps := #[_,_,_,_,_,_,_,_,_,_,_,_,_,_,_], defers := [] } _
  clear hS3 ho3
  refine wpAnyH_done (by kernel_rfl) ?_ _
  refine NoPanic.normal ?_
  go_wp2
  go_ret
  exact ⟨rfl, HB3.out⟩
theorem isWord_any (x : Int) (r : Bool) (hr : r = decide (0 ≤ x ∧ x ≤ 4294967295)) (w : World) :
    Calls Tryz.prog 71 #[.int .i64 x] w fun e w' => e = .returned (.bool r) ∧ w = w' := by
  by_cases h1 : 0 ≤ x
  · by_cases h2 : x ≤ 4294967295
    · obtain rfl : r = true := by rw [hr]; simp; omega
      clear hr
      go_enter Tryz.func71, Tryz.ntmps71
      go_wp2
      go_ret
      exact ⟨rfl, rfl⟩
    · obtain rfl : r = false := by rw [hr]; simp; omega
      clear hr
      go_enter Tryz.func71, Tryz.ntmps71
      go_wp2
      go_ret
      exact ⟨rfl, rfl⟩
  · obtain rfl : r = false := by rw [hr]; simp; omega
    clear hr
    go_enter Tryz.func71, Tryz.ntmps71
    go_wp2
    go_ret
    exact ⟨rfl, rfl⟩
theorem mkFour (w : World) : ∃ w', (Instr.makeSlice 22 (.int .i64 4) (.int .i64 12)).run Tryz.prog w = .ok (.slice (some ⟨w.heap.size, 0, none⟩) 4 12) w' ∧ RowM w' w.heap.size 4 12 (fun _ => 0) ∧ Below w.heap.size w w' := by
  obtain ⟨i0, h1, h2, h3, h4⟩ := info_parts Tryz.info8
  have hr := run_make (P := Tryz.prog) w 22 5 i0 (.int .u8 0) Tryz.underlying22 h1 h2 .i64 .i64 4 12 (by omega) (by omega) (by rw [h4]; omega) (by omega)
  rw [h3] at hr
  have hrow := World.rowIs_made w (.int .u8 0) 12 5
  exact ⟨_, hr, ⟨by omega, fun i hi => hrow.cell (by omega), fun i hi => ⟨by rw [show (w.alloc (.cells (madeCells (Value.cells (.int .u8 0)) ((12 : Int).toNat * 1)) 5)).cell? ⟨w.heap.size, i, none⟩ = some (.int .u8 0) from hrow.cell hi]; rfl, hrow.frozen i⟩, hrow.lt⟩, (Below.refl _ _).alloc (Nat.le_refl _) _⟩
set_option maxRecDepth 100000 in
theorem implNonce_yes (p v : Nat) (hp : p < 4294967296) (hv : v < 4294967296) (w : World) :
    Calls Tryz.prog 58 #[.int .i64 (p : Int), .int .i64 (v : Int)] w fun e w' => e = .returned (.tuple #[.string (kstr (nonceF p v) 0 12), .int .i64 0]) ∧ Below w.heap.size w w' := by
  have L1 : Hid (∀ w : World, Calls Tryz.prog 71 #[.int .i64 (p : Int)] w fun e w' => e = .returned (.bool true) ∧ w = w') := fun w => isWord_any p true (by simp; omega) w
  have L2 : Hid (∀ w : World, Calls Tryz.prog 71 #[.int .i64 (v : Int)] w fun e w' => e = .returned (.bool true) ∧ w = w') := fun w => isWord_any v true (by simp; omega) w
  have AN : Hid (∀ (g k c x : Nat) (f : Nat → Nat) (w1 : World), k ≤ 1000 → w.heap.size ≤ g → w.heap.size ≤ w1.heap.size → RowM w1 g k c f → Calls Tryz.prog 22 #[.slice (some ⟨g, 0, none⟩) k c, .int .i64 (x : Int), .int .i64 4] w1 fun e w' => RetM w.heap.size w' e (k + 4) (numF k 4 x f) ∧ Below w.heap.size w1 w') := fun g k c x f w1 hk h1 h2 h => appendNumberM_any w.heap.size g k c x 4 f (by omega) (by omega) w1 h1 h2 h
  obtain ⟨X, hX⟩ : ∃ X, X = kstr (nonceF p v) 0 12 := ⟨_, rfl⟩
  rw [← hX]
  have HX : Hid (X = kstr (nonceF p v) 0 12) := hX
  clear hX
  obtain ⟨w0, hmk, hr0, hb0⟩ := mkFour w
  have R0 : Hid (RowM w0 w.heap.size 4 12 (fun _ => 0)) := hr0
  have B0 : Hid (Below w.heap.size w w0) := hb0
  clear hp hv hr0 hb0
  go_enter Tryz.func58, Tryz.ntmps58
  go_wp2_with fail
  refine (L1.out _).mono ?_
  rintro e w1 ⟨rfl, rfl⟩
  go_wp2_with fail
  refine (L2.out _).mono ?_
  rintro e w1 ⟨rfl, rfl⟩
  go_wp2_with fail
  refine (AN.out w.heap.size 4 12 p _ w0 (by omega) (Nat.le_refl _) B0.out.size R0.out).mono ?_
  rintro e w1 ⟨⟨g1, c1, rfl, hg1, hr1⟩, hb1⟩
  have R1 : Hid (RowM w1 g1 (4 + 4) c1 (numF 4 4 p (fun _ => 0))) := hr1
  have B1 : Hid (Below w.heap.size w w1) := B0.out.trans hb1
  have G1 : Hid (w.heap.size ≤ g1) := hg1
  clear hr1 hb1 hg1 R0 B0 hmk
  go_wp2_with fail
  refine (AN.out g1 8 c1 v _ w1 (by omega) G1.out B1.out.size R1.out).mono ?_
  rintro e w2 ⟨⟨g2, c2, rfl, hg2, hr2⟩, hb2⟩
  have B2 : Hid (Below w.heap.size w w2) := B1.out.trans hb2
  have hcv := kstr_of_code (c := c2) hr2.code
  change (convert 22 9 (.slice (some ⟨g2, 0, none⟩) 12 c2)).run Tryz.prog w2 = .ok (.string (kstr (nonceF p v) 0 12)) w2 at hcv
  rw [← HX.out] at hcv
  clear hr2 hb2 hg2 R1 B1 G1 AN
  go_wp2
  go_ret2
  exact ⟨rfl, B2.out⟩
end Go.Proofs.YtkmakpbphdjbcaaGreatDoor
