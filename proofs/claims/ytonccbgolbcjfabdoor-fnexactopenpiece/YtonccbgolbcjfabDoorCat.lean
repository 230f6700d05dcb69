/-
  The contract of slices.Concat at slices of bytes, any number of them, nil ones too.
-/
import Derived.Test.YtonccbgolbcjfabDoorNum
import Derived.Laws.AppendOwnNone
namespace Go.Proofs.YtonccbgolbcjfabDoor
open Go.ChangeShapes Go.WideShapes Go.ChangeAt Go.RowKit
/-- How long the first k are together, and how they read. -/
def catN (ns : Nat → Nat) : Nat → Nat
  | 0 => 0
  | k + 1 => catN ns k + ns k
def catF (ns : Nat → Nat) (fs : Nat → Nat → Nat) : Nat → Nat → Nat
  | 0 => fun _ => 0
  | k + 1 => Sha.cat (catN ns k) (catF ns fs k) (fs k)
theorem catN_mono (ns : Nat → Nat) {k m : Nat} (h : k ≤ m) : catN ns k ≤ catN ns m := by
  induction m with
  | zero => rw [Nat.le_zero.1 h]; exact Nat.le_refl _
  | succ m ih =>
    rcases Nat.lt_or_ge m k with g | g
    · rw [show k = m + 1 from by omega]; exact Nat.le_refl _
    · exact Nat.le_trans (ih g) (Nat.le_add_right _ _)
/-- The slices that are put together, in a row of block sb. -/
structure Parts (w : World) (sb m : Nat) (ads : Nat → Option Addr) (ns cs : Nat → Nat) (fs : Nat → Nat → Nat) : Prop where
  cell : ∀ k, k < m → w.cell? ⟨sb, k, none⟩ = some (.slice (ads k) (ns k) (cs k))
  code : ∀ k, k < m → Code8 w (ads k) (ns k) (fs k)
  nil : ∀ k, k < m → (ads k = none ∧ ns k = 0 ∧ cs k = 0) ∨ ∃ b o, ads k = some ⟨b, o, none⟩
theorem Parts.belowAt {w w' : World} {B sb m : Nat} {ads : Nat → Option Addr} {ns cs : Nat → Nat} {fs : Nat → Nat → Nat} (h : Parts w sb m ads ns cs fs) (hB : w.heap.size ≤ B) (hb : Below B w w') : Parts w' sb m ads ns cs fs :=
  ⟨fun k hk => by rw [(hb.mono hB).cell (p := ⟨sb, k, none⟩) (strBlock (h.cell k hk))]; exact h.cell k hk, fun k hk => (h.code k hk).below (hb.mono hB), h.nil⟩
set_option maxRecDepth 100000 in
set_option maxHeartbeats 2000000 in
theorem concatN_any (sb m : Nat) (ads : Nat → Option Addr) (ns cs : Nat → Nat) (fs : Nat → Nat → Nat) (hmm : m ≤ 1000) (h1 : 1 ≤ catN ns m) (h2 : catN ns m ≤ 2000000) (w : World) (h : Parts w sb m ads ns cs fs) :
    Calls Tryd.prog 39 #[.slice (some ⟨sb, 0, none⟩) m m] w fun e w' => RetO w.heap.size w' e (catN ns m) (catF ns fs m) ∧ Below w.heap.size w w' := by
  obtain ⟨i0, hi⟩ := info_parts Tryd.info8
  have HI : Hid (Tryd.prog.info? 5 = some i0 ∧ i0.zero = some (.int .u8 0) ∧ i0.size = 1 ∧ i0.bytes = 1) := hi
  have GN : Hid (∀ w : World, Calls Tryd.prog 54 #[.slice none 0 0, .int .i64 ((catN ns m : Nat) : Int)] w fun e w' => (∃ b c, w.heap.size ≤ b ∧ e = .returned (.slice (some ⟨b, 0, none⟩) 0 c) ∧ w'.ownsRow w.heap.size 5 1 (.slice (some ⟨b, 0, none⟩) 0 c) 0 []) ∧ Below w.heap.size w w') := grow_nil (catN ns m) h1 h2
  have HP : Hid (Parts w sb m ads ns cs fs) := h
  clear h hi
  go_enter Tryd.func39, Tryd.ntmps39
  go_wp2
  go_loop [3, 5, 11] (fun s _ i => ∃ k : Nat, k ≤ m ∧ i = .int .i64 k ∧ s = .int .i64 ((catN ns k : Nat) : Int)) (fun _ _ i => m - (intOf i).toNat)
  case atStart => exact ⟨0, by omega, rfl, rfl⟩
  case round =>
    obtain ⟨k, hk, rfl, rfl⟩ := hrel
    by_cases hlt : k < m
    · have hlt' : (k : Int) < (m : Int) := by omega
      have c1 := HP.out.cell k hlt
      have hm := catN_mono ns (show k + 1 ≤ m by omega)
      have eN : Hid (((catN ns (k + 1) : Nat) : Int) = ((catN ns k : Nat) : Int) + ((ns k : Nat) : Int)) := by show ((catN ns k + ns k : Nat) : Int) = _; omega
      have x0 : ¬ ((catN ns k : Nat) : Int) + ((ns k : Nat) : Int) < 0 := by omega
      have x1 : ((catN ns k : Nat) : Int) + ((ns k : Nat) : Int) ≤ 2000000 := by have := eN.out; omega
      generalize hN0 : catN ns k = N0 at *
      generalize ns k = n0 at *
      clear hm hN0
      go_wp2
      go_round
      case rel => exact ⟨k + 1, by omega, by go_num, numEq8 eN.out.symm⟩
      case measure => simp [intOf]; omega
    · obtain rfl : k = m := by omega
      have hlt' : ¬ (k : Int) < (k : Int) := by omega
      go_wp2_with fail
      refine (GN.out _).mono ?_
      rintro e w1 ⟨⟨b, c, hb, rfl, hown⟩, hB⟩
      have HO : Hid (w1.ownsRow w.heap.size 5 1 (.slice (some ⟨b, 0, none⟩) 0 c) 0 []) := hown
      have HB1 : Hid (Below w.heap.size w w1) := hB
      clear hown hB hlt hlt' GN hk
      go_wp2_with fail
      go_loopw [6, 8, 27] (fun s _ i wr => ∃ q g c : Nat, q ≤ k ∧ i = .int .i64 q ∧ s = .slice (some ⟨g, 0, none⟩) (catN ns q) c ∧ wr.ownsRow w.heap.size 5 1 (.slice (some ⟨g, 0, none⟩) (catN ns q) c) (catN ns q) (bv (catN ns q) (catF ns fs q)) ∧ Below w.heap.size w wr) (fun _ _ i _ => k - (intOf i).toNat)
      case atStart => exact ⟨0, b, c, by omega, rfl, rfl, HO.out, HB1.out⟩
      case round =>
        clear HO HB1
        obtain ⟨q, g, c, hq, rfl, rfl, hown, hb⟩ := hrel
        have HO : Hid (wr.ownsRow w.heap.size 5 1 (.slice (some ⟨g, 0, none⟩) (catN ns q) c) (catN ns q) (bv (catN ns q) (catF ns fs q))) := hown
        have HB : Hid (Below w.heap.size w wr) := hb
        have PW : Parts wr sb k ads ns cs fs := HP.out.belowAt (Nat.le_refl _) hb
        clear hown hb
        by_cases hlt : q < k
        · have hlt' : (q : Int) < (k : Int) := by omega
          have c1 := PW.cell q hlt
          have HM : Hid (catN ns q + ns q ≤ 2000000) := Nat.le_trans (catN_mono ns (show q + 1 ≤ k by omega)) h2
          have HQ : Hid (Code8 wr (ads q) (ns q) (fs q)) := PW.code q hlt
          have hsz := HB.out.size
          have EF : Hid (bv (catN ns q) (catF ns fs q) ++ bv (ns q) (fs q) = bv (catN ns q + ns q) (catF ns fs (q + 1))) := bv_append _ _ _ _
          rcases PW.nil q hlt with ⟨e1, e2, e3⟩ | ⟨b', o', e1⟩
          · rw [e1, e2, e3] at c1
            have HO' : Hid (wr.ownsRow w.heap.size 5 1 (.slice (some ⟨g, 0, none⟩) (catN ns q + ns q) c) (catN ns q + ns q) (bv (catN ns q + ns q) (catF ns fs (q + 1)))) := by
              have := HO.out
              rw [← EF.out, e2]
              rw [bv_zero, List.append_nil]
              exact this
            have EE : Hid (catN ns q = catN ns q + ns q) := by show _ = _; omega
            clear PW e1 e2 e3
            have EG : Hid (catN ns (q + 1) = catN ns q + ns q) := rfl
            generalize hN0 : catN ns q = N0 at *
            clear hN0
            go_wp2_with (at_builtin; refine wpList_append_own_none rfl _ _ 30 rfl w.heap.size 5 i0 1 Tryd.underlying30 HI.out.1 (.slice (some ⟨g, 0, none⟩) N0 c) N0 _ rfl HO.out rfl ?_)
            go_roundw
            case rel =>
              refine ⟨q + 1, g, c, by omega, by go_num, ?_, ?_, HB.out⟩
              · rw [EG.out, ← EE.out]
              · rw [EG.out]; exact HO'.out
            case measure => simp [intOf]; omega
          · rw [e1] at c1 HQ
            have EG : Hid (catN ns (q + 1) = catN ns q + ns q) := rfl
            generalize hN0 : catN ns q = N0 at *
            generalize hn0 : ns q = n0 at *
            clear hN0 hn0 PW e1
            go_wp2_with (at_builtin; refine wpList_append_own _ rfl _ _ 30 rfl w.heap.size 5 i0 (.int .u8 0) 1 1 Tryd.underlying30 HI.out.1 HI.out.2.1 HI.out.2.2.1 HI.out.2.2.2 rfl (by decide) (.slice (some ⟨g, 0, none⟩) N0 c) N0 _ rfl HO.out ⟨b', o', none⟩ n0 _ (bv n0 (fs q)) rfl (by rw [bv_length, Nat.mul_one]) (bv_news HQ.out) (bv_one _ _) (by have := HM.out; unfold maxLen; omega) (by have := HM.out; omega) hsz ?_)
            intro v' w2 hown' hgrow hnil
            have BG : Below w.heap.size wr w2 := grown_below HO.out hgrow hsz
            rw [EF.out] at hown'
            obtain ⟨g2, c2, ⟨hg2, hc2⟩, rfl, -⟩ := own8_of_own hown' hnil
            have HO2 : Hid (w2.ownsRow w.heap.size 5 1 (.slice (some ⟨g2, 0, none⟩) (N0 + n0) c2) (N0 + n0) (bv (N0 + n0) (catF ns fs (q + 1)))) := hown'
            have HB2 : Hid (Below w.heap.size w w2) := HB.out.trans BG
            clear hown' hgrow hnil HO HB BG
            go_wp2
            go_roundw
            case rel =>
              refine ⟨q + 1, g2, c2, by omega, by go_num, ?_, ?_, HB2.out⟩
              · rw [EG.out]
              · rw [EG.out]; exact HO2.out
            case measure => simp [intOf]; omega
        · obtain rfl : q = k := by omega
          have hlt' : ¬ (q : Int) < (q : Int) := by omega
          clear PW
          go_wp2
          go_ret
          exact ⟨⟨g, c, rfl, HO.out⟩, HB.out⟩
end Go.Proofs.YtonccbgolbcjfabDoor
