/-
  The model's way back: l01Shift to the right, l01Columns.
-/
import Derived.Test.YtbhlgcenfanicaaESpec
import Derived.Test.YtbhlgcenfanicaaDecMath
namespace Go.Proofs.Ytbhlgcenfanicaa
open Go.ChangeShapes Go.WideShapes Go.ChangeAt Go.RowKit
set_option maxRecDepth 100000 in
set_option maxHeartbeats 1000000 in
/-- spec.l01Shift to the right -/
theorem l01Unshift_any (b c : Nat) (f : Nat → Nat) (w : World) (h : I16 w b f) :
    Calls Try.prog 69 #[.slice (some ⟨b, 0, none⟩) 16 c, .int .i64 (-1)] w fun e w' => (∃ L, w.heap.size ≤ L ∧ e = .returned (.slice (some ⟨L, 0, none⟩) 16 16) ∧ I16 w' L (fun j => f (Gf.iord j))) ∧ Below w.heap.size w w' := by
  have HC : Hid (I16 w b f) := h
  have hbl : b < w.heap.size := h.lt
  clear h
  have mk := mkI16
  have M0 : Hid (I16 (w.alloc (.cells (madeCells #[.int .i64 0] 16) 3)) w.heap.size (fun _ => 0)) := I16.made w
  have B0 : Hid (Below w.heap.size w (w.alloc (.cells (madeCells #[.int .i64 0] 16) 3))) := (Below.refl _ _).alloc (Nat.le_refl _) _
  go_enter Try.func69, Try.ntmps69
  go_wp2
  clear mk
  generalize w.alloc (.cells (madeCells #[.int .i64 0] 16) 3) = wz at *
  go_loopw [6] (fun i wr => ∃ q : Nat, q ≤ 4 ∧ i = .int .i64 q ∧ I16 wr w.heap.size (fun j => if j < 4 * q then f (Gf.iord j) else 0) ∧ Below w.heap.size w wr) (fun i _ => 4 - (intOf i).toNat)
  case atStart => exact ⟨0, by omega, rfl, M0.out.congr (fun j _ => by rw [if_neg (by omega)]), B0.out⟩
  case round =>
    clear M0 B0
    obtain ⟨q, hq, rfl, hi, hb⟩ := hrel
    have HJ : Hid (I16 wr w.heap.size (fun j => if j < 4 * q then f (Gf.iord j) else 0)) := hi
    have HB : Hid (Below w.heap.size w wr) := hb
    clear hi hb
    by_cases hlt : q < 4
    · go_wp2
      go_loopw [7] (fun i wr => ∃ r : Nat, r ≤ 4 ∧ i = .int .i64 r ∧ I16 wr w.heap.size (fun j => if j < 4 * q + r then f (Gf.iord j) else 0) ∧ Below w.heap.size w wr) (fun i _ => 4 - (intOf i).toNat)
      case atStart => exact ⟨0, by omega, rfl, HJ.out, HB.out⟩
      case round =>
        clear HJ HB
        obtain ⟨r, hr, rfl, hi, hb⟩ := hrel
        have HJ : Hid (I16 wr w.heap.size (fun j => if j < 4 * q + r then f (Gf.iord j) else 0)) := hi
        have HB : Hid (Below w.heap.size w wr) := hb
        by_cases hr4 : r < 4
        · have eo : Gf.iord (4 * q + r) = 4 * ((q + 16 - r) % 4) + r := by unfold Gf.iord; omega
          have hol : 4 * ((q + 16 - r) % 4) + r < 16 := by omega
          have c0 : wr.cell? ⟨b, 4 * ((q + 16 - r) % 4) + r, none⟩ = some (.int .i64 (f (Gf.iord (4 * q + r)) : Nat)) := by
            rw [eo, hb.cell (p := ⟨b, _, none⟩) hbl]; exact (HC.out _ hol).1
          have c1 := (hi (4 * q + r) (by omega)).1
          have f1 := (hi (4 * q + r) (by omega)).2
          have ei : (q : Int) + -(r : Int) + 16 = ((q + 16 - r : Nat) : Int) := by omega
          have et : ((q : Int) + -(r : Int) + 16).tmod 4 = (((q + 16 - r) % 4 : Nat) : Int) := by rw [ei]; exact (Int.ofNat_tmod (q + 16 - r) 4).symm
          have em : ((q : Int) + -(r : Int) + 16) % 4 = (((q + 16 - r) % 4 : Nat) : Int) := by omega
          have em2 : ((q : Int) + -(r : Int)) % 4 = (((q + 16 - r) % 4 : Nat) : Int) := by omega
          have ew1 : IntKind.i64.wrap (-(r : Int)) = -(r : Int) := IntWalk.i64_in _ ⟨by omega, by omega⟩
          have ew2 : IntKind.i64.wrap ((q : Int) + -(r : Int)) = (q : Int) + -(r : Int) := IntWalk.i64_in _ ⟨by omega, by omega⟩
          have ew3 : IntKind.i64.wrap ((q : Int) + -(r : Int) + 16) = (q : Int) + -(r : Int) + 16 := IntWalk.i64_in _ ⟨by omega, by omega⟩
          clear ei
          have hM : (q + 16 - r) % 4 < 4 := Nat.mod_lt _ (by omega)
          clear hi hb eo
          generalize hX : f (Gf.iord (4 * q + r)) = X at *
          have HX : Hid (f (Gf.iord (4 * q + r)) = X) := hX
          clear hX
          generalize (q + 16 - r) % 4 = M at *
          have x1 : (r : Int) < 4 := by omega
          have x2 : (q : Int) < 4 := by omega
          go_wp2
          go_roundw
          case rel =>
            refine ⟨r + 1, by omega, by go_num, ?_, HB.out.setCell (p := ⟨w.heap.size, 4 * q + r, none⟩) (Nat.le_refl _) _⟩
            exact (HJ.out.set (4 * q + r) X).congr (fun j hj => by
              by_cases e : j = 4 * q + r
              · subst e; rw [if_pos rfl, if_pos (by omega), HX.out]
              · rw [if_neg e]
                by_cases h1 : j < 4 * q + r
                · rw [if_pos h1, if_pos (by omega)]
                · rw [if_neg h1, if_neg (by omega)])
          case measure => simp [intOf]; omega
        · have HJ' : Hid (I16 wr w.heap.size (fun j => if j < 4 * (q + 1) then f (Gf.iord j) else 0)) := hi.congr (fun j hj => by rw [show 4 * q + r = 4 * (q + 1) from by omega])
          have hr' : ¬ (r : Int) < 4 := by omega
          clear hi hb HJ
          generalize (r : Int) = rr at *
          go_wp2
          go_roundw
          case rel => exact ⟨q + 1, by omega, by go_num, HJ'.out, HB.out⟩
          case measure => simp [intOf]; omega
    · have HJ' : Hid (I16 wr w.heap.size (fun j => f (Gf.iord j))) := HJ.out.congr (fun j hj => by rw [if_pos (by omega)])
      have hq' : ¬ (q : Int) < 4 := by omega
      clear HJ
      generalize (q : Int) = qq at *
      go_wp2
      go_ret
      exact ⟨⟨w.heap.size, Nat.le_refl _, rfl, HJ'.out⟩, HB.out⟩
set_option maxRecDepth 100000 in
set_option maxHeartbeats 1000000 in
/-- spec.l01Columns by the factors of mixing back -/
theorem l01Columns_any (b pb po cb : Nat) (f : Nat → Nat) (hf : ∀ j, j < 16 → f j < 256) (w : World) (h : I16 w b f) (hF : Ints w (some ⟨pb, po, none⟩) 4 (fun i => (Gf.backF i : Nat))) :
    Calls Try.prog 68 #[.slice (some ⟨b, 0, none⟩) 16 16, .slice (some ⟨pb, po, none⟩) 4 cb] w fun e w' => (∃ L c, w.heap.size ≤ L ∧ e = .returned (.slice (some ⟨L, 0, none⟩) 16 c) ∧ I16 w' L (Gf.mix3 f)) ∧ Below w.heap.size w w' := by
  have HC : Hid (I16 w b f) := h
  have HF : Hid (∀ j, j < 16 → f j < 256) := hf
  have HX : Hid (Ints w (some ⟨pb, po, none⟩) 4 (fun i => (Gf.backF i : Nat))) := hF
  have hbl : b < w.heap.size := h.lt
  clear h hf hF
  obtain ⟨i0, hi, hz0, hz1, hz2⟩ := info_parts Try.infoInt
  have HI : Hid (Try.prog.info? 3 = some i0 ∧ i0.zero = some (.int .i64 0) ∧ i0.size = 1 ∧ i0.bytes = 8) := ⟨hi, hz0, hz1, hz2⟩
  clear hi hz0 hz1 hz2
  go_enter Try.func68, Try.ntmps68
  go_wp2
  go_loopw [5, 6] (fun v i wr => ∃ q : Nat, q ≤ 4 ∧ i = .int .i64 ((4 * q : Nat) : Int) ∧ wr.ownsRow w.heap.size 3 1 v (4 * q) ((List.range (4 * q)).map fun j => .int .i64 (Gf.mix3 f j : Nat)) ∧ Below w.heap.size w wr) (fun _ i _ => 16 - (intOf i).toNat)
  case atStart =>
    refine ⟨0, by omega, rfl, ?_, (Below.refl _ _).alloc (Nat.le_refl _) _⟩
    exact ⟨rfl, .inr ⟨w.heap.size, 0, #[], rfl, Nat.le_refl _, Deep.blk_alloc_new _ _, Nat.le_refl _, by simp [maxLen], rfl, rfl⟩⟩
  case round =>
    obtain ⟨q, hq, rfl, hown, hb⟩ := hrel
    have HO : Hid (wr.ownsRow w.heap.size 3 1 u5 (4 * q) ((List.range (4 * q)).map fun j => .int .i64 (Gf.mix3 f j : Nat))) := hown
    have HB : Hid (Below w.heap.size w wr) := hb
    clear hown
    by_cases hlt : q < 4
    · have HXr : Hid (Ints wr (some ⟨pb, po, none⟩) 4 (fun i => (Gf.backF i : Nat))) := HX.out.below hb
      have HSr : Hid (Ints wr (some ⟨b, 4 * q, none⟩) 4 (fun i => (f (4 * q + i) : Nat))) := fun i hi => ⟨b, 4 * q, rfl, by rw [hb.cell (p := ⟨b, 4 * q + i, none⟩) hbl]; exact (HC.out _ (by omega)).1⟩
      have MXR : Hid (∀ r, r < 4 → Gf.mrow (fun k => f (4 * q + k)) Gf.backF r = Gf.mix3 f (4 * q + r)) := fun r hr => Gf.mix3_row f HF.out q r hlt hr
      have LB : Hid (∀ i, i < 4 → Gf.backF i < 256) := fun i hi => by
        rcases (show i = 0 ∨ i = 1 ∨ i = 2 ∨ i = 3 by omega) with rfl | rfl | rfl | rfl <;> decide
      have LF : Hid (∀ i, i < 4 → f (4 * q + i) < 256) := fun i hi => HF.out _ (by omega)
      have hO : 4 * q + 4 ≤ 16 := by omega
      clear hb
      generalize hOq : 4 * q = O at *
      have HOq : Hid (4 * q = O) := hOq
      have x0 : (O : Int) < 16 := by omega
      have x1 : (O : Int) + 4 ≤ 16 := by omega
      have x2 : (0 : Int) ≤ (O : Int) := by omega
      have x3 : ((O : Int) + 4).toNat = O + 4 := by omega
      have x4 : O + 4 - O = 4 := by omega
      have x5 : ¬ (16 = O) := by omega
      go_wp2_with fail
      refine (l01Mix_any (some ⟨b, O, none⟩) (some ⟨pb, po, none⟩) (16 - O) cb (fun i => f (O + i)) Gf.backF wr HSr.out HXr.out LF.out LB.out).mono ?_
      rintro e w1 ⟨⟨p, c, rfl, hI⟩, hb1⟩
      obtain ⟨gb, go, rfl, hcell⟩ := hI.opened (by omega)
      have NW : Hid (∀ j u, [Value.int .i64 (Gf.mix3 f O : Nat), .int .i64 (Gf.mix3 f (O + 1) : Nat), .int .i64 (Gf.mix3 f (O + 2) : Nat), .int .i64 (Gf.mix3 f (O + 3) : Nat)][j]? = some u → w1.cell? ((⟨gb, go, none⟩ : Addr).add j) = some u) := fun j u hj => by
        have hj4 : j < 4 := (List.getElem?_eq_some_iff.1 hj).1
        have hc := hcell j hj4
        rw [Addr.add_mid]
        rw [hc]
        have hm := MXR.out j hj4
        rw [hm]
        rcases (show j = 0 ∨ j = 1 ∨ j = 2 ∨ j = 3 by omega) with rfl | rfl | rfl | rfl <;> simpa using hj
      have ON : Hid (∀ u ∈ [Value.int .i64 (Gf.mix3 f O : Nat), .int .i64 (Gf.mix3 f (O + 1) : Nat), .int .i64 (Gf.mix3 f (O + 2) : Nat), .int .i64 (Gf.mix3 f (O + 3) : Nat)], u.oneCell' = true) := fun u hu => by
        simp only [List.mem_cons, List.not_mem_nil, or_false] at hu
        rcases hu with rfl | rfl | rfl | rfl <;> rfl
      have HO1 : Hid (w1.ownsRow w.heap.size 3 1 u5 O ((List.range O).map fun j => .int .i64 (Gf.mix3 f j : Nat))) := ownsRow_below HO.out hb1
      have HB1 : Hid (Below w.heap.size w w1) := HB.out.trans (hb1.mono HB.out.size)
      have hsz := HB1.out.size
      clear hI hcell hb1 HO HB HXr HSr
      go_wp2_with (at_builtin; refine wpList_append_own _ rfl _ _ 59 rfl w.heap.size 3 i0 (.int .i64 0) 1 8 Try.underlying59 HI.out.1 HI.out.2.1 HI.out.2.2.1 HI.out.2.2.2 rfl (by decide) u5 O _ rfl HO1.out ⟨gb, go, none⟩ 4 c [.int .i64 (Gf.mix3 f O : Nat), .int .i64 (Gf.mix3 f (O + 1) : Nat), .int .i64 (Gf.mix3 f (O + 2) : Nat), .int .i64 (Gf.mix3 f (O + 3) : Nat)] rfl rfl NW.out ON.out (by unfold maxLen; omega) (by omega) (by omega) ?_)
      intro v' w2 hown' hgrow _
      have HO2 : Hid (w2.ownsRow w.heap.size 3 1 v' (4 * (q + 1)) ((List.range (4 * (q + 1))).map fun j => .int .i64 (Gf.mix3 f j : Nat))) := by
        rw [show 4 * (q + 1) = O + 4 from by have := HOq.out; omega, List.range_add, List.map_append]
        exact hown'
      have HB2 : Hid (Below w.heap.size w w2) := HB1.out.grown hgrow hsz (fun b hb => (HO1.out.lt b hb).1)
      clear hown' hgrow HO1 HB1
      go_wp2
      go_roundw
      case rel => exact ⟨q + 1, by omega, numEqK (by have := HOq.out; omega), HO2.out, HB2.out⟩
      case measure => simp [intOf]; omega
    · obtain rfl : q = 4 := by omega
      obtain ⟨g, cap, hg1, hg2, rfl, hcell⟩ := owned_open HO.out (by omega)
      have HFI : Hid (I16 wr g (Gf.mix3 f)) := I16.ofOwned HO.out
      clear hcell hb
      go_wp2
      go_ret
      exact ⟨⟨g, cap, hg1, rfl, HFI.out⟩, HB.out⟩
end Go.Proofs.Ytbhlgcenfanicaa
