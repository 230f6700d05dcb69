/-
  HexText in the program and in the model.
-/
import Derived.Test.YtbajdphiaibmgaaDoorNum
import Derived.Test.YtbajdphiaibmgaaDoorTxt
import Derived.Deep.RegionHeld3
namespace Go.Proofs.YtbajdphiaibmgaaDoor
open Go.ChangeShapes Go.WideShapes Go.ChangeAt Go.RowKit
/-- A figure of four bits. -/
def hexD (x : Nat) : Nat := if x < 10 then 48 + x else 87 + x
def hexF (t : ByteArray) (j : Nat) : Nat := if j % 2 = 0 then hexD (strB t (j / 2) / 16) else hexD (strB t (j / 2) % 16)
theorem hexF_two (t : ByteArray) (k : Nat) : bv (2 * k) (hexF t) ++ [.int .u8 ((hexD (strB t k / 16) : Nat) : Int), .int .u8 ((hexD (strB t k % 16) : Nat) : Int)] = bv (2 * (k + 1)) (hexF t) := by
  have e : ([.int .u8 ((hexD (strB t k / 16) : Nat) : Int), .int .u8 ((hexD (strB t k % 16) : Nat) : Int)] : List Value) = bv 2 (fun r => hexF t (2 * k + r)) := by
    show _ = [Value.int .u8 ((hexF t (2 * k + 0) : Nat) : Int), .int .u8 ((hexF t (2 * k + 1) : Nat) : Int)]
    unfold hexF
    rw [if_pos (by omega), if_neg (by omega), show (2 * k + 0) / 2 = k from by omega, show (2 * k + 1) / 2 = k from by omega]
  rw [e, bv_append, show 2 * (k + 1) = 2 * k + 2 from by omega]
  refine bv_congr (fun i hi => ?_)
  by_cases h : i < 2 * k
  · rw [if_pos h]
  · rw [if_neg h, show 2 * k + (i - 2 * k) = i from by omega]
theorem and15 : ∀ b : Nat, b < 256 → bits .and .u8 (b : Int) 15 = ((b % 16 : Nat) : Int) := by decide +kernel
theorem run_byte (t : ByteArray) (k : Nat) (hk : k < t.size) (w : World) : (Instr.index 9 (.string t) (.int .i64 (k : Int))).run Tryd.prog w = .ok (.int .u8 ((strB t k : Nat) : Int)) w := by
  rw [run_index_string w 9 t .i64 (k : Int) Tryd.underlying9, dif_pos (by omega)]
  have := strB_eq t k hk
  simp [this]
theorem run_index_hex (x : Nat) (hx : x < 16) (w : World) : (Instr.index 9 (.string ⟨#[48, 49, 50, 51, 52, 53, 54, 55, 56, 57, 97, 98, 99, 100, 101, 102]⟩) (.int .u8 (x : Int))).run Tryd.prog w = .ok (.int .u8 ((hexD x : Nat) : Int)) w := by
  rw [run_index_string w 9 _ .u8 (x : Int) Tryd.underlying9, dif_pos (by show 0 ≤ (x : Int) ∧ (x : Int) < ((16 : Nat) : Int); omega)]
  rcases (show x = 0 ∨ x = 1 ∨ x = 2 ∨ x = 3 ∨ x = 4 ∨ x = 5 ∨ x = 6 ∨ x = 7 ∨ x = 8 ∨ x = 9 ∨ x = 10 ∨ x = 11 ∨ x = 12 ∨ x = 13 ∨ x = 14 ∨ x = 15 by omega) with rfl | rfl | rfl | rfl | rfl | rfl | rfl | rfl | rfl | rfl | rfl | rfl | rfl | rfl | rfl | rfl <;> rfl
set_option maxRecDepth 100000 in
set_option maxHeartbeats 2000000 in
theorem implHex_yes (t : ByteArray) (ht : t.size ≤ 65536) (w : World) :
    Calls Tryd.prog 13 #[.string t] w fun e w' => e = .returned (.tuple #[.string (kstr (hexF t) 0 (2 * t.size)), .int .i64 0]) ∧ Below w.heap.size w w' := by
  obtain ⟨i0, hi⟩ := info_parts Tryd.info8
  have HI : Hid (Tryd.prog.info? 5 = some i0 ∧ i0.zero = some (.int .u8 0) ∧ i0.size = 1 ∧ i0.bytes = 1) := hi
  have eL : ¬ (65536 : Int) < (t.size : Int) := by omega
  obtain ⟨C, hC⟩ : ∃ C, C = 2 * t.size := ⟨_, rfl⟩
  obtain ⟨wm, hmk, hown, hBm⟩ := mkRoom C (by omega) w
  have e2t : (2 : Int) * (t.size : Int) = (C : Int) := by omega
  have HO0 : Hid (wm.ownsRow w.heap.size 5 1 (.slice (some ⟨w.heap.size, 0, none⟩) 0 C) 0 (bv 0 (hexF t))) := hown
  have HB0 : Hid (Below w.heap.size w wm) := hBm
  have hC2 : C ≤ 131072 := by omega
  clear hown hBm hC
  clear hi
  go_enter Tryd.func13, Tryd.ntmps13
  go_wp2
  go_loopw [4, 5, 15] (fun s _ i wr => ∃ k g c : Nat, k ≤ t.size ∧ i = .int .i64 k ∧ s = .slice (some ⟨g, 0, none⟩) (2 * k) c ∧ wr.ownsRow w.heap.size 5 1 (.slice (some ⟨g, 0, none⟩) (2 * k) c) (2 * k) (bv (2 * k) (hexF t)) ∧ Below w.heap.size w wr) (fun s _ i _ => t.size - (intOf i).toNat)
  case atStart => exact ⟨0, _, _, by omega, rfl, rfl, HO0.out, HB0.out⟩
  case round =>
    clear HO0 HB0
    obtain ⟨k, g, c, hk, rfl, rfl, hown, hb⟩ := hrel
    have HO : Hid (wr.ownsRow w.heap.size 5 1 (.slice (some ⟨g, 0, none⟩) (2 * k) c) (2 * k) (bv (2 * k) (hexF t))) := hown
    have HB : Hid (Below w.heap.size w wr) := hb
    have hsz := hb.size
    clear hown hb
    by_cases hlt : k < t.size
    · have hlt' : (k : Int) < (t.size : Int) := by omega
      have x0 : (0 : Int) ≤ (k : Int) := by omega
      have ix := run_byte t k hlt
      have E2 : Hid (_ = bv (2 * (k + 1)) (hexF t)) := hexF_two t k
      have hbb := strB_lt t k
      generalize strB t k = b at *
      have s1 : (b : Int) / 16 = ((b / 16 : Nat) : Int) := by omega
      have s2 : (b : Int).tdiv 16 = ((b / 16 : Nat) : Int) := by rw [Int.tdiv_eq_ediv_of_nonneg (by omega)]; omega
      have s3 : (b : Int) % 16 = ((b % 16 : Nat) : Int) := by omega
      have s4 : (b : Int).tmod 16 = ((b % 16 : Nat) : Int) := by rw [Int.tmod_eq_emod_of_nonneg (by omega)]; omega
      have s5 : bits .and .u8 (b : Int) 15 = ((b % 16 : Nat) : Int) := and15 b hbb
      have i1 := run_index_hex (b / 16) (by omega)
      have i2 := run_index_hex (b % 16) (by omega)
      have hx16 : b / 16 < 16 := by omega
      have hy16 : b % 16 < 16 := by omega
      generalize hexD (b / 16) = h1 at *
      generalize hexD (b % 16) = h2 at *
      generalize b / 16 = x at *
      generalize b % 16 = y at *
      have w1 : IntKind.u8.wrap (x : Int) = (x : Int) := by show (x : Int) % 256 = _; omega
      have w2 : IntKind.u8.wrap (y : Int) = (y : Int) := by show (y : Int) % 256 = _; omega
      clear hbb hx16 hy16
      go_wp2_with fail
      refine wp_region_noPanic ?_
      refine wp_region_held_drew (S := fun _ => True) (by kernel_rfl) trivial (fun _ => ?_)
      refine wpAnyH_take (i := 0) (v := .slice (some ⟨g, 0, none⟩) (2 * k) c) rfl (by kernel_rfl) (by kernel_rfl) (by kernel_rfl) (fun _ _ _ h => h) (Or.inl ⟨by rfl, ?_⟩) trivial ?_
      · intro wq hSq; go_simp
      change wpAnyH _ _ _ _ _ _ _ { tmps := #[_, _, _, _, _, _, _, _, _, _, _, _, _, _, _, _, _, _, _, _, _, _, _, _, _, _, _, _, _, _, _, _, _, _], defers := [] } _
      refine wpAnyH_take (i := 1) (v := .string t) rfl (by kernel_rfl) (by kernel_rfl) (by kernel_rfl) (fun _ _ _ h => h) (Or.inl ⟨by rfl, ?_⟩) trivial ?_
      · intro wq hSq; go_simp
      change wpAnyH _ _ _ _ _ _ _ { tmps := #[_, _, _, _, _, _, _, _, _, _, _, _, _, _, _, _, _, _, _, _, _, _, _, _, _, _, _, _, _, _, _, _, _, _], defers := [] } _
      refine wpAnyH_take (i := 2) (v := .int .i64 (k : Int)) rfl (by kernel_rfl) (by kernel_rfl) (by kernel_rfl) (fun _ _ _ h => h) (Or.inl ⟨by rfl, ?_⟩) trivial ?_
      · intro wq hSq; go_simp
      change wpAnyH _ _ _ _ _ _ _ { tmps := #[_, _, _, _, _, _, _, _, _, _, _, _, _, _, _, _, _, _, _, _, _, _, _, _, _, _, _, _, _, _, _, _, _, _], defers := [] } _
      refine wpAnyH_take (i := 3) (v := .int .u8 (b : Int)) rfl (by kernel_rfl) (by kernel_rfl) (by kernel_rfl) (fun _ _ _ h => h) (Or.inl ⟨by rfl, ?_⟩) trivial ?_
      · intro wq hSq; go_simp
      change wpAnyH _ _ _ _ _ _ _ { tmps := #[_, _, _, _, _, _, _, _, _, _, _, _, _, _, _, _, _, _, _, _, _, _, _, _, _, _, _, _, _, _, _, _, _, _], defers := [] } _
      refine wpAnyH_take (i := 4) (v := .int .u8 (x : Int)) rfl (by kernel_rfl) (by kernel_rfl) (by kernel_rfl) (fun _ _ _ h => h) (Or.inl ⟨by rfl, ?_⟩) trivial ?_
      · intro wq hSq; go_simp
      change wpAnyH _ _ _ _ _ _ _ { tmps := #[_, _, _, _, _, _, _, _, _, _, _, _, _, _, _, _, _, _, _, _, _, _, _, _, _, _, _, _, _, _, _, _, _, _], defers := [] } _
      refine wpAnyH_take (i := 5) (v := .int .u8 (h1 : Int)) rfl (by kernel_rfl) (by kernel_rfl) (by kernel_rfl) (fun _ _ _ h => h) (Or.inl ⟨by rfl, ?_⟩) trivial ?_
      · intro wq hSq; go_simp
      change wpAnyH _ _ _ _ _ _ _ { tmps := #[_, _, _, _, _, _, _, _, _, _, _, _, _, _, _, _, _, _, _, _, _, _, _, _, _, _, _, _, _, _, _, _, _, _], defers := [] } _
      refine wpAnyH_take (i := 6) (v := .string t) rfl (by kernel_rfl) (by kernel_rfl) (by kernel_rfl) (fun _ _ _ h => h) (Or.inl ⟨by rfl, ?_⟩) trivial ?_
      · intro wq hSq; go_simp
      change wpAnyH _ _ _ _ _ _ _ { tmps := #[_, _, _, _, _, _, _, _, _, _, _, _, _, _, _, _, _, _, _, _, _, _, _, _, _, _, _, _, _, _, _, _, _, _], defers := [] } _
      refine wpAnyH_take (i := 7) (v := .int .i64 (k : Int)) rfl (by kernel_rfl) (by kernel_rfl) (by kernel_rfl) (fun _ _ _ h => h) (Or.inl ⟨by rfl, ?_⟩) trivial ?_
      · intro wq hSq; go_simp
      change wpAnyH _ _ _ _ _ _ _ { tmps := #[_, _, _, _, _, _, _, _, _, _, _, _, _, _, _, _, _, _, _, _, _, _, _, _, _, _, _, _, _, _, _, _, _, _], defers := [] } _
      refine wpAnyH_take (i := 8) (v := .int .u8 (b : Int)) rfl (by kernel_rfl) (by kernel_rfl) (by kernel_rfl) (fun _ _ _ h => h) (Or.inl ⟨by rfl, ?_⟩) trivial ?_
      · intro wq hSq; go_simp
      change wpAnyH _ _ _ _ _ _ _ { tmps := #[_, _, _, _, _, _, _, _, _, _, _, _, _, _, _, _, _, _, _, _, _, _, _, _, _, _, _, _, _, _, _, _, _, _], defers := [] } _
      refine wpAnyH_take (i := 9) (v := .int .u8 (y : Int)) rfl (by kernel_rfl) (by kernel_rfl) (by kernel_rfl) (fun _ _ _ h => h) (Or.inl ⟨by rfl, ?_⟩) trivial ?_
      · intro wq hSq; go_simp
      change wpAnyH _ _ _ _ _ _ _ { tmps := #[_, _, _, _, _, _, _, _, _, _, _, _, _, _, _, _, _, _, _, _, _, _, _, _, _, _, _, _, _, _, _, _, _, _], defers := [] } _
      refine wpAnyH_take (i := 10) (v := .int .u8 (h2 : Int)) rfl (by kernel_rfl) (by kernel_rfl) (by kernel_rfl) (fun _ _ _ h => h) (Or.inl ⟨by rfl, ?_⟩) trivial ?_
      · intro wq hSq; go_simp
      change wpAnyH _ _ _ _ _ _ _ { tmps := #[_, _, _, _, _, _, _, _, _, _, _, _, _, _, _, _, _, _, _, _, _, _, _, _, _, _, _, _, _, _, _, _, _, _], defers := [] } _
      refine wpAnyH_ready (rs := [11]) (by kernel_rfl) (by simp) ?_
      refine AllReadyH.cons rfl (fun KK hK => ?_) AllReadyH.nil
      go_simp
      refine hK.out _ _ trivial (fun _ => ?_)
      clear hK KK
      change wpAnyH _ _ _ _ _ _ _ { tmps := #[_, _, _, _, _, _, _, _, _, _, _, _, _, _, _, _, _, _, _, _, _, _, _, _, _, _, _, _, _, _, _, _, _, _], defers := [] } _
      refine wpAnyH_ready (rs := [12]) (by kernel_rfl) (by simp) ?_
      refine AllReadyH.cons rfl (fun KK hK => ?_) AllReadyH.nil
      rw [if_pos (by rfl)]
      refine wp_append_own _ (.tmp 18) (.tmp 29) 22 rfl w.heap.size 5 i0 (.int .u8 0) 1 1 Tryd.underlying22 HI.out.1 HI.out.2.1 HI.out.2.2.1 HI.out.2.2.2 rfl (by decide) (.slice (some ⟨g, 0, none⟩) (2 * k) c) (2 * k) _ rfl (HO.out.alloc _) ⟨wr.heap.size, 0, none⟩ 2 2 [.int .u8 (h1 : Int), .int .u8 (h2 : Int)] rfl rfl ?qn ?q1 (by unfold maxLen; omega) (by omega) (by show w.heap.size ≤ (wr.alloc (.cells #[.int .u8 (h1 : Int), .int .u8 (h2 : Int)] 5)).heap.size; simp; omega) ?_
      case qn =>
        intro j q hj
        rw [Addr.add_lit, Nat.zero_add]
        show (wr.alloc (.cells #[.int .u8 (h1 : Int), .int .u8 (h2 : Int)] 5)).cell? ⟨wr.heap.size, j, none⟩ = some q
        have hj2 : j < 2 := by have := (List.getElem?_eq_some_iff.1 hj).1; simpa using this
        rcases (show j = 0 ∨ j = 1 by omega) with rfl | rfl <;> (simp at hj; subst hj; simp)
      case q1 =>
        intro q hq
        simp at hq
        rcases hq with rfl | rfl <;> rfl
      intro v' w4 hown' hgrow hnil
      have BG : Below w.heap.size wr w4 := (((Below.refl w.heap.size wr).alloc hsz _).drew).grown hgrow (by show w.heap.size ≤ (wr.alloc (.cells #[.int .u8 (h1 : Int), .int .u8 (h2 : Int)] 5)).heap.size; simp; omega) (fun b hb => (HO.out.lt b hb).1)
      rw [E2.out] at hown'
      obtain ⟨g4, c4, hg4, rfl, -⟩ := own8_of_own hown' (fun h => by have := hnil.1 h; simp at this)
      have HO4 : Hid (w4.ownsRow w.heap.size 5 1 (.slice (some ⟨g4, 0, none⟩) (2 * (k + 1)) c4) (2 * (k + 1)) (bv (2 * (k + 1)) (hexF t))) := hown'
      have HB4 : Hid (Below w.heap.size w w4) := HB.out.trans BG
      refine hK.out _ _ trivial (fun _ => ?_)
      clear hK KK hown' hgrow hnil BG
      change wpAnyH _ _ _ _ _ _ _ { tmps := #[_, _, _, _, _, _, _, _, _, _, _, _, _, _, _, _, _, _, _, _, _, _, _, _, _, _, _, _, _, _, _, _, _, _], defers := [] } _
      refine wpAnyH_take (i := 13) (v := .slice (some ⟨g4, 0, none⟩) (2 * k + 2) c4) rfl (by kernel_rfl) (by kernel_rfl) (by kernel_rfl) (fun _ _ _ h => h) (Or.inl ⟨by rfl, ?_⟩) trivial ?_
      · intro wq hSq; go_simp
      change wpAnyH _ _ _ _ _ _ _ { tmps := #[_, _, _, _, _, _, _, _, _, _, _, _, _, _, _, _, _, _, _, _, _, _, _, _, _, _, _, _, _, _, _, _, _, _], defers := [] } _
      refine wpAnyH_done (by kernel_rfl) ?_ _
      refine NoPanic.normal ?_
      clear HB HO
      go_wp2
      go_roundw
      case rel => exact ⟨k + 1, g4, c4, by omega, by go_num, rfl, HO4.out, HB4.out⟩
      case measure => simp [intOf]; omega
    · obtain rfl : k = t.size := by omega
      have hlt' : ¬ (t.size : Int) < (t.size : Int) := by omega
      obtain ⟨g', c', hgc, e', ho⟩ := own8_of_own HO.out (by intro h; cases h)
      cases e'
      have cv := kstr_of_code (c := c) ho.code
      generalize hX : kstr (hexF t) 0 (2 * t.size) = XT at cv
      have HX : Hid (kstr (hexF t) 0 (2 * t.size) = XT) := hX
      clear ho HO hX hgc
      go_wp2
      go_ret2
      exact ⟨by rw [HX.out]; rfl, HB.out⟩
set_option maxRecDepth 100000 in
set_option maxHeartbeats 2000000 in
theorem l03Hex_any (t : ByteArray) (ht : t.size ≤ 65536) (w : World) :
    Calls Tryd.prog 30 #[.string t] w fun e w' => e = .returned (.string (kstr (hexF t) 0 (2 * t.size))) ∧ Below w.heap.size w w' := by
  obtain ⟨i0, hi⟩ := info_parts Tryd.info8
  have HI : Hid (Tryd.prog.info? 5 = some i0 ∧ i0.zero = some (.int .u8 0) ∧ i0.size = 1 ∧ i0.bytes = 1) := hi
  have eL : ¬ (65536 : Int) < (t.size : Int) := by omega
  have HO0 : Hid ((w.alloc (.cells #[] 5)).ownsRow w.heap.size 5 1 (.slice (some ⟨w.heap.size, 0, none⟩) 0 0) 0 (bv 0 (hexF t))) := World.ownsRow_made w #[] 0 (Nat.le_refl _) (Nat.zero_le _) (by simp)
  have HB0 : Hid (Below w.heap.size w (w.alloc (.cells #[] 5))) := (Below.refl _ _).alloc (Nat.le_refl _) _
  clear hi
  go_enter Tryd.func30, Tryd.ntmps30
  go_wp2
  generalize w.alloc (.cells #[] 5) = wz at *
  go_loopw [3, 4] (fun s i wr => ∃ k g c : Nat, k ≤ t.size ∧ i = .int .i64 k ∧ s = .slice (some ⟨g, 0, none⟩) (2 * k) c ∧ wr.ownsRow w.heap.size 5 1 (.slice (some ⟨g, 0, none⟩) (2 * k) c) (2 * k) (bv (2 * k) (hexF t)) ∧ Below w.heap.size w wr) (fun s i _ => t.size - (intOf i).toNat)
  case atStart => exact ⟨0, _, _, by omega, rfl, rfl, HO0.out, HB0.out⟩
  case round =>
    clear HO0 HB0
    obtain ⟨k, g, c, hk, rfl, rfl, hown, hb⟩ := hrel
    have HO : Hid (wr.ownsRow w.heap.size 5 1 (.slice (some ⟨g, 0, none⟩) (2 * k) c) (2 * k) (bv (2 * k) (hexF t))) := hown
    have HB : Hid (Below w.heap.size w wr) := hb
    have hsz := hb.size
    clear hown hb
    by_cases hlt : k < t.size
    · have hlt' : (k : Int) < (t.size : Int) := by omega
      have x0 : (0 : Int) ≤ (k : Int) := by omega
      have ix := run_byte t k hlt
      have E2 : Hid (_ = bv (2 * (k + 1)) (hexF t)) := hexF_two t k
      have hbb := strB_lt t k
      generalize strB t k = b at *
      have s1 : (b : Int) / 16 = ((b / 16 : Nat) : Int) := by omega
      have s2 : (b : Int).tdiv 16 = ((b / 16 : Nat) : Int) := by rw [Int.tdiv_eq_ediv_of_nonneg (by omega)]; omega
      have s3 : (b : Int) % 16 = ((b % 16 : Nat) : Int) := by omega
      have s4 : (b : Int).tmod 16 = ((b % 16 : Nat) : Int) := by rw [Int.tmod_eq_emod_of_nonneg (by omega)]; omega
      have s5 : bits .and .u8 (b : Int) 15 = ((b % 16 : Nat) : Int) := and15 b hbb
      have i1 := run_index_hex (b / 16) (by omega)
      have i2 := run_index_hex (b % 16) (by omega)
      have hx16 : b / 16 < 16 := by omega
      have hy16 : b % 16 < 16 := by omega
      generalize hexD (b / 16) = h1 at *
      generalize hexD (b % 16) = h2 at *
      generalize b / 16 = x at *
      generalize b % 16 = y at *
      have w1 : IntKind.u8.wrap (x : Int) = (x : Int) := by show (x : Int) % 256 = _; omega
      have w2 : IntKind.u8.wrap (y : Int) = (y : Int) := by show (y : Int) % 256 = _; omega
      clear hbb hx16 hy16
      go_wp2_with fail
      refine wp_region_noPanic ?_
      refine wp_region_held_drew (S := fun _ => True) (by kernel_rfl) trivial (fun _ => ?_)
      refine wpAnyH_take (i := 0) (v := .slice (some ⟨g, 0, none⟩) (2 * k) c) rfl (by kernel_rfl) (by kernel_rfl) (by kernel_rfl) (fun _ _ _ h => h) (Or.inl ⟨by rfl, ?_⟩) trivial ?_
      · intro wq hSq; go_simp
      change wpAnyH _ _ _ _ _ _ _ { tmps := #[_, _, _, _, _, _, _, _, _, _, _, _, _, _, _, _, _, _, _, _, _, _, _, _, _, _, _], defers := [] } _
      refine wpAnyH_take (i := 1) (v := .string t) rfl (by kernel_rfl) (by kernel_rfl) (by kernel_rfl) (fun _ _ _ h => h) (Or.inl ⟨by rfl, ?_⟩) trivial ?_
      · intro wq hSq; go_simp
      change wpAnyH _ _ _ _ _ _ _ { tmps := #[_, _, _, _, _, _, _, _, _, _, _, _, _, _, _, _, _, _, _, _, _, _, _, _, _, _, _], defers := [] } _
      refine wpAnyH_take (i := 2) (v := .int .i64 (k : Int)) rfl (by kernel_rfl) (by kernel_rfl) (by kernel_rfl) (fun _ _ _ h => h) (Or.inl ⟨by rfl, ?_⟩) trivial ?_
      · intro wq hSq; go_simp
      change wpAnyH _ _ _ _ _ _ _ { tmps := #[_, _, _, _, _, _, _, _, _, _, _, _, _, _, _, _, _, _, _, _, _, _, _, _, _, _, _], defers := [] } _
      refine wpAnyH_take (i := 3) (v := .int .u8 (b : Int)) rfl (by kernel_rfl) (by kernel_rfl) (by kernel_rfl) (fun _ _ _ h => h) (Or.inl ⟨by rfl, ?_⟩) trivial ?_
      · intro wq hSq; go_simp
      change wpAnyH _ _ _ _ _ _ _ { tmps := #[_, _, _, _, _, _, _, _, _, _, _, _, _, _, _, _, _, _, _, _, _, _, _, _, _, _, _], defers := [] } _
      refine wpAnyH_take (i := 4) (v := .int .u8 (x : Int)) rfl (by kernel_rfl) (by kernel_rfl) (by kernel_rfl) (fun _ _ _ h => h) (Or.inl ⟨by rfl, ?_⟩) trivial ?_
      · intro wq hSq; go_simp
      change wpAnyH _ _ _ _ _ _ _ { tmps := #[_, _, _, _, _, _, _, _, _, _, _, _, _, _, _, _, _, _, _, _, _, _, _, _, _, _, _], defers := [] } _
      refine wpAnyH_take (i := 5) (v := .int .u8 (h1 : Int)) rfl (by kernel_rfl) (by kernel_rfl) (by kernel_rfl) (fun _ _ _ h => h) (Or.inl ⟨by rfl, ?_⟩) trivial ?_
      · intro wq hSq; go_simp
      change wpAnyH _ _ _ _ _ _ _ { tmps := #[_, _, _, _, _, _, _, _, _, _, _, _, _, _, _, _, _, _, _, _, _, _, _, _, _, _, _], defers := [] } _
      refine wpAnyH_take (i := 6) (v := .string t) rfl (by kernel_rfl) (by kernel_rfl) (by kernel_rfl) (fun _ _ _ h => h) (Or.inl ⟨by rfl, ?_⟩) trivial ?_
      · intro wq hSq; go_simp
      change wpAnyH _ _ _ _ _ _ _ { tmps := #[_, _, _, _, _, _, _, _, _, _, _, _, _, _, _, _, _, _, _, _, _, _, _, _, _, _, _], defers := [] } _
      refine wpAnyH_take (i := 7) (v := .int .i64 (k : Int)) rfl (by kernel_rfl) (by kernel_rfl) (by kernel_rfl) (fun _ _ _ h => h) (Or.inl ⟨by rfl, ?_⟩) trivial ?_
      · intro wq hSq; go_simp
      change wpAnyH _ _ _ _ _ _ _ { tmps := #[_, _, _, _, _, _, _, _, _, _, _, _, _, _, _, _, _, _, _, _, _, _, _, _, _, _, _], defers := [] } _
      refine wpAnyH_take (i := 8) (v := .int .u8 (b : Int)) rfl (by kernel_rfl) (by kernel_rfl) (by kernel_rfl) (fun _ _ _ h => h) (Or.inl ⟨by rfl, ?_⟩) trivial ?_
      · intro wq hSq; go_simp
      change wpAnyH _ _ _ _ _ _ _ { tmps := #[_, _, _, _, _, _, _, _, _, _, _, _, _, _, _, _, _, _, _, _, _, _, _, _, _, _, _], defers := [] } _
      refine wpAnyH_take (i := 9) (v := .int .u8 (y : Int)) rfl (by kernel_rfl) (by kernel_rfl) (by kernel_rfl) (fun _ _ _ h => h) (Or.inl ⟨by rfl, ?_⟩) trivial ?_
      · intro wq hSq; go_simp
      change wpAnyH _ _ _ _ _ _ _ { tmps := #[_, _, _, _, _, _, _, _, _, _, _, _, _, _, _, _, _, _, _, _, _, _, _, _, _, _, _], defers := [] } _
      refine wpAnyH_take (i := 10) (v := .int .u8 (h2 : Int)) rfl (by kernel_rfl) (by kernel_rfl) (by kernel_rfl) (fun _ _ _ h => h) (Or.inl ⟨by rfl, ?_⟩) trivial ?_
      · intro wq hSq; go_simp
      change wpAnyH _ _ _ _ _ _ _ { tmps := #[_, _, _, _, _, _, _, _, _, _, _, _, _, _, _, _, _, _, _, _, _, _, _, _, _, _, _], defers := [] } _
      refine wpAnyH_ready (rs := [11]) (by kernel_rfl) (by simp) ?_
      refine AllReadyH.cons rfl (fun KK hK => ?_) AllReadyH.nil
      go_simp
      refine hK.out _ _ trivial (fun _ => ?_)
      clear hK KK
      change wpAnyH _ _ _ _ _ _ _ { tmps := #[_, _, _, _, _, _, _, _, _, _, _, _, _, _, _, _, _, _, _, _, _, _, _, _, _, _, _], defers := [] } _
      refine wpAnyH_ready (rs := [12]) (by kernel_rfl) (by simp) ?_
      refine AllReadyH.cons rfl (fun KK hK => ?_) AllReadyH.nil
      rw [if_pos (by rfl)]
      refine wp_append_own _ (.tmp 12) (.tmp 23) 22 rfl w.heap.size 5 i0 (.int .u8 0) 1 1 Tryd.underlying22 HI.out.1 HI.out.2.1 HI.out.2.2.1 HI.out.2.2.2 rfl (by decide) (.slice (some ⟨g, 0, none⟩) (2 * k) c) (2 * k) _ rfl (HO.out.alloc _) ⟨wr.heap.size, 0, none⟩ 2 2 [.int .u8 (h1 : Int), .int .u8 (h2 : Int)] rfl rfl ?qn ?q1 (by unfold maxLen; omega) (by omega) (by show w.heap.size ≤ (wr.alloc (.cells #[.int .u8 (h1 : Int), .int .u8 (h2 : Int)] 5)).heap.size; simp; omega) ?_
      case qn =>
        intro j q hj
        rw [Addr.add_lit, Nat.zero_add]
        show (wr.alloc (.cells #[.int .u8 (h1 : Int), .int .u8 (h2 : Int)] 5)).cell? ⟨wr.heap.size, j, none⟩ = some q
        have hj2 : j < 2 := by have := (List.getElem?_eq_some_iff.1 hj).1; simpa using this
        rcases (show j = 0 ∨ j = 1 by omega) with rfl | rfl <;> (simp at hj; subst hj; simp)
      case q1 =>
        intro q hq
        simp at hq
        rcases hq with rfl | rfl <;> rfl
      intro v' w4 hown' hgrow hnil
      have BG : Below w.heap.size wr w4 := (((Below.refl w.heap.size wr).alloc hsz _).drew).grown hgrow (by show w.heap.size ≤ (wr.alloc (.cells #[.int .u8 (h1 : Int), .int .u8 (h2 : Int)] 5)).heap.size; simp; omega) (fun b hb => (HO.out.lt b hb).1)
      rw [E2.out] at hown'
      obtain ⟨g4, c4, hg4, rfl, -⟩ := own8_of_own hown' (fun h => by have := hnil.1 h; simp at this)
      have HO4 : Hid (w4.ownsRow w.heap.size 5 1 (.slice (some ⟨g4, 0, none⟩) (2 * (k + 1)) c4) (2 * (k + 1)) (bv (2 * (k + 1)) (hexF t))) := hown'
      have HB4 : Hid (Below w.heap.size w w4) := HB.out.trans BG
      refine hK.out _ _ trivial (fun _ => ?_)
      clear hK KK hown' hgrow hnil BG
      change wpAnyH _ _ _ _ _ _ _ { tmps := #[_, _, _, _, _, _, _, _, _, _, _, _, _, _, _, _, _, _, _, _, _, _, _, _, _, _, _], defers := [] } _
      refine wpAnyH_take (i := 13) (v := .slice (some ⟨g4, 0, none⟩) (2 * k + 2) c4) rfl (by kernel_rfl) (by kernel_rfl) (by kernel_rfl) (fun _ _ _ h => h) (Or.inl ⟨by rfl, ?_⟩) trivial ?_
      · intro wq hSq; go_simp
      change wpAnyH _ _ _ _ _ _ _ { tmps := #[_, _, _, _, _, _, _, _, _, _, _, _, _, _, _, _, _, _, _, _, _, _, _, _, _, _, _], defers := [] } _
      refine wpAnyH_done (by kernel_rfl) ?_ _
      refine NoPanic.normal ?_
      clear HB HO
      go_wp2
      go_roundw
      case rel => exact ⟨k + 1, g4, c4, by omega, by go_num, rfl, HO4.out, HB4.out⟩
      case measure => simp [intOf]; omega
    · obtain rfl : k = t.size := by omega
      have hlt' : ¬ (t.size : Int) < (t.size : Int) := by omega
      obtain ⟨g', c', hgc, e', ho⟩ := own8_of_own HO.out (by intro h; cases h)
      cases e'
      have cv := kstr_of_code (c := c) ho.code
      generalize hX : kstr (hexF t) 0 (2 * t.size) = XT at cv
      have HX : Hid (kstr (hexF t) 0 (2 * t.size) = XT) := hX
      clear ho HO hX hgc
      go_wp2
      go_ret
      exact ⟨by rw [HX.out]; rfl, HB.out⟩
end Go.Proofs.YtbajdphiaibmgaaDoor
