/-
  appendNumber behind nil.
-/
import Derived.Test.YtkhglllicblbbaaDoorNum
namespace Go.Proofs.YtkhglllicblbbaaDoor
open Go.ChangeShapes Go.WideShapes Go.ChangeAt Go.RowKit
set_option maxRecDepth 100000 in
set_option maxHeartbeats 1000000 in
/-- appendNumber(nil, x, sz) -/
theorem appendNumber_nil (x sz : Nat) (hs0 : 0 < sz) (hsz : sz ≤ 8) (w : World) :
    Calls Tryd.prog 61 #[.slice none 0 0, .int .i64 (x : Int), .int .i64 (sz : Int)] w fun e w' => RetO w.heap.size w' e sz (numF 0 sz x (fun _ => 0)) ∧ Below w.heap.size w w' := by
  obtain ⟨B, hBe⟩ : ∃ B, B = w.heap.size := ⟨_, rfl⟩
  rw [← hBe]
  have hB : B ≤ w.heap.size := by omega
  clear hBe
  obtain ⟨i0, hi⟩ := info_parts Tryd.info8
  have HI : Hid (Tryd.prog.info? 5 = some i0 ∧ i0.zero = some (.int .u8 0) ∧ i0.size = 1 ∧ i0.bytes = 1) := hi
  clear hi
  go_enter Tryd.func61, Tryd.ntmps61
  go_wp2
  go_loopw [0, 7] (fun s i wr => ∃ (r : Nat) (v : Value), r ≤ sz ∧ i = .int .i64 ((sz : Int) - 1 - (r : Int)) ∧ s = v ∧ wr.ownsRow B 5 1 v r (bv r (numF 0 sz x (fun _ => 0))) ∧ (0 < r → ∃ g c, v = .slice (some ⟨g, 0, none⟩) r c) ∧ Below B w wr) (fun _ i _ => (intOf i + 1).toNat)
  case atStart => exact ⟨0, .slice none 0 0, by omega, numEq8 (by omega), rfl, ⟨rfl, .inl ⟨rfl, rfl⟩⟩, fun h => absurd h (by omega), Below.refl _ _⟩
  case round =>
    obtain ⟨r, v, hr, rfl, hsv, hown, hv, hb⟩ := hrel
    have hsv' := hsv.symm
    clear hsv
    subst hsv'
    have HO : Hid (wr.ownsRow B 5 1 v r (bv r (numF 0 sz x (fun _ => 0)))) := hown
    have HB : Hid (Below B w wr) := hb
    clear hown hb
    by_cases hlt : r < sz
    · have x0 : (0 : Int) ≤ (sz : Int) - 1 - (r : Int) := by omega
      obtain ⟨s, hs⟩ : ∃ s, s = 8 * (sz - 1 - r) := ⟨_, rfl⟩
      have e8 : (8 : Int) * ((sz : Int) - 1 - (r : Int)) = (s : Int) := by omega
      have s0 : (0 : Int) ≤ (s : Int) := by omega
      have s1 : (s : Int) ≤ 64 := by omega
      have eX : (x : Int) / 2 ^ s = ((x / 2 ^ s : Nat) : Int) := by simp
      have HX : Hid (numF 0 sz x (fun _ => 0) (0 + r) = x / 2 ^ s % 256) := by show numF _ _ _ _ _ = _; unfold numF; rw [if_neg (by omega), show 0 + r - 0 = r from by omega, hs]
      have HX2 : Hid (numF 0 sz x (fun _ => 0) r = x / 2 ^ s % 256) := by have h := HX.out; rw [Nat.zero_add] at h; exact h
      generalize x / 2 ^ s = y at *
      have eY : (y : Int) % 256 = ((y % 256 : Nat) : Int) := by omega
      generalize y % 256 = Y at *
      have hsz2 : B ≤ wr.heap.size := Nat.le_trans hB HB.out.size
      clear hs
      go_wp2_with (at_builtin; refine wpList_append_own _ rfl _ _ 22 rfl B 5 i0 (.int .u8 0) 1 1 Tryd.underlying22 HI.out.1 HI.out.2.1 HI.out.2.2.1 HI.out.2.2.2 rfl (by decide) v r _ rfl (HO.out.alloc _) ⟨wr.heap.size, 0, none⟩ 1 1 [.int .u8 (Y : Nat)] rfl rfl (one_new8 _ _ _) (one_one8 _) (by unfold maxLen; omega) (by omega) (by simp; omega) ?_)
      intro v' w2 hown' hgrow hnil
      have BG : Below B wr w2 := ((Below.refl B wr).alloc hsz2 _).grown hgrow (by simp; omega) (fun b hb => (HO.out.lt b hb).1)
      have hcg : ∀ j, j < r + 1 → (if j = r then Y else numF 0 sz x (fun _ => 0) j) = numF 0 sz x (fun _ => 0) j := fun j hj => by
        by_cases e : j = r
        · rw [if_pos e, e]; exact HX2.out.symm
        · rw [if_neg e]
      rw [bv_extN, bv_congr hcg] at hown'
      obtain ⟨g2, c2, ⟨hg2, hc2⟩, rfl, -⟩ := own8_of_own hown' hnil
      have HO2 : Hid (w2.ownsRow B 5 1 (.slice (some ⟨g2, 0, none⟩) (r + 1) c2) (r + 1) (bv (r + 1) (numF 0 sz x (fun _ => 0)))) := hown'
      have HB2 : Hid (Below B w w2) := HB.out.trans BG
      have HK : Hid ((sz : Int) - 1 - (r : Int) - 1 = (sz : Int) - 1 - ((r + 1 : Nat) : Int)) := by show _ = _; omega
      clear hown' hgrow hnil HO HB BG
      go_wp2
      go_roundw
      case rel => exact ⟨r + 1, _, by omega, numEq8 HK.out, rfl, HO2.out, fun _ => ⟨g2, c2, rfl⟩, HB2.out⟩
      case measure => simp [intOf]; omega
    · obtain ⟨g, c, rfl⟩ := hv (by omega)
      have x0 : ¬ (0 : Int) ≤ (sz : Int) - 1 - (r : Int) := by omega
      obtain rfl : r = sz := by omega
      go_wp2
      go_ret
      exact ⟨⟨g, c, rfl, HO.out⟩, HB.out⟩
end Go.Proofs.YtkhglllicblbbaaDoor
