/-
  The contract of impl.appendNumber: a number's bytes, the higher ones first, behind a row of the call's own.
-/
import Derived.Test.YtonccbgolbcjfabDoorPadS
import Derived.Test.YtonccbgolbcjfabDoorShaMath
namespace Go.Proofs.YtonccbgolbcjfabDoor
open Go.ChangeShapes Go.WideShapes Go.ChangeAt Go.RowKit
theorem bv_extN (k r : Nat) (f : Nat → Nat) : bv k f ++ [.int .u8 (r : Nat)] = bv (k + 1) (fun j => if j = k then r else f j) := by
  have e := bv_snoc k (fun j => if j = k then r else f j)
  rw [if_pos rfl, bv_congr (g := f) (fun i hi => if_neg (by omega))] at e
  exact e
theorem ownsRow_mono {w : World} {base base' : Nat} {e : TypeId} {size : Nat} {v : Value} {n : Nat} {xs : List Value} (h : w.ownsRow base e size v n xs) (hb : base' ≤ base) : w.ownsRow base' e size v n xs := by
  obtain ⟨hl, h0 | ⟨g, cap, cur, hv, h1, h2⟩⟩ := h
  · exact ⟨hl, .inl h0⟩
  · exact ⟨hl, .inr ⟨g, cap, cur, hv, Nat.le_trans hb h1, h2⟩⟩
/-- sz bytes of x behind k others. -/
def numF (k sz x : Nat) (f : Nat → Nat) (j : Nat) : Nat := if j < k then f j else x / 2 ^ (8 * (sz - 1 - (j - k))) % 256
/-- A row of the call's own (from block B on), handed back. -/
def RetO (B : Nat) (w' : World) (e : Ending) (n : Nat) (f : Nat → Nat) : Prop := ∃ g c, e = .returned (.slice (some ⟨g, 0, none⟩) n c) ∧ w'.ownsRow B 5 1 (.slice (some ⟨g, 0, none⟩) n c) n (bv n f)
/-- make([]byte, 0, c) -/
theorem mkRoom (c : Nat) (hc : c ≤ 10000000) (w : World) : ∃ w', (Instr.makeSlice 30 (.int .i64 0) (.int .i64 (c : Int))).run Tryd.prog w = .ok (.slice (some ⟨w.heap.size, 0, none⟩) 0 c) w' ∧ w'.ownsRow w.heap.size 5 1 (.slice (some ⟨w.heap.size, 0, none⟩) 0 c) 0 [] ∧ Below w.heap.size w w' := by
  obtain ⟨i0, h1, h2, h3, h4⟩ := info_parts Tryd.info8
  obtain ⟨w', hr, ho, hg⟩ := run_make_own (P := Tryd.prog) w w.heap.size 30 5 i0 (.int .u8 0) 1 Tryd.underlying30 h1 h2 h3 .i64 .i64 c (by rw [h4]; omega) (by unfold maxLen; omega) (Nat.le_refl _)
  exact ⟨w', hr, ho, (Below.refl _ w).grown hg (Nat.le_refl _) (fun k hk => by cases hk)⟩
set_option maxRecDepth 100000 in
set_option maxHeartbeats 1000000 in
theorem appendNumber_any (B g k c x sz : Nat) (f : Nat → Nat) (hsz : sz ≤ 8) (hk : k ≤ 2000000) (w : World) (hB : B ≤ w.heap.size) (h : w.ownsRow B 5 1 (.slice (some ⟨g, 0, none⟩) k c) k (bv k f)) :
    Calls Tryd.prog 38 #[.slice (some ⟨g, 0, none⟩) k c, .int .i64 (x : Int), .int .i64 (sz : Int)] w fun e w' => RetO B w' e (k + sz) (numF k sz x f) ∧ Below B w w' := by
  obtain ⟨i0, hi⟩ := info_parts Tryd.info8
  have HI : Hid (Tryd.prog.info? 5 = some i0 ∧ i0.zero = some (.int .u8 0) ∧ i0.size = 1 ∧ i0.bytes = 1) := hi
  have HO0 : Hid (w.ownsRow B 5 1 (.slice (some ⟨g, 0, none⟩) k c) k (bv k f)) := h
  clear h hi
  go_enter Tryd.func38, Tryd.ntmps38
  go_wp2
  go_loopw [0, 7] (fun s i wr => ∃ r g c : Nat, r ≤ sz ∧ i = .int .i64 ((sz : Int) - 1 - (r : Int)) ∧ s = .slice (some ⟨g, 0, none⟩) (k + r) c ∧ wr.ownsRow B 5 1 (.slice (some ⟨g, 0, none⟩) (k + r) c) (k + r) (bv (k + r) (numF k sz x f)) ∧ Below B w wr) (fun _ i _ => (intOf i + 1).toNat)
  case atStart =>
    refine ⟨0, g, c, by omega, numEq8 (by omega), rfl, ?_, Below.refl _ _⟩
    have e : bv (k + 0) (numF k sz x f) = bv k f := bv_congr (fun i hi => by unfold numF; rw [if_pos (by omega)])
    rw [e]; exact HO0.out
  case round =>
    clear HO0
    obtain ⟨r, g, c, hr, rfl, rfl, hown, hb⟩ := hrel
    have HO : Hid (wr.ownsRow B 5 1 (.slice (some ⟨g, 0, none⟩) (k + r) c) (k + r) (bv (k + r) (numF k sz x f))) := hown
    have HB : Hid (Below B w wr) := hb
    clear hown hb
    by_cases hlt : r < sz
    · have x0 : (0 : Int) ≤ (sz : Int) - 1 - (r : Int) := by omega
      obtain ⟨s, hs⟩ : ∃ s, s = 8 * (sz - 1 - r) := ⟨_, rfl⟩
      have e8 : (8 : Int) * ((sz : Int) - 1 - (r : Int)) = (s : Int) := by omega
      have s0 : (0 : Int) ≤ (s : Int) := by omega
      have s1 : (s : Int) ≤ 64 := by omega
      have eX : (x : Int) / 2 ^ s = ((x / 2 ^ s : Nat) : Int) := by simp
      have HX : Hid (numF k sz x f (k + r) = x / 2 ^ s % 256) := by show numF _ _ _ _ _ = _; unfold numF; rw [if_neg (by omega), show k + r - k = r from by omega, hs]
      generalize x / 2 ^ s = y at *
      have eY : (y : Int) % 256 = ((y % 256 : Nat) : Int) := by omega
      generalize y % 256 = Y at *
      have hsz2 : B ≤ wr.heap.size := Nat.le_trans hB HB.out.size
      clear hs
      go_wp2_with (at_builtin; refine wpList_append_own _ rfl _ _ 30 rfl B 5 i0 (.int .u8 0) 1 1 Tryd.underlying30 HI.out.1 HI.out.2.1 HI.out.2.2.1 HI.out.2.2.2 rfl (by decide) (.slice (some ⟨g, 0, none⟩) (k + r) c) (k + r) _ rfl (HO.out.alloc _) ⟨wr.heap.size, 0, none⟩ 1 1 [.int .u8 (Y : Nat)] rfl rfl (one_new8 _ _ _) (one_one8 _) (by unfold maxLen; omega) (by omega) (by simp; omega) ?_)
      intro v' w2 hown' hgrow hnil
      have BG : Below B wr w2 := ((Below.refl B wr).alloc hsz2 _).grown hgrow (by simp; omega) (fun b hb => (HO.out.lt b hb).1)
      rw [bv_extN, bv_congr (g := numF k sz x f) (fun j hj => by by_cases e : j = k + r
                                                                 · rw [if_pos e, e]; exact HX.out.symm
                                                                 · rw [if_neg e])] at hown'
      obtain ⟨g2, c2, ⟨hg2, hc2⟩, rfl, -⟩ := own8_of_own hown' hnil
      have HO2 : Hid (w2.ownsRow B 5 1 (.slice (some ⟨g2, 0, none⟩) (k + r + 1) c2) (k + r + 1) (bv (k + r + 1) (numF k sz x f))) := hown'
      have HB2 : Hid (Below B w w2) := HB.out.trans BG
      have HK : Hid ((sz : Int) - 1 - (r : Int) - 1 = (sz : Int) - 1 - ((r + 1 : Nat) : Int)) := by show _ = _; omega
      clear hown' hgrow hnil HO HB BG
      go_wp2
      go_roundw
      case rel => exact ⟨r + 1, g2, c2, by omega, numEq8 HK.out, rfl, HO2.out, HB2.out⟩
      case measure => simp [intOf]; omega
    · have x0 : ¬ (0 : Int) ≤ (sz : Int) - 1 - (r : Int) := by omega
      obtain rfl : r = sz := by omega
      go_wp2
      go_ret
      exact ⟨⟨g, c, rfl, HO.out⟩, HB.out⟩
end Go.Proofs.YtonccbgolbcjfabDoor
