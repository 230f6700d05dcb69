/-
  Rows of bytes with room, of which cells alone are asked; append to such rows, and a number's bytes behind one.
-/
import Derived.Test.YtonccbgolbcjfabDoorNum
import Derived.Test.YtonccbgolbcjfabDoorTxt
import Derived.ArgAppend
import Derived.Lib.AppendStr
import Derived.Laws.IdiomStrings
import Derived.Laws.AppendOwnNone
namespace Go.Proofs.YtonccbgolbcjfabDoor
open Go.ChangeShapes Go.WideShapes Go.ChangeAt Go.RowKit
/-- A row of bytes with room, of which cells alone are asked (what []byte(s) makes, too). -/
def RowM (w : World) (g n cap : Nat) (F : Nat → Nat) : Prop := n ≤ cap ∧ (∀ i, i < n → w.cell? ⟨g, i, none⟩ = some (.int .u8 ((F i : Nat) : Int))) ∧ (∀ i, i < cap → (w.cell? ⟨g, i, none⟩).isSome = true ∧ w.frozen? ⟨g, i, none⟩ = false) ∧ g < w.heap.size
theorem RowM.code {w : World} {g n cap : Nat} {F : Nat → Nat} (h : RowM w g n cap F) : Code8 w (some ⟨g, 0, none⟩) n F := code8_of (fun i hi => by rw [Nat.zero_add]; exact h.2.1 i hi)
theorem RowM.below {w w' : World} {g n cap : Nat} {F : Nat → Nat} (h : RowM w g n cap F) (hb : Below w.heap.size w w') : RowM w' g n cap F :=
  ⟨h.1, fun i hi => by rw [hb.cell (p := ⟨g, i, none⟩) h.2.2.2]; exact h.2.1 i hi, fun i hi => ⟨by rw [hb.cell (p := ⟨g, i, none⟩) h.2.2.2]; exact (h.2.2.1 i hi).1, by rw [hb.frozen (p := ⟨g, i, none⟩) h.2.2.2]; exact (h.2.2.1 i hi).2⟩, Nat.lt_of_lt_of_le h.2.2.2 hb.size⟩
theorem RowM.congr {w : World} {g n cap : Nat} {F G : Nat → Nat} (h : RowM w g n cap F) (e : ∀ i, i < n → F i = G i) : RowM w g n cap G := ⟨h.1, fun i hi => by rw [← e i hi]; exact h.2.1 i hi, h.2.2⟩
theorem bytesOfR (s : ByteArray) (w : World) : ∃ wz gc, (convert 9 30 (.string s)).run Tryd.prog w = .ok (.slice (some ⟨w.heap.size, 0, none⟩) s.size gc) wz ∧ RowM wz w.heap.size s.size gc (strB s) ∧ Below w.heap.size w wz := by
  obtain ⟨gc, hgc⟩ : ∃ gc, gc = grownCap w s.size 0 5 := ⟨_, rfl⟩
  have hge : s.size ≤ gc := by rw [hgc]; exact grownCap_ge _ _ _ _
  have hsz : (bytesRow s gc).size = gc := by
    unfold bytesRow
    rw [Array.size_append, Array.size_map, Array.size_replicate]
    show s.size + (gc - s.size) = gc
    omega
  have hrun := run_bytes_of_string w 9 30 5 s Tryd.underlying9 Tryd.underlying30 Tryd.underlying5
  rw [← hgc, hsz] at hrun
  refine ⟨_, gc, hrun, ⟨hge, fun r hr => ?_, fun r hr => ⟨?_, ?_⟩, ?_⟩, (Below.refl _ _).drew.alloc (Nat.le_refl _) _⟩
  · have e := World.cell?_alloc_mark w.drew (bytesRow s gc) 5 (gc, gc + 1) r
    refine e.trans ?_
    rw [bytesRow_at s gc r hr]
    simp [strB, hr, ByteArray.getElem_eq_getElem_data]
  · have e := World.cell?_alloc_mark w.drew (bytesRow s gc) 5 (gc, gc + 1) r
    have e2 : (w.drew.alloc (.cells (bytesRow s gc) 5 (gc, gc + 1))).cell? ⟨w.heap.size, r, none⟩ = (bytesRow s gc)[r]? := e
    rw [e2, Array.getElem?_eq_getElem (by omega)]
    rfl
  · show (w.drew.alloc (.cells (bytesRow s gc) 5 (gc, gc + 1))).frozen? ⟨w.drew.heap.size, r, none⟩ = false
    rw [World.frozen?_alloc_mark]
    simp
    intro h
    omega
  · show w.heap.size < (w.drew.alloc _).heap.size
    simp
/-- append to such a row. -/
theorem appendM (w : World) (B g n cap : Nat) (F : Nat → Nat) (sb so m c : Nat) (f : Nat → Nat) (hB : B ≤ g) (hBw : B ≤ w.heap.size) (hnm : n + m ≤ 2000000) (h : RowM w g n cap F) (hs : Code8 w (some ⟨sb, so, none⟩) m f) (ty : TypeId) :
    ∃ g' cap' w', (Builtin.append_ #[30, 30] ty #[.slice (some ⟨g, 0, none⟩) n cap, .slice (some ⟨sb, so, none⟩) m c]).run Tryd.prog w = .ok (.slice (some ⟨g', 0, none⟩) (n + m) cap') w' ∧ RowM w' g' (n + m) cap' (Sha.cat n F f) ∧ Below B w w' ∧ B ≤ g' := by
  obtain ⟨i0, h1, h2, h3, h4⟩ := info_parts Tryd.info8
  by_cases hroom : n + m ≤ cap
  · have hth : w.there g 0 cap := fun j hj => by rw [Nat.zero_add]; exact h.2.2.1 j hj
    have hth2 := World.there_setCells hth g n (bv m f)
    have hin : (w.setCells g n (bv m f)).rangeAt g n (bv m f) := World.rangeAt_setCells_same w g n (bv m f) (fun j hj => by rw [bv_length] at hj; exact h.2.2.1 (n + j) (by omega))
    refine ⟨g, cap, w.setCells g n (bv m f), ?_, ⟨hroom, fun i hi => ?_, fun i hi => by have := hth2 i hi; rwa [Nat.zero_add] at this, Nat.lt_of_lt_of_le h.2.2.2 (below_setCells hB (bv m f) n w (Below.refl B w)).size⟩, below_setCells hB _ _ _ (Below.refl _ _), hB⟩
    · have := run_append_room_cells (P := Tryd.prog) w 30 ty 5 i0 Tryd.underlying30 h1 g 0 n cap ⟨sb, so, none⟩ m c (bv m f) (by rw [bv_length, h3, Nat.mul_one]) (bv_news hs) (bv_one _ _) hroom (fun j hj => by rw [bv_length] at hj; rw [h3, Nat.zero_add, Nat.mul_one]; exact (h.2.2.1 (n + j) (by omega)).1) (fun j hj => by rw [bv_length] at hj; rw [h3, Nat.zero_add, Nat.mul_one]; exact (h.2.2.1 (n + j) (by omega)).2)
      rw [h3, Nat.zero_add, Nat.mul_one] at this
      exact this
    · unfold Sha.cat
      by_cases hin2 : i < n
      · rw [if_pos hin2, World.cell?_setCells_out g (bv m f) n w ⟨g, i, none⟩ (fun _ _ => .inl hin2)]
        exact h.2.1 i hin2
      · rw [if_neg hin2]
        have := hin (i - n) _ (bv_at (f := f) (show i - n < m by omega))
        rwa [show n + (i - n) = i from by omega] at this
  · obtain ⟨v', w', hr, ho, hg⟩ := run_append_arg_grows (P := Tryd.prog) w 30 ty 5 i0 (.int .u8 0) 1 1 Tryd.underlying30 h1 h2 h3 h4 rfl (by decide) ⟨g, 0, none⟩ n cap (bv n F) (by rw [bv_length, Nat.mul_one]) (bv_news h.code) ⟨sb, so, none⟩ m c (bv m f) (by rw [bv_length, Nat.mul_one]) (bv_news hs) (by omega) (by unfold maxLen; omega) (by omega)
    rw [bv_append] at ho
    have hne : v' ≠ .slice none 0 0 := fun e => by
      subst e
      rcases ho.2 with ⟨_, h0⟩ | ⟨g', cap', cur, h0, _⟩
      · have := h.1; omega
      · cases h0
    obtain ⟨hl, ⟨e, _⟩ | ⟨g', cap', cur, rfl, hb, hh, hn', hm', hs', ht'⟩⟩ := ho
    · exact absurd e hne
    · have hB2 : Below B w w' := (Below.refl B w).grown hg hBw (fun k hk => by cases hk)
      refine ⟨g', cap', w', hr, ⟨hn', fun i hi => ?_, fun i hi => ⟨?_, ?_⟩, ?_⟩, hB2, by omega⟩
      · have h1 : (cur.toList.take ((n + m) * 1))[i]? = some (.int .u8 ((Sha.cat n F f i : Nat) : Int)) := by rw [ht']; exact bv_at hi
        rw [List.getElem?_take, if_pos (by omega), Array.getElem?_toList] at h1
        simp [World.cell?, hh, h1]
      · simp [World.cell?, hh]; omega
      · simp [World.frozen?, hh]
      · rcases Nat.lt_or_ge g' w'.heap.size with k | k
        · exact k
        · rw [Array.getElem?_eq_none k] at hh; cases hh
/-- Such a row of the call's own, handed back. -/
def RetM (B : Nat) (w' : World) (e : Ending) (n : Nat) (f : Nat → Nat) : Prop := ∃ g c, e = .returned (.slice (some ⟨g, 0, none⟩) n c) ∧ B ≤ g ∧ RowM w' g n c f
theorem RowM.drewM {w : World} {g n cap : Nat} {F : Nat → Nat} (h : RowM w g n cap F) : RowM w.drew g n cap F := h
set_option maxRecDepth 100000 in
set_option maxHeartbeats 1000000 in
theorem appendNumberM_any (B g k c x sz : Nat) (f : Nat → Nat) (hsz : sz ≤ 8) (hk : k ≤ 900000) (w : World) (hBg : B ≤ g) (hB : B ≤ w.heap.size) (h : RowM w g k c f) :
    Calls Tryd.prog 38 #[.slice (some ⟨g, 0, none⟩) k c, .int .i64 (x : Int), .int .i64 (sz : Int)] w fun e w' => RetM B w' e (k + sz) (numF k sz x f) ∧ Below B w w' := by
  have HO0 : Hid (RowM w g k c f) := h
  have HBg : Hid (B ≤ g) := hBg
  clear h hBg
  go_enter Tryd.func38, Tryd.ntmps38
  go_wp2
  go_loopw [0, 7] (fun s i wr => ∃ r g c : Nat, r ≤ sz ∧ i = .int .i64 ((sz : Int) - 1 - (r : Int)) ∧ s = .slice (some ⟨g, 0, none⟩) (k + r) c ∧ B ≤ g ∧ RowM wr g (k + r) c (numF k sz x f) ∧ Below B w wr) (fun _ i _ => (intOf i + 1).toNat)
  case atStart =>
    refine ⟨0, g, c, by omega, numEq8 (by omega), rfl, HBg.out, ?_, Below.refl _ _⟩
    exact HO0.out.congr (fun i hi => by unfold numF; rw [if_pos (by omega)])
  case round =>
    clear HO0 HBg
    obtain ⟨r, g, c, hr, rfl, rfl, hBg, hown, hb⟩ := hrel
    have HO : Hid (RowM wr g (k + r) c (numF k sz x f)) := hown
    have HB : Hid (Below B w wr) := hb
    have HBg : Hid (B ≤ g) := hBg
    clear hown hb hBg
    by_cases hlt : r < sz
    · have x0 : (0 : Int) ≤ (sz : Int) - 1 - (r : Int) := by omega
      obtain ⟨s, hs⟩ : ∃ s, s = 8 * (sz - 1 - r) := ⟨_, rfl⟩
      have e8 : (8 : Int) * ((sz : Int) - 1 - (r : Int)) = (s : Int) := by omega
      have s0 : (0 : Int) ≤ (s : Int) := by omega
      have s1 : (s : Int) ≤ 64 := by omega
      have eX : (x : Int) / 2 ^ s = ((x / 2 ^ s : Nat) : Int) := by simp
      have HX : Hid (numF k sz x f (k + r) = x / 2 ^ s % 256) := by show numF _ _ _ _ _ = _; unfold numF; rw [if_neg (by omega), show k + r - k = r from by omega, hs]
      generalize x / 2 ^ s = y at *
      have eY : (y : Int) % 256 = ((y % 256 : Nat) : Int) := by omega
      generalize y % 256 = Y at *
      have hsz2 : B ≤ wr.heap.size := Nat.le_trans hB HB.out.size
      have hA : Below wr.heap.size wr (wr.alloc (.cells #[.int .u8 (Y : Nat)] 5)) := (Below.refl _ _).alloc (Nat.le_refl _) _
      obtain ⟨g2, c2, w2, hap, hr2, hb2, hB2⟩ := appendM (wr.alloc (.cells #[.int .u8 (Y : Nat)] 5)) B g (k + r) c (numF k sz x f) wr.heap.size 0 1 1 (fun _ => Y) HBg.out (Nat.le_trans hsz2 hA.size) (by omega) (HO.out.below hA) (code8_of (fun i hi => by
          obtain rfl : i = 0 := by omega
          simp)) 30
      have HAP : Hid _ := hap
      have HR2 : Hid (RowM w2 g2 (k + r + 1) c2 (numF k sz x f)) := hr2.congr (fun j hj => by
        unfold Sha.cat
        by_cases e : j < k + r
        · rw [if_pos e]
        · rw [if_neg e, show j = k + r from by omega]; exact HX.out.symm)
      have HB2 : Hid (Below B w w2) := HB.out.trans ((hA.mono hsz2).trans hb2)
      have HG2 : Hid (B ≤ g2) := hB2
      have HK : Hid ((sz : Int) - 1 - (r : Int) - 1 = (sz : Int) - 1 - ((r + 1 : Nat) : Int)) := by show _ = _; omega
      clear hs hA hap hr2 hb2 hB2 HO HB HBg
      go_wp2_with (at_builtin; refine Lib.wpList_append_run _ rfl (.tmp 14) (.tmp 20) _ _ rfl _ _ rfl rfl _ _ HAP.out ?_)
      go_roundw
      case rel => exact ⟨r + 1, g2, c2, by omega, numEq8 HK.out, rfl, HG2.out, HR2.out, HB2.out⟩
      case measure => simp [intOf]; omega
    · have x0 : ¬ (0 : Int) ≤ (sz : Int) - 1 - (r : Int) := by omega
      obtain rfl : r = sz := by omega
      go_wp2
      go_ret
      exact ⟨⟨g, c, rfl, HBg.out, HO.out⟩, HB.out⟩
end Go.Proofs.YtonccbgolbcjfabDoor
