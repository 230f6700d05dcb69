/-
  Rows of bytes with room, of which cells alone are asked; append to such rows, and a number's bytes behind one.
-/
import Derived.Test.YtendfgepmjgldabNum
import Derived.Test.YtendfgepmjgldabTxt
import Derived.ArgAppend
import Derived.Lib.AppendStr
import Derived.Laws.IdiomStrings
import Derived.Laws.AppendOwnNone
namespace Go.Proofs.Ytendfgepmjgldab
open Go.ChangeShapes Go.WideShapes Go.ChangeAt Go.RowKit
/-- A row of bytes with room, of which cells alone are asked (what []byte(s) makes, too). -/
def RowM (w : World) (g n cap : Nat) (F : Nat → Nat) : Prop := n ≤ cap ∧ (∀ i, i < n → w.cell? ⟨g, i, none⟩ = some (.int .u8 ((F i : Nat) : Int))) ∧ (∀ i, i < cap → (w.cell? ⟨g, i, none⟩).isSome = true ∧ w.frozen? ⟨g, i, none⟩ = false) ∧ g < w.heap.size
theorem RowM.code {w : World} {g n cap : Nat} {F : Nat → Nat} (h : RowM w g n cap F) : Code8 w (some ⟨g, 0, none⟩) n F := code8_of (fun i hi => by rw [Nat.zero_add]; exact h.2.1 i hi)
theorem RowM.below {w w' : World} {g n cap : Nat} {F : Nat → Nat} (h : RowM w g n cap F) (hb : Below w.heap.size w w') : RowM w' g n cap F :=
  ⟨h.1, fun i hi => by rw [hb.cell (p := ⟨g, i, none⟩) h.2.2.2]; exact h.2.1 i hi, fun i hi => ⟨by rw [hb.cell (p := ⟨g, i, none⟩) h.2.2.2]; exact (h.2.2.1 i hi).1, by rw [hb.frozen (p := ⟨g, i, none⟩) h.2.2.2]; exact (h.2.2.1 i hi).2⟩, Nat.lt_of_lt_of_le h.2.2.2 hb.size⟩
theorem RowM.congr {w : World} {g n cap : Nat} {F G : Nat → Nat} (h : RowM w g n cap F) (e : ∀ i, i < n → F i = G i) : RowM w g n cap G := ⟨h.1, fun i hi => by rw [← e i hi]; exact h.2.1 i hi, h.2.2⟩
theorem bytesOfR (s : ByteArray) (w : World) : ∃ wz gc, (convert 9 58 (.string s)).run Try.prog w = .ok (.slice (some ⟨w.heap.size, 0, none⟩) s.size gc) wz ∧ RowM wz w.heap.size s.size gc (strB s) ∧ Below w.heap.size w wz := by
  obtain ⟨gc, hgc⟩ : ∃ gc, gc = grownCap w s.size 0 5 := ⟨_, rfl⟩
  have hge : s.size ≤ gc := by rw [hgc]; exact grownCap_ge _ _ _ _
  have hsz : (bytesRow s gc).size = gc := by
    unfold bytesRow
    rw [Array.size_append, Array.size_map, Array.size_replicate]
    show s.size + (gc - s.size) = gc
    omega
  have hrun := run_bytes_of_string w 9 58 5 s Try.underlying9 Try.underlying58 Try.underlying5
  rw [← hgc, hsz] at hrun
  refine ⟨_, gc, hrun, ⟨hge, fun r hr => ?_, fun r hr => ⟨?_, ?_⟩, ?_⟩, (Below.refl _ _).drew.alloc (Nat.le_refl _) _⟩
  · have e := World.cell?_alloc_mark w.drew (bytesRow s gc) 5 (gc, gc + 1) r
    refine e.trans ?_
    rw [bytesRow_at s gc r hr]
    simp [strB, hr, ByteArray.getElem_eq_getElem_data]
  · have e := World.cell?_alloc_mark w.drew (bytesRow s gc) 5 (gc, gc + 1) r
    have e2 : (w.drew.alloc (.cells (bytesRow s gc) 5 (gc, gc + 1))).cell? ⟨w.heap.size, r, none⟩ = (bytesRow s gc)[r]? := e
    rw [e2, Array.getElem?_eq_getElem (by omega)]
    rfl
  · show (w.drew.alloc (.cells (bytesRow s gc) 5 (gc, gc + 1))).frozen? ⟨w.drew.heap.size, r, none⟩ = false
    rw [World.frozen?_alloc_mark]
    simp
    intro h
    omega
  · show w.heap.size < (w.drew.alloc _).heap.size
    simp
/-- append to such a row. -/
theorem appendM (w : World) (B g n cap : Nat) (F : Nat → Nat) (sb so m c : Nat) (f : Nat → Nat) (hB : B ≤ g) (hBw : B ≤ w.heap.size) (hnm : n + m ≤ 2000000) (h : RowM w g n cap F) (hs : Code8 w (some ⟨sb, so, none⟩) m f) (ty : TypeId) :
    ∃ g' cap' w', (Builtin.append_ #[58, 58] ty #[.slice (some ⟨g, 0, none⟩) n cap, .slice (some ⟨sb, so, none⟩) m c]).run Try.prog w = .ok (.slice (some ⟨g', 0, none⟩) (n + m) cap') w' ∧ RowM w' g' (n + m) cap' (Sha.cat n F f) ∧ Below B w w' ∧ B ≤ g' := by
  obtain ⟨i0, h1, h2, h3, h4⟩ := info_parts Try.info8
  by_cases hroom : n + m ≤ cap
  · have hth : w.there g 0 cap := fun j hj => by rw [Nat.zero_add]; exact h.2.2.1 j hj
    have hth2 := World.there_setCells hth g n (bv m f)
    have hin : (w.setCells g n (bv m f)).rangeAt g n (bv m f) := World.rangeAt_setCells_same w g n (bv m f) (fun j hj => by rw [bv_length] at hj; exact h.2.2.1 (n + j) (by omega))
    refine ⟨g, cap, w.setCells g n (bv m f), ?_, ⟨hroom, fun i hi => ?_, fun i hi => by have := hth2 i hi; rwa [Nat.zero_add] at this, Nat.lt_of_lt_of_le h.2.2.2 (below_setCells hB (bv m f) n w (Below.refl B w)).size⟩, below_setCells hB _ _ _ (Below.refl _ _), hB⟩
    · have := run_append_room_cells (P := Try.prog) w 58 ty 5 i0 Try.underlying58 h1 g 0 n cap ⟨sb, so, none⟩ m c (bv m f) (by rw [bv_length, h3, Nat.mul_one]) (bv_news hs) (bv_one _ _) hroom (fun j hj => by rw [bv_length] at hj; rw [h3, Nat.zero_add, Nat.mul_one]; exact (h.2.2.1 (n + j) (by omega)).1) (fun j hj => by rw [bv_length] at hj; rw [h3, Nat.zero_add, Nat.mul_one]; exact (h.2.2.1 (n + j) (by omega)).2)
      rw [h3, Nat.zero_add, Nat.mul_one] at this
      exact this
    · unfold Sha.cat
      by_cases hin2 : i < n
      · rw [if_pos hin2, World.cell?_setCells_out g (bv m f) n w ⟨g, i, none⟩ (fun _ _ => .inl hin2)]
        exact h.2.1 i hin2
      · rw [if_neg hin2]
        have := hin (i - n) _ (bv_at (f := f) (show i - n < m by omega))
        rwa [show n + (i - n) = i from by omega] at this
  · obtain ⟨v', w', hr, ho, hg⟩ := run_append_arg_grows (P := Try.prog) w 58 ty 5 i0 (.int .u8 0) 1 1 Try.underlying58 h1 h2 h3 h4 rfl (by decide) ⟨g, 0, none⟩ n cap (bv n F) (by rw [bv_length, Nat.mul_one]) (bv_news h.code) ⟨sb, so, none⟩ m c (bv m f) (by rw [bv_length, Nat.mul_one]) (bv_news hs) (by omega) (by unfold maxLen; omega) (by omega)
    rw [bv_append] at ho
    have hne : v' ≠ .slice none 0 0 := fun e => by
      subst e
      rcases ho.2 with ⟨_, h0⟩ | ⟨g', cap', cur, h0, _⟩
      · have := h.1; omega
      · cases h0
    obtain ⟨hl, ⟨e, _⟩ | ⟨g', cap', cur, rfl, hb, hh, hn', hm', hs', ht'⟩⟩ := ho
    · exact absurd e hne
    · have hB2 : Below B w w' := (Below.refl B w).grown hg hBw (fun k hk => by cases hk)
      refine ⟨g', cap', w', hr, ⟨hn', fun i hi => ?_, fun i hi => ⟨?_, ?_⟩, ?_⟩, hB2, by omega⟩
      · have h1 : (cur.toList.take ((n + m) * 1))[i]? = some (.int .u8 ((Sha.cat n F f i : Nat) : Int)) := by rw [ht']; exact bv_at hi
        rw [List.getElem?_take, if_pos (by omega), Array.getElem?_toList] at h1
        simp [World.cell?, hh, h1]
      · simp [World.cell?, hh]; omega
      · simp [World.frozen?, hh]
      · rcases Nat.lt_or_ge g' w'.heap.size with k | k
        · exact k
        · rw [Array.getElem?_eq_none k] at hh; cases hh
end Go.Proofs.Ytendfgepmjgldab
