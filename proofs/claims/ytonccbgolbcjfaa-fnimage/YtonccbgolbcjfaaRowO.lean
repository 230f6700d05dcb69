/-
  Rows of bytes of a call's own, nil ones too, as lists: appends, and appendNumber.
-/
import Derived.Test.YtonccbgolbcjfaaRowL
namespace Go.Proofs.Ytonccbgolbcjfaa
open Go.ChangeShapes Go.WideShapes Go.ChangeAt Go.RowKit
set_option linter.unusedVariables false
/-- v is a slice of the call's own that holds L, or nil and L is empty. -/
def OL (w : World) (B : Nat) (v : Value) (L : List Nat) : Prop := w.ownsRow B 5 1 v L.length (lv L)
theorem OL.nil (w : World) (B : Nat) : OL w B (.slice none 0 0) [] := ⟨by simp [lv], .inl ⟨rfl, rfl⟩⟩
theorem OL.lit (w : World) (B : Nat) (hB : B ≤ w.heap.size) : OL (w.alloc (.cells #[] 5)) B (.slice (some ⟨w.heap.size, 0, none⟩) 0 0) [] := World.ownsRow_made w #[] 0 hB (Nat.zero_le _) (by simp)
theorem OL.form {w : World} {B : Nat} {v : Value} {L : List Nat} (h : OL w B v L) : ∃ a c, v = .slice a L.length c := by
  obtain ⟨hl, ⟨h1, h2⟩ | ⟨g', cap, cur, hv, _⟩⟩ := h
  · rw [h2]; exact ⟨_, _, h1⟩
  · exact ⟨_, _, hv⟩
theorem OL.ge {w : World} {B : Nat} {v : Value} {L : List Nat} (h : OL w B v L) (g : Nat) (e : v.ownBlock = some g) : B ≤ g ∧ g < w.heap.size := World.ownsRow.lt h g e
theorem OL.keep {w w' : World} {B : Nat} {v : Value} {L : List Nat} (h : OL w B v L) (e : ∀ g, v.ownBlock = some g → w'.heap[g]? = w.heap[g]?) : OL w' B v L := by
  obtain ⟨hl, h0 | ⟨g', cap, cur, hv, hB, hh, hr⟩⟩ := h
  · exact ⟨hl, .inl h0⟩
  · subst hv
    exact ⟨hl, .inr ⟨g', cap, cur, rfl, hB, by rw [e g' rfl]; exact hh, hr⟩⟩
theorem OL.below {w w' : World} {B : Nat} {v : Value} {L : List Nat} (h : OL w B v L) (hb : Below w.heap.size w w') : OL w' B v L := h.keep (fun g e => hb.block g (h.ge g e).2)
theorem OL.mono {w : World} {B B' : Nat} {v : Value} {L : List Nat} (h : OL w B v L) (hb : B' ≤ B) : OL w B' v L := by
  obtain ⟨hl, h0 | ⟨g', cap, cur, hv, hB, hr⟩⟩ := h
  · exact ⟨hl, .inl h0⟩
  · exact ⟨hl, .inr ⟨g', cap, cur, hv, Nat.le_trans hb hB, hr⟩⟩
theorem OL.grown {w w' : World} {B : Nat} {v : Value} {L : List Nat} (h : OL w B v L) (hg : w.grownBy w' v.ownBlock) (hB : B ≤ w.heap.size) : Below B w w' :=
  ⟨hg.os, hg.tape, hg.output, hg.size, fun b hb => hg.block b (by omega) (fun e => by have := (h.ge b e.symm).1; omega)⟩
theorem RL.ol {w : World} {B g c : Nat} {L : List Nat} (h : RL w B g c L) : OL w B (.slice (some ⟨g, 0, none⟩) L.length c) L := h
set_option maxRecDepth 100000 in
/-- append of bytes that lie at ⟨q, o⟩. -/
theorem OL.app (w : World) (B : Nat) (v : Value) (L N : List Nat) (q o cq m : Nat) (hm : m = N.length) (hB : B ≤ w.heap.size) (hl : L.length + N.length ≤ 1000000) (h : OL w B v L) (hN : ∀ j (hj : j < N.length), w.cell? ⟨q, o + j, none⟩ = some (.int .u8 ((N[j] : Nat) : Int))) :
    ∃ v' w', (∀ ty, (Builtin.append_ #[22, 22] ty #[v, .slice (some ⟨q, o, none⟩) m cq]).run Try.prog w = .ok v' w') ∧ OL w' B v' (L ++ N) ∧ Below B w w' ∧ w.grownBy w' v.ownBlock := by
  subst hm
  obtain ⟨i, hi, hz, hsz, hby⟩ := info_parts Try.infoB8
  obtain ⟨v', w', hr, ho, hg, hne, hloc⟩ := run_append_own_at (P := Try.prog) w B 22 22 5 i (.int .u8 0) 1 1 Try.underlying22 hi hz hsz hby rfl (by decide) _ L.length _ h ⟨q, o, none⟩ N.length cq (lv N) (by rw [lv_length, Nat.mul_one]) (fun j u hj => by
    rw [Go.WideShapes.add_plain]
    unfold lv at hj
    rw [List.getElem?_map, Option.map_eq_some_iff] at hj
    obtain ⟨b, hb, rfl⟩ := hj
    obtain ⟨hj', rfl⟩ := List.getElem?_eq_some_iff.1 hb
    exact hN j hj') (fun u hu => by
      obtain ⟨_, _, rfl⟩ := List.mem_map.1 hu
      rfl) (by unfold maxLen; omega) (by omega) hB
  rw [← lv_append, ← List.length_append] at ho
  exact ⟨v', w', fun ty => hr, ho, h.grown hg hB, hg⟩
set_option maxRecDepth 100000 in
/-- append of a text. -/
theorem OL.appS (w : World) (B : Nat) (v : Value) (L : List Nat) (s : ByteArray) (hB : B ≤ w.heap.size) (hl : L.length + s.size ≤ 1000000) (h : OL w B v L) :
    ∃ v' w', (∀ ty, (Builtin.append_ #[22, 9] ty #[v, .string s]).run Try.prog w = .ok v' w') ∧ OL w' B v' (L ++ strL s) ∧ Below B w w' ∧ w.grownBy w' v.ownBlock := by
  obtain ⟨i, hi, hz, hsz, hby⟩ := info_parts Try.infoB8
  obtain ⟨v', w', hr, ho, hg, hne⟩ := Lib.run_append_own_string (P := Try.prog) w B 22 9 22 5 i Try.underlying22 Try.underlying9 hi hz hsz hby _ L.length _ h s (by unfold maxLen; omega) (by omega) hB
  have e1 : Lib.strCells s = lv (strL s) := by
    unfold Lib.strCells lv strL
    simp
  rw [e1, ← lv_append, ← strL_length s, ← List.length_append] at ho
  exact ⟨v', w', fun ty => hr, ho, h.grown hg hB, hg⟩
end Go.Proofs.Ytonccbgolbcjfaa
