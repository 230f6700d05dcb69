/-
  Bytes of one's own in a named block; marks of them.
-/
import Derived.Test.YtglfhajfbdjjcaaRowO
import Derived.Test.YtglfhajfbdjjcaaByteS
import Derived.Test.YtglfhajfbdjjcaaEls
namespace Go.Proofs.Ytglfhajfbdjjcaa
open Go.ChangeShapes Go.WideShapes Go.ChangeAt Go.RowKit
set_option linter.unusedVariables false
theorem ownS_of_RLF {w : World} {B g c : Nat} {L : List Nat} (h : RL w B g c L) : OwnS w B (some ⟨g, 0, none⟩) L.length (fun i => L.getD i 0) := by
  have e : lv L = bv L.length (fun i => L.getD i 0) := by
    unfold lv bv
    refine List.ext_getElem (by simp) (fun i h1 h2 => ?_)
    simp at h1
    simp [h1]
  obtain ⟨a, cap, hv, ho⟩ := ownS_of_owned (f := fun i => L.getD i 0) (by rw [← e]; exact h)
  cases hv
  exact ho
/-- Bytes of one's own in block g. -/
def ByR (w : World) (a : Option Addr) (g n : Nat) (f : Nat → Nat) : Prop := n = 0 ∨ (a = some ⟨g, 0, none⟩ ∧ Own8 w g n f)
theorem ByR.code {w : World} {a : Option Addr} {g n : Nat} {f : Nat → Nat} (h : ByR w a g n f) : Code8 w a n f := by
  rcases h with rfl | ⟨rfl, hr⟩
  · exact code8_zero _ _ _
  · exact hr.code
theorem ByR.below {w w' : World} {a : Option Addr} {g n : Nat} {f : Nat → Nat} (h : ByR w a g n f) (hb : Below w.heap.size w w') : ByR w' a g n f := h.imp id (fun q => ⟨q.1, q.2.below hb⟩)
theorem ByR.turned {w w' : World} {a : Option Addr} {g n : Nat} {f : Nat → Nat} {gb m : Nat} (h : ByR w a g n f) (ht : TurnedE gb m w w') (hne : 0 < n → 0 < m → g ≠ gb) : ByR w' a g n f := by
  rcases Nat.eq_zero_or_pos n with e | e
  · exact .inl e
  · exact h.imp id (fun q => ⟨q.1, q.2.of_block (ht.block q.2.lt (hne e))⟩)
theorem markByK (a : Option Addr) (g n c : Nat) (f : Nat → Nat) (w : World) (h : ByR w a g n f) (hn : n ≤ 1048576) :
    Calls Try.prog 25 #[.slice a n c, .int .i64 1] w fun e w' => (e = .returned (.int .i64 ((n + 1 : Nat) : Int)) ∧ ByR w' a g n mk8) ∧ TurnedE g n w w' := by
  refine (markByteS_any a 0 n c f w (h.imp id (fun q => ⟨g, Nat.zero_le _, q.1, q.2⟩)) hn).mono ?_
  rintro e w' ⟨he, ho, h0, h1⟩
  rcases Nat.eq_zero_or_pos n with z | z
  · have := h0 z
    subst this
    exact ⟨⟨he, .inl z⟩, OnlyB.refl _ _, fun _ => Below.refl _ _⟩
  · rcases h with q | ⟨rfl, hr⟩
    · omega
    · rcases ho with q | ⟨b, _, e2, ho⟩
      · omega
      · cases e2
        exact ⟨⟨he, .inr ⟨rfl, ho⟩⟩, h1 _ rfl z, fun q => by omega⟩
theorem OL.byR {w : World} {B : Nat} {a : Option Addr} {n c : Nat} {L : List Nat} (h : OL w B (.slice a n c) L) (hn : n = L.length) : ∃ g, ByR w a g n (fun i => L.getD i 0) ∧ (0 < n → B ≤ g ∧ g < w.heap.size) := by
  have e : lv L = bv L.length (fun i => L.getD i 0) := by
    unfold lv bv
    refine List.ext_getElem (by simp) (fun i h1 h2 => ?_)
    simp at h1
    simp [h1]
  subst hn
  obtain ⟨a2, cap, hv, ho⟩ := ownS_of_owned (f := fun i => L.getD i 0) (by rw [← e]; exact h)
  cases hv
  rcases ho with q | ⟨b, hB, e2, ho⟩
  · exact ⟨0, .inl q, fun z => absurd z (by omega)⟩
  · exact ⟨b, .inr ⟨e2, ho⟩, fun _ => ⟨hB, ho.lt⟩⟩
end Go.Proofs.Ytglfhajfbdjjcaa
