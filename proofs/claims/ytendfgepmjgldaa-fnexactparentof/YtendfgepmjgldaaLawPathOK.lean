/-
  The exact laws of PathOK and ParentOf.
-/
import Derived.Test.YtendfgepmjgldaaPathS
import Derived.Test.YtendfgepmjgldaaPathI
namespace Go.Proofs.Ytendfgepmjgldaa
open Go.ChangeShapes Go.WideShapes Go.ChangeAt Go.RowKit
set_option linter.unusedVariables false
theorem law_pathOK (s : ByteArray) (hs : s.size ≤ maxLen) (w : World) :
    Calls Try.prog 6 #[.string s] w fun e w' => e = .returned (.bool true) ∧ Below w.heap.size w w' := by
  unfold maxLen at hs
  by_cases h : 1048576 < s.size
  · go_enter Try.func6, Try.ntmps6
    go_wp2
    go_ret
    exact ⟨rfl, Below.refl _ _⟩
  · have SP : Hid (∀ w : World, Calls Try.prog 31 #[.string s] w fun e w' => Says e (PathOk s) ∧ Below w.heap.size w w') := specPathOK_any s (by omega)
    have IM : Hid (∀ w : World, Calls Try.prog 26 #[.string s] w fun e w' => Says e (PathOk s) ∧ Below w.heap.size w w') := implPathOK_any s (by omega)
    go_enter Try.func6, Try.ntmps6
    go_wp2_with fail
    refine (SP.out _).mono ?_
    rintro e w1 ⟨⟨b, rfl, hb⟩, hl⟩
    have HB : Hid (b = true ↔ PathOk s) := hb
    have B1 : Hid (Below w.heap.size w w1) := hl
    clear hb hl
    go_wp2_with fail
    refine (IM.out _).mono ?_
    rintro e w2 ⟨⟨c, rfl, hc⟩, hl⟩
    have B2 : Hid (Below w.heap.size w w2) := B1.out.trans (hl.mono B1.out.size)
    obtain rfl : b = c := by rw [Bool.eq_iff_iff, HB.out, hc]
    clear hc hl B1 HB SP IM
    cases b
    all_goals (go_wp2; go_ret; exact ⟨rfl, B2.out⟩)
/-- What ParentOf answers. -/
def ParIs (s : ByteArray) (t : ByteArray) (c : Int) : Prop := (65536 < s.size ∧ t = ⟨#[]⟩ ∧ c = 2) ∨ (s.size ≤ 65536 ∧ ¬ PathOk s ∧ t = ⟨#[]⟩ ∧ c = 16) ∨ (s.size ≤ 65536 ∧ PathOk s ∧ t = par s ∧ c = 0)
theorem ParIs.uniq {s t t' : ByteArray} {c c' : Int} (h : ParIs s t c) (h' : ParIs s t' c') : t = t' ∧ c = c' := by
  rcases h with ⟨a, rfl, rfl⟩ | ⟨a, b, rfl, rfl⟩ | ⟨a, b, rfl, rfl⟩ <;> rcases h' with ⟨a', rfl, rfl⟩ | ⟨a', b', rfl, rfl⟩ | ⟨a', b', rfl, rfl⟩ <;> first | exact ⟨rfl, rfl⟩ | (exfalso; omega) | exact absurd b' b | exact absurd b b'
theorem implPar_any (s : ByteArray) (hs : s.size ≤ 1048576) (w : World) :
    Calls Try.prog 23 #[.string s] w fun e w' => (∃ t c, e = .returned (.tuple #[.string t, .int .i64 c]) ∧ ParIs s t c) ∧ Below w.heap.size w w' := by
  by_cases h : 65536 < s.size
  · have e1 : (65536 : Int) < s.size := by omega
    have H : Hid (ParIs s ⟨#[]⟩ 2) := .inl ⟨h, rfl, rfl⟩
    go_enter Try.func23, Try.ntmps23
    go_wp2
    go_ret2
    exact ⟨⟨_, _, rfl, H.out⟩, Below.refl _ _⟩
  · have e1 : ¬ (65536 : Int) < s.size := by omega
    have HP : Hid (∀ w : World, Calls Try.prog 26 #[.string s] w fun e w' => Says e (PathOk s) ∧ Below w.heap.size w w') := implPathOK_any s (by omega)
    have HQ : Hid (∀ w : World, Calls Try.prog 48 #[.string s] w fun e w' => e = .returned (.string (par s)) ∧ w' = w) := parentOf_any s hs
    have HN : Hid (¬ 65536 < s.size) := h
    generalize hpa : par s = PA at HQ
    have HPA : Hid (par s = PA) := hpa
    clear h hs hpa
    go_enter Try.func23, Try.ntmps23
    go_wp2_with fail
    refine (HP.out _).mono ?_
    rintro e w1 ⟨⟨b, rfl, hb⟩, hbl⟩
    have HB : Hid (b = true ↔ PathOk s) := hb
    have B1 : Hid (Below w.heap.size w w1) := hbl
    clear hb hbl HP
    cases b with
    | false =>
      have H : Hid (ParIs s ⟨#[]⟩ 16) := .inr (.inl ⟨by have := HN.out; omega, (fun h => by have := HB.out.2 h; cases this), rfl, rfl⟩)
      clear HB
      go_wp2
      go_ret2
      exact ⟨⟨_, _, rfl, H.out⟩, B1.out⟩
    | true =>
      have H : Hid (ParIs s PA 0) := .inr (.inr ⟨by have := HN.out; omega, HB.out.1 rfl, HPA.out.symm, rfl⟩)
      clear HB
      go_wp2_with fail
      refine (HQ.out _).mono ?_
      rintro e w2 ⟨rfl, rfl⟩
      clear HQ
      go_wp2
      go_ret2
      exact ⟨⟨_, _, rfl, H.out⟩, B1.out⟩
theorem specPar_any (s : ByteArray) (hs : s.size ≤ 1048576) (w : World) :
    Calls Try.prog 32 #[.string s] w fun e w' => (∃ t c, e = .returned (.tuple #[.string t, .int .i64 c]) ∧ ParIs s t c) ∧ Below w.heap.size w w' := by
  by_cases h : 65536 < s.size
  · have e1 : (65536 : Int) < s.size := by omega
    have H : Hid (ParIs s ⟨#[]⟩ 2) := .inl ⟨h, rfl, rfl⟩
    go_enter Try.func32, Try.ntmps32
    go_wp2
    go_ret2
    exact ⟨⟨_, _, rfl, H.out⟩, Below.refl _ _⟩
  · have e1 : ¬ (65536 : Int) < s.size := by omega
    have HP : Hid (∀ w : World, Calls Try.prog 67 #[.string s] w fun e w' => Says e (PathOk s) ∧ Below w.heap.size w w') := l11Path_any s (by unfold maxLen; omega)
    have HQ : Hid (∀ w : World, Calls Try.prog 68 #[.string s] w fun e w' => e = .returned (.string (par s)) ∧ w' = w) := l11Parent_any s hs
    have HN : Hid (¬ 65536 < s.size) := h
    generalize hpa : par s = PA at HQ
    have HPA : Hid (par s = PA) := hpa
    clear h hs hpa
    go_enter Try.func32, Try.ntmps32
    go_wp2_with fail
    refine (HP.out _).mono ?_
    rintro e w1 ⟨⟨b, rfl, hb⟩, hbl⟩
    have HB : Hid (b = true ↔ PathOk s) := hb
    have B1 : Hid (Below w.heap.size w w1) := hbl
    clear hb hbl HP
    cases b with
    | false =>
      have H : Hid (ParIs s ⟨#[]⟩ 16) := .inr (.inl ⟨by have := HN.out; omega, (fun h => by have := HB.out.2 h; cases this), rfl, rfl⟩)
      clear HB
      go_wp2
      go_ret2
      exact ⟨⟨_, _, rfl, H.out⟩, B1.out⟩
    | true =>
      have H : Hid (ParIs s PA 0) := .inr (.inr ⟨by have := HN.out; omega, HB.out.1 rfl, HPA.out.symm, rfl⟩)
      clear HB
      go_wp2_with fail
      refine (HQ.out _).mono ?_
      rintro e w2 ⟨rfl, rfl⟩
      clear HQ
      go_wp2
      go_ret2
      exact ⟨⟨_, _, rfl, H.out⟩, B1.out⟩
theorem law_parentOf (s : ByteArray) (hs : s.size ≤ maxLen) (w : World) :
    Calls Try.prog 7 #[.string s] w fun e w' => e = .returned (.bool true) ∧ Below w.heap.size w w' := by
  unfold maxLen at hs
  by_cases h : 1048576 < s.size
  · go_enter Try.func7, Try.ntmps7
    go_wp2
    go_ret
    exact ⟨rfl, Below.refl _ _⟩
  · have SP : Hid (∀ w : World, Calls Try.prog 32 #[.string s] w fun e w' => (∃ t c, e = .returned (.tuple #[.string t, .int .i64 c]) ∧ ParIs s t c) ∧ Below w.heap.size w w') := specPar_any s (by omega)
    have IM : Hid (∀ w : World, Calls Try.prog 23 #[.string s] w fun e w' => (∃ t c, e = .returned (.tuple #[.string t, .int .i64 c]) ∧ ParIs s t c) ∧ Below w.heap.size w w') := implPar_any s (by omega)
    go_enter Try.func7, Try.ntmps7
    go_wp2_with fail
    refine (SP.out _).mono ?_
    rintro e w1 ⟨⟨t, c, rfl, hp⟩, hl⟩
    have HB : Hid (ParIs s t c) := hp
    have B1 : Hid (Below w.heap.size w w1) := hl
    clear hp hl
    go_wp2_with fail
    refine (IM.out _).mono ?_
    rintro e w2 ⟨⟨t', c', rfl, hp⟩, hl⟩
    have B2 : Hid (Below w.heap.size w w2) := B1.out.trans (hl.mono B1.out.size)
    obtain ⟨rfl, rfl⟩ := hp.uniq HB.out
    have hcc : (c' != c') = false := by simp
    clear hp hl B1 HB SP IM
    go_wp2
    go_ret
    exact ⟨rfl, B2.out⟩
end Go.Proofs.Ytendfgepmjgldaa
