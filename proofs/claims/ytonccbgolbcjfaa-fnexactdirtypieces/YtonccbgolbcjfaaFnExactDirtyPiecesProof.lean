/-
  Proved here: the law FnExactDirtyPieces returns true at every input and leaves its arguments as they were; no condition but the given statement's own.
-/
import Derived.Test.YtonccbgolbcjfaaRows
import Derived.Test.YtonccbgolbcjfaaLawDirtyPieces
import Derived.Test.YtonccbgolbcjfaaOpenStr
import Derived.WalkKit
import Derived.ProofKit
import Derived.OpenShut
import Derived.ShutString
import Derived.ChangeOld
import Derived.Below
import Derived.Carry
namespace Go.Proofs.Ytonccbgolbcjfaa.fnExactDirtyPieces
open Go.ChangeShapes Go.WideShapes Go.ChangeAt Go.RowKit
open Go.ChangeMaps (open_string shut_string)
set_option linter.unusedVariables false

theorem own : ownKnob Try.prog.godebug = none := by kernel_rfl
theorem laidOut : laidOutB Try.prog = true := by kernel_rfl

set_option maxRecDepth 100000 in
theorem lifted (os : Os) (started : os.Started) (H : Type) (enc : TypeId × Value → H) :
    ReturnsInHanded {} Try.checked os 7 .any (Rows.fnExactDirtyPiecesSpec.pre6 enc Try.prog Try.f7 Rows.fnExactDirtyPiecesRow.domain false) (Rows.fnExactDirtyPiecesSpec.post enc Try.prog Try.f7 false true false false) := by
  refine returnsInHanded_of_change (C := Try.checked) own started (by kernel_rfl) Try.func7
    (ChangeSpec.witness6 (enc := enc) (C := Try.checked) false ⟨#[], #[.slice none 0 0, .slice none 0 0], []⟩ 8 (by kernel_rfl) (by kernel_rfl) (by kernel_rfl) (by kernel_rfl)) ?_
  intro W base args ds gs before hval0 hW hcnd _
  have hval : ∀ (j : Nat) t v, Try.f7.params[j]? = some t → args[j]? = some v → Value.okWide Try.prog W .any base t v := hval0
  have hW' := hW
  obtain ⟨p, q, hA0, hV, rfl, hfz, hnd⟩ := hW
  have hA : DataW.TrodAll enc Try.prog W 0 (fun _ => true) true Try.f7.params.toList args.toList ds p := hA0
  rw [Try.params7] at hA hval
  obtain ⟨v0, vs0, d0, ds0, p0, q0, hargs, rfl, rfl, h0, r0⟩ := trodAll_cons hA
  obtain ⟨v1, vs1, d1, ds1, p1, q1, rfl, rfl, rfl, h1, r1⟩ := trodAll_cons r0
  obtain ⟨rfl, rfl, rfl⟩ := trodAll_nil r1
  obtain rfl : args = #[v0, v1] := by cases args; simp_all
  obtain ⟨rfl, rfl⟩ := trodVars_none hV
  have k0 := h0
  have lt0 : ∀ x ∈ p0, x.block < W.heap.size := by obtain ⟨m, hm⟩ := k0; exact DataW.trod_lt m _ _ _ hm
  obtain ⟨a0, len0, cap0, rfl⟩ := okWide_slice Try.underlying24 (hval 0 24 v0 rfl rfl)
  obtain ⟨ST0, hE0, hn0, hf0⟩ : ∃ ST : Nat → ByteArray, Strs W a0 len0 ST ∧ len0 ≤ maxLen ∧ ∀ i, i < len0 → (ST i).size ≤ maxLen := by
    obtain ⟨m, hm⟩ := h0
    obtain ⟨a, n, c, ST, hq, hE, hn, hf⟩ := st_came (x := .slice a0 len0 cap0) hm
    cases hq
    exact ⟨ST, hE, hn, hf⟩
  have k1 := h1
  have lt1 : ∀ x ∈ p1, x.block < W.heap.size := by obtain ⟨m, hm⟩ := k1; exact DataW.trod_lt m _ _ _ hm
  obtain ⟨a1, len1, cap1, rfl⟩ := okWide_slice Try.underlying24 (hval 1 24 v1 rfl rfl)
  obtain ⟨ST1, hE1, hn1, hf1⟩ : ∃ ST : Nat → ByteArray, Strs W a1 len1 ST ∧ len1 ≤ maxLen ∧ ∀ i, i < len1 → (ST i).size ≤ maxLen := by
    obtain ⟨m, hm⟩ := h1
    obtain ⟨a, n, c, ST, hq, hE, hn, hf⟩ := st_came (x := .slice a1 len1 cap1) hm
    cases hq
    exact ⟨ST, hE, hn, hf⟩
  clear hA0 hval0
  refine (law_dirtyPieces a0 len0 cap0 ST0 a1 len1 cap1 ST1 hn0 hf0 hn1 hf1 W hE0 hE1).mono fun e W' ⟨he, bel⟩ => ?_
  subst he
  exact ⟨_, rfl, _, _, _, [], _, [], hW', (trodAll_cons_mk (shut_bool Try.underlying4 _) trodAll_mk0), (trodAll_cons_mk (Below.trod laidOut (by kernel_rfl) (of_decide_eq_true (by kernel_rfl)) k0 bel lt0) (trodAll_cons_mk (Below.trod laidOut (by kernel_rfl) (of_decide_eq_true (by kernel_rfl)) k1 bel lt1) trodAll_mk0)), rfl, bel.frame _, fun h => by cases h⟩

theorem over : Rows.fnExactDirtyPiecesRow.holds Try.pinned (OpenSpec.ofChange Rows.fnExactDirtyPiecesSpec) :=
  OpenClaim.holds_of_wide 7 Try.f7 rfl rfl rfl rfl rfl rfl rfl ⟨rfl, rfl, rfl, rfl, rfl⟩ rfl rfl rfl rfl rfl (by kernel_rfl) Try.func7 (by kernel_rfl)
    (of_decide_eq_true (by kernel_rfl)) (by unfold Func.isWrapper; first | (rw [if_pos (by decide +kernel)]; kernel_rfl) | (rw [if_neg (by decide +kernel)]; exact ⟨rfl, rfl⟩))
    (fun os started H enc _ => lifted os started H enc)

/-- THE STATEMENT -/
theorem proved : Rows.FnExactDirtyPiecesSaid :=
  over
#print axioms proved
end Go.Proofs.Ytonccbgolbcjfaa.fnExactDirtyPieces
