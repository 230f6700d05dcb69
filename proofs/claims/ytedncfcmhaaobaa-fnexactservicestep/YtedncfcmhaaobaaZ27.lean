/-
  Texts of the proof, joined: QuI.
-/
import Derived.Test.YtedncfcmhaaobaaZ21
import Derived.Test.YtedncfcmhaaobaaZ26
namespace Go.Proofs.Ytedncfcmhaaobaa
open Go.ChangeShapes Go.WideShapes Go.ChangeAt Go.RowKit
set_option linter.unusedVariables false
theorem updE_at {T : Type} (f : Nat → T) (k : Nat) (x : T) (i : Nat) : updE f k x i = if i = k then x else f i := rfl
theorem tm_up {t b e : Int} (h : tmOk t b e) : tmOk (t + 1) b e := ⟨⟨h.1.1, by have := h.1.2; omega⟩, h.2.imp id (fun q => ⟨q.1, by omega⟩)⟩
theorem Sv.Ok.up {s : Sv} (h : s.Ok) (ht : s.t < 200) : ({ s with t := s.t + 1 } : Sv).Ok := by
 obtain ⟨⟨h1, h2, h3, h4⟩, hW, hR, hQ⟩ := h
 unfold inS at h2
 refine ⟨⟨h1, ⟨by dsimp only; omega, by dsimp only; omega⟩, h3, h4⟩, fun i hi => ?_, hR, fun i hi => ?_⟩
 ·have := hW i hi; exact ⟨this.1, this.2.1, this.2.2.1, this.2.2.2.1, tm_up this.2.2.2.2⟩
 ·have := hQ i hi; exact ⟨this.1, this.2.1, tm_up this.2.2⟩
end Go.Proofs.Ytedncfcmhaaobaa
