/-
  Texts of the proof, joined: BankSx.
-/
import Derived.Test.YtpngjkhncfbnpaaDoorR47
namespace Go.Proofs.YtpngjkhncfbnpaaDoor
open Go.ChangeShapes Go.WideShapes Go.ChangeAt Go.RowKit
set_option linter.unusedVariables false
theorem l08Step_any (Q : Nat → Prop) (b b' : Bk) (q : Rq) (cd mk : Int) (hk : b.Ok) (hs : StepIs b q.x b' cd mk) (a0 a1 : Option Addr) (c0 c1 : Nat) (s0 : SlP a0 b.nr c0) (s1 : SlP a1 b.ns c1) (hQ0 : ∀ p, a0 = some p → Q p.block) (hQ1 : ∀ p, a1 = some p → Q p.block) (w : World) (h : BankV w b a0 a1) :
    Calls Tryd.prog 93 #[.agg #[.slice a0 b.nr c0, .slice a1 b.ns c1], .agg #[.int .i64 q.se, .int .i64 q.sq, .int .i64 q.x.v, .int .i64 q.x.c, .string q.x.r]] w fun e w' => RetSt Q w.heap.size b' cd mk e w' ∧ Below w.heap.size w w' := by
  have no : ∀ (now cd : Int), NowIs b q.x.v now → NoIs b q.x now cd → Calls Tryd.prog 93 #[.agg #[.slice a0 b.nr c0, .slice a1 b.ns c1], .agg #[.int .i64 q.se, .int .i64 q.sq, .int .i64 q.x.v, .int .i64 q.x.c, .string q.x.r]] w fun e w' => RetSt Q w.heap.size b cd now e w' ∧ Below w.heap.size w w' := fun now cd hn hno =>
    (l08Step_no b q now cd hk hn hno a0 a1 c0 c1 w h).mono fun e w' g => ⟨⟨_, _, _, _, g.1, ⟨h.1.below g.2, h.2.below g.2⟩, s0, s1, fun p e => .inl (hQ0 p e), fun p e => .inl (hQ1 p e)⟩, g.2⟩
  obtain ⟨now, hn, hc⟩ := hs
  rcases hc with ⟨k1, rfl, rfl, rfl⟩ | ⟨k1, k2, rfl, rfl, rfl⟩ | ⟨k1, k2, rfl, rfl, rfl⟩ | ⟨k1, k2, g, n6, rfl, rfl, rfl⟩ | ⟨k1, k2, g, rfl, rfl, rfl⟩ | ⟨k1, k2, g, n6, rfl, rfl, rfl⟩
  · exact no _ _ hn (.inl ⟨k1, rfl⟩)
  · exact no _ _ hn (.inr (.inl ⟨k1, k2, rfl⟩))
  · exact no _ _ hn (.inr (.inr (.inl ⟨k1, k2, rfl⟩)))
  · exact no _ _ hn (.inr (.inr (.inr ⟨k1, k2, g, n6, rfl⟩)))
  · have e : now = (b.R (b.kR q.x.v)).c := by
      rcases hn with ⟨_, e⟩ | ⟨g2, _⟩
      · exact e
      · exact absurd g g2
    exact l08Step_set Q b q now hk g e k1 k2 a0 a1 c0 c1 s0.z s1.z w h
  · have e : now = 0 := by
      rcases hn with ⟨g2, _⟩ | ⟨_, e⟩
      · exact absurd g2 g
      · exact e
    exact l08Step_ins Q b q hk g n6 (by omega) a0 a1 c0 c1 s0 s1 w h
end Go.Proofs.YtpngjkhncfbnpaaDoor
