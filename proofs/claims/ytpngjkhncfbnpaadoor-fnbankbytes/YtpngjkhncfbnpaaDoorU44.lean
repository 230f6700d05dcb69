/-
  Texts of the proof, joined: BankAx.
-/
import Derived.Test.YtpngjkhncfbnpaaDoorU43
namespace Go.Proofs.YtpngjkhncfbnpaaDoor
open Go.ChangeShapes Go.WideShapes Go.ChangeAt Go.RowKit
set_option linter.unusedVariables false
theorem l08Advance_any (Q : Nat → Prop) (b b' : Bk) (q : Rq) (cd mk : Int) (hk : b.Ok) (hq : q.Ok) (ha : AdvIs b q b' cd mk) (a0 a1 : Option Addr) (c0 c1 : Nat) (s0 : SlP a0 b.nr c0) (s1 : SlP a1 b.ns c1) (hQ0 : ∀ p, a0 = some p → Q p.block) (hQ1 : ∀ p, a1 = some p → Q p.block) (w : World) (h : BankV w b a0 a1) :
    Calls Tryd.prog 53 #[.agg #[.slice a0 b.nr c0, .slice a1 b.ns c1], .agg #[.int .i64 q.se, .int .i64 q.sq, .int .i64 q.x.v, .int .i64 q.x.c, .string q.x.r]] w fun e w' => RetSt Q w.heap.size b' cd mk e w' ∧ Below w.heap.size w w' := by
  rcases ha with ⟨g, e, rfl, rfl, rfl⟩ | ⟨g, e, rfl, rfl, rfl⟩ | ⟨g, e, rfl, rfl, rfl⟩ | ⟨g, e, b1, hs, rfl⟩ | ⟨g, e, b1, hs, rfl⟩
  · exact (l08Adv_again b' q hk hq g e a0 a1 c0 c1 s0 s1 w h).mono fun e w' z => ⟨⟨_, _, _, _, z.1, h.below z.2, s0, s1, fun p e => .inl (hQ0 p e), fun p e => .inl (hQ1 p e)⟩, z.2⟩
  · exact (l08Adv_elder b' q hk hq g e a0 a1 c0 c1 s0 s1 w h).mono fun e w' z => ⟨⟨_, _, _, _, z.1, h.below z.2, s0, s1, fun p e => .inl (hQ0 p e), fun p e => .inl (hQ1 p e)⟩, z.2⟩
  · exact l08Adv_many b' q hk hq g e Q a0 a1 c0 c1 s0 s1 hQ0 hQ1 w h
  · obtain ⟨k1, k2, k3, _⟩ := hs.kept hk hq.2
    exact l08Adv_set b q hk hq g e b1 cd mk k1 k2 k3 hs Q a0 a1 c0 c1 s0 s1 hQ0 hQ1 w h
  · obtain ⟨k1, k2, k3, _⟩ := hs.kept hk hq.2
    exact l08Adv_ins b q hk hq g e b1 cd mk k1 k2 k3 hs Q a0 a1 c0 c1 s0 s1 hQ0 hQ1 w h
end Go.Proofs.YtpngjkhncfbnpaaDoor
