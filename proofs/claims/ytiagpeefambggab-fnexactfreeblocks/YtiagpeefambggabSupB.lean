/-
  SuperOK: both answer alike.
-/
import Derived.Test.YtiagpeefambggabSupI
import Derived.Test.YtiagpeefambggabSupS
namespace Go.Proofs.Ytiagpeefambggab
open Go.ChangeShapes Go.WideShapes Go.ChangeAt Go.RowKit
set_option linter.unusedVariables false
theorem slpN (g n : Nat) (hn : n ≤ 1048576) : SlP (some ⟨g, 0, none⟩) n n := ⟨(fun e => by cases e), .inr ⟨_, _, rfl⟩, Nat.le_refl _, by unfold maxLen; omega⟩
theorem superOK_both (z : Int) (n : Nat) (P : Nat → Plc) (r : ByteArray) (hn : n ≤ 1048576) : ∃ cd : Bool,
    (∀ (g : Nat) (w : World), Els w 2 (some ⟨g, 0, none⟩) n (pcF P) → Calls Try.prog 14 #[.agg #[.int .i64 z, .slice (some ⟨g, 0, none⟩) n n, .string r]] w fun e w' => e = .returned (.bool cd) ∧ Below w.heap.size w w') ∧
    (∀ (g : Nat) (w : World), Els w 2 (some ⟨g, 0, none⟩) n (pcF P) → Calls Try.prog 18 #[.agg #[.int .i64 z, .slice (some ⟨g, 0, none⟩) n n, .string r]] w fun e w' => e = .returned (.bool cd) ∧ Below w.heap.size w w') :=
  ⟨gB (SupOk z n P r), fun g w h => specSupOK_any z _ n n P r hn w h _ rfl, fun g w h => implSupOK_any z _ n n P r (slpN g n hn) hn w h _ rfl⟩
end Go.Proofs.Ytiagpeefambggab
