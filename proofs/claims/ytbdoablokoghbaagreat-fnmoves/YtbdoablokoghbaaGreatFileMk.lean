/-
  MakeDir of the program.
-/
import Derived.Test.YtbdoablokoghbaaGreatFileW
namespace Go.Proofs.YtbdoablokoghbaaGreat
open Go.ChangeShapes Go.WideShapes Go.ChangeAt Go.RowKit
set_option linter.unusedVariables false
/-- Files of one's own and a code are handed back. -/
def RetFs (m : Nat) (G : Nat → Fi) (cd : Int) (B : Nat) (e : Ending) (w : World) : Prop := ∃ (a : Option Addr) (c : Nat), e = .returned (.tuple #[.slice a m c, .int .i64 cd]) ∧ EO w B 32 3 (.slice a m c) m (fiF G)
theorem retFs_nil (cd : Int) (B : Nat) (w : World) (G : Nat → Fi) : RetFs 0 G cd B (.returned (.tuple #[.slice none 0 0, .int .i64 cd])) w := ⟨none, 0, rfl, EO.nil _ _ _ _ _⟩
theorem strs_lit (w : World) (p : ByteArray) : Strs (w.alloc (.cells #[.string p] 9)) (some ⟨w.heap.size, 0, none⟩) 1 (fun _ => p) := fun i hi => by
  obtain rfl : i = 0 := by omega
  exact ⟨w.heap.size, 0, rfl, by simp⟩
theorem FtIs.ok {n : Nat} {F : Nat → Fi} {m : Nat} {t : Nat → ByteArray} (h : FtIs n F m t 0) : FsOk n F ∧ (∀ i, i < m → PathOk (t i)) ∧ n ≤ 4096 ∧ ¬ LongT m t := by
  rcases h with ⟨_, e⟩ | ⟨a, ⟨_, e⟩ | ⟨b, ⟨_, e⟩ | ⟨g, _⟩⟩⟩
  · cases e
  · cases e
  · cases e
  · exact ⟨b, g, by rcases Nat.lt_or_ge 4096 n with q | q; exact absurd (.inl q) a; exact q, fun q => a (.inr q)⟩
end Go.Proofs.YtbdoablokoghbaaGreat
