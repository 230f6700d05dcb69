/-
  QuorumSize of the program and of the model.
-/
import Derived.Test.YtdoacpnjggdojaaInAny
namespace Go.Proofs.Ytdoacpnjggdojaa
open Go.ChangeShapes Go.WideShapes Go.ChangeAt Go.RowKit
/-- A majority, or a code. -/
def QsIs (n : Int) (e : Ending) : Prop := (1 ≤ n ∧ n ≤ 7 ∧ e = .returned (.tuple #[.int .i64 (n / 2 + 1), .int .i64 0])) ∨ (¬ (1 ≤ n ∧ n ≤ 7) ∧ e = .returned (.tuple #[.int .i64 0, .int .i64 4]))
theorem QsIs.same {n : Int} {e e' : Ending} (h : QsIs n e) (h' : QsIs n e') : e = e' := by
  rcases h with ⟨a, b, rfl⟩ | ⟨a, rfl⟩ <;> rcases h' with ⟨c, d, rfl⟩ | ⟨c, rfl⟩
  · rfl
  · exact absurd ⟨a, b⟩ c
  · exact absurd ⟨c, d⟩ a
  · rfl
theorem implQs_yes (n : Int) (h : 1 ≤ n ∧ n ≤ 7) (w : World) : Calls Try.prog 16 #[.int .i64 n] w fun e w' => e = .returned (.tuple #[.int .i64 (n / 2 + 1), .int .i64 0]) ∧ w = w' := by
  obtain ⟨h1, h2⟩ := h
  have e1 : ¬ n < 1 := by omega
  have e2 : ¬ 7 < n := by omega
  go_enter Try.func16, Try.ntmps16
  go_wp2
  go_ret2
  exact ⟨rfl, rfl⟩
theorem implQs_no (n : Int) (h : ¬ (1 ≤ n ∧ n ≤ 7)) (w : World) : Calls Try.prog 16 #[.int .i64 n] w fun e w' => e = .returned (.tuple #[.int .i64 0, .int .i64 4]) ∧ w = w' := by
  by_cases e1 : n < 1
  · clear h
    go_enter Try.func16, Try.ntmps16
    go_wp2
    go_ret2
    exact ⟨rfl, rfl⟩
  · have e2 : 7 < n := by omega
    clear h
    go_enter Try.func16, Try.ntmps16
    go_wp2
    go_ret2
    exact ⟨rfl, rfl⟩
theorem implQs_any (n : Int) (w : World) : Calls Try.prog 16 #[.int .i64 n] w fun e w' => QsIs n e ∧ w = w' := by
  by_cases h : 1 ≤ n ∧ n ≤ 7
  · exact (implQs_yes n h w).mono fun e w' q => ⟨.inl ⟨h.1, h.2, q.1⟩, q.2⟩
  · exact (implQs_no n h w).mono fun e w' q => ⟨.inr ⟨h, q.1⟩, q.2⟩
theorem l09Size_any (n : Int) (h : 1 ≤ n ∧ n ≤ 7) (w : World) : Calls Try.prog 106 #[.int .i64 n] w fun e w' => e = .returned (.int .i64 (n / 2 + 1)) ∧ w = w' := by
  obtain ⟨h1, h2⟩ := h
  go_enter Try.func106, Try.ntmps106
  go_wp2
  go_ret
  exact ⟨rfl, rfl⟩
end Go.Proofs.Ytdoacpnjggdojaa
