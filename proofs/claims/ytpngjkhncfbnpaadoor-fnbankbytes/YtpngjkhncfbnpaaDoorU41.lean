/-
  Texts of the proof, joined: RunBi.
-/
import Derived.Test.YtpngjkhncfbnpaaDoorU27
import Derived.Test.YtpngjkhncfbnpaaDoorU35
import Derived.Test.YtpngjkhncfbnpaaDoorU40
namespace Go.Proofs.YtpngjkhncfbnpaaDoor
open Go.ChangeShapes Go.WideShapes Go.ChangeAt Go.RowKit
set_option linter.unusedVariables false
def RunA (b : Bk) (m : Nat) (C : Nat → Int) (cd : Int) (B : Nat) (e : Ending) (w : World) : Prop := ∃ a0 c0 a1 c1 ac cc, e = .returned (.tuple #[.agg #[.slice a0 b.nr c0, .slice a1 b.ns c1], .slice ac m cc, .int .i64 cd]) ∧ BankE w B b.nr b.ns b (.slice a0 b.nr c0) (.slice a1 b.ns c1) ∧ IE w B (.slice ac m cc) m C
theorem Els.rqAt {w : World} {a : Option Addr} {n : Nat} {RQ : Nat → Rqst} (h : Els w 5 a n (rqF RQ)) {k : Nat} (hk : k < n) : ∃ b off, a = some ⟨b, off, none⟩ ∧ w.cell? ⟨b, off + k * 5, none⟩ = some (.int .i64 (RQ k).s) ∧ w.cell? ⟨b, off + k * 5 + 1, none⟩ = some (.int .i64 (RQ k).q) ∧ w.cell? ⟨b, off + k * 5 + 2, none⟩ = some (.int .i64 (RQ k).v) ∧ w.cell? ⟨b, off + k * 5 + 3, none⟩ = some (.int .i64 (RQ k).c) ∧ w.cell? ⟨b, off + k * 5 + 4, none⟩ = some (.string (RQ k).r) := by
  obtain ⟨b, off, ha, hc⟩ := h.opened (by omega)
  exact ⟨b, off, ha, hc k hk 0 (by omega), hc k hk 1 (by omega), hc k hk 2 (by omega), hc k hk 3 (by omega), hc k hk 4 (by omega)⟩
end Go.Proofs.YtpngjkhncfbnpaaDoor
