/-
  What a list of requests does to a bank that starts empty: the mathematics.
-/
import Derived.Test.YtfhjenohgafjlabBankMath
import Derived.Test.YtfhjenohgafjlabRequestS
namespace Go.Proofs.Ytfhjenohgafjlab
open Go.ChangeShapes Go.WideShapes Go.ChangeAt Go.RowKit
set_option linter.unusedVariables false
def toRq (x : Rqst) : Rq := ⟨x.s, x.q, ⟨x.v, x.c, x.r⟩⟩
def bkZ : Bk := Bk.mk 0 (fun _ => rgZ) 0 (fun _ => seZ)
theorem bkZ_ok : bkZ.Ok := bk0_ok _ _
open Classical in
/-- What a request does, told by a choice. -/
noncomputable def advOf (b : Bk) (q : Rq) : Bk × Int × Int := if h : ∃ x : Bk × Int × Int, AdvIs b q x.1 x.2.1 x.2.2 then Classical.choose h else (b, 0, 0)
theorem advOf_is {b : Bk} (hk : b.Ok) (q : Rq) : AdvIs b q (advOf b q).1 (advOf b q).2.1 (advOf b q).2.2 := by
  have h : ∃ x : Bk × Int × Int, AdvIs b q x.1 x.2.1 x.2.2 := by
    obtain ⟨b', cd, mk, h⟩ := advIs_some hk q
    exact ⟨(b', cd, mk), h⟩
  unfold advOf
  rw [dif_pos h]
  exact Classical.choose_spec h
/-- The bank behind k requests. -/
noncomputable def runK (RQ : Nat → Rqst) : Nat → Bk
  | 0 => bkZ
  | k + 1 => (advOf (runK RQ k) (toRq (RQ k))).1
/-- What request k is told. -/
noncomputable def told (RQ : Nat → Rqst) (k : Nat) : Int := (advOf (runK RQ k) (toRq (RQ k))).2.1
noncomputable def mark (RQ : Nat → Rqst) (k : Nat) : Int := (advOf (runK RQ k) (toRq (RQ k))).2.2
theorem runK_ok (RQ : Nat → Rqst) : ∀ k, (∀ i, i < k → (toRq (RQ i)).Ok) → (runK RQ k).Ok
  | 0, _ => bkZ_ok
  | k + 1, h => (advOf_is (runK_ok RQ k (fun i hi => h i (by omega))) _).kept (runK_ok RQ k (fun i hi => h i (by omega))) (h k (by omega))
theorem runK_is (RQ : Nat → Rqst) (k : Nat) (h : ∀ i, i < k → (toRq (RQ i)).Ok) : AdvIs (runK RQ k) (toRq (RQ k)) (runK RQ (k + 1)) (told RQ k) (mark RQ k) := advOf_is (runK_ok RQ k h) _
/-- What a run answers. -/
def RunD (RQ : Nat → Rqst) (n : Nat) (b : Bk) (m : Nat) (C : Nat → Int) (cd : Int) : Prop :=
  (4096 < n ∧ b = bkZ ∧ m = 0 ∧ C = (fun _ => 0) ∧ cd = 2) ∨ (120 < n ∧ n ≤ 4096 ∧ b = bkZ ∧ m = 0 ∧ C = (fun _ => 0) ∧ cd = 6) ∨
  (n ≤ 120 ∧ (∃ i, i < n ∧ ¬ (toRq (RQ i)).Ok) ∧ b = bkZ ∧ m = 0 ∧ C = (fun _ => 0) ∧ cd = 1) ∨ (n ≤ 120 ∧ (∀ i, i < n → (toRq (RQ i)).Ok) ∧ b = runK RQ n ∧ m = n ∧ C = told RQ ∧ cd = 0)
theorem runD_some (RQ : Nat → Rqst) (n : Nat) : ∃ b m C cd, RunD RQ n b m C cd := by
  by_cases h1 : 4096 < n
  · exact ⟨_, _, _, _, .inl ⟨h1, rfl, rfl, rfl, rfl⟩⟩
  by_cases h2 : 120 < n
  · exact ⟨_, _, _, _, .inr (.inl ⟨h2, by omega, rfl, rfl, rfl, rfl⟩)⟩
  by_cases h3 : ∃ i, i < n ∧ ¬ (toRq (RQ i)).Ok
  · exact ⟨_, _, _, _, .inr (.inr (.inl ⟨by omega, h3, rfl, rfl, rfl, rfl⟩))⟩
  · exact ⟨_, _, _, _, .inr (.inr (.inr ⟨by omega, fun i hi => Classical.byContradiction fun q => h3 ⟨i, hi, q⟩, rfl, rfl, rfl, rfl⟩))⟩
theorem RunD.small {RQ : Nat → Rqst} {n : Nat} {b : Bk} {m : Nat} {C : Nat → Int} {cd : Int} (h : RunD RQ n b m C cd) : b.Ok ∧ m ≤ 120 := by
  rcases h with ⟨_, rfl, rfl, _⟩ | ⟨_, _, rfl, rfl, _⟩ | ⟨_, _, rfl, rfl, _⟩ | ⟨h1, h2, rfl, rfl, _⟩
  · exact ⟨bkZ_ok, by omega⟩
  · exact ⟨bkZ_ok, by omega⟩
  · exact ⟨bkZ_ok, by omega⟩
  · exact ⟨runK_ok _ _ h2, h1⟩
end Go.Proofs.Ytfhjenohgafjlab
