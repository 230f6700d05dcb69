/-
  Texts of the proof, joined: RequestS, RunBm.
-/
import Derived.Test.YtpngjkhncfbnpaaDoorU08
import Derived.Test.YtpngjkhncfbnpaaDoorU11
import Derived.Deep.RegionWith
import Derived.Test.YtpngjkhncfbnpaaDoorU26
namespace Go.Proofs.YtpngjkhncfbnpaaDoor
open Go.ChangeShapes Go.WideShapes Go.ChangeAt Go.RowKit
set_option linter.unusedVariables false
structure Rqst where
  s : Int
  q : Int
  v : Int
  c : Int
  r : ByteArray
def rqV (x : Rqst) : Nat → Value
  | 0 => .int .i64 x.s
  | 1 => .int .i64 x.q
  | 2 => .int .i64 x.v
  | 3 => .int .i64 x.c
  | _ => .string x.r
def rqF (RQ : Nat → Rqst) (i j : Nat) : Value := rqV (RQ i) j
def rqZ : Rqst := ⟨0, 0, 0, 0, ⟨#[]⟩⟩
end Go.Proofs.YtpngjkhncfbnpaaDoor
namespace Go.Proofs.YtpngjkhncfbnpaaDoor
open Go.ChangeShapes Go.WideShapes Go.ChangeAt Go.RowKit
set_option linter.unusedVariables false
def toRq (x : Rqst) : Rq := ⟨x.s, x.q, ⟨x.v, x.c, x.r⟩⟩
def bkZ : Bk := Bk.mk 0 (fun _ => rgZ) 0 (fun _ => seZ)
theorem bkZ_ok : bkZ.Ok := bk0_ok _ _
open Classical in
noncomputable def advOf (b : Bk) (q : Rq) : Bk × Int × Int := if h : ∃ x : Bk × Int × Int, AdvIs b q x.1 x.2.1 x.2.2 then Classical.choose h else (b, 0, 0)
theorem advOf_is {b : Bk} (hk : b.Ok) (q : Rq) : AdvIs b q (advOf b q).1 (advOf b q).2.1 (advOf b q).2.2 := by
  have h : ∃ x : Bk × Int × Int, AdvIs b q x.1 x.2.1 x.2.2 := by
    obtain ⟨b', cd, mk, h⟩ := advIs_some hk q
    exact ⟨(b', cd, mk), h⟩
  unfold advOf
  rw [dif_pos h]
  exact Classical.choose_spec h
noncomputable def runK (RQ : Nat → Rqst) : Nat → Bk
  | 0 => bkZ
  | k + 1 => (advOf (runK RQ k) (toRq (RQ k))).1
noncomputable def told (RQ : Nat → Rqst) (k : Nat) : Int := (advOf (runK RQ k) (toRq (RQ k))).2.1
noncomputable def mark (RQ : Nat → Rqst) (k : Nat) : Int := (advOf (runK RQ k) (toRq (RQ k))).2.2
theorem runK_ok (RQ : Nat → Rqst) : ∀ k, (∀ i, i < k → (toRq (RQ i)).Ok) → (runK RQ k).Ok
  | 0, _ => bkZ_ok
  | k + 1, h => (advOf_is (runK_ok RQ k (fun i hi => h i (by omega))) _).kept (runK_ok RQ k (fun i hi => h i (by omega))) (h k (by omega))
theorem runK_is (RQ : Nat → Rqst) (k : Nat) (h : ∀ i, i < k → (toRq (RQ i)).Ok) : AdvIs (runK RQ k) (toRq (RQ k)) (runK RQ (k + 1)) (told RQ k) (mark RQ k) := advOf_is (runK_ok RQ k h) _
def RunD (RQ : Nat → Rqst) (n : Nat) (b : Bk) (m : Nat) (C : Nat → Int) (cd : Int) : Prop :=
  (4096 < n ∧ b = bkZ ∧ m = 0 ∧ C = (fun _ => 0) ∧ cd = 2) ∨ (120 < n ∧ n ≤ 4096 ∧ b = bkZ ∧ m = 0 ∧ C = (fun _ => 0) ∧ cd = 6) ∨
  (n ≤ 120 ∧ (∃ i, i < n ∧ ¬ (toRq (RQ i)).Ok) ∧ b = bkZ ∧ m = 0 ∧ C = (fun _ => 0) ∧ cd = 1) ∨ (n ≤ 120 ∧ (∀ i, i < n → (toRq (RQ i)).Ok) ∧ b = runK RQ n ∧ m = n ∧ C = told RQ ∧ cd = 0)
end Go.Proofs.YtpngjkhncfbnpaaDoor
