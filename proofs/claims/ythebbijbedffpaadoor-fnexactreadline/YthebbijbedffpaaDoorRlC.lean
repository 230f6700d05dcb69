/-
  What a line of the console says: the common answer of both.
-/
import Derived.Test.YthebbijbedffpaaDoorRlM
import Derived.Test.YthebbijbedffpaaDoorRlB
namespace Go.Proofs.YthebbijbedffpaaDoor
open Go.ChangeShapes Go.WideShapes Go.ChangeAt Go.RowKit
set_option linter.unusedVariables false
/-- The thirteen commands. -/
def cmds : List ByteArray := [⟨#[109, 111, 117, 110, 116]⟩, ⟨#[115, 121, 110, 99]⟩, ⟨#[99, 114, 97, 115, 104]⟩, ⟨#[117, 110, 109, 111, 117, 110, 116]⟩, ⟨#[115, 97, 118, 101]⟩, ⟨#[114, 111, 108, 108, 98, 97, 99, 107]⟩, ⟨#[109, 107, 100, 105, 114]⟩, ⟨#[119, 114, 105, 116, 101]⟩, ⟨#[114, 101, 97, 100]⟩, ⟨#[99, 117, 116]⟩, ⟨#[109, 111, 118, 101]⟩, ⟨#[114, 109]⟩, ⟨#[108, 115]⟩]
/-- What is told by an act: its kind, its cut and its call. -/
abbrev LnA := Int × Int × Cl
/-- What the command i says, when the line is looked at from o on. -/
noncomputable def ansI (i : Nat) (s : ByteArray) (o : Nat) : Option LnA :=
  if i = 0 then bif hasW s o then none else some (1, 0, clZ)
  else if i = 1 then bif hasW s o then none else some (3, 0, clZ)
  else if i = 2 then bif hasW s o then none else some (3, 1, clZ)
  else if i = 3 then bif hasW s o then none else some (4, 0, clZ)
  else if i = 4 then bif hasW s o then none else some (5, 0, clZ)
  else if i = 5 then bif hasW s o then none else some (6, 0, clZ)
  else if i = 6 then bif hasW s o && !hasW s (wN s o) then some (2, 0, ⟨1, 0, 0, wW s o, ⟨#[]⟩, ⟨#[]⟩⟩) else none
  else if i = 7 then (numL (wW s (wN s o)).data.toList).map fun v => (2, 0, ⟨2, v, 0, wW s o, ⟨#[]⟩, tX s (wN s (wN s o))⟩)
  else if i = 8 then bif hasW s o && !hasW s (wN s o) then some (2, 0, ⟨3, 0, 200, wW s o, ⟨#[]⟩, ⟨#[]⟩⟩) else none
  else if i = 9 then bif hasW s (wN s (wN s o)) then none else (numL (wW s (wN s o)).data.toList).map fun v => (2, 0, ⟨4, 0, v, wW s o, ⟨#[]⟩, ⟨#[]⟩⟩)
  else if i = 10 then bif hasW s (wN s o) && !hasW s (wN s (wN s o)) then some (2, 0, ⟨5, 0, 0, wW s o, wW s (wN s o), ⟨#[]⟩⟩) else none
  else if i = 11 then bif hasW s o && !hasW s (wN s o) then some (2, 0, ⟨6, 0, 0, wW s o, ⟨#[]⟩, ⟨#[]⟩⟩) else none
  else bif hasW s o && hasW s (wN s o) then none else some (2, 0, ⟨7, 0, 0, wW s o, ⟨#[]⟩, ⟨#[]⟩⟩)

open Classical in
noncomputable def cmdI (t : ByteArray) : Option Nat := if ∃ i : Nat, cmds[i]? = some t then some (Classical.epsilon fun i : Nat => cmds[i]? = some t) else none
/-- What a line says. -/
noncomputable def lineA (s : ByteArray) : Option LnA := (cmdI (wW s 0)).bind fun i => ansI i s (wN s 0)
def vaOf : Option LnA → Value
  | none => vaV 0 0 clZ
  | some (k, c, x) => vaV k c x
noncomputable def lineV (s : ByteArray) : Value := vaOf (if s.size ≤ 65536 then lineA s else none)
noncomputable def lineC (s : ByteArray) : Int := if s.size ≤ 65536 then (if (lineA s).isSome then 0 else 3) else 2
theorem cmds_inj : ∀ (i j : Nat) (t : ByteArray), cmds[i]? = some t → cmds[j]? = some t → i = j := by
  have h : ∀ i, i < 13 → ∀ j, j < 13 → (cmds[i]?).map (·.data) = (cmds[j]?).map (·.data) → i = j := by decide +kernel
  intro i j t h1 h2
  have l : cmds.length = 13 := rfl
  have hi : i < 13 := by rw [← l]; exact (List.getElem?_eq_some_iff.1 h1).1
  have hj : j < 13 := by rw [← l]; exact (List.getElem?_eq_some_iff.1 h2).1
  exact h i hi j hj (by rw [h1, h2])
theorem cmdI_at {i : Nat} {t : ByteArray} (h : cmds[i]? = some t) : cmdI t = some i := by
  have hx : ∃ i : Nat, cmds[i]? = some t := ⟨i, h⟩
  rw [cmdI, if_pos hx]
  exact congrArg some (cmds_inj _ _ _ (Classical.epsilon_spec hx) h)
theorem cmdI_no {t : ByteArray} (h : ∀ i : Nat, cmds[i]? ≠ some t) : cmdI t = none := by
  rw [cmdI, if_neg (by rintro ⟨i, hi⟩; exact h i hi)]
theorem no_empty (i : Nat) (hi : i < 13) : cmds[i]? ≠ some ⟨#[]⟩ := by
  have h : ∀ i, i < 13 → (cmds[i]?).map (·.data) ≠ some #[] := by decide +kernel
  exact fun e => h i hi (by rw [e]; rfl)
theorem cmd_cases (t : ByteArray) : (cmdI t = none ∧ ∀ i : Nat, cmds[i]? ≠ some t) ∨ ∃ i : Nat, i < 13 ∧ cmdI t = some i ∧ cmds[i]? = some t := by
  by_cases h : ∃ i : Nat, cmds[i]? = some t
  · obtain ⟨i, hi⟩ := h
    exact .inr ⟨i, (List.getElem?_eq_some_iff.1 hi).1, cmdI_at hi, hi⟩
  · exact .inl ⟨cmdI_no (fun i hi => h ⟨i, hi⟩), fun i hi => h ⟨i, hi⟩⟩
theorem hasW_back {s : ByteArray} {o : Nat} (h : hasW s (wN s o) = true) : hasW s o = true := by
  have h := of_decide_eq_true h
  have h1 := (nb_spec s (wN s o)).1
  have h2 := (we_spec s (nb s o)).1
  have h3 : wN s o = we s (nb s o) + 1 := rfl
  exact decide_eq_true (by omega)
theorem numW {s : ByteArray} {o : Nat} {v : Int} (h : numL (wW s o).data.toList = some v) : hasW s o = true := by
  cases hw : hasW s o with
  | true => rfl
  | false =>
    rw [wW_out hw, show (⟨#[]⟩ : ByteArray).data.toList = [] from rfl, num_nil] at h
    cases h
theorem hasW_end (s : ByteArray) : hasW s s.size = false := decide_eq_false (by rw [nb_out (Nat.le_refl _)]; omega)
end Go.Proofs.YthebbijbedffpaaDoor
