/-
  Texts of the proof, joined: OpenB.
-/
import Derived.Test.YtbecnaabmlkjjabGreatDoorQ36
import Derived.Test.YtbecnaabmlkjjabGreatDoorQ24
namespace Go.Proofs.YtbecnaabmlkjjabGreatDoor
open Go.ChangeShapes Go.WideShapes Go.ChangeAt Go.RowKit
theorem implOpen_form (k s : ByteArray) (a b : Option Addr) (m x n c : Nat) (hn : n < 16) (hf : ∀ w : World, Calls Tryz.prog 88 #[.string k, .string s, .int .i64 (m : Int), .int .i64 (n : Int), .int .i64 65536] w fun e w' => e = .returned (.int .i64 0) ∧ w = w') (w : World) :
    Calls Tryz.prog 75 #[.string k, .string s, .slice a m x, .slice b n c] w fun e w' => e = .returned (.tuple #[.slice none 0 0, .int .i64 3]) ∧ w = w' := by
  have FA : Hid (∀ w : World, Calls Tryz.prog 88 #[.string k, .string s, .int .i64 (m : Int), .int .i64 (n : Int), .int .i64 65536] w fun e w' => e = .returned (.int .i64 0) ∧ w = w') := hf
  have e1 : (n : Int) < 16 := by omega
  clear hf hn
  go_enter_defers Tryz.func75, Tryz.ntmps75
  go_wp2_with fail
  refine (FA.out _).mono ?_
  rintro e w' ⟨rfl, rfl⟩
  go_wp2
  exact ⟨_, results_tmp2 rfl _ _ _, rfl, rfl⟩
def okT (k s : ByteArray) (m : Nat) (fx : Nat → Nat) (n : Nat) (f : Nat → Nat) : Bool := (((difF (strB (tagT k s m fx n f)) (fun i => f (n + i)) 0 16 : Nat) : Int) == 0)
def RetOpen (w w' : World) (e : Ending) (n : Nat) (F : Nat → Nat) (r : Bool) : Prop := if r then RetB2 w w' e n F (.int .i64 0) else e = .returned (.tuple #[.slice none 0 0, .int .i64 10])
theorem RetOpen.no {w w' : World} {e : Ending} {n : Nat} {F : Nat → Nat} (h : e = .returned (.tuple #[.slice none 0 0, .int .i64 10])) : RetOpen w w' e n F false := by unfold RetOpen; rw [if_neg (by decide)]; exact h
theorem RetOpen.yes {w w' : World} {e : Ending} {n : Nat} {F : Nat → Nat} (h : RetB2 w w' e n F (.int .i64 0)) : RetOpen w w' e n F true := by unfold RetOpen; rw [if_pos rfl]; exact h
end Go.Proofs.YtbecnaabmlkjjabGreatDoor
