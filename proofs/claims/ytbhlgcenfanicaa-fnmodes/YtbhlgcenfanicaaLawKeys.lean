/-
  The law of round keys, one text: model, program, and the law's own look at both.
-/
import Derived.Test.YtbhlgcenfanicaaKSpec
import Derived.Test.YtbhlgcenfanicaaKImpl
import Derived.Test.YtbhlgcenfanicaaStrS
namespace Go.Proofs.Ytbhlgcenfanicaa
open Go.ChangeShapes Go.WideShapes Go.ChangeAt Go.RowKit
theorem l01Key_yes (s : ByteArray) (h : s.size = 16 ∨ s.size = 32) (w : World) : Calls Try.prog 30 #[.string s] w fun e w' => e = .returned (.bool true) ∧ w = w' := by
  rcases h with h | h
  · go_enter Try.func30, Try.ntmps30
    go_wp2
    go_ret
    exact ⟨rfl, rfl⟩
  · go_enter Try.func30, Try.ntmps30
    go_wp2
    go_ret
    exact ⟨rfl, rfl⟩
theorem l01Key_no (s : ByteArray) (h1 : s.size ≠ 16) (h2 : s.size ≠ 32) (w : World) : Calls Try.prog 30 #[.string s] w fun e w' => e = .returned (.bool false) ∧ w = w' := by
  have e1 : ((s.size : Int) == 16) = false := by rw [beq_eq_false_iff_ne]; omega
  have e2 : ((s.size : Int) == 32) = false := by rw [beq_eq_false_iff_ne]; omega
  go_enter Try.func30, Try.ntmps30
  go_wp2
  go_ret
  exact ⟨rfl, rfl⟩
theorem strs_of_owned {w : World} {base : Nat} {v : Value} {n : Nat} {f : Nat → ByteArray} (h : w.ownsRow base 9 1 v n ((List.range n).map fun j => .string (f j))) (hn : 0 < n) :
    ∃ p c, v = .slice p n c ∧ Strs w p n f := by
  obtain ⟨g, cap, _, _, rfl, hc⟩ := owned_open h hn
  exact ⟨_, cap, rfl, fun i hi => ⟨g, 0, rfl, by rw [Nat.zero_add]; exact hc i hi⟩⟩
theorem rowIs_drewN {w : World} {b n : Nat} {t : TypeId} {f : Nat → Value} (h : w.rowIs b t n f) (q : Nat) : (w.drewN q).rowIs b t n f := h
theorem Strs.onlyB {w w' : World} {b pb po n : Nat} {f : Nat → ByteArray} (h : Strs w (some ⟨pb, po, none⟩) n f) (ho : OnlyB b w w') (hne : pb ≠ b) : Strs w' (some ⟨pb, po, none⟩) n f := fun i hi => by
  obtain ⟨b1, o1, ha, hc⟩ := h i hi
  cases ha
  exact ⟨pb, po, rfl, by rw [World.cell?_of_block (w := w) (ho.block pb (strBlock hc) hne)]; exact hc⟩
theorem strs0 (w : World) (a : Option Addr) (f : Nat → ByteArray) : Strs w a 0 f := fun i hi => absurd hi (by omega)
end Go.Proofs.Ytbhlgcenfanicaa
