/-
  Texts of the proof, joined: SlotR2.
-/
import Derived.Test.YtbecnaabmlkjjabGreatDoorP29
import Derived.Test.YtbecnaabmlkjjabGreatDoorP02
import Derived.Test.YtbecnaabmlkjjabGreatDoorP05
namespace Go.Proofs.YtbecnaabmlkjjabGreatDoor
open Go.ChangeShapes Go.WideShapes Go.ChangeAt Go.RowKit
set_option linter.unusedVariables false
theorem rdS_short (k : ByteArray) (p n : Nat) (f : Nat → Nat) (h : n < 20) : rdS k p n f = false := by unfold rdS; rw [decide_eq_false (by omega), Bool.false_and]
theorem unsealed_any (k : ByteArray) (p : Nat) (a : Option Addr) (n c : Nat) (f : Nat → Nat) (hf : ∀ i, f i < 256) (hk : k.size = 32) (hp : p < 4294967296) (hn : n ≤ 65536) (hcap : n ≤ c) (w : World) (hc : Code8 w a n f) (ht : Tabs w) :
    Calls Tryz.prog 53 #[.string k, .int .i64 (p : Int), .slice a n c] w fun e w' => e = .returned (.tuple #[.agg #[.int .i64 (rdE k p n f), .string (rdD k p n f)], .int .i64 (rdC k p n f)]) ∧ Below w.heap.size w w' := by
  by_cases h20 : n < 20
  · obtain ⟨e1, e2, e3⟩ := rd_no (rdS_short k p n f h20)
    rw [e1, e2, e3]
    by_cases h4 : n < 4
    · exact unsealed_short k p a n c h4 w
    · obtain ⟨b, o, rfl, -⟩ := hc.opened (by omega)
      exact unsealed_mid k p b o n c f hf hk hp (by omega) h20 hcap w hc ht
  · obtain ⟨m, rfl⟩ : ∃ m, n = m + 20 := ⟨n - 20, by omega⟩
    obtain ⟨b, o, rfl, -⟩ := hc.opened (by omega)
    exact unsealed_long k p b o m c f hf hk hp (by omega) hcap w hc ht
theorem l06Read_any (k : ByteArray) (p : Nat) (t : ByteArray) (hk : k.size = 32) (hp : p < 4294967296) (hn : t.size ≤ 65536) (w : World) :
    Calls Tryz.prog 49 #[.string k, .int .i64 (p : Int), .string t] w fun e w' => e = .returned (.tuple #[.agg #[.int .i64 (rdE k p t.size (strB t)), .string (rdD k p t.size (strB t))], .bool (rdS k p t.size (strB t))]) ∧ Below w.heap.size w w' := by
  by_cases h20 : t.size < 20
  · have h := rdS_short k p t.size (strB t) h20
    obtain ⟨e1, e2, -⟩ := rd_no h
    rw [e1, e2, h]
    exact l06Read_short k p t h20 w
  · exact l06Read_long k p (t.size - 20) t hk hp (by omega) (by omega) w
theorem eqSlot_yes (E : Int) (D : ByteArray) (w : World) :
    Calls Tryz.prog 10 #[.agg #[.int .i64 E, .string D], .agg #[.int .i64 E, .string D]] w fun e w' => e = .returned (.bool true) ∧ Below w.heap.size w w' := by
  have A1 : Hid (Below w.heap.size w ((w.alloc (.cells #[.int .i64 E, .string D] 28)).alloc (.cells #[.int .i64 E, .string D] 28))) := ((Below.refl _ _).alloc (Nat.le_refl _) _).alloc (by simp) _
  have e1 : (E != E) = false := by simp
  go_enter Tryz.func10, Tryz.ntmps10
  go_wp2
  go_ret
  exact ⟨rfl, A1.out⟩
end Go.Proofs.YtbecnaabmlkjjabGreatDoor
