/-
  The exact law of HexText.
-/
import Derived.Test.YtbajdphiaibmgabHex
namespace Go.Proofs.Ytbajdphiaibmgab
open Go.ChangeShapes Go.WideShapes Go.ChangeAt Go.RowKit
theorem implHex_long (t : ByteArray) (h : 65536 < t.size) (w : World) :
    Calls Try.prog 6 #[.string t] w fun e w' => e = .returned (.tuple #[.string ⟨#[]⟩, .int .i64 2]) ∧ Below w.heap.size w w' := by
  have e1 : (65536 : Int) < t.size := by omega
  go_enter Try.func6, Try.ntmps6
  go_wp2
  go_ret2
  exact ⟨rfl, Below.refl _ _⟩
theorem specHex_long (t : ByteArray) (h : 65536 < t.size) (w : World) :
    Calls Try.prog 5 #[.string t] w fun e w' => e = .returned (.tuple #[.string ⟨#[]⟩, .int .i64 2]) ∧ Below w.heap.size w w' := by
  have e1 : (65536 : Int) < t.size := by omega
  go_enter Try.func5, Try.ntmps5
  go_wp2
  go_ret2
  exact ⟨rfl, Below.refl _ _⟩
theorem specHex_yes (t : ByteArray) (h : t.size ≤ 65536) (w : World) :
    Calls Try.prog 5 #[.string t] w fun e w' => e = .returned (.tuple #[.string (kstr (hexF t) 0 (2 * t.size)), .int .i64 0]) ∧ Below w.heap.size w w' := by
  have e1 : ¬ (65536 : Int) < t.size := by omega
  have HX : Hid (∀ w : World, Calls Try.prog 11 #[.string t] w fun e w' => e = .returned (.string (kstr (hexF t) 0 (2 * t.size))) ∧ Below w.heap.size w w') := l03Hex_any t h
  generalize kstr (hexF t) 0 (2 * t.size) = X at *
  go_enter Try.func5, Try.ntmps5
  go_wp2_with fail
  refine (HX.out _).mono ?_
  rintro e w1 ⟨rfl, hb⟩
  have B1 : Hid (Below w.heap.size w w1) := hb
  clear hb
  go_wp2
  go_ret2
  exact ⟨rfl, B1.out⟩
theorem lawHex_of (t g : ByteArray) (code : Int) (h0 : t.size ≤ 1048576)
    (hsp : ∀ w : World, Calls Try.prog 5 #[.string t] w fun e w' => e = .returned (.tuple #[.string g, .int .i64 code]) ∧ Below w.heap.size w w')
    (him : ∀ w : World, Calls Try.prog 6 #[.string t] w fun e w' => e = .returned (.tuple #[.string g, .int .i64 code]) ∧ Below w.heap.size w w') (w : World) :
    Calls Try.prog 3 #[.string t] w fun e w' => e = .returned (.bool true) ∧ Below w.heap.size w w' := by
  have SP : Hid (∀ w : World, Calls Try.prog 5 #[.string t] w fun e w' => e = .returned (.tuple #[.string g, .int .i64 code]) ∧ Below w.heap.size w w') := hsp
  have IM : Hid (∀ w : World, Calls Try.prog 6 #[.string t] w fun e w' => e = .returned (.tuple #[.string g, .int .i64 code]) ∧ Below w.heap.size w w') := him
  have e1 : ¬ (1048576 : Int) < t.size := by omega
  have hcc : (code != code) = false := by simp
  clear hsp him
  go_enter Try.func3, Try.ntmps3
  go_wp2_with fail
  refine (SP.out _).mono ?_
  rintro e w1 ⟨rfl, hb⟩
  have B1 : Hid (Below w.heap.size w w1) := hb
  clear hb
  go_wp2_with fail
  refine (IM.out _).mono ?_
  rintro e w2 ⟨rfl, hb⟩
  have B2 : Hid (Below w.heap.size w w2) := B1.out.trans (hb.mono B1.out.size)
  clear hb B1
  go_wp2
  go_ret
  exact ⟨rfl, B2.out⟩
theorem law_hexText (t : ByteArray) (w : World) :
    Calls Try.prog 3 #[.string t] w fun e w' => e = .returned (.bool true) ∧ Below w.heap.size w w' := by
  by_cases h0 : t.size ≤ 1048576
  · by_cases hl : 65536 < t.size
    · exact lawHex_of t ⟨#[]⟩ 2 h0 (specHex_long t hl) (implHex_long t hl) w
    · exact lawHex_of t _ 0 h0 (specHex_yes t (by omega)) (implHex_yes t (by omega)) w
  · have e1 : (1048576 : Int) < t.size := by omega
    clear h0
    go_enter Try.func3, Try.ntmps3
    go_wp2
    go_ret
    exact ⟨rfl, Below.refl _ _⟩
end Go.Proofs.Ytbajdphiaibmgab
