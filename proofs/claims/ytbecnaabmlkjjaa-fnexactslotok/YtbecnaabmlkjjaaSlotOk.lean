/-
  Whether a slot is right: the program, the model, and the laws' helpers on slots.
-/
import Derived.Test.YtbecnaabmlkjjaaInAny
import Derived.Test.YtbecnaabmlkjjaaBytes
import Derived.Laws.ResultCell
import Derived.Below
import Derived.ChangeOld
namespace Go.Proofs.Ytbecnaabmlkjjaa
open Go.ChangeShapes Go.WideShapes Go.ChangeAt Go.RowKit
set_option linter.unusedVariables false
/-- A slot is right. -/
def SlotR (ep : Int) (s : ByteArray) : Prop := 1 ≤ ep ∧ ep ≤ 4294967295 ∧ s.size ≤ 170
theorem retCell1 {P : Program} {fn : Func} {p : Tmp} {ty : TypeId} {tmps : Array Value} {w : World} {b : Nat} {v : Value} {Post : Ending → World → Prop} (h : fn.results = #[.cell p ty]) (hp : tmps.getD p undef = .pointer (some ⟨b, 0, none⟩)) (hl : (loadVar ty ⟨b, 0, none⟩).run P w = .ok v w) (hq : Post (.returned v) w) : bodyPost P fn Post .ret { tmps := tmps, defers := [] } w :=
  bodyPost_ret (results_cell_one h tmps P w hp hl) rfl hq
theorem retCell2 {P : Program} {fn : Func} {p u : Tmp} {ty : TypeId} {tmps : Array Value} {w : World} {b : Nat} {v x : Value} {Post : Ending → World → Prop} (h : fn.results = #[.cell p ty, .tmp u]) (hp : tmps.getD p undef = .pointer (some ⟨b, 0, none⟩)) (hu : tmps.getD u undef = x) (hl : (loadVar ty ⟨b, 0, none⟩).run P w = .ok v w) (hq : Post (.returned (.tuple #[v, x])) w) : bodyPost P fn Post .ret { tmps := tmps, defers := [] } w := by
  refine bodyPost_ret (v := .tuple #[v, x]) ?_ rfl hq
  rw [results_cell_tmp h, hp, hu]
  simp [asAddr, hl, Result.andThen]
theorem slot0 (w : World) (ep : Int) (s : ByteArray) (t : TypeId) : (w.alloc (.cells #[.int .i64 ep, .string s] t)).cell? ⟨w.heap.size, 0, none⟩ = some (.int .i64 ep) := by simp
theorem slot1 (w : World) (ep : Int) (s : ByteArray) (t : TypeId) : (w.alloc (.cells #[.int .i64 ep, .string s] t)).cell? ⟨w.heap.size, 1, none⟩ = some (.string s) := by simp
set_option maxRecDepth 100000 in
theorem implSlotOK_any (ep : Int) (s : ByteArray) (r : Bool) (hr : r = true ↔ SlotR ep s) (w : World) :
    Calls Try.prog 7 #[.agg #[.int .i64 ep, .string s]] w fun e w' => e = .returned (.bool r) ∧ Below w.heap.size w w' := by
  have A1 : Hid (Below w.heap.size w (w.alloc (.cells #[.int .i64 ep, .string s] 26))) := (Below.refl _ _).alloc (Nat.le_refl _) _
  unfold SlotR at hr
  by_cases h1 : 1 ≤ ep
  · by_cases h2 : ep ≤ 4294967295
    · by_cases h3 : s.size ≤ 170
      · obtain rfl : r = true := hr.2 (by omega)
        have h3' : (s.size : Int) ≤ 170 := by omega
        clear hr h3
        go_enter Try.func7, Try.ntmps7
        go_wp2
        go_ret
        exact ⟨rfl, A1.out⟩
      · obtain rfl : r = false := Bool.eq_false_iff.2 (fun h => by have := hr.1 h; omega)
        have h3' : ¬ (s.size : Int) ≤ 170 := by omega
        clear hr h3
        go_enter Try.func7, Try.ntmps7
        go_wp2
        go_ret
        exact ⟨rfl, A1.out⟩
    · obtain rfl : r = false := Bool.eq_false_iff.2 (fun h => by have := hr.1 h; omega)
      clear hr
      go_enter Try.func7, Try.ntmps7
      go_wp2
      go_ret
      exact ⟨rfl, A1.out⟩
  · obtain rfl : r = false := Bool.eq_false_iff.2 (fun h => by have := hr.1 h; omega)
    clear hr
    go_enter Try.func7, Try.ntmps7
    go_wp2
    go_ret
    exact ⟨rfl, A1.out⟩
set_option maxRecDepth 100000 in
theorem specSlotOK_any (ep : Int) (s : ByteArray) (r : Bool) (hr : r = true ↔ SlotR ep s) (w : World) :
    Calls Try.prog 5 #[.agg #[.int .i64 ep, .string s]] w fun e w' => e = .returned (.bool r) ∧ Below w.heap.size w w' := by
  have A1 : Hid (Below w.heap.size w (w.alloc (.cells #[.int .i64 ep, .string s] 26))) := (Below.refl _ _).alloc (Nat.le_refl _) _
  unfold SlotR at hr
  obtain ⟨q, hq⟩ : ∃ q : Bool, q = decide (1 ≤ ep ∧ ep ≤ 4294967295) := ⟨_, rfl⟩
  have IN : Hid (∀ w : World, Calls Try.prog 8 #[.int .i64 ep, .int .i64 1, .int .i64 4294967295] w fun e w' => e = .returned (.bool q) ∧ w = w') := fun w => in_any ep 1 4294967295 q hq w
  cases q with
  | true =>
    have hq' := of_decide_eq_true hq.symm
    by_cases h3 : s.size ≤ 170
    · obtain rfl : r = true := hr.2 (by omega)
      have h3' : (s.size : Int) ≤ 170 := by omega
      have h4 : decide ((s.size : Int) ≤ 170) = true := decide_eq_true h3'
      clear hr h3 hq hq'
      go_enter Try.func5, Try.ntmps5
      go_wp2_with fail
      refine (IN.out _).mono ?_
      rintro e v1 ⟨rfl, rfl⟩
      go_wp2
      go_ret
      exact ⟨rfl, A1.out⟩
    · obtain rfl : r = false := Bool.eq_false_iff.2 (fun h => by have := hr.1 h; omega)
      have h3' : ¬ (s.size : Int) ≤ 170 := by omega
      have h4 : decide ((s.size : Int) ≤ 170) = false := decide_eq_false h3'
      clear hr h3 hq hq'
      go_enter Try.func5, Try.ntmps5
      go_wp2_with fail
      refine (IN.out _).mono ?_
      rintro e v1 ⟨rfl, rfl⟩
      go_wp2
      go_ret
      exact ⟨rfl, A1.out⟩
  | false =>
    have hq' := of_decide_eq_false hq.symm
    obtain rfl : r = false := Bool.eq_false_iff.2 (fun h => by have := hr.1 h; omega)
    clear hr hq hq'
    go_enter Try.func5, Try.ntmps5
    go_wp2_with fail
    refine (IN.out _).mono ?_
    rintro e v1 ⟨rfl, rfl⟩
    go_wp2
    go_ret
    exact ⟨rfl, A1.out⟩
def RetY (e : Ending) (m : Nat) : Prop := ∃ y : Int, e = .returned (.int .i64 y) ∧ (0 ≤ y → m ≤ 1048576)
theorem szSlot_any (ep : Int) (s : ByteArray) (hs : s.size ≤ maxLen) (w : World) :
    Calls Try.prog 4 #[.agg #[.int .i64 ep, .string s], .int .i64 1048576] w fun e w' => RetY e s.size ∧ Below w.heap.size w w' := by
  have A1 : Hid (Below w.heap.size w (w.alloc (.cells #[.int .i64 ep, .string s] 23))) := (Below.refl _ _).alloc (Nat.le_refl _) _
  unfold maxLen at hs
  by_cases h : s.size ≤ 1048576
  · have h1 : ¬ (1048576 : Int) - (s.size : Int) < 0 := by omega
    go_enter Try.func4, Try.ntmps4
    go_wp2
    go_ret
    exact ⟨⟨_, rfl, fun _ => h⟩, A1.out⟩
  · have h1 : (1048576 : Int) - (s.size : Int) < 0 := by omega
    go_enter Try.func4, Try.ntmps4
    go_wp2
    go_ret
    exact ⟨⟨_, rfl, fun q => absurd q (by omega)⟩, A1.out⟩
set_option maxRecDepth 100000 in
theorem toSlot_any (ep : Int) (s : ByteArray) (w : World) :
    Calls Try.prog 6 #[.agg #[.int .i64 ep, .string s]] w fun e w' => e = .returned (.agg #[.int .i64 ep, .string s]) ∧ Below w.heap.size w w' := by
  go_enter Try.func6, Try.ntmps6
  go_wp2
  refine retCell1 (b := w.heap.size + 1) (v := .agg #[.int .i64 ep, .string s]) Try.results6 rfl (by go_simp) ⟨rfl, (((Below.refl w.heap.size w).alloc (Nat.le_refl _) _).alloc (by simp) _).alloc (by simp; omega) _⟩
set_option maxRecDepth 100000 in
/-- The exact law of SlotOK. -/
theorem law_slotOK (ep : Int) (s : ByteArray) (hs : s.size ≤ maxLen) (w : World) :
    Calls Try.prog 3 #[.agg #[.int .i64 ep, .string s]] w fun e w' => e = .returned (.bool true) ∧ Below w.heap.size w w' := by
  obtain ⟨r, hr⟩ : ∃ r : Bool, r = true ↔ SlotR ep s := by
    by_cases h : SlotR ep s
    · exact ⟨true, fun _ => h, fun _ => rfl⟩
    · exact ⟨false, fun q => (by cases q), fun q => absurd q h⟩
  have SZ : Hid (∀ w : World, Calls Try.prog 4 #[.agg #[.int .i64 ep, .string s], .int .i64 1048576] w fun e w' => RetY e s.size ∧ Below w.heap.size w w') := fun w => szSlot_any ep s hs w
  have TS : Hid (∀ w : World, Calls Try.prog 6 #[.agg #[.int .i64 ep, .string s]] w fun e w' => e = .returned (.agg #[.int .i64 ep, .string s]) ∧ Below w.heap.size w w') := fun w => toSlot_any ep s w
  have SO : Hid (∀ w : World, Calls Try.prog 5 #[.agg #[.int .i64 ep, .string s]] w fun e w' => e = .returned (.bool r) ∧ Below w.heap.size w w') := fun w => specSlotOK_any ep s r hr w
  have IY : Hid (∀ w : World, Calls Try.prog 7 #[.agg #[.int .i64 ep, .string s]] w fun e w' => e = .returned (.bool r) ∧ Below w.heap.size w w') := fun w => implSlotOK_any ep s r hr w
  have A1 : Hid (Below w.heap.size w (w.alloc (.cells #[.int .i64 ep, .string s] 23))) := (Below.refl _ _).alloc (Nat.le_refl _) _
  have C0 := slot0 w ep s 23
  have C1 := slot1 w ep s 23
  have L1 : w.heap.size < (w.alloc (.cells #[.int .i64 ep, .string s] 23)).heap.size := by simp
  have er : (r != r) = false := by simp
  clear hr hs
  go_enter Try.func3, Try.ntmps3
  go_wp2_with fail
  generalize (w.alloc (.cells #[.int .i64 ep, .string s] 23)) = v at *
  refine (SZ.out _).mono ?_
  rintro e v1 ⟨⟨y, rfl, -⟩, hb⟩
  replace A1 : Hid (Below w.heap.size w v1) := A1.out.trans (hb.mono A1.out.size)
  replace C0 := (hb.cell L1).trans C0
  replace C1 := (hb.cell L1).trans C1
  replace L1 := Nat.lt_of_lt_of_le L1 hb.size
  clear hb
  by_cases hy : y < 0
  · go_wp2
    go_ret
    exact ⟨rfl, A1.out⟩
  · go_wp2_with fail
    refine (TS.out _).mono ?_
    rintro e v2 ⟨rfl, hb⟩
    replace A1 : Hid (Below w.heap.size w v2) := A1.out.trans (hb.mono A1.out.size)
    replace C0 := (hb.cell L1).trans C0
    replace C1 := (hb.cell L1).trans C1
    replace L1 := Nat.lt_of_lt_of_le L1 hb.size
    clear hb
    go_wp2_with fail
    refine (SO.out _).mono ?_
    rintro e v3 ⟨rfl, hb⟩
    replace A1 : Hid (Below w.heap.size w v3) := A1.out.trans (hb.mono A1.out.size)
    replace C0 := (hb.cell L1).trans C0
    replace C1 := (hb.cell L1).trans C1
    replace L1 := Nat.lt_of_lt_of_le L1 hb.size
    clear hb
    go_wp2_with fail
    refine (TS.out _).mono ?_
    rintro e v4 ⟨rfl, hb⟩
    replace A1 : Hid (Below w.heap.size w v4) := A1.out.trans (hb.mono A1.out.size)
    clear hb C0 C1 L1
    go_wp2_with fail
    refine (IY.out _).mono ?_
    rintro e v5 ⟨rfl, hb⟩
    replace A1 : Hid (Below w.heap.size w v5) := A1.out.trans (hb.mono A1.out.size)
    clear hb
    go_wp2
    go_ret
    exact ⟨rfl, A1.out⟩
end Go.Proofs.Ytbecnaabmlkjjaa
