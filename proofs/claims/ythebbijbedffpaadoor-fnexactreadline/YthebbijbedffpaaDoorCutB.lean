/-
  Texts that are cut at blanks: the names of a path, and strings.Cut at a blank.
-/
import Derived.Test.YthebbijbedffpaaDoorByA
import Derived.Lib.Bytealg
import Derived.Lib.IndexLaws
import Derived.Below
import Derived.WalkSmall
import Derived.Deep.QuietTactic
import Derived.BigQuiet
namespace Go.Proofs.YthebbijbedffpaaDoor
open Go.ChangeShapes Go.WideShapes Go.ChangeAt Go.RowKit
set_option linter.unusedVariables false
/-- No blank stands from o on, below j. -/
def NoSl (s : ByteArray) (o j : Nat) : Prop := ∀ k, o ≤ k → k < j → byteAt s k ≠ 32
theorem byteAt_get (s : ByteArray) (k : Nat) (h : k < s.size) : s.data.toList[k]? = some (s[k]) := by
  rw [Array.getElem?_toList]
  exact Array.getElem?_eq_getElem h
theorem byteAt_sl (s : ByteArray) (k : Nat) (h : k < s.size) : byteAt s k = 32 ↔ s.data.toList[k]? = some (32 : UInt8) := by
  rw [byteAt_get s k h, ← byteAt_eq s k h, Option.some_inj]
  constructor
  · intro e
    exact UInt8.toNat_inj.1 (by have : (s[k].toNat : Int) = ((32 : UInt8).toNat : Int) := e; omega)
  · intro e; rw [e]; rfl
theorem byteAt_out (s : ByteArray) (k : Nat) (h : s.size ≤ k) : byteAt s k = 0 := by
  unfold byteAt; rw [dif_neg (by omega)]
/-- Where a text's first blank stands. -/
theorem idx_cases (s : ByteArray) : (Lib.indexByte s.data.toList 32 = -1 ∧ NoSl s 0 s.size) ∨ ∃ k : Nat, Lib.indexByte s.data.toList 32 = k ∧ k < s.size ∧ byteAt s k = 32 ∧ NoSl s 0 k := by
  have hc : ∀ l : List UInt8, Lib.indexByte l 32 = -1 ∨ ∃ k : Nat, Lib.indexByte l 32 = (k : Int) := by
    intro l
    induction l with
    | nil => exact .inl rfl
    | cons b l ih =>
      unfold Lib.indexByte
      by_cases e : (b == 32) = true
      · rw [if_pos e]; exact .inr ⟨0, rfl⟩
      · rw [if_neg e]
        rcases ih with h | ⟨k, h⟩
        · rw [h]; exact .inl rfl
        · rw [h, if_neg (by simp)]; exact .inr ⟨k + 1, rfl⟩
  replace hc := hc s.data.toList
  rcases hc with h | ⟨k, h⟩
  · exact .inl ⟨h, fun k _ hk e => Lib.indexByte_none h k ((byteAt_sl s k hk).1 e)⟩
  · obtain ⟨h1, h2⟩ := Lib.indexByte_some h
    have hk : k < s.size := (List.getElem?_eq_some_iff.1 h1).1
    exact .inr ⟨k, h, hk, (byteAt_sl s k hk).2 h1, fun j _ hj e => h2 j hj ((byteAt_sl s j (by omega)).1 e)⟩
/-- The pieces between blanks, of the piece that began at o, from i on. -/
def scan (s : ByteArray) (o i : Nat) : List ByteArray :=
  if i < s.size then (if byteAt s i = 32 then s.extract o i :: scan s (i + 1) (i + 1) else scan s o (i + 1)) else [s.extract o s.size]
termination_by s.size - i
theorem scan_hit (s : ByteArray) (o i : Nat) (h : i < s.size) (e : byteAt s i = 32) : scan s o i = s.extract o i :: scan s (i + 1) (i + 1) := by
  rw [scan, if_pos h, if_pos e]
theorem scan_on (s : ByteArray) (o i : Nat) (h : i < s.size) (e : byteAt s i ≠ 32) : scan s o i = scan s o (i + 1) := by
  rw [scan, if_pos h, if_neg e]
theorem scan_end (s : ByteArray) (o i : Nat) (h : s.size ≤ i) : scan s o i = [s.extract o s.size] := by
  rw [scan, if_neg (by omega)]
theorem scan_to (s : ByteArray) (o i : Nat) : ∀ (m : Nat), i + m ≤ s.size → NoSl s i (i + m) → scan s o i = scan s o (i + m)
  | 0, _, _ => rfl
  | m + 1, h, hn => by
    rw [scan_to s o i m (by omega) (fun k a b => hn k a (by omega)), scan_on s o (i + m) (by omega) (hn _ (by omega) (by omega))]
    rfl
theorem scan_ne (s : ByteArray) (o i : Nat) : scan s o i ≠ [] := by
  rw [scan]
  split
  · split
    · simp
    · exact scan_ne s o (i + 1)
  · simp
termination_by s.size - i
theorem scan_len (s : ByteArray) (o i : Nat) (hi : i ≤ s.size) : (scan s o i).length ≤ s.size - i + 1 := by
  rw [scan]
  split
  · split
    · have := scan_len s (i + 1) (i + 1) (by omega)
      simp; omega
    · have := scan_len s o (i + 1) (by omega)
      omega
  · simp
termination_by s.size - i
theorem extract_both (s : ByteArray) (o a b : Nat) (h : o + b ≤ s.size) : (s.extract o s.size).extract a b = s.extract (o + a) (o + b) := by
  obtain ⟨⟨l⟩⟩ := s
  have hl : o + b ≤ l.length := h
  apply ByteArray.ext
  simp only [ByteArray.data_extract, Array.extract_extract]
  congr 1
  show min (o + b) _ = _
  have : (ByteArray.mk ⟨l⟩).size = l.length := rfl
  omega
theorem extract_size (s : ByteArray) (a b : Nat) (h : b ≤ s.size) : (s.extract a b).size = b - a := by
  simp [ByteArray.size_extract]; omega
theorem byteAt_extract (s : ByteArray) (o k : Nat) : byteAt (s.extract o s.size) k = byteAt s (o + k) := by
  have hs : (s.extract o s.size).size = s.size - o := extract_size s o s.size (Nat.le_refl _)
  by_cases h : o + k < s.size
  · have h' : k < (s.extract o s.size).size := by omega
    rw [← byteAt_eq _ k h', ← byteAt_eq s (o + k) h, ByteArray.getElem_extract]
  · rw [byteAt_out _ _ (by omega), byteAt_out _ _ (by omega)]
/-- What strings.Cut at a blank hands back, of what stands from o on. -/
def CutIs (s : ByteArray) (o : Nat) (e : Ending) : Prop :=
  (NoSl s o s.size ∧ e = .returned (.tuple #[.string (s.extract o s.size), .string ⟨#[]⟩, .bool false])) ∨
  ∃ j, o ≤ j ∧ j < s.size ∧ byteAt s j = 32 ∧ NoSl s o j ∧ e = .returned (.tuple #[.string (s.extract o j), .string (s.extract (j + 1) s.size), .bool true])
theorem textNe {t s : ByteArray} (h : t ≠ s) : (t.toList == s.toList) = false := by
  rw [beq_eq_false_iff_ne]
  intro e
  rw [ByteArray.toList_eq, ByteArray.toList_eq] at e
  exact h (ByteArray.ext (Array.toList_inj.1 e))
set_option maxRecDepth 100000 in
theorem idxByte_any (s : ByteArray) (w : World) :
    Calls Tryd.prog 67 #[.string s, .int .u8 32] w fun e w' => e = .returned (.int .i64 (Lib.indexByte s.data.toList 32)) ∧ w' = w := by
  go_enter Tryd.func67, Tryd.ntmps67
  go_wp2
  rw [run_callFunc_extern Tryd.func81 (by kernel_rfl) (by kernel_rfl) (by kernel_rfl) (e := Extern.BytealgIndexByte.indexByte) (by kernel_rfl), Lib.run_indexByteString]
  simp only [Result.andThen]
  rw [Oper.upon_value]
  go_wp2
  go_ret
  exact ⟨rfl, rfl⟩
set_option maxRecDepth 100000 in
theorem index_any (s : ByteArray) (w : World) :
    Calls Tryd.prog 55 #[.string s, .string ⟨#[32]⟩] w fun e w' => e = .returned (.int .i64 (Lib.indexByte s.data.toList 32)) ∧ w' = w := by
  by_cases hs : (⟨#[32]⟩ : ByteArray) = s
  · subst hs
    go_enter Tryd.func55, Tryd.ntmps55
    go_wp2
    go_ret
    exact ⟨rfl, rfl⟩
  · have g : ([32] == s.toList) = false := by have := textNe hs; rwa [show (⟨#[32]⟩ : ByteArray).toList = [32] from by rw [ByteArray.toList_eq]] at this
    go_enter Tryd.func55, Tryd.ntmps55
    go_wp2_with (go_at_call 67; refine (idxByte_any _ _).mono ?_; rintro e w' ⟨rfl, rfl⟩)
    go_ret
    exact ⟨rfl, rfl⟩
set_option maxRecDepth 100000 in
theorem liteCut_any (s : ByteArray) (w : World) (hs : s.size ≤ 1048576) :
    Calls Tryd.prog 43 #[.string s, .string ⟨#[32]⟩] w fun e w' => CutIs s 0 e ∧ Below w.heap.size w w' ∧ w'.heap = w.heap := by
  have hz : s.extract 0 s.size = s := ByteArray.extract_zero_size
  rcases idx_cases s with ⟨h, hn⟩ | ⟨k, h, hk, he, hn⟩
  · have HC : Hid (CutIs s 0 (.returned (.tuple #[.string s, .string ⟨#[]⟩, .bool false]))) := .inl ⟨hn, by rw [hz]⟩
    have HI : Hid (∀ w : World, Calls Tryd.prog 55 #[.string s, .string ⟨#[32]⟩] w fun e w' => e = .returned (.int .i64 (-1)) ∧ w' = w) := fun w => by have := index_any s w; rwa [h] at this
    clear hn hz h
    go_enter Tryd.func43, Tryd.ntmps43
    go_wp2_with (go_at_call 55; refine (HI.out _).mono ?_; rintro e w' ⟨rfl, rfl⟩)
    go_ret3
    exact ⟨HC.out, Below.refl _ _, rfl⟩
  · have HC : Hid (CutIs s 0 (.returned (.tuple #[.string (s.extract 0 k), .string (s.extract (k + 1) s.size), .bool true]))) := .inr ⟨k, Nat.zero_le _, hk, he, hn, rfl⟩
    have HI : Hid (∀ w : World, Calls Tryd.prog 55 #[.string s, .string ⟨#[32]⟩] w fun e w' => e = .returned (.int .i64 (k : Int)) ∧ w' = w) := fun w => by have := index_any s w; rwa [h] at this
    clear hn hz h he
    have c1 : (0 : Int) ≤ ↑k := by omega
    have c2 : (↑k : Int) ≤ ↑s.size := by omega
    have c3 : (0 : Int) ≤ ↑k + 1 := by omega
    have c4 : (↑k + 1 : Int) ≤ ↑s.size := by omega
    go_enter Tryd.func43, Tryd.ntmps43
    go_wp2_with (go_at_call 55; refine (HI.out _).mono ?_; rintro e w' ⟨rfl, rfl⟩)
    go_quiet (fail)
    go_wp2
    go_ret3
    exact ⟨HC.out, below_drewN (Below.refl _ _) _, rfl⟩
set_option maxRecDepth 100000 in
theorem cut_any (s : ByteArray) (w : World) (hs : s.size ≤ 1048576) :
    Calls Tryd.prog 35 #[.string s, .string ⟨#[32]⟩] w fun e w' => CutIs s 0 e ∧ Below w.heap.size w w' ∧ w'.heap = w.heap := by
  go_enter Tryd.func35, Tryd.ntmps35
  go_wp2_with fail
  refine (liteCut_any s _ hs).mono ?_
  rintro e w' ⟨⟨hn, rfl⟩ | ⟨j, h1, h2, h3, h4, rfl⟩, hb, hh⟩
  · have HC : Hid (CutIs s 0 (.returned (.tuple #[.string s, .string ⟨#[]⟩, .bool false]))) := .inl ⟨hn, by rw [ByteArray.extract_zero_size]⟩
    clear hn
    go_wp2
    go_ret3
    exact ⟨HC.out, hb, hh⟩
  · have HC : Hid (CutIs s 0 (.returned (.tuple #[.string (s.extract 0 j), .string (s.extract (j + 1) s.size), .bool true]))) := .inr ⟨j, h1, h2, h3, h4, rfl⟩
    clear h1 h2 h3 h4
    go_wp2
    go_ret3
    exact ⟨HC.out, hb, hh⟩
end Go.Proofs.YthebbijbedffpaaDoor
