/-
  Contracts of CodeWord and CodeOf in the program and in the model: over a world in which the program's table of words holds its twenty words.
-/
import Derived.Test.YtpjlcllaoaekeagDoorRows
import Derived.WalkKit
import Derived.ProofKit
import Derived.OpenShut
import Derived.ShutString
import Derived.Below
import Derived.Deep.MidRow
import Derived.Deep.OwnRows
import Derived.Test.YtpjlcllaoaekeagDoorArr
namespace Go.Proofs.YtpjlcllaoaekeagDoor
open Go.ChangeShapes Go.WideShapes Go.ChangeAt Go.RowKit
def wordsL : List ByteArray := [⟨#[111, 107]⟩, ⟨#[98, 97, 100]⟩, ⟨#[108, 111, 110, 103]⟩, ⟨#[102, 111, 114, 109]⟩, ⟨#[114, 97, 110, 103, 101]⟩, ⟨#[110, 111, 110, 101]⟩, ⟨#[109, 97, 110, 121]⟩, ⟨#[102, 117, 108, 108]⟩, ⟨#[115, 117, 109]⟩, ⟨#[116, 119, 105, 99, 101]⟩, ⟨#[115, 101, 97, 108, 101, 100]⟩, ⟨#[115, 116, 97, 108, 101]⟩, ⟨#[99, 111, 114, 114, 117, 112, 116]⟩, ⟨#[97, 119, 97, 121]⟩, ⟨#[114, 101, 112, 108, 97, 121]⟩, ⟨#[111, 114, 100, 101, 114]⟩, ⟨#[112, 97, 116, 104]⟩, ⟨#[107, 105, 110, 100]⟩, ⟨#[113, 117, 111, 114, 117, 109]⟩, ⟨#[115, 112, 101, 110, 116]⟩]
/-- The word of a code. -/
def wd (c : Nat) : ByteArray := wordsL.getD c ⟨#[]⟩
/-- The table of words lies in the program's variable. -/
def TabIn (w : World) : Prop := ∀ i, i < 20 → w.cell? ⟨0, i, none⟩ = some (.string (wd i))
theorem lt20 {c : Nat} (h : c < 20) : c = 0 ∨ c = 1 ∨ c = 2 ∨ c = 3 ∨ c = 4 ∨ c = 5 ∨ c = 6 ∨ c = 7 ∨ c = 8 ∨ c = 9 ∨ c = 10 ∨ c = 11 ∨ c = 12 ∨ c = 13 ∨ c = 14 ∨ c = 15 ∨ c = 16 ∨ c = 17 ∨ c = 18 ∨ c = 19 := by omega
def wordsA : Array Value := (wordsL.map Value.string).toArray
theorem wordsA_at (c : Nat) (h : c < 20) : wordsA[c]? = some (.string (wd c)) := by
  rcases lt20 h with rfl | rfl | rfl | rfl | rfl | rfl | rfl | rfl | rfl | rfl | rfl | rfl | rfl | rfl | rfl | rfl | rfl | rfl | rfl | rfl <;> rfl
set_option maxRecDepth 100000 in
theorem specWord_in (c : Nat) (h : c < 20) (w : World) :
    Calls Tryd.prog 5 #[.int .i64 c] w fun e w' => e = .returned (.string (wd c)) ∧ Below w.heap.size w w' := by
  have g : decide ((c : Int) < 0) = false := decide_eq_false (by omega)
  have g' : decide (20 ≤ (c : Int)) = false := decide_eq_false (by omega)


  go_enter Tryd.func5, Tryd.ntmps5
  go_wp2
  go_ret
  refine ⟨?_, (Below.refl _ _).alloc (Nat.le_refl _) _⟩
  clear g g'
  rcases lt20 h with rfl | rfl | rfl | rfl | rfl | rfl | rfl | rfl | rfl | rfl | rfl | rfl | rfl | rfl | rfl | rfl | rfl | rfl | rfl | rfl <;> rfl
set_option maxRecDepth 100000 in
theorem specWord_out (c : Int) (h : c < 0 ∨ 20 ≤ c) (w : World) :
    Calls Tryd.prog 5 #[.int .i64 c] w fun e w' => e = .returned (.string ⟨#[]⟩) ∧ Below w.heap.size w w' := by
  rcases h with h | h
  · have g : decide (c < 0) = true := by simpa using h
    go_enter Tryd.func5, Tryd.ntmps5
    go_wp2
    go_ret
    exact ⟨rfl, (Below.refl _ _).alloc (Nat.le_refl _) _⟩
  · have g : decide (c < 0) = false := decide_eq_false (by omega)
    have g' : decide (20 ≤ c) = true := by simpa using h
    go_enter Tryd.func5, Tryd.ntmps5
    go_wp2
    go_ret
    exact ⟨rfl, (Below.refl _ _).alloc (Nat.le_refl _) _⟩
theorem implWord_in (c : Nat) (h : c < 20) (w : World) (ht : TabIn w) :
    Calls Tryd.prog 6 #[.int .i64 c] w fun e w' => e = .returned (.string (wd c)) ∧ w' = w := by
  have c1 := ht c h
  have g : decide ((c : Int) < 0) = false := decide_eq_false (by omega)
  have g' : decide (20 ≤ (c : Int)) = false := decide_eq_false (by omega)
  clear ht
  go_enter Tryd.func6, Tryd.ntmps6
  go_wp2
  go_ret
  exact ⟨rfl, rfl⟩
theorem implWord_out (c : Int) (h : c < 0 ∨ 20 ≤ c) (w : World) :
    Calls Tryd.prog 6 #[.int .i64 c] w fun e w' => e = .returned (.string ⟨#[]⟩) ∧ w' = w := by
  rcases h with h | h
  · have g : decide (c < 0) = true := by simpa using h
    go_enter Tryd.func6, Tryd.ntmps6
    go_wp2
    go_ret
    exact ⟨rfl, rfl⟩
  · have g : decide (c < 0) = false := decide_eq_false (by omega)
    have g' : decide (20 ≤ c) = true := by simpa using h
    go_enter Tryd.func6, Tryd.ntmps6
    go_wp2
    go_ret
    exact ⟨rfl, rfl⟩
theorem block_of_cell {w : World} {p : Addr} {v : Value} (h : w.cell? p = some v) : p.block < w.heap.size := by
  rcases Nat.lt_or_ge p.block w.heap.size with g | g
  · exact g
  · simp [World.cell?, Array.getElem?_eq_none g] at h
theorem TabIn.below {w w' : World} (h : TabIn w) (hb : Below w.heap.size w w') : TabIn w' := fun i hi => by
  rw [hb.cell (block_of_cell (h i hi))]; exact h i hi
theorem law_codeWord (c : Int) (w : World) (ht : TabIn w) :
    Calls Tryd.prog 3 #[.int .i64 c] w fun e w' => e = .returned (.bool true) ∧ Below w.heap.size w w' := by
  have HT : Hid (TabIn w) := ht
  clear ht
  by_cases hc : 0 ≤ c ∧ c < 20
  · obtain ⟨C, rfl⟩ := Int.eq_ofNat_of_zero_le hc.1
    have h1 : C < 20 := by omega
    clear hc
    go_enter Tryd.func3, Tryd.ntmps3
    go_wp2_with fail
    refine (specWord_in C h1 _).mono ?_; rintro e w1 ⟨rfl, hB⟩
    have HB : Hid (Below w.heap.size w w1) := hB
    clear hB
    go_wp2_with fail
    refine (implWord_in C h1 _ (HT.out.below HB.out)).mono ?_; rintro e w2 ⟨rfl, rfl⟩
    generalize wd C = s
    go_wp2
    go_ret
    exact ⟨rfl, HB.out⟩
  · have H : Hid (c < 0 ∨ 20 ≤ c) := by show _ ∨ _; omega
    clear hc
    go_enter Tryd.func3, Tryd.ntmps3
    go_wp2_with fail
    refine (specWord_out c H.out _).mono ?_; rintro e w1 ⟨rfl, hB⟩
    have HB : Hid (Below w.heap.size w w1) := hB
    clear hB
    go_wp2_with fail
    refine (implWord_out c H.out _).mono ?_; rintro e w2 ⟨rfl, rfl⟩
    go_wp2
    go_ret
    exact ⟨rfl, HB.out⟩

/-- r is the code of the word s, -1 if it is none. -/
def IsCode (s : ByteArray) (r : Int) : Prop := (∃ k : Nat, k < 20 ∧ r = k ∧ wd k = s ∧ ∀ j, j < k → wd j ≠ s) ∨ (r = -1 ∧ ∀ j, j < 20 → wd j ≠ s)
theorem IsCode.same {s : ByteArray} {r r' : Int} (h : IsCode s r) (h' : IsCode s r') : r = r' := by
  rcases h with ⟨k, hk, rfl, e, n⟩ | ⟨rfl, n⟩ <;> rcases h' with ⟨k', hk', rfl, e', n'⟩ | ⟨rfl, n'⟩
  · rcases Nat.lt_trichotomy k k' with g | g | g
    · exact absurd e (n' k g)
    · rw [g]
    · exact absurd e' (n k' g)
  · exact absurd e (n' k hk)
  · exact absurd e' (n k' hk')
  · rfl
theorem list_ne {t s : ByteArray} (h : t ≠ s) : (t.toList == s.toList) = false := by
  rw [beq_eq_false_iff_ne]
  intro g
  rw [ByteArray.toList_eq, ByteArray.toList_eq] at g
  exact h (bytes_inj g)
def Codes (e : Ending) (s : ByteArray) : Prop := ∃ r : Int, e = .returned (.int .i64 r) ∧ IsCode s r
theorem specOf_any (s : ByteArray) (w : World) :
    Calls Tryd.prog 7 #[.string s] w fun e w' => Codes e s ∧ Below w.heap.size w w' := by
  go_enter Tryd.func7, Tryd.ntmps7
  go_wp2
  go_loopw [3] (fun i wr => ∃ k : Nat, k ≤ 20 ∧ i = .int .i64 k ∧ (∀ j, j < k → wd j ≠ s) ∧ Below w.heap.size w wr) (fun i _ => 20 - (intOf i).toNat)
  case atStart => exact ⟨0, by omega, rfl, fun j h => absurd h (by omega), Below.refl _ _⟩
  case round =>
    obtain ⟨k, hk, rfl, hj, hb⟩ := hrel
    have HJ : Hid (∀ j, j < k → wd j ≠ s) := hj
    have HB : Hid (Below w.heap.size w wr) := hb
    clear hj hb
    by_cases hlt : k < 20
    · by_cases he : wd k = s
      · have H : Hid (IsCode s k) := .inl ⟨k, hlt, rfl, he, HJ.out⟩
        have HE : Hid (wd k = s) := he
        clear he
        go_wp2_with fail
        refine (specWord_in k hlt _).mono ?_; rintro e w1 ⟨rfl, hB⟩
        have HB' : Hid (Below wr.heap.size wr w1) := hB
        clear hB
        rw [HE.out]
        go_wp2
        go_ret
        exact ⟨⟨k, rfl, H.out⟩, HB.out.trans (HB'.out.mono HB.out.size)⟩
      · have H : Hid (∀ j, j < k + 1 → wd j ≠ s) := fun j h => by
          rcases Nat.lt_or_ge j k with g | g
          · exact HJ.out j g
          · rw [show j = k from by omega]; exact he
        have hbe : ((wd k).toList == s.toList) = false := list_ne he
        clear he
        go_wp2_with fail
        refine (specWord_in k hlt _).mono ?_; rintro e w1 ⟨rfl, hB⟩
        have HB' : Hid (Below wr.heap.size wr w1) := hB
        clear hB
        generalize wd k = t at *
        go_wp2
        go_roundw
        case rel => exact ⟨k + 1, by omega, by go_num, H.out, HB.out.trans (HB'.out.mono HB.out.size)⟩
        case measure => simp [intOf]; omega
    · have H : Hid (IsCode s (-1)) := .inr ⟨rfl, fun j h => HJ.out j (by omega)⟩
      go_wp2
      go_ret
      exact ⟨⟨-1, rfl, H.out⟩, HB.out⟩
theorem Tryd.size9 : (Tryd.prog.info? 9).map (·.size) = some 1 := by kernel_rfl
theorem Tryd.size27 : (Tryd.prog.info? 27).map (·.size) = some 20 := by kernel_rfl
def wordsV : List Value := wordsL.map Value.string
theorem wordsV_at (c : Nat) (h : c < 20) : wordsV.toArray[c]? = some (.string (wd c)) := by
  rcases lt20 h with rfl | rfl | rfl | rfl | rfl | rfl | rfl | rfl | rfl | rfl | rfl | rfl | rfl | rfl | rfl | rfl | rfl | rfl | rfl | rfl <;> rfl
theorem range_words (w : World) (ht : TabIn w) : w.rangeAt 0 0 wordsV := fun j v hv => by
  have hj : j < 20 := (List.getElem?_eq_some_iff.1 hv).1
  have e := wordsV_at j hj
  rw [List.getElem?_toArray] at e
  rw [e] at hv
  cases hv
  rw [Nat.zero_add]
  exact ht j hj
theorem implOf_any (s : ByteArray) (w : World) (ht : TabIn w) :
    Calls Tryd.prog 8 #[.string s] w fun e w' => Codes e s ∧ w' = w := by
  have HR : Hid (w.rangeAt 0 0 wordsV) := range_words w ht
  clear ht
  go_enter Tryd.func8, Tryd.ntmps8
  go_wp2_with (refine wpList_load_mid rfl 27 (.global 0) rfl 0 0 rfl wordsV _ HR.out Tryd.underlying27 rfl Tryd.size27 ?_)
  have HV : Hid (∀ c, c < 20 → wordsV.toArray[c]? = some (.string (wd c))) := wordsV_at
  generalize wordsV.toArray = A at *
  go_loop [3, 4, 6] (fun _ _ i => ∃ k : Nat, k ≤ 20 ∧ i = .int .i64 k ∧ ∀ j, j < k → wd j ≠ s) (fun _ _ i => 20 - (intOf i).toNat)
  case atStart => exact ⟨0, by omega, rfl, fun j h => absurd h (by omega)⟩
  case round =>
    obtain ⟨k, hk, rfl, hj⟩ := hrel
    have HJ : Hid (∀ j, j < k → wd j ≠ s) := hj
    clear hj
    by_cases hlt : k < 20
    · have ha := run_index_flat (P := Tryd.prog) Tryd.underlying27 Tryd.underlying9 rfl Tryd.size9 hlt (HV.out k hlt)
      by_cases he : wd k = s
      · have H : Hid (IsCode s k) := .inl ⟨k, hlt, rfl, he, HJ.out⟩
        rw [he] at ha
        clear he
        go_wp2
        go_ret
        exact ⟨⟨k, rfl, H.out⟩, rfl⟩
      · have H : Hid (∀ j, j < k + 1 → wd j ≠ s) := fun j h => by
          rcases Nat.lt_or_ge j k with g | g
          · exact HJ.out j g
          · rw [show j = k from by omega]; exact he
        have hbe : ((wd k).toList == s.toList) = false := list_ne he
        clear he
        generalize wd k = t at *
        go_wp2
        go_round
        case rel => exact ⟨k + 1, by omega, by go_num, H.out⟩
        case measure => simp [intOf]; omega
    · have H : Hid (IsCode s (-1)) := .inr ⟨rfl, fun j h => HJ.out j (by omega)⟩
      go_wp2
      go_ret
      exact ⟨⟨-1, rfl, H.out⟩, rfl⟩
theorem law_codeOf (s : ByteArray) (hs : s.size ≤ maxLen) (w : World) (ht : TabIn w) :
    Calls Tryd.prog 4 #[.string s] w fun e w' => e = .returned (.bool true) ∧ Below w.heap.size w w' := by
  have HT : Hid (TabIn w) := ht
  clear ht
  unfold maxLen at hs
  by_cases h : 1048576 < s.size
  · go_enter Tryd.func4, Tryd.ntmps4
    go_wp2
    go_ret
    exact ⟨rfl, Below.refl _ _⟩
  · go_enter Tryd.func4, Tryd.ntmps4
    go_wp2_with fail
    refine (specOf_any s _).mono ?_
    rintro e w1 ⟨⟨r, rfl, hr⟩, hB⟩
    have HB : Hid (Below w.heap.size w w1) := hB
    have HR : Hid (IsCode s r) := hr
    clear hB hr
    go_wp2_with fail
    refine (implOf_any s _ (HT.out.below HB.out)).mono ?_
    rintro e w2 ⟨⟨r', rfl, hr'⟩, rfl⟩
    obtain rfl : r = r' := HR.out.same hr'
    clear hr'
    go_wp2
    go_ret
    exact ⟨rfl, HB.out⟩
end Go.Proofs.YtpjlcllaoaekeagDoor
