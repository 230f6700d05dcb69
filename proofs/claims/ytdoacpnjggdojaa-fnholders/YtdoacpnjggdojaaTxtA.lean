/-
  Texts as functions of their places.
-/
import Derived.Test.YtdoacpnjggdojaaArr
import Derived.Laws.BytesArg
import Derived.OwnWalk
import Derived.Laws.OwnMore
namespace Go.Proofs.Ytdoacpnjggdojaa
open Go.ChangeShapes Go.WideShapes Go.RowKit
/-- The byte of a text at a place; 0 behind the end. -/
def strB (s : ByteArray) (j : Nat) : Nat := if h : j < s.size then s[j].toNat else 0
theorem strB_eq (s : ByteArray) (i : Nat) (h : i < s.size) : (s[i].toNat : Int) = (strB s i : Nat) := by simp [strB, h]
theorem strB_lt (s : ByteArray) (j : Nat) : strB s j < 256 := by
  unfold strB
  split
  · exact UInt8.toNat_lt _
  · omega
/-- n bytes from o on, as a text. -/
def kstr (K : Nat → Nat) (o n : Nat) : ByteArray := strOfNums ((List.range n).map fun i => ((K (o + i) : Nat) : Int))
theorem kstr_size (K : Nat → Nat) (o n : Nat) : (kstr K o n).size = n := by rw [kstr, strOfNums_size]; simp
theorem ba_ext {a b : ByteArray} (h : a.data.toList = b.data.toList) : a = b := by
  cases a with | mk a => cases b with | mk b => congr 1; exact Array.toList_inj.1 h
theorem kstr_data (K : Nat → Nat) (o n : Nat) : (kstr K o n).data.toList = (List.range n).map fun i => UInt8.ofNat (K (o + i)) := by
  rw [kstr, strOfNums_data, List.map_map]; rfl
theorem kstr_congr {K L : Nat → Nat} {o p n : Nat} (h : ∀ i, i < n → K (o + i) = L (p + i)) : kstr K o n = kstr L p n := by
  apply ba_ext
  rw [kstr_data, kstr_data]
  exact List.map_congr_left (fun i hi => by rw [h i (List.mem_range.1 hi)])
theorem kstr_append (K : Nat → Nat) (o a b : Nat) : kstr K o a ++ kstr K (o + a) b = kstr K o (a + b) := by
  apply ba_ext
  rw [ByteArray.data_append, Array.toList_append, kstr_data, kstr_data, kstr_data, List.range_add, List.map_append, List.map_map]
  congr 1
  exact List.map_congr_left (fun i _ => by simp [Nat.add_assoc])
theorem ba_get (s : ByteArray) (i : Nat) (h : i < s.size) : s[i] = s.data.toList[i]'(by simpa using h) := by
  simp [ByteArray.getElem_eq_getElem_data]
theorem kstr_get (K : Nat → Nat) (o n i : Nat) (hK : K (o + i) < 256) (h : i < (kstr K o n).size) : ((kstr K o n)[i].toNat : Int) = (K (o + i) : Nat) := by
  rw [ba_get]
  have hi : i < n := by rwa [kstr_size] at h
  have : (kstr K o n).data.toList[i]'(by simpa using h) = UInt8.ofNat (K (o + i)) := by
    rw [List.getElem_of_eq (kstr_data K o n)]; simp
  rw [this, UInt8.toNat_ofNat']
  rw [Nat.mod_eq_of_lt (by simpa using hK)]
theorem strB_kstr (K : Nat → Nat) (o n i : Nat) (hK : K (o + i) < 256) (h : i < n) : strB (kstr K o n) i = K (o + i) := by
  have hs : i < (kstr K o n).size := by rw [kstr_size]; exact h
  have := kstr_get K o n i hK hs
  unfold strB
  rw [dif_pos hs]
  omega
theorem strB_get (s : ByteArray) (i : Nat) (h : i < s.size) : UInt8.ofNat (strB s i) = s.data.toList[i]'(by simpa using h) := by
  unfold strB
  rw [dif_pos h, ← ba_get s i h]
  simp
theorem kstr_self (s : ByteArray) : kstr (strB s) 0 s.size = s := by
  apply ba_ext
  rw [kstr_data]
  apply List.ext_getElem
  · simp
  · intro i h1 h2
    rw [List.getElem_map, List.getElem_range, Nat.zero_add]
    exact strB_get s i (by simpa using h2)
theorem kstr_extract (s : ByteArray) (o n : Nat) (h : o + n ≤ s.size) : s.extract o (o + n) = kstr (strB s) o n := by
  apply ba_ext
  rw [kstr_data, ByteArray.data_extract]
  apply List.ext_getElem
  · simp; omega
  · intro i h1 h2
    have hi : i < n := by simpa using h2
    rw [List.getElem_map, List.getElem_range, strB_get s (o + i) (by omega)]
    simp
theorem strB_list (s : ByteArray) (j : Nat) : strB s j = ((s.data.toList[j]?).getD 0).toNat := by
  unfold strB
  by_cases h : j < s.size
  · rw [dif_pos h]
    have h' : j < s.data.toList.length := by simpa using h
    rw [List.getElem?_eq_getElem h', Option.getD_some, ← ba_get s j h]
  · rw [dif_neg h]
    have h' : s.data.toList.length ≤ j := by
      have : s.data.toList.length = s.size := by simp
      omega
    rw [List.getElem?_eq_none h']
    rfl
theorem strB_append (s t : ByteArray) (j : Nat) : strB (s ++ t) j = if j < s.size then strB s j else strB t (j - s.size) := by
  have hl : s.data.toList.length = s.size := by simp
  rw [strB_list, strB_list, strB_list, ByteArray.data_append, Array.toList_append]
  by_cases h : j < s.size
  · rw [if_pos h, List.getElem?_append_left (by omega)]
  · rw [if_neg h, List.getElem?_append_right (by omega), hl]
theorem own_mono {w : World} {base base' : Nat} {e : TypeId} {size : Nat} {v : Value} {n : Nat} {xs : List Value} (h : w.ownsRow base e size v n xs) (hb : base' ≤ base) : w.ownsRow base' e size v n xs := by
  obtain ⟨hl, h0 | ⟨g, cap, cur, hv, h1, h2⟩⟩ := h
  · exact ⟨hl, .inl h0⟩
  · exact ⟨hl, .inr ⟨g, cap, cur, hv, Nat.le_trans hb h1, h2⟩⟩
end Go.Proofs.Ytdoacpnjggdojaa
