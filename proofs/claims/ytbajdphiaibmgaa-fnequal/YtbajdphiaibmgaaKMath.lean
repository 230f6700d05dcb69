/-
  Plain mathematics of round keys as texts: no function of the program in sight.
-/
import Derived.Test.YtbajdphiaibmgaaKeys
import Derived.Laws.BytesArg
namespace Go.Proofs.Ytbajdphiaibmgaa
open Go.ChangeShapes Go.WideShapes Go.ChangeAt Go.RowKit
namespace Gf
theorem kt_congr {n : Nat} {L L' : Nat → Nat} {i r : Nat} (hr : r < 4) (h : ∀ r, r < 4 → L r = L' r) : kt n L i r = kt n L' i r := by
  unfold kt
  rw [h 1 (by omega), h ((r + 1) % 4) (Nat.mod_lt _ (by omega)), h r hr]
theorem ws_stay {key : Nat → Nat} {n : Nat} (t : Nat) : ∀ d j, j < (n + t) * 4 → ws key n (t + d) j = ws key n t j := by
  intro d
  induction d with
  | zero => intro j _; rfl
  | succ d ih =>
    intro j hj
    rw [← Nat.add_assoc, ws_old _ _ (Or.inl (by omega)), ih j hj]
theorem ws_key {key : Nat → Nat} {n : Nat} (t j : Nat) (hj : j < n * 4) : ws key n t j = key j := by
  have := ws_stay (key := key) (n := n) 0 t j (by omega)
  rw [Nat.zero_add] at this
  rw [this]
  show (if j < n * 4 then key j else 0) = key j
  rw [if_pos hj]
theorem ws_rec {key : Nat → Nat} {n M : Nat} (hn : 1 ≤ n) (I r : Nat) (hI : n ≤ I) (hM : I < n + M) (hr : r < 4) :
    ws key n M (I * 4 + r) = ws key n M ((I - n) * 4 + r) ^^^ kt n (fun r => ws key n M ((I - 1) * 4 + r)) I r := by
  obtain ⟨t, rfl⟩ : ∃ t, I = n + t := ⟨I - n, by omega⟩
  obtain ⟨d, rfl⟩ : ∃ d, M = t + 1 + d := ⟨M - (t + 1), by omega⟩
  rw [ws_stay (t + 1) d _ (by omega), ws_new t r hr]
  have e1 : ws key n (t + 1 + d) ((n + t - n) * 4 + r) = ws key n t (t * 4 + r) := by
    rw [show n + t - n = t from by omega, show t + 1 + d = t + (1 + d) from by omega, ws_stay t (1 + d) _ (by omega)]
  rw [e1]
  congr 1
  refine kt_congr hr (fun r hr => ?_)
  show _ = ws key n (t + 1 + d) ((n + t - 1) * 4 + r)
  rw [show t + 1 + d = t + (1 + d) from by omega, ws_stay t (1 + d) _ (by omega)]
theorem mul_two : ∀ x, x < 256 → mul x 2 = dbl x := by decide +kernel
end Gf
/-- n bytes from o on, as a text. -/
def kstr (K : Nat → Nat) (o n : Nat) : ByteArray := strOfNums ((List.range n).map fun i => ((K (o + i) : Nat) : Int))
theorem kstr_size (K : Nat → Nat) (o n : Nat) : (kstr K o n).size = n := by rw [kstr, strOfNums_size]; simp
theorem ba_ext {a b : ByteArray} (h : a.data.toList = b.data.toList) : a = b := by
  cases a with | mk a => cases b with | mk b => congr 1; exact Array.toList_inj.1 h
theorem kstr_data (K : Nat → Nat) (o n : Nat) : (kstr K o n).data.toList = (List.range n).map fun i => UInt8.ofNat (K (o + i)) := by
  rw [kstr, strOfNums_data, List.map_map]; rfl
theorem kstr_congr {K L : Nat → Nat} {o p n : Nat} (h : ∀ i, i < n → K (o + i) = L (p + i)) : kstr K o n = kstr L p n := by
  apply ba_ext
  rw [kstr_data, kstr_data]
  exact List.map_congr_left (fun i hi => by rw [h i (List.mem_range.1 hi)])
theorem kstr_append (K : Nat → Nat) (o a b : Nat) : kstr K o a ++ kstr K (o + a) b = kstr K o (a + b) := by
  apply ba_ext
  rw [ByteArray.data_append, Array.toList_append, kstr_data, kstr_data, kstr_data, List.range_add, List.map_append, List.map_map]
  congr 1
  exact List.map_congr_left (fun i _ => by simp [Nat.add_assoc])
theorem ba_get (s : ByteArray) (i : Nat) (h : i < s.size) : s[i] = s.data.toList[i]'(by simpa using h) := by
  simp [ByteArray.getElem_eq_getElem_data]
theorem kstr_get (K : Nat → Nat) (o n i : Nat) (hK : K (o + i) < 256) (h : i < (kstr K o n).size) : ((kstr K o n)[i].toNat : Int) = (K (o + i) : Nat) := by
  rw [ba_get]
  have hi : i < n := by rwa [kstr_size] at h
  have : (kstr K o n).data.toList[i]'(by simpa using h) = UInt8.ofNat (K (o + i)) := by
    rw [List.getElem_of_eq (kstr_data K o n)]; simp
  rw [this, UInt8.toNat_ofNat']
  rw [Nat.mod_eq_of_lt (by simpa using hK)]
theorem strB_kstr (K : Nat → Nat) (o n i : Nat) (hK : K (o + i) < 256) (h : i < n) : strB (kstr K o n) i = K (o + i) := by
  have hs : i < (kstr K o n).size := by rw [kstr_size]; exact h
  have := kstr_get K o n i hK hs
  unfold strB
  rw [dif_pos hs]
  omega
theorem strB_get (s : ByteArray) (i : Nat) (h : i < s.size) : UInt8.ofNat (strB s i) = s.data.toList[i]'(by simpa using h) := by
  unfold strB
  rw [dif_pos h, ← ba_get s i h]
  simp
theorem kstr_self (s : ByteArray) : kstr (strB s) 0 s.size = s := by
  apply ba_ext
  rw [kstr_data]
  apply List.ext_getElem
  · simp
  · intro i h1 h2
    rw [List.getElem_map, List.getElem_range, Nat.zero_add]
    exact strB_get s i (by simpa using h2)
theorem kstr_extract (s : ByteArray) (o n : Nat) (h : o + n ≤ s.size) : s.extract o (o + n) = kstr (strB s) o n := by
  apply ba_ext
  rw [kstr_data, ByteArray.data_extract]
  apply List.ext_getElem
  · simp; omega
  · intro i h1 h2
    have hi : i < n := by simpa using h2
    rw [List.getElem_map, List.getElem_range, strB_get s (o + i) (by omega)]
    simp
end Go.Proofs.Ytbajdphiaibmgaa
