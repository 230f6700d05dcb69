/-
  Texts of the proof, joined: TxtA, AnyH, Cols.
-/
import Derived.Test.YtboekhegbachpaaGreatDoorS03
import Derived.Laws.BytesArg
import Derived.OwnWalk
import Derived.Laws.OwnMore
import Derived.Deep.RegionHeld3
import Derived.Deep.RegionHeldLaw
import Derived.Test.YtboekhegbachpaaGreatDoorRows
import Derived.WalkKit
import Derived.ProofKit
namespace Go.Proofs.YtboekhegbachpaaGreatDoor
open Go.ChangeShapes Go.WideShapes Go.RowKit
def strB (s : ByteArray) (j : Nat) : Nat := if h : j < s.size then s[j].toNat else 0
theorem strB_eq (s : ByteArray) (i : Nat) (h : i < s.size) : (s[i].toNat : Int) = (strB s i : Nat) := by simp [strB, h]
theorem strB_lt (s : ByteArray) (j : Nat) : strB s j < 256 := by
 unfold strB
 split
 ·exact UInt8.toNat_lt _
 ·omega
def kstr (K : Nat → Nat) (o n : Nat) : ByteArray := strOfNums ((List.range n).map fun i => ((K (o + i) : Nat) : Int))
theorem kstr_size (K : Nat → Nat) (o n : Nat) : (kstr K o n).size = n := by rw [kstr, strOfNums_size]; simp
theorem ba_ext {a b : ByteArray} (h : a.data.toList = b.data.toList) : a = b := by
 cases a with | mk a => cases b with | mk b => congr 1; exact Array.toList_inj.1 h
theorem kstr_data (K : Nat → Nat) (o n : Nat) : (kstr K o n).data.toList = (List.range n).map fun i => UInt8.ofNat (K (o + i)) := by
 rw [kstr, strOfNums_data, List.map_map]; rfl
theorem kstr_congr {K L : Nat → Nat} {o p n : Nat} (h : ∀ i, i < n → K (o + i) = L (p + i)) : kstr K o n = kstr L p n := by
 apply ba_ext
 rw [kstr_data, kstr_data]
 exact List.map_congr_left (fun i hi => by rw [h i (List.mem_range.1 hi)])
theorem kstr_append (K : Nat → Nat) (o a b : Nat) : kstr K o a ++ kstr K (o + a) b = kstr K o (a + b) := by
 apply ba_ext
 rw [ByteArray.data_append, Array.toList_append, kstr_data, kstr_data, kstr_data, List.range_add, List.map_append, List.map_map]
 congr 1
 exact List.map_congr_left (fun i _ => by simp [Nat.add_assoc])
theorem ba_get (s : ByteArray) (i : Nat) (h : i < s.size) : s[i] = s.data.toList[i]'(by simpa using h) := by
 simp [ByteArray.getElem_eq_getElem_data]
theorem kstr_get (K : Nat → Nat) (o n i : Nat) (hK : K (o + i) < 256) (h : i < (kstr K o n).size) : ((kstr K o n)[i].toNat : Int) = (K (o + i) : Nat) := by
 rw [ba_get]
 have hi : i < n := by rwa [kstr_size] at h
 have : (kstr K o n).data.toList[i]'(by simpa using h) = UInt8.ofNat (K (o + i)) := by
  rw [List.getElem_of_eq (kstr_data K o n)]; simp
 rw [this, UInt8.toNat_ofNat']
 rw [Nat.mod_eq_of_lt (by simpa using hK)]
theorem strB_kstr (K : Nat → Nat) (o n i : Nat) (hK : K (o + i) < 256) (h : i < n) : strB (kstr K o n) i = K (o + i) := by
 have hs : i < (kstr K o n).size := by rw [kstr_size]; exact h
 have := kstr_get K o n i hK hs
 unfold strB
 rw [dif_pos hs]
 omega
theorem strB_get (s : ByteArray) (i : Nat) (h : i < s.size) : UInt8.ofNat (strB s i) = s.data.toList[i]'(by simpa using h) := by
 unfold strB
 rw [dif_pos h, ← ba_get s i h]
 simp
theorem kstr_self (s : ByteArray) : kstr (strB s) 0 s.size = s := by
 apply ba_ext
 rw [kstr_data]
 apply List.ext_getElem
 ·simp
 ·intro i h1 h2
  rw [List.getElem_map, List.getElem_range, Nat.zero_add]
  exact strB_get s i (by simpa using h2)
theorem kstr_extract (s : ByteArray) (o n : Nat) (h : o + n ≤ s.size) : s.extract o (o + n) = kstr (strB s) o n := by
 apply ba_ext
 rw [kstr_data, ByteArray.data_extract]
 apply List.ext_getElem
 ·simp; omega
 ·intro i h1 h2
  have hi : i < n := by simpa using h2
  rw [List.getElem_map, List.getElem_range, strB_get s (o + i) (by omega)]
  simp
theorem strB_list (s : ByteArray) (j : Nat) : strB s j = ((s.data.toList[j]?).getD 0).toNat := by
 unfold strB
 by_cases h : j < s.size
 ·rw [dif_pos h]
  have h' : j < s.data.toList.length := by simpa using h
  rw [List.getElem?_eq_getElem h', Option.getD_some, ← ba_get s j h]
 ·rw [dif_neg h]
  have h' : s.data.toList.length ≤ j := by
   have : s.data.toList.length = s.size := by simp
   omega
  rw [List.getElem?_eq_none h']
  rfl
theorem strB_append (s t : ByteArray) (j : Nat) : strB (s ++ t) j = if j < s.size then strB s j else strB t (j - s.size) := by
 have hl : s.data.toList.length = s.size := by simp
 rw [strB_list, strB_list, strB_list, ByteArray.data_append, Array.toList_append]
 by_cases h : j < s.size
 ·rw [if_pos h, List.getElem?_append_left (by omega)]
 ·rw [if_neg h, List.getElem?_append_right (by omega), hl]
theorem own_mono {w : World} {base base' : Nat} {e : TypeId} {size : Nat} {v : Value} {n : Nat} {xs : List Value} (h : w.ownsRow base e size v n xs) (hb : base' ≤ base) : w.ownsRow base' e size v n xs := by
 obtain ⟨hl, h0 | ⟨g, cap, cur, hv, h1, h2⟩⟩ := h
 ·exact ⟨hl, .inl h0⟩
 ·exact ⟨hl, .inr ⟨g, cap, cur, hv, Nat.le_trans hb h1, h2⟩⟩
end Go.Proofs.YtboekhegbachpaaGreatDoor
namespace Go.Proofs.YtboekhegbachpaaGreatDoor
theorem wpAnyH_strong {P : Program} {md : Region.Mode} {ops : Array Oper} {Q : Exit → Act → World → Prop} {S S' : World → Prop} (hS : ∀ w, S' w → S w) :
  ∀ (fuel : Nat) (listed : Array Bool) (a : Act) (w : World), wpAnyH P md ops Q S' fuel listed a w → wpAnyH P md ops Q S fuel listed a w
 | 0, _, _, _, h => h
 | fuel + 1, _, _, _, h => ⟨h.1, fun i hi => wpOp_mono (fun a' w' h' => ⟨hS _ h'.1, wpAnyH_strong hS fuel _ a' w' h'.2⟩) (h.2 i hi)⟩
end Go.Proofs.YtboekhegbachpaaGreatDoor
namespace Go.Proofs.YtboekhegbachpaaGreatDoor
open Go.ChangeShapes Go.WideShapes Go.ChangeAt Go.RowKit
theorem Tryz.sizeU8 : (Tryz.prog.info? 5).map (·.size) = some 1 := by kernel_rfl
theorem idx0 (x0 x1 x2 x3 : Int) (w : World) : (Instr.index 183 (.agg #[.int .u8 x0, .int .u8 x1, .int .u8 x2, .int .u8 x3]) (.int .i64 0)).run Tryz.prog w = .ok (.int .u8 x0) w := run_index_flat (k := 0) Tryz.underlying183 Tryz.underlying5 rfl Tryz.sizeU8 (by omega) rfl w
theorem idx1 (x0 x1 x2 x3 : Int) (w : World) : (Instr.index 183 (.agg #[.int .u8 x0, .int .u8 x1, .int .u8 x2, .int .u8 x3]) (.int .i64 1)).run Tryz.prog w = .ok (.int .u8 x1) w := run_index_flat (k := 1) Tryz.underlying183 Tryz.underlying5 rfl Tryz.sizeU8 (by omega) rfl w
theorem idx2 (x0 x1 x2 x3 : Int) (w : World) : (Instr.index 183 (.agg #[.int .u8 x0, .int .u8 x1, .int .u8 x2, .int .u8 x3]) (.int .i64 2)).run Tryz.prog w = .ok (.int .u8 x2) w := run_index_flat (k := 2) Tryz.underlying183 Tryz.underlying5 rfl Tryz.sizeU8 (by omega) rfl w
theorem idx3 (x0 x1 x2 x3 : Int) (w : World) : (Instr.index 183 (.agg #[.int .u8 x0, .int .u8 x1, .int .u8 x2, .int .u8 x3]) (.int .i64 3)).run Tryz.prog w = .ok (.int .u8 x3) w := run_index_flat (k := 3) Tryz.underlying183 Tryz.underlying5 rfl Tryz.sizeU8 (by omega) rfl w
end Go.Proofs.YtboekhegbachpaaGreatDoor
