/-
  Bytes that tell a bank: what is read of them and written again.
-/
import Derived.Test.YtmejmpdnmhnheabDoorReadB
import Derived.Test.YtmejmpdnmhnheabDoorBankBy
namespace Go.Proofs.YtmejmpdnmhnheabDoor
open Go.ChangeShapes Go.WideShapes Go.ChangeAt Go.RowKit
set_option linter.unusedVariables false
/-- n bytes of F from o on. -/
def seg (F : Nat → Nat) (o n : Nat) : List Nat := (List.range n).map fun i => F (o + i)
theorem seg_length (F : Nat → Nat) (o n : Nat) : (seg F o n).length = n := by unfold seg; simp
theorem seg_append (F : Nat → Nat) (o a b : Nat) : seg F o (a + b) = seg F o a ++ seg F (o + a) b := by
  unfold seg
  rw [List.range_add, List.map_append, List.map_map]
  congr 1
  exact List.map_congr_left (fun i _ => by show F (o + (a + i)) = F (o + a + i); rw [Nat.add_assoc])
theorem seg_one (F : Nat → Nat) (o : Nat) : seg F o 1 = [F o] := by unfold seg; simp [List.range, List.range.loop]
theorem valN_div (g : Nat → Nat) (hg : ∀ i, g i < 256) : ∀ (k j : Nat), j ≤ k → valN g k / 256 ^ (k - j) = valN g j
  | 0, j, h => by
    obtain rfl : j = 0 := by omega
    simp [valN]
  | k + 1, j, h => by
    rcases Nat.lt_or_ge j (k + 1) with q | q
    · have ih := valN_div g hg k j (by omega)
      have h1 : valN g (k + 1) / 256 = valN g k := by
        have := hg k
        show (valN g k * 256 + g k) / 256 = valN g k
        omega
      rw [show k + 1 - j = (k - j) + 1 from by omega, Nat.pow_succ, Nat.mul_comm, ← Nat.div_div_eq_div_mul, h1, ih]
    · obtain rfl : j = k + 1 := by omega
      simp
theorem numL_valN (g : Nat → Nat) (hg : ∀ i, g i < 256) (k : Nat) : numL k (valN g k) = (List.range k).map g := by
  unfold numL numP
  refine List.map_congr_left (fun j hj => ?_)
  have hj' := List.mem_range.1 hj
  have e : (2 : Nat) ^ (8 * (k - 1 - j)) = 256 ^ (k - (j + 1)) := by
    rw [Nat.pow_mul, show (2 : Nat) ^ 8 = 256 from by decide, show k - 1 - j = k - (j + 1) from by omega]
  rw [e, valN_div g hg k (j + 1) (by omega)]
  have := hg j
  show (valN g j * 256 + g j) % 256 = g j
  omega
theorem strL_kstr (K : Nat → Nat) (hK : ∀ i, K i < 256) (n : Nat) : strL (kstr K 0 n) = (List.range n).map K := by
  unfold strL
  rw [kstr_data, List.map_map]
  refine List.map_congr_left (fun i hi => ?_)
  show (UInt8.ofNat (K (0 + i))).toNat = K i
  rw [Nat.zero_add]
  have := hK i
  simp
  omega
theorem strL_at (s : ByteArray) : strL s = seg (strB s) 0 s.size := by
  have := strL_kstr (strB s) (strB_lt s) s.size
  rw [kstr_self] at this
  rw [this]
  unfold seg
  exact List.map_congr_left (fun i _ => by rw [Nat.zero_add])
theorem rgL_pRg (F : Nat → Nat) (hF : ∀ i, F i < 256) (i : Nat) : rgL (pRg F i) = seg F (1 + 37 * i) 37 := by
  unfold rgL pRg
  dsimp only
  rw [Int.toNat_natCast, Int.toNat_natCast, numL_valN _ (fun j => hF _) 4, strL_kstr _ (fun j => hF _) 32]
  have e1 : [valN (fun j => F (1 + 37 * i + j)) 1] = seg F (1 + 37 * i) 1 := by rw [seg_one]; simp [valN]
  rw [e1]
  have e2 : (List.range 4).map (fun j => F (1 + 37 * i + 1 + j)) = seg F (1 + 37 * i + 1) 4 := rfl
  have e3 : (List.range 32).map (fun j => F (1 + 37 * i + 1 + 4 + j)) = seg F (1 + 37 * i + 5) 32 := rfl
  rw [e2, e3, ← seg_append F (1 + 37 * i) 1 4, show 1 + 37 * i + 5 = 1 + 37 * i + (1 + 4) from rfl, ← seg_append F (1 + 37 * i) (1 + 4) 32]
/-- Sessions from o on. -/
def pSeO (F : Nat → Nat) (o i : Nat) : Se := ⟨((valN (fun j => F (o + 9 * i + j)) 2 : Nat) : Int), ((valN (fun j => F (o + 9 * i + 2 + j)) 2 : Nat) : Int), ((valN (fun j => F (o + 9 * i + 2 + 2 + j)) 1 : Nat) : Int), ((valN (fun j => F (o + 9 * i + 2 + 2 + 1 + j)) 4 : Nat) : Int)⟩
theorem pSe_O (F : Nat → Nat) (i : Nat) : pSe F i = pSeO F (1 + 37 * pNr F + 1) i := rfl
theorem seL_pSeO (F : Nat → Nat) (hF : ∀ i, F i < 256) (o i : Nat) : seL (pSeO F o i) = seg F (o + 9 * i) 9 := by
  unfold seL pSeO
  dsimp only
  rw [Int.toNat_natCast, Int.toNat_natCast, Int.toNat_natCast, Int.toNat_natCast, numL_valN _ (fun j => hF _) 2, numL_valN _ (fun j => hF _) 2, numL_valN _ (fun j => hF _) 4]
  have e1 : [valN (fun j => F (o + 9 * i + 2 + 2 + j)) 1] = seg F (o + 9 * i + (2 + 2)) 1 := by rw [seg_one]; simp [valN, Nat.add_assoc]
  rw [e1]
  have e2 : (List.range 2).map (fun j => F (o + 9 * i + j)) = seg F (o + 9 * i) 2 := rfl
  have e3 : (List.range 2).map (fun j => F (o + 9 * i + 2 + j)) = seg F (o + 9 * i + 2) 2 := rfl
  have e4 : (List.range 4).map (fun j => F (o + 9 * i + 2 + 2 + 1 + j)) = seg F (o + 9 * i + (2 + 2 + 1)) 4 := rfl
  rw [e2, e3, e4, ← seg_append F (o + 9 * i) 2 2, ← seg_append F (o + 9 * i) (2 + 2) 1, ← seg_append F (o + 9 * i) (2 + 2 + 1) 4]
theorem flatL_seg {T : Type} (g : T → List Nat) (G : Nat → T) (F : Nat → Nat) (o c : Nat) (h : ∀ i, g (G i) = seg F (o + c * i) c) (n : Nat) : flatL g G n = seg F o (c * n) := by
  induction n with
  | zero => simp [flatL, seg]
  | succ n ih =>
    unfold flatL
    rw [ih, h n, Nat.mul_succ, seg_append]
/-- The bank that k registers and m sessions make. -/
def pK (F : Nat → Nat) (k m : Nat) : Bk := ⟨k, pRg F, m, pSeO F (1 + 37 * k + 1)⟩
theorem pB_K (F : Nat → Nat) : pB F = pK F (pNr F) (pNs F) := rfl
theorem pNr_at (F : Nat → Nat) : pNr F = F 0 := by simp [pNr, valN]
theorem pNs_at (F : Nat → Nat) : pNs F = F (1 + 37 * pNr F) := by simp [pNs, valN]
theorem bankL_pK (F : Nat → Nat) (hF : ∀ i, F i < 256) (k m : Nat) : bankL (pK F k m) = [k] ++ seg F 1 (37 * k) ++ [m] ++ seg F (1 + 37 * k + 1) (9 * m) := by
  unfold bankL pK
  dsimp only
  rw [flatL_seg rgL (pRg F) F 1 37 (fun i => rgL_pRg F hF i) k, flatL_seg seL (pSeO F (1 + 37 * k + 1)) F (1 + 37 * k + 1) 9 (fun i => seL_pSeO F hF _ i) m]
/-- What is read is written as it was, just if the bytes are whole. -/
theorem bytes_whole (F : Nat → Nat) (hF : ∀ i, F i < 256) (N : Nat) (h : Whole N F) : bankL (pB F) = seg F 0 N := by
  rw [pB_K, bankL_pK F hF]
  unfold Whole at h
  have e1 : [pNr F] = seg F 0 1 := by rw [seg_one, pNr_at]
  have e2 : [pNs F] = seg F (0 + (1 + 37 * pNr F)) 1 := by rw [seg_one, pNs_at, Nat.zero_add]
  have a1 := seg_append F 0 1 (37 * pNr F)
  have a2 := seg_append F 0 (1 + 37 * pNr F) 1
  have a3 := seg_append F 0 (1 + 37 * pNr F + 1) (9 * pNs F)
  rw [Nat.zero_add] at a1 a3
  rw [e1, e2, ← a1, ← a2, ← a3, h]
theorem whole_of {F : Nat → Nat} {hF : ∀ i, F i < 256} {N k m : Nat} (h : bankL (pK F k m) = seg F 0 N) : k = pNr F ∧ m = pNs F ∧ Whole N F := by
  have hl := congrArg List.length h
  rw [bankL_pK F hF, seg_length] at hl
  simp only [List.length_append, List.length_cons, List.length_nil, seg_length] at hl
  have h0 := congrArg (fun L => L.getD 0 999) h
  have h1 := congrArg (fun L => L.getD (1 + 37 * k) 999) h
  rw [bankL_pK F hF] at h0 h1
  have g0 : (seg F 0 N).getD 0 999 = F 0 := by unfold seg; simp [show 0 < N by omega]
  have g1 : (seg F 0 N).getD (1 + 37 * k) 999 = F (1 + 37 * k) := by unfold seg; simp [show 1 + 37 * k < N by omega]
  rw [g0] at h0
  rw [g1] at h1
  have k0 : ([k] ++ seg F 1 (37 * k) ++ [m] ++ seg F (1 + 37 * k + 1) (9 * m)).getD 0 999 = k := by simp
  have k1 : ([k] ++ seg F 1 (37 * k) ++ [m] ++ seg F (1 + 37 * k + 1) (9 * m)).getD (1 + 37 * k) 999 = m := by
    rw [List.append_assoc ([k] ++ seg F 1 (37 * k))]
    have hlen : ([k] ++ seg F 1 (37 * k)).length = 1 + 37 * k := by simp [seg_length]; omega
    rw [List.getD_eq_getElem?_getD, List.getElem?_append_right (by omega), hlen, Nat.sub_self]
    simp
  rw [k0] at h0
  rw [k1] at h1
  have e0 : k = pNr F := by rw [pNr_at]; exact h0
  have e1 : m = pNs F := by rw [pNs_at, ← e0]; exact h1
  refine ⟨e0, e1, ?_⟩
  unfold Whole
  rw [← e0, ← e1]
  omega
end Go.Proofs.YtmejmpdnmhnheabDoor
