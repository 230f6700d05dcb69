/-
  The order of paths as numbers: texts of forty bytes at most, and strings.Compare.
-/
import Derived.Test.YtgcdoabcopihlaaGreatRise
import Derived.Test.YtgcdoabcopihlaaGreatCutM
import Derived.Test.YtgcdoabcopihlaaGreatPathS
import Derived.Lib.Bytealg
namespace Go.Proofs.YtgcdoabcopihlaaGreat
open Go.ChangeShapes Go.WideShapes Go.ChangeAt Go.RowKit
set_option linter.unusedVariables false
/-- A text as a number, of m digits. -/
def rk : Nat → List UInt8 → Nat
  | 0, _ => 0
  | _ + 1, [] => 0
  | m + 1, b :: l => (b.toNat + 1) * 257 ^ m + rk m l
theorem rk_lt : ∀ (m : Nat) (l : List UInt8), rk m l < 257 ^ m
  | 0, _ => by simp [rk]
  | m + 1, [] => by simp only [rk]; exact Nat.pow_pos (by omega)
  | m + 1, b :: l => by
    have h1 := rk_lt m l
    have h2 := b.toNat_lt
    simp only [rk, Nat.pow_succ]
    have h3 : (b.toNat + 1) * 257 ^ m ≤ 256 * 257 ^ m := Nat.mul_le_mul_right _ (by omega)
    omega
theorem rk_pos {m : Nat} (b : UInt8) (l : List UInt8) : 0 < rk (m + 1) (b :: l) := by
  have : 0 < 257 ^ m := Nat.pow_pos (by omega)
  simp only [rk]
  have : 1 * 257 ^ m ≤ (b.toNat + 1) * 257 ^ m := Nat.mul_le_mul_right _ (by omega)
  omega
theorem rk_cmp : ∀ (m : Nat) (l r : List UInt8), l.length ≤ m → r.length ≤ m → Lib.compareBytes l r = cmpI (rk m l : Nat) (rk m r : Nat)
  | 0, l, r, hl, hr => by
    obtain rfl := List.eq_nil_of_length_eq_zero (Nat.le_zero.1 hl)
    obtain rfl := List.eq_nil_of_length_eq_zero (Nat.le_zero.1 hr)
    rfl
  | m + 1, [], [], _, _ => by simp [Lib.compareBytes, rk, cmpI]
  | m + 1, [], b :: r, _, _ => by
    have := rk_pos (m := m) b r
    rw [cmpI_lt (by simp only [rk]; simp only [rk] at this; omega)]; rfl
  | m + 1, a :: l, [], _, _ => by
    have := rk_pos (m := m) a l
    rw [cmpI_gt (by simp only [rk]; simp only [rk] at this; omega)]; rfl
  | m + 1, a :: l, b :: r, hl, hr => by
    have ih := rk_cmp m l r (by simpa using hl) (by simpa using hr)
    have h1 := rk_lt m l
    have h2 := rk_lt m r
    unfold Lib.compareBytes
    have key : ∀ x y : UInt8, x < y → (x.toNat + 1) * 257 ^ m + 257 ^ m ≤ (y.toNat + 1) * 257 ^ m := fun x y h => by
      have hx : x.toNat < y.toNat := UInt8.lt_iff_toNat_lt.1 h
      have := Nat.mul_le_mul_right (257 ^ m) (show x.toNat + 1 + 1 ≤ y.toNat + 1 by omega)
      rw [Nat.add_mul (x.toNat + 1) 1] at this
      omega
    by_cases g1 : a < b
    · have := key a b g1
      rw [if_pos g1, cmpI_lt (by simp only [rk]; omega)]
    · by_cases g2 : b < a
      · have := key b a g2
        rw [if_neg g1, if_pos g2, cmpI_gt (by simp only [rk]; omega)]
      · have e : a = b := UInt8.toNat_inj.1 (by
          have n1 : ¬ a.toNat < b.toNat := fun h => g1 (UInt8.lt_iff_toNat_lt.2 h)
          have n2 : ¬ b.toNat < a.toNat := fun h => g2 (UInt8.lt_iff_toNat_lt.2 h)
          omega)
        subst e
        rw [if_neg g1, if_neg g2, ih]
        simp only [rk]
        unfold cmpI
        generalize (a.toNat + 1) * 257 ^ m = q
        split <;> split <;> (try split) <;> omega
theorem cmpB_zero : ∀ {l r : List UInt8}, Lib.compareBytes l r = 0 → l = r
  | [], [], _ => rfl
  | [], _ :: _, h => by cases h
  | _ :: _, [], h => by cases h
  | a :: l, b :: r, h => by
    unfold Lib.compareBytes at h
    by_cases g1 : a < b
    · rw [if_pos g1] at h; cases h
    · by_cases g2 : b < a
      · rw [if_neg g1, if_pos g2] at h; cases h
      · rw [if_neg g1, if_neg g2] at h
        have e : a = b := UInt8.toNat_inj.1 (by
          have n1 : ¬ a.toNat < b.toNat := fun h => g1 (UInt8.lt_iff_toNat_lt.2 h)
          have n2 : ¬ b.toNat < a.toNat := fun h => g2 (UInt8.lt_iff_toNat_lt.2 h)
          omega)
        rw [e, cmpB_zero h]
/-- The rank of a path. -/
def ord (s : ByteArray) : Int := (rk 40 s.data.toList : Nat)
theorem ord_cmp {s t : ByteArray} (hs : s.size ≤ 40) (ht : t.size ≤ 40) : Lib.compareBytes s.data.toList t.data.toList = cmpI (ord s) (ord t) :=
  rk_cmp 40 _ _ (by rw [Array.length_toList]; exact hs) (by rw [Array.length_toList]; exact ht)
theorem ord_inj {s t : ByteArray} (hs : s.size ≤ 40) (ht : t.size ≤ 40) (h : ord s = ord t) : s = t := by
  have := ord_cmp hs ht
  rw [cmpI_eq h] at this
  exact ByteArray.ext (Array.toList_inj.1 (cmpB_zero this))
theorem rk_take : ∀ (m k : Nat) (l : List UInt8), k < l.length → l.length ≤ m → rk m (l.take k) < rk m l
  | 0, k, l, h, hm => by omega
  | m + 1, k, [], h, hm => by simp at h
  | m + 1, 0, b :: l, h, hm => by rw [List.take_zero]; show rk (m + 1) [] < _; exact rk_pos b l
  | m + 1, k + 1, b :: l, h, hm => by
    have := rk_take m k l (by simpa using h) (by simpa using hm)
    simp only [List.take_succ_cons, rk]
    omega
theorem extract_take (s : ByteArray) (k : Nat) : (s.extract 0 k).data.toList = s.data.toList.take k := by
  simp [ByteArray.data_extract, Array.toList_extract, List.extract]
theorem lastTo_lt (s : ByteArray) (h : 0 < s.size) : lastTo s s.size < s.size := by
  have : ∀ k, 0 < k → lastTo s k < k := fun k hk => by
    cases k with
    | zero => omega
    | succ k => unfold lastTo; split; omega; have := lastTo_le s k; omega
  exact this _ h
/-- A parent stands ahead. -/
theorem ord_par {s : ByteArray} (h0 : 0 < s.size) (h : s.size ≤ 40) : ord (par s) < ord s := by
  unfold ord par
  rw [extract_take]
  have := rk_take 40 (lastTo s s.size) s.data.toList (by rw [Array.length_toList]; exact lastTo_lt s h0) (by rw [Array.length_toList]; exact h)
  omega
theorem par_size (s : ByteArray) : (par s).size ≤ s.size := by
  unfold par
  rw [extract_size _ _ _ (lastTo_le _ _)]
  have := lastTo_le s s.size
  omega
theorem pathOk_pos {s : ByteArray} (h : PathOk s) : 0 < s.size := by
  rcases Nat.eq_zero_or_pos s.size with e | e
  · have h1 := h.2 (s.extract 0 s.size) (by rw [scan_end s 0 0 (by omega)]; simp)
    have := h1.1
    rw [extract_size _ _ _ (Nat.le_refl _)] at this
    omega
  · exact e
set_option maxRecDepth 100000 in
theorem cmpString_any (a b : ByteArray) (w : World) :
    Calls Tryz.prog 102 #[.string a, .string b] w fun e w' => e = .returned (.int .i64 (Lib.compareBytes a.data.toList b.data.toList)) ∧ w' = w := by
  go_enter Tryz.func102, Tryz.ntmps102
  go_wp2
  rw [run_callFunc_extern Tryz.func118 (by kernel_rfl) (by kernel_rfl) (by kernel_rfl) (e := Extern.BytealgCompare.compare) (by kernel_rfl), Lib.run_compareString]
  simp only [Result.andThen]
  rw [Oper.upon_value]
  go_wp2
  go_ret
  exact ⟨rfl, rfl⟩
theorem compare_any (a b : ByteArray) (ha : a.size ≤ 40) (hb : b.size ≤ 40) (w : World) :
    Calls Tryz.prog 68 #[.string a, .string b] w fun e w' => e = .returned (.int .i64 (cmpI (ord a) (ord b))) ∧ w' = w := by
  have HC : Hid (∀ w : World, Calls Tryz.prog 102 #[.string a, .string b] w fun e w' => e = .returned (.int .i64 (cmpI (ord a) (ord b))) ∧ w' = w) := fun w => by have := cmpString_any a b w; rwa [ord_cmp ha hb] at this
  generalize cmpI (ord a) (ord b) = y at *
  clear ha hb
  go_enter Tryz.func68, Tryz.ntmps68
  go_wp2_with fail
  refine (HC.out _).mono ?_
  rintro e w' ⟨rfl, rfl⟩
  clear HC
  go_wp2
  go_ret
  exact ⟨rfl, rfl⟩
end Go.Proofs.YtgcdoabcopihlaaGreat
