/-
  Contracts of the exact laws' helpers on slices of bytes: a copy, an equality, a marking, a look at the marks.
-/
import Derived.Test.YtgcdoabcopihlaaGreatCode8
import Derived.OpenShut
import Derived.Deep.OwnRows
import Derived.OwnWalk
import Derived.Lib.SliceRun
import Derived.Lib.AppendZeros
import Derived.Laws.IdiomCopy
import Derived.LoopN
import Derived.BigRegion
import Init
import Derived.Test.YtgcdoabcopihlaaGreatRows
import Derived.WalkKit
import Derived.Test.YtgcdoabcopihlaaGreatTxtA
import Derived.Laws.BytesArg
import Derived.ArgAppend
import Derived.Lib.AppendStr
import Derived.Laws.IdiomStrings
import Derived.Laws.AppendOwnNone
import Derived.Lib.AppendZerosOnto
import Derived.Laws.Tables
import Derived.Shelf.Spec.SlicesInsert
import Derived.ProofKit
import Derived.Below
import Derived.WalkSmall
namespace Go.Proofs.YtgcdoabcopihlaaGreat
open Go.ChangeShapes Go.WideShapes Go.ChangeAt Go.RowKit
theorem numEq8 {k : IntKind} {a b : Int} (h : a = b) : Value.int k a = .int k b := by rw [h]
theorem Tryz.info8 : (Tryz.prog.info? 5).map (fun i => (i.zero, i.size, i.bytes)) = some (some (.int .u8 0), 1, 1) := by kernel_rfl
theorem mkBytes (n : Nat) (hn : n ≤ 10000000) (w : World) : (Instr.makeSlice 22 (.int .i64 (n : Int)) (.int .i64 (n : Int))).run Tryz.prog w = .ok (.slice (some ⟨w.heap.size, 0, none⟩) n n) (w.alloc (.cells (madeCells #[.int .u8 0] n) 5)) :=
  run_make_row' 22 5 (.int .u8 0) 1 Tryz.underlying22 Tryz.info8 rfl .i64 .i64 n (by omega) (by omega) w
theorem u8wrap (k : Nat) : IntKind.u8.wrap (k : Int) = ((k % 256 : Nat) : Int) := by
  show ((k : Int) % 256) = _
  omega
/-- What a slice of bytes reads as when it has been marked. -/
def mk8 (i : Nat) : Nat := (i + 1) % 256
end Go.Proofs.YtgcdoabcopihlaaGreat

/-
  Contracts of the library's functions on slices of bytes that the modes call: slices.Clone, math/bits.Mul, slices.Grow.
-/
namespace Go.Proofs.YtgcdoabcopihlaaGreat
open Go.ChangeShapes Go.WideShapes Go.ChangeAt Go.RowKit
/-- A new slice of n bytes that read as f is handed back. -/
def RetB (w w' : World) (e : Ending) (n : Nat) (f : Nat → Nat) : Prop := ∃ b c, (w.heap.size ≤ b ∧ n ≤ c) ∧ e = .returned (.slice (some ⟨b, 0, none⟩) n c) ∧ Own8 w' b n f
theorem size8 : (Tryz.prog.info? 5).map (·.size) = some 1 := by kernel_rfl
/-- A new slice of n bytes that read as f is handed back, and something beside it. -/
def RetB2 (w w' : World) (e : Ending) (n : Nat) (f : Nat → Nat) (t : Value) : Prop := ∃ b c, (w.heap.size ≤ b ∧ n ≤ c) ∧ e = .returned (.tuple #[.slice (some ⟨b, 0, none⟩) n c, t]) ∧ Own8 w' b n f
/-- A slice of n bytes of the call's own (any, of none) is handed back, and a code. -/
def RetI (w w' : World) (e : Ending) (n : Nat) (f : Nat → Nat) (code : Int) : Prop := ∃ a c, e = .returned (.tuple #[.slice a n c, .int .i64 code]) ∧ OwnS w' w.heap.size a n f
theorem RetB2.retI {w w' : World} {e : Ending} {n : Nat} {f : Nat → Nat} {code : Int} (h : RetB2 w w' e n f (.int .i64 code)) : RetI w w' e n f code := by
  obtain ⟨b, c, hb, he, ho⟩ := h
  exact ⟨_, c, he, .inr ⟨b, hb.1, rfl, ho⟩⟩
theorem RetI.nil {w w' : World} {f : Nat → Nat} {code : Int} : RetI w w' (.returned (.tuple #[.slice none 0 0, .int .i64 code])) 0 f code := ⟨none, 0, rfl, .inl rfl⟩
theorem RetB2.made (w : World) (f : Nat → Nat) (t : Value) : RetB2 w (w.alloc (.cells #[] 5)) (.returned (.tuple #[.slice (some ⟨w.heap.size, 0, none⟩) 0 0, t])) 0 f t :=
  ⟨_, 0, ⟨Nat.le_refl _, Nat.le_refl _⟩, rfl, 0, fun _ => undef, Nat.le_refl _, World.rowIs_alloc w #[] 5 _ (fun i hi => absurd hi (by simp)), fun i hi => absurd hi (by omega)⟩
end Go.Proofs.YtgcdoabcopihlaaGreat

/-
  Plain mathematics of the field of 256, over natural numbers: doubling, products, inverses; the laws of the field. No Go in sight. It holds for all bytes, under no other condition.
-/
namespace Go.Proofs.YtgcdoabcopihlaaGreat.Gf

/-- Twice a byte, as the model of the document has it. -/
def dbl (a : Nat) : Nat := if 255 < a * 2 then (a * 2) ^^^ 283 else a * 2
/-- Twice a byte, as the program has it. -/
def dblB (a : Nat) : Nat := (a * 2 % 256) ^^^ (a / 128 * 27)
theorem dblB_eq_fin : ∀ a, a < 256 → dblB a = dbl a := by decide +kernel
theorem dbl_lt : ∀ a, a < 256 → dbl a < 256 := by decide +kernel
/-- What stands after k rounds of a product: the doubled factor, and the sum. -/
def mulTo : Nat → Nat → Nat → Nat × Nat
  | 0, a, _ => (a, 0)
  | k + 1, a, b => (dbl (mulTo k a b).1, if b / 2 ^ k % 2 = 1 then (mulTo k a b).2 ^^^ (mulTo k a b).1 else (mulTo k a b).2)
def mul (a b : Nat) : Nat := (mulTo 8 a b).2

theorem xor_lt {a b : Nat} (ha : a < 256) (hb : b < 256) : a ^^^ b < 256 := Nat.xor_lt_two_pow (n := 8) ha hb
theorem mulTo_lt (k a b : Nat) (ha : a < 256) : (mulTo k a b).1 < 256 ∧ (mulTo k a b).2 < 256 := by
  induction k with
  | zero => exact ⟨ha, by simp [mulTo]⟩
  | succ k ih =>
    refine ⟨dbl_lt _ ih.1, ?_⟩
    show (if b / 2 ^ k % 2 = 1 then (mulTo k a b).2 ^^^ (mulTo k a b).1 else (mulTo k a b).2) < 256
    split
    · exact xor_lt ih.2 ih.1
    · exact ih.2
theorem mul_lt (a b : Nat) (ha : a < 256) : mul a b < 256 := (mulTo_lt 8 a b ha).2
/-- Where no bit is left nothing more is added. -/
theorem mulTo_rest (k a b : Nat) (h : b / 2 ^ k = 0) (j : Nat) : (mulTo (k + j) a b).2 = (mulTo k a b).2 := by
  induction j with
  | zero => rfl
  | succ j ih =>
    show (if b / 2 ^ (k + j) % 2 = 1 then (mulTo (k + j) a b).2 ^^^ (mulTo (k + j) a b).1 else (mulTo (k + j) a b).2) = _
    have e : b / 2 ^ (k + j) = 0 := by
      rw [Nat.pow_add, ← Nat.div_div_eq_div_mul, h, Nat.zero_div]
    rw [e]; simpa using ih
theorem mulTo_fst (k a b : Nat) : (mulTo (k + 1) a b).1 = dbl (mulTo k a b).1 := by rw [mulTo]
theorem mulTo_yes (k a b : Nat) (h : b / 2 ^ k % 2 = 1) : (mulTo (k + 1) a b).2 = (mulTo k a b).2 ^^^ (mulTo k a b).1 := by rw [mulTo]; simp [h]
theorem mulTo_no (k a b : Nat) (h : b / 2 ^ k % 2 = 0) : (mulTo (k + 1) a b).2 = (mulTo k a b).2 := by rw [mulTo]; simp [h]
theorem mul_of_rest (k a b : Nat) (hk : k ≤ 8) (h : b / 2 ^ k = 0) : (mulTo k a b).2 = mul a b := by
  have := mulTo_rest k a b h (8 - k)
  rw [show k + (8 - k) = 8 from by omega] at this
  exact this.symm
/-- What stands after k rounds of an inverse: the square, and the product. -/
def invTo : Nat → Nat → Nat × Nat
  | 0, a => (a, 1)
  | k + 1, a => (mul (invTo k a).1 (invTo k a).1, mul (invTo k a).2 (mul (invTo k a).1 (invTo k a).1))
def inv (a : Nat) : Nat := (invTo 7 a).2
theorem invTo_fst (k a : Nat) : (invTo (k + 1) a).1 = mul (invTo k a).1 (invTo k a).1 := by rw [invTo]
theorem invTo_snd (k a : Nat) : (invTo (k + 1) a).2 = mul (invTo k a).2 (mul (invTo k a).1 (invTo k a).1) := by rw [invTo]
theorem invTo_lt (k a : Nat) (ha : a < 256) : (invTo k a).1 < 256 ∧ (invTo k a).2 < 256 := by
  induction k with
  | zero => exact ⟨ha, by simp [invTo]⟩
  | succ k ih => rw [invTo_fst, invTo_snd]; exact ⟨mul_lt _ _ ih.1, mul_lt _ _ ih.2⟩
theorem inv_lt (a : Nat) (ha : a < 256) : inv a < 256 := (invTo_lt 7 a ha).2
end Go.Proofs.YtgcdoabcopihlaaGreat.Gf

/-
  Padding, as plain mathematics: bytes are functions of their places.
-/
namespace Go.Proofs.YtgcdoabcopihlaaGreat
/-- How many bytes fill n up. -/
def fillN (n : Nat) : Nat := 16 - n % 16
/-- n bytes f, filled up. -/
def padF (n : Nat) (f : Nat → Nat) (i : Nat) : Nat := if i < n then f i else fillN n
/-- n bytes f are rightly padded. -/
def UnOK (n : Nat) (f : Nat → Nat) : Prop := 0 < n ∧ n % 16 = 0 ∧ 1 ≤ f (n - 1) ∧ f (n - 1) ≤ 16 ∧ ∀ i, n - f (n - 1) ≤ i → i < n → f i = f (n - 1)
theorem fillN_bd (n : Nat) : 1 ≤ fillN n ∧ fillN n ≤ 16 := by unfold fillN; omega
theorem padN_mod (n : Nat) : (n + fillN n) % 16 = 0 := by unfold fillN; omega
theorem padF_lt {n : Nat} {f : Nat → Nat} (hf : ∀ i, f i < 256) (i : Nat) : padF n f i < 256 := by
  unfold padF
  split
  · exact hf i
  · have := (fillN_bd n).2; omega
theorem unOK_pad (n : Nat) (f : Nat → Nat) : UnOK (n + fillN n) (padF n f) := by
  have hb := fillN_bd n
  have e : padF n f (n + fillN n - 1) = fillN n := by unfold padF; rw [if_neg (by omega)]
  refine ⟨by omega, padN_mod n, by omega, by omega, fun i h1 h2 => ?_⟩
  rw [e] at h1 ⊢
  unfold padF
  rw [if_neg (by omega)]
theorem pad_last (n : Nat) (f : Nat → Nat) : n + fillN n - padF n f (n + fillN n - 1) = n := by
  have hb := fillN_bd n
  have e : padF n f (n + fillN n - 1) = fillN n := by unfold padF; rw [if_neg (by omega)]
  omega
theorem unOK_size {n : Nat} {f : Nat → Nat} (h : UnOK n f) : n - f (n - 1) + fillN (n - f (n - 1)) = n := by
  obtain ⟨h0, h1, h2, h3, _⟩ := h
  unfold fillN
  omega
theorem unOK_fill {n : Nat} {f : Nat → Nat} (h : UnOK n f) : fillN (n - f (n - 1)) = f (n - 1) := by
  obtain ⟨h0, h1, h2, h3, _⟩ := h
  unfold fillN
  omega
theorem unOK_again {n : Nat} {f : Nat → Nat} (h : UnOK n f) (i : Nat) (hi : i < n) : padF (n - f (n - 1)) f i = f i := by
  unfold padF
  split
  · rfl
  · rw [unOK_fill h]
    exact (h.2.2.2.2 i (by omega) hi).symm
end Go.Proofs.YtgcdoabcopihlaaGreat

/-
  Contracts of padding in the model: l02Pad, l02Unpad, PadBlocks, UnpadBlocks.
-/
namespace Go.Proofs.YtgcdoabcopihlaaGreat
open Go.ChangeShapes Go.WideShapes Go.ChangeAt Go.RowKit
theorem l01In_any (x a b : Int) (r : Bool) (hr : r = decide (a ≤ x ∧ x ≤ b)) (w : World) :
    Calls Tryz.prog 63 #[.int .i64 x, .int .i64 a, .int .i64 b] w fun e w' => e = .returned (.bool r) ∧ w = w' := by
  by_cases h1 : a ≤ x
  · by_cases h2 : x ≤ b
    · obtain rfl : r = true := by rw [hr]; simp; omega
      clear hr
      go_enter Tryz.func63, Tryz.ntmps63
      go_wp2
      go_ret
      exact ⟨rfl, rfl⟩
    · obtain rfl : r = false := by rw [hr]; simp; omega
      clear hr
      go_enter Tryz.func63, Tryz.ntmps63
      go_wp2
      go_ret
      exact ⟨rfl, rfl⟩
  · obtain rfl : r = false := by rw [hr]; simp; omega
    clear hr
    go_enter Tryz.func63, Tryz.ntmps63
    go_wp2
    go_ret
    exact ⟨rfl, rfl⟩
theorem one_new8 (w : World) (x : Nat) (t : TypeId) : ∀ j u, [Value.int .u8 (x : Nat)][j]? = some u → (w.alloc (.cells #[.int .u8 (x : Nat)] t)).cell? ((⟨w.heap.size, 0, none⟩ : Addr).add j) = some u := fun j u hj => by
  have hj0 : j = 0 := by have := (List.getElem?_eq_some_iff.1 hj).1; simp at this; omega
  subst hj0
  cases hj
  rw [Addr.add_lit]
  simp
theorem one_one8 (x : Nat) : ∀ u ∈ [Value.int .u8 (x : Nat)], u.oneCell' = true := fun u hu => by
  simp at hu
  subst hu
  rfl
end Go.Proofs.YtgcdoabcopihlaaGreat

/-
  SHA-256 in numbers: words are numbers below 2^32; what a block, a text, a key's code and what is drawn from it are.
-/
namespace Go.Proofs.YtgcdoabcopihlaaGreat
namespace Sha
def ad (a b : Nat) : Nat := (a + b) % 4294967296
def xr (a b : Nat) : Nat := (a ^^^ b) % 4294967296
def an (a b : Nat) : Nat := (a &&& b) % 4294967296
def orr (a b : Nat) : Nat := (a ||| b) % 4294967296
def sr (a n : Nat) : Nat := a / 2 ^ n
def sl (a n : Nat) : Nat := a * 2 ^ n % 4294967296
/-- A word turned to the right. -/
def rt (x n : Nat) : Nat := orr (sr x n) (sl x (32 - n))
def nt (x : Nat) : Nat := xr 4294967295 x
theorem ad_lt (a b : Nat) : ad a b < 4294967296 := Nat.mod_lt _ (by omega)
theorem xr_lt (a b : Nat) : xr a b < 4294967296 := Nat.mod_lt _ (by omega)
theorem an_lt (a b : Nat) : an a b < 4294967296 := Nat.mod_lt _ (by omega)
theorem orr_lt (a b : Nat) : orr a b < 4294967296 := Nat.mod_lt _ (by omega)
theorem sl_lt (a n : Nat) : sl a n < 4294967296 := Nat.mod_lt _ (by omega)
theorem rt_lt (a n : Nat) : rt a n < 4294967296 := orr_lt _ _
theorem orr_comm (a b : Nat) : orr a b = orr b a := by unfold orr; rw [Nat.or_comm]
theorem tb (x i : Nat) : (x % 4294967296).testBit i = (decide (i < 32) && x.testBit i) := by
  have := Nat.testBit_mod_two_pow x 32 i
  rwa [show (2 : Nat) ^ 32 = 4294967296 from by decide] at this
theorem tb1 {i : Nat} (h : i < 32) : (4294967295 : Nat).testBit i = true := by
  have := Nat.testBit_two_pow_sub_one 32 i
  rw [show (2 : Nat) ^ 32 - 1 = 4294967295 from by decide] at this
  rw [this]; simpa using h
/-- Choose: with or, as with exclusive or. -/
theorem ch_same (e f g : Nat) : orr (an e f) (an (nt e) g) = xr (an e f) (an (nt e) g) := by
  apply Nat.eq_of_testBit_eq
  intro i
  unfold orr xr an nt xr
  rw [tb, tb, Nat.testBit_or, Nat.testBit_xor, tb, tb, Nat.testBit_and, Nat.testBit_and, tb, Nat.testBit_xor]
  by_cases h : i < 32
  · rw [tb1 h]
    cases e.testBit i <;> cases f.testBit i <;> cases g.testBit i <;> simp [h]
  · simp [h]
/-- Majority: with or, as with exclusive or. -/
theorem maj_same (a b c : Nat) : orr (orr (an a b) (an a c)) (an b c) = xr (xr (an a b) (an a c)) (an b c) := by
  apply Nat.eq_of_testBit_eq
  intro i
  unfold orr xr an
  simp only [tb, Nat.testBit_or, Nat.testBit_xor, Nat.testBit_and]
  cases a.testBit i <;> cases b.testBit i <;> cases c.testBit i <;> cases decide (i < 32) <;> rfl
def kL : List Nat := [0x428a2f98, 0x71374491, 0xb5c0fbcf, 0xe9b5dba5, 0x3956c25b, 0x59f111f1, 0x923f82a4, 0xab1c5ed5,
  0xd807aa98, 0x12835b01, 0x243185be, 0x550c7dc3, 0x72be5d74, 0x80deb1fe, 0x9bdc06a7, 0xc19bf174,
  0xe49b69c1, 0xefbe4786, 0x0fc19dc6, 0x240ca1cc, 0x2de92c6f, 0x4a7484aa, 0x5cb0a9dc, 0x76f988da,
  0x983e5152, 0xa831c66d, 0xb00327c8, 0xbf597fc7, 0xc6e00bf3, 0xd5a79147, 0x06ca6351, 0x14292967,
  0x27b70a85, 0x2e1b2138, 0x4d2c6dfc, 0x53380d13, 0x650a7354, 0x766a0abb, 0x81c2c92e, 0x92722c85,
  0xa2bfe8a1, 0xa81a664b, 0xc24b8b70, 0xc76c51a3, 0xd192e819, 0xd6990624, 0xf40e3585, 0x106aa070,
  0x19a4c116, 0x1e376c08, 0x2748774c, 0x34b0bcb5, 0x391c0cb3, 0x4ed8aa4a, 0x5b9cca4f, 0x682e6ff3,
  0x748f82ee, 0x78a5636f, 0x84c87814, 0x8cc70208, 0x90befffa, 0xa4506ceb, 0xbef9a3f7, 0xc67178f2]
def hL : List Nat := [0x6a09e667, 0xbb67ae85, 0x3c6ef372, 0xa54ff53a, 0x510e527f, 0x9b05688c, 0x1f83d9ab, 0x5be0cd19]
/-- The round's word, the first digest. -/
def kc (i : Nat) : Nat := kL.getD i 0
def h0 (i : Nat) : Nat := hL.getD i 0
theorem kL_lt : ∀ x ∈ kL, x < 4294967296 := by decide
theorem hL_lt : ∀ x ∈ hL, x < 4294967296 := by decide
theorem getD_lt {l : List Nat} (h : ∀ x ∈ l, x < 4294967296) (i : Nat) : l.getD i 0 < 4294967296 := by
  rw [List.getD_eq_getElem?_getD]
  cases hh : l[i]? with
  | none => show 0 < 4294967296; omega
  | some v => exact h v (List.mem_of_getElem? hh)
theorem kc_lt (i : Nat) : kc i < 4294967296 := getD_lt kL_lt i
theorem h0_lt (i : Nat) : h0 i < 4294967296 := getD_lt hL_lt i
/-- Four bytes as a word. -/
def word (b : Nat → Nat) (i : Nat) : Nat := orr (orr (orr (sl (b (4 * i)) 24) (sl (b (4 * i + 1)) 16)) (sl (b (4 * i + 2)) 8)) (b (4 * i + 3))
theorem word_lt (b : Nat → Nat) (i : Nat) : word b i < 4294967296 := orr_lt _ _
def s0 (x : Nat) : Nat := xr (xr (rt x 7) (rt x 18)) (sr x 3)
def s1 (x : Nat) : Nat := xr (xr (rt x 17) (rt x 19)) (sr x 10)
/-- The words of a block's rounds. -/
def ws (b : Nat → Nat) (i : Nat) : Nat :=
  if h : i < 16 then word b i else ad (ad (ad (ws b (i - 16)) (s0 (ws b (i - 15)))) (ws b (i - 7))) (s1 (ws b (i - 2)))
termination_by i
decreasing_by all_goals omega
theorem ws_in (b : Nat → Nat) {i : Nat} (h : i < 16) : ws b i = word b i := by rw [ws, dif_pos h]
theorem ws_out (b : Nat → Nat) {i : Nat} (h : ¬ i < 16) : ws b i = ad (ad (ad (ws b (i - 16)) (s0 (ws b (i - 15)))) (ws b (i - 7))) (s1 (ws b (i - 2))) := by rw [ws, dif_neg h]
theorem ws_lt (b : Nat → Nat) (i : Nat) : ws b i < 4294967296 := by
  by_cases h : i < 16
  · rw [ws_in b h]; exact word_lt _ _
  · rw [ws_out b h]; exact ad_lt _ _
def big1 (e : Nat) : Nat := xr (xr (rt e 6) (rt e 11)) (rt e 25)
def big0 (a : Nat) : Nat := xr (xr (rt a 2) (rt a 13)) (rt a 22)
def t1 (v : Nat → Nat) (k w : Nat) : Nat := ad (ad (ad (ad (v 7) (big1 (v 4))) (xr (an (v 4) (v 5)) (an (nt (v 4)) (v 6)))) k) w
def t2 (v : Nat → Nat) : Nat := ad (big0 (v 0)) (xr (xr (an (v 0) (v 1)) (an (v 0) (v 2))) (an (v 1) (v 2)))
def step (v : Nat → Nat) (k w : Nat) (j : Nat) : Nat :=
  if j = 0 then ad (t1 v k w) (t2 v) else if j = 4 then ad (v 3) (t1 v k w) else v (j - 1)
def rounds (W v : Nat → Nat) : Nat → Nat → Nat
  | 0 => v
  | i + 1 => step (rounds W v i) (kc i) (W i)
theorem rounds_lt {W v : Nat → Nat} (h : ∀ j, v j < 4294967296) (i j : Nat) : rounds W v i j < 4294967296 := by
  induction i generalizing j with
  | zero => exact h j
  | succ i ih =>
    show step _ _ _ j < _
    unfold step
    split
    · exact ad_lt _ _
    · split
      · exact ad_lt _ _
      · exact ih _
/-- A digest behind a block more. -/
def block (v b : Nat → Nat) (j : Nat) : Nat := ad (v j) (rounds (ws b) v 64 j)
def hashTo (c : Nat → Nat) : Nat → Nat → Nat
  | 0 => h0
  | n + 1 => block (hashTo c n) (fun j => c (64 * n + j))
theorem hashTo_lt (c : Nat → Nat) (n j : Nat) : hashTo c n j < 4294967296 := by
  cases n with
  | zero => exact h0_lt j
  | succ n => exact ad_lt _ _
/-- How long a text of n bytes is when it is filled up. -/
def fullN (n : Nat) : Nat := (n + 72) / 64 * 64
def fullF (n : Nat) (f : Nat → Nat) (j : Nat) : Nat :=
  if j < n then f j else if j = n then 128 else if j < fullN n - 8 then 0 else 8 * n / 2 ^ (8 * (fullN n - 1 - j)) % 256
theorem fullF_lt {n : Nat} {f : Nat → Nat} (h : ∀ j, f j < 256) (j : Nat) : fullF n f j < 256 := by
  unfold fullF
  split
  · exact h j
  · split
    · omega
    · split
      · omega
      · exact Nat.mod_lt _ (by omega)
/-- The bytes of a digest. -/
def outB (v : Nat → Nat) (j : Nat) : Nat := v (j / 4) / 2 ^ (24 - 8 * (j % 4)) % 256
theorem outB_lt (v : Nat → Nat) (j : Nat) : outB v j < 256 := Nat.mod_lt _ (by omega)
/-- The hash of n bytes: its 32 bytes. -/
def hash (n : Nat) (f : Nat → Nat) : Nat → Nat := outB (hashTo (fullF n f) (fullN n / 64))
theorem hash_lt (n : Nat) (f : Nat → Nat) (j : Nat) : hash n f j < 256 := outB_lt _ _
/-- A text behind another one. -/
def cat (n : Nat) (f g : Nat → Nat) (j : Nat) : Nat := if j < n then f j else g (j - n)
theorem cat_lt {n : Nat} {f g : Nat → Nat} (hf : ∀ j, f j < 256) (hg : ∀ j, g j < 256) (j : Nat) : cat n f g j < 256 := by
  unfold cat
  split
  · exact hf j
  · exact hg _
/-- A key of 64 bytes. -/
def keyF (n : Nat) (f : Nat → Nat) (j : Nat) : Nat := if 64 < n then (if j < 32 then hash n f j else 0) else (if j < n then f j else 0)
theorem keyF_lt {n : Nat} {f : Nat → Nat} (h : ∀ j, f j < 256) (j : Nat) : keyF n f j < 256 := by
  unfold keyF
  split
  · split
    · exact hash_lt _ _ _
    · omega
  · split
    · exact h j
    · omega
def maskF (k : Nat → Nat) (m : Nat) (j : Nat) : Nat := k j ^^^ m
theorem maskF_lt {k : Nat → Nat} {m : Nat} (h : ∀ j, k j < 256) (hm : m < 256) (j : Nat) : maskF k m j < 256 := Nat.xor_lt_two_pow (n := 8) (h j) hm
/-- The code of n bytes under a key of 64. -/
def mac (k : Nat → Nat) (n : Nat) (f : Nat → Nat) : Nat → Nat := hash 96 (cat 64 (maskF k 0x5c) (hash (64 + n) (cat 64 (maskF k 0x36) f)))
theorem mac_lt (k : Nat → Nat) (n : Nat) (f : Nat → Nat) (j : Nat) : mac k n f j < 256 := hash_lt _ _ _
/-- The blocks that are drawn: block i (from 1 on). -/
def drawnB (k : Nat → Nat) (m : Nat) (g : Nat → Nat) : Nat → Nat → Nat
  | 0 => fun _ => 0
  | i + 1 => mac k ((if i = 0 then 0 else 32) + m + 1) (cat (if i = 0 then 0 else 32) (drawnB k m g i) (cat m g (fun _ => (i + 1) % 256)))
def drawnF (k : Nat → Nat) (m : Nat) (g : Nat → Nat) (j : Nat) : Nat := drawnB k m g (j / 32 + 1) (j % 32)
theorem drawnF_lt (k : Nat → Nat) (m : Nat) (g : Nat → Nat) (j : Nat) : drawnF k m g j < 256 := mac_lt _ _ _ _
end Sha
end Go.Proofs.YtgcdoabcopihlaaGreat

/-
  The contract of impl.appendNumber: a number's bytes, the higher ones first, behind a row of the call's own.
-/
namespace Go.Proofs.YtgcdoabcopihlaaGreat
open Go.ChangeShapes Go.WideShapes Go.ChangeAt Go.RowKit
theorem bv_extN (k r : Nat) (f : Nat → Nat) : bv k f ++ [.int .u8 (r : Nat)] = bv (k + 1) (fun j => if j = k then r else f j) := by
  have e := bv_snoc k (fun j => if j = k then r else f j)
  rw [if_pos rfl, bv_congr (g := f) (fun i hi => if_neg (by omega))] at e
  exact e
theorem ownsRow_mono {w : World} {base base' : Nat} {e : TypeId} {size : Nat} {v : Value} {n : Nat} {xs : List Value} (h : w.ownsRow base e size v n xs) (hb : base' ≤ base) : w.ownsRow base' e size v n xs := by
  obtain ⟨hl, h0 | ⟨g, cap, cur, hv, h1, h2⟩⟩ := h
  · exact ⟨hl, .inl h0⟩
  · exact ⟨hl, .inr ⟨g, cap, cur, hv, Nat.le_trans hb h1, h2⟩⟩
/-- sz bytes of x behind k others. -/
def numF (k sz x : Nat) (f : Nat → Nat) (j : Nat) : Nat := if j < k then f j else x / 2 ^ (8 * (sz - 1 - (j - k))) % 256
/-- A row of the call's own (from block B on), handed back. -/
def RetO (B : Nat) (w' : World) (e : Ending) (n : Nat) (f : Nat → Nat) : Prop := ∃ g c, e = .returned (.slice (some ⟨g, 0, none⟩) n c) ∧ w'.ownsRow B 5 1 (.slice (some ⟨g, 0, none⟩) n c) n (bv n f)
/-- make([]byte, 0, c) -/
theorem mkRoom (c : Nat) (hc : c ≤ 10000000) (w : World) : ∃ w', (Instr.makeSlice 22 (.int .i64 0) (.int .i64 (c : Int))).run Tryz.prog w = .ok (.slice (some ⟨w.heap.size, 0, none⟩) 0 c) w' ∧ w'.ownsRow w.heap.size 5 1 (.slice (some ⟨w.heap.size, 0, none⟩) 0 c) 0 [] ∧ Below w.heap.size w w' := by
  obtain ⟨i0, h1, h2, h3, h4⟩ := info_parts Tryz.info8
  obtain ⟨w', hr, ho, hg⟩ := run_make_own (P := Tryz.prog) w w.heap.size 22 5 i0 (.int .u8 0) 1 Tryz.underlying22 h1 h2 h3 .i64 .i64 c (by rw [h4]; omega) (by unfold maxLen; omega) (Nat.le_refl _)
  exact ⟨w', hr, ho, (Below.refl _ w).grown hg (Nat.le_refl _) (fun k hk => by cases hk)⟩
end Go.Proofs.YtgcdoabcopihlaaGreat

/-
  A slice of bytes as a text.
-/
namespace Go.Proofs.YtgcdoabcopihlaaGreat
open Go.ChangeShapes Go.WideShapes Go.ChangeAt Go.RowKit
theorem kstr_of_code {w : World} {b o n c : Nat} {f : Nat → Nat} (h : Code8 w (some ⟨b, o, none⟩) n f) : (convert 22 9 (.slice (some ⟨b, o, none⟩) n c)).run Tryz.prog w = .ok (.string (kstr f 0 n)) w := by
  refine run_convert_bytes_arg w 22 5 Tryz.underlying22 Tryz.underlying5 b o n c ((List.range n).map fun i => ((f (0 + i) : Nat) : Int)) (by simp) (fun i hi => ?_) 9 Tryz.underlying9
  rw [h.at hi]
  simp [hi]
end Go.Proofs.YtgcdoabcopihlaaGreat

/-
  Rows of bytes with room, of which cells alone are asked; append to such rows, and a number's bytes behind one.
-/
namespace Go.Proofs.YtgcdoabcopihlaaGreat
open Go.ChangeShapes Go.WideShapes Go.ChangeAt Go.RowKit
/-- A row of bytes with room, of which cells alone are asked (what []byte(s) makes, too). -/
def RowM (w : World) (g n cap : Nat) (F : Nat → Nat) : Prop := n ≤ cap ∧ (∀ i, i < n → w.cell? ⟨g, i, none⟩ = some (.int .u8 ((F i : Nat) : Int))) ∧ (∀ i, i < cap → (w.cell? ⟨g, i, none⟩).isSome = true ∧ w.frozen? ⟨g, i, none⟩ = false) ∧ g < w.heap.size
theorem RowM.code {w : World} {g n cap : Nat} {F : Nat → Nat} (h : RowM w g n cap F) : Code8 w (some ⟨g, 0, none⟩) n F := code8_of (fun i hi => by rw [Nat.zero_add]; exact h.2.1 i hi)
theorem RowM.below {w w' : World} {g n cap : Nat} {F : Nat → Nat} (h : RowM w g n cap F) (hb : Below w.heap.size w w') : RowM w' g n cap F :=
  ⟨h.1, fun i hi => by rw [hb.cell (p := ⟨g, i, none⟩) h.2.2.2]; exact h.2.1 i hi, fun i hi => ⟨by rw [hb.cell (p := ⟨g, i, none⟩) h.2.2.2]; exact (h.2.2.1 i hi).1, by rw [hb.frozen (p := ⟨g, i, none⟩) h.2.2.2]; exact (h.2.2.1 i hi).2⟩, Nat.lt_of_lt_of_le h.2.2.2 hb.size⟩
theorem RowM.congr {w : World} {g n cap : Nat} {F G : Nat → Nat} (h : RowM w g n cap F) (e : ∀ i, i < n → F i = G i) : RowM w g n cap G := ⟨h.1, fun i hi => by rw [← e i hi]; exact h.2.1 i hi, h.2.2⟩
theorem bytesOfR (s : ByteArray) (w : World) : ∃ wz gc, (convert 9 22 (.string s)).run Tryz.prog w = .ok (.slice (some ⟨w.heap.size, 0, none⟩) s.size gc) wz ∧ RowM wz w.heap.size s.size gc (strB s) ∧ Below w.heap.size w wz := by
  obtain ⟨gc, hgc⟩ : ∃ gc, gc = grownCap w s.size 0 5 := ⟨_, rfl⟩
  have hge : s.size ≤ gc := by rw [hgc]; exact grownCap_ge _ _ _ _
  have hsz : (bytesRow s gc).size = gc := by
    unfold bytesRow
    rw [Array.size_append, Array.size_map, Array.size_replicate]
    show s.size + (gc - s.size) = gc
    omega
  have hrun := run_bytes_of_string w 9 22 5 s Tryz.underlying9 Tryz.underlying22 Tryz.underlying5
  rw [← hgc, hsz] at hrun
  refine ⟨_, gc, hrun, ⟨hge, fun r hr => ?_, fun r hr => ⟨?_, ?_⟩, ?_⟩, (Below.refl _ _).drew.alloc (Nat.le_refl _) _⟩
  · have e := World.cell?_alloc_mark w.drew (bytesRow s gc) 5 (gc, gc + 1) r
    refine e.trans ?_
    rw [bytesRow_at s gc r hr]
    simp [strB, hr, ByteArray.getElem_eq_getElem_data]
  · have e := World.cell?_alloc_mark w.drew (bytesRow s gc) 5 (gc, gc + 1) r
    have e2 : (w.drew.alloc (.cells (bytesRow s gc) 5 (gc, gc + 1))).cell? ⟨w.heap.size, r, none⟩ = (bytesRow s gc)[r]? := e
    rw [e2, Array.getElem?_eq_getElem (by omega)]
    rfl
  · show (w.drew.alloc (.cells (bytesRow s gc) 5 (gc, gc + 1))).frozen? ⟨w.drew.heap.size, r, none⟩ = false
    rw [World.frozen?_alloc_mark]
    simp
    intro h
    omega
  · show w.heap.size < (w.drew.alloc _).heap.size
    simp
/-- append to such a row. -/
theorem appendM (w : World) (B g n cap : Nat) (F : Nat → Nat) (sb so m c : Nat) (f : Nat → Nat) (hB : B ≤ g) (hBw : B ≤ w.heap.size) (hnm : n + m ≤ 2000000) (h : RowM w g n cap F) (hs : Code8 w (some ⟨sb, so, none⟩) m f) (ty : TypeId) :
    ∃ g' cap' w', (Builtin.append_ #[22, 22] ty #[.slice (some ⟨g, 0, none⟩) n cap, .slice (some ⟨sb, so, none⟩) m c]).run Tryz.prog w = .ok (.slice (some ⟨g', 0, none⟩) (n + m) cap') w' ∧ RowM w' g' (n + m) cap' (Sha.cat n F f) ∧ Below B w w' ∧ B ≤ g' := by
  obtain ⟨i0, h1, h2, h3, h4⟩ := info_parts Tryz.info8
  by_cases hroom : n + m ≤ cap
  · have hth : w.there g 0 cap := fun j hj => by rw [Nat.zero_add]; exact h.2.2.1 j hj
    have hth2 := World.there_setCells hth g n (bv m f)
    have hin : (w.setCells g n (bv m f)).rangeAt g n (bv m f) := World.rangeAt_setCells_same w g n (bv m f) (fun j hj => by rw [bv_length] at hj; exact h.2.2.1 (n + j) (by omega))
    refine ⟨g, cap, w.setCells g n (bv m f), ?_, ⟨hroom, fun i hi => ?_, fun i hi => by have := hth2 i hi; rwa [Nat.zero_add] at this, Nat.lt_of_lt_of_le h.2.2.2 (below_setCells hB (bv m f) n w (Below.refl B w)).size⟩, below_setCells hB _ _ _ (Below.refl _ _), hB⟩
    · have := run_append_room_cells (P := Tryz.prog) w 22 ty 5 i0 Tryz.underlying22 h1 g 0 n cap ⟨sb, so, none⟩ m c (bv m f) (by rw [bv_length, h3, Nat.mul_one]) (bv_news hs) (bv_one _ _) hroom (fun j hj => by rw [bv_length] at hj; rw [h3, Nat.zero_add, Nat.mul_one]; exact (h.2.2.1 (n + j) (by omega)).1) (fun j hj => by rw [bv_length] at hj; rw [h3, Nat.zero_add, Nat.mul_one]; exact (h.2.2.1 (n + j) (by omega)).2)
      rw [h3, Nat.zero_add, Nat.mul_one] at this
      exact this
    · unfold Sha.cat
      by_cases hin2 : i < n
      · rw [if_pos hin2, World.cell?_setCells_out g (bv m f) n w ⟨g, i, none⟩ (fun _ _ => .inl hin2)]
        exact h.2.1 i hin2
      · rw [if_neg hin2]
        have := hin (i - n) _ (bv_at (f := f) (show i - n < m by omega))
        rwa [show n + (i - n) = i from by omega] at this
  · obtain ⟨v', w', hr, ho, hg⟩ := run_append_arg_grows (P := Tryz.prog) w 22 ty 5 i0 (.int .u8 0) 1 1 Tryz.underlying22 h1 h2 h3 h4 rfl (by decide) ⟨g, 0, none⟩ n cap (bv n F) (by rw [bv_length, Nat.mul_one]) (bv_news h.code) ⟨sb, so, none⟩ m c (bv m f) (by rw [bv_length, Nat.mul_one]) (bv_news hs) (by omega) (by unfold maxLen; omega) (by omega)
    rw [bv_append] at ho
    have hne : v' ≠ .slice none 0 0 := fun e => by
      subst e
      rcases ho.2 with ⟨_, h0⟩ | ⟨g', cap', cur, h0, _⟩
      · have := h.1; omega
      · cases h0
    obtain ⟨hl, ⟨e, _⟩ | ⟨g', cap', cur, rfl, hb, hh, hn', hm', hs', ht'⟩⟩ := ho
    · exact absurd e hne
    · have hB2 : Below B w w' := (Below.refl B w).grown hg hBw (fun k hk => by cases hk)
      refine ⟨g', cap', w', hr, ⟨hn', fun i hi => ?_, fun i hi => ⟨?_, ?_⟩, ?_⟩, hB2, by omega⟩
      · have h1 : (cur.toList.take ((n + m) * 1))[i]? = some (.int .u8 ((Sha.cat n F f i : Nat) : Int)) := by rw [ht']; exact bv_at hi
        rw [List.getElem?_take, if_pos (by omega), Array.getElem?_toList] at h1
        simp [World.cell?, hh, h1]
      · simp [World.cell?, hh]; omega
      · simp [World.frozen?, hh]
      · rcases Nat.lt_or_ge g' w'.heap.size with k | k
        · exact k
        · rw [Array.getElem?_eq_none k] at hh; cases hh
end Go.Proofs.YtgcdoabcopihlaaGreat

/-
  A law of no program: 'append(s, make([]byte, k)...)' at a row of the call's own.
-/
namespace Go.Proofs.YtgcdoabcopihlaaGreat
open Go.ChangeShapes Go.WideShapes Go.ChangeAt Go.RowKit
theorem zeroCells_bv (k : Nat) : Builtin.zeroCells (Value.int .u8 0).cells k = (bv k (fun _ => 0)).toArray := by
  apply Array.ext
  · rw [size_zeroCells]; show k * 1 = (bv k (fun _ => 0)).toArray.size; rw [List.size_toArray, bv_length]; omega
  · intro i h1 h2
    have hi : i < k := by rw [List.size_toArray, bv_length] at h2; exact h2
    simp [Builtin.zeroCells, bv, Value.cells, Nat.mod_one]
theorem run_own_zeros {P : Program} (w : World) (base : Nat) (t tn ty e : TypeId) (i : TypeInfo) (ht : P.underlying t = some (.slice e)) (htn : P.underlying tn = some (.int .i64)) (hi : P.info? e = some i) (hz : i.zero = some (.int .u8 0)) (hs : i.size = 1) (hby : i.bytes = 1)
    (g n cap k : Nat) (xs : List Value) (hown : w.ownsRow base e 1 (.slice (some ⟨g, 0, none⟩) n cap) n xs) (hn : n ≤ 1000) (hk : k ≤ 1000) (hbase : base ≤ w.heap.size) :
    ∃ v' w', (Builtin.append_ #[t, tn] ty #[.slice (some ⟨g, 0, none⟩) n cap, .int .i64 (k : Int)]).run P w = .ok v' w' ∧ w'.ownsRow base e 1 v' (n + k) (xs ++ bv k (fun _ => 0)) ∧ w.grownBy w' (some g) ∧ v' ≠ .slice none 0 0 := by
  have hlen : (xs ++ bv k (fun _ => 0)).length = (n + k) * 1 := by rw [List.length_append, hown.1, bv_length]; omega
  have hxl : xs.length = n := by have := hown.1; omega
  rcases hown.2 with ⟨h, _⟩ | ⟨g', cap', cur, he, hbg, hg, hnc, hcm, hcs, htake⟩
  · cases h
  · cases he
    have hw : IntKind.i64.wrap (k : Int) = k := by rw [IntKind.wrap_i64]; omega
    have hneg : ¬ ((k : Int) < 0) := by omega
    have h48i : ¬ (281474976710656 < (k : Int)) := by omega
    by_cases hroom : n + k ≤ cap
    · have hst := run_storeCells_at P g n e (bv k (fun _ => 0)) 0 cur w hg (by rw [bv_length]; omega) (fun v hv => bv_one _ _ v hv)
      simp only [Nat.add_zero, bv_length] at hst
      refine ⟨.slice (some ⟨g, 0, none⟩) (n + k) cap, w.setRow g (cur.toList.take n ++ bv k (fun _ => 0) ++ cur.toList.drop (n + k)).toArray, ?_, ⟨hlen, .inr ⟨g, cap, _, rfl, hbg, setRow_heap w g cur _ e _ hg, hroom, hcm, ?_, ?_⟩⟩, ⟨rfl, rfl, rfl, by simp, fun j _ hj => setRow_other w g j _ (fun e => hj (by simp [e]))⟩, by intro h; cases h⟩
      · rcases Nat.eq_zero_or_pos k with rfl | hpos
        · have h0 : w.setRow g (cur.toList.take n ++ bv 0 (fun _ => 0) ++ cur.toList.drop (n + 0)).toArray = w := by
            rw [bv_zero]; simp only [List.append_nil, Nat.add_zero, List.take_append_drop, Array.toArray_toList]
            exact setRow_self w g cur e (0, 0) hg
          rw [h0]
          have hw0 : IntKind.i64.wrap 0 = 0 := rfl
          simp [Builtin.append_, run_underlying ht, run_underlying htn, sizeOf, typeInfo, hi, asInt, asIntOf, storeCells, hnc, hw0]
        · have hk0 : k ≠ 0 := by omega
          simp [Builtin.append_, run_underlying ht, run_underlying htn, sizeOf, typeInfo, zeroValue, hi, hz, hs, hby, asInt, asIntOf, hw, hneg, h48i, hk0, hroom, zeroCells_bv, Addr.add_lit, hst]
      · simp only [List.size_toArray, List.length_append, List.length_take, List.length_drop, Array.length_toList, bv_length]
        omega
      · have ht' : cur.toList.take n = xs := by simpa using htake
        rw [ht', ← hlen]
        exact List.take_left
    · have holds : ∀ j u, xs[j]? = some u → w.cell? ((⟨g, 0, none⟩ : Addr).add j) = some u := hown.cells (g := g) rfl
      have hold : (Builtin.firstCells i.size n (.slice (some ⟨g, 0, none⟩) n cap)).run P w.drew = .ok xs.toArray w.drew := run_firstCells_some w.drew i.size n ⟨g, 0, none⟩ n cap xs (by rw [hs]; exact hown.1) (fun j v hj => holds j v hj)
      have hr := Lib.run_append_grow_zeros w t tn ty e i (.int .u8 0) .i64 .i64 ht htn hi hz (some ⟨g, 0, none⟩) n cap xs hold k (by omega) (by omega) (by omega) (by omega) (by rw [hby]; omega) (by rw [hby]; exact growslice_fits (by omega) (by omega))
      have hge := grownCap_ge w (n + k) cap e
      have hle : grownCap w (n + k) cap e ≤ maxLen := grownCap_le_maxLen w (n + k) cap e (by unfold maxLen; omega)
      refine ⟨_, _, hr, ⟨hlen, .inr ⟨w.heap.size, _, _, rfl, hbase, heap_alloc_new w.drew _, hge, hle, ?_, ?_⟩⟩, ⟨rfl, rfl, rfl, by simp, fun j hj _ => Below.heap_alloc w.drew _ j hj⟩, by intro h; cases h⟩
      · simp only [Array.size_append, List.size_toArray, size_zeroCells, hxl]
        show n + k * 1 + (grownCap w (n + k) cap e - (n + k)) * 1 = _
        omega
      · rw [zeroCells_bv]
        simp only [Array.toList_append, List.append_assoc]
        rw [← List.append_assoc, ← hlen]
        exact List.take_left
end Go.Proofs.YtgcdoabcopihlaaGreat

/-
  Rows of bytes with room: a text copied into one, zeros appended; the program's sized.
-/
namespace Go.Proofs.YtgcdoabcopihlaaGreat
open Go.ChangeShapes Go.WideShapes Go.ChangeAt Go.RowKit Go.Shelf
set_option linter.unusedVariables false
theorem bv_textZ (s : ByteArray) (n : Nat) (h : s.size = n) : bv n (strB s) = s.data.toList.map (fun b => .int .u8 b.toNat) := by
  apply List.ext_getElem
  · rw [bv_length]; simp [h]
  · intro i h1 h2
    have hi : i < n := by rwa [bv_length] at h1
    have hi' : i < s.size := by omega
    have e := bv_at (n := n) (f := strB s) hi
    rw [List.getElem?_eq_getElem h1] at e
    rw [Option.some.inj e, List.getElem_map, ← ba_get s i hi']
    simp [strB, hi']
theorem textTake (s : ByteArray) (m : Nat) (h : m ≤ s.size) : (s.data.toList.map (fun b : UInt8 => Value.int .u8 (b.toNat : Int))).take m = bv m (strB s) := by
  rw [← bv_textZ s s.size rfl]
  unfold bv
  rw [← List.map_take, List.take_range, Nat.min_eq_left h]
theorem RowM.made (w : World) (k : Nat) : RowM (w.alloc (.cells (madeCells #[.int .u8 0] k) 5)) w.heap.size k k (fun _ => 0) := by
  have r := World.rowIs_made w (.int .u8 0) k 5
  exact ⟨Nat.le_refl _, fun i hi => r.cell hi, fun i hi => ⟨by rw [r.cell hi]; rfl, r.frozen i⟩, by simp⟩
/-- A text laid over a row. -/
def pasteF (F : Nat → Nat) (o : Nat) (s : ByteArray) (m i : Nat) : Nat := if o ≤ i ∧ i < o + m then strB s (i - o) else F i
theorem copyM (w : World) (B g n cap o dl dc m : Nat) (F : Nat → Nat) (s : ByteArray) (hB : B ≤ g) (ho : o + dl ≤ n) (hm : m = Nat.min s.size dl) (h : RowM w g n cap F) :
    ∃ (x : Int) (w' : World), (∀ ty, (Builtin.copy_ #[22, 9] ty #[.slice (some ⟨g, o, none⟩) dl dc, .string s]).run Tryz.prog w = .ok (.int .i64 x) w') ∧ RowM w' g n cap (pasteF F o s m) ∧ Below B w w' := by
  obtain ⟨i0, h1, h2, h3, h4⟩ := info_parts Tryz.info8
  have hm1 : m ≤ s.size := by rw [hm]; exact Nat.min_le_left _ _
  have hm2 : m ≤ dl := by rw [hm]; exact Nat.min_le_right _ _
  have hnc := h.1
  have hth : w.there g 0 cap := fun j hj => by rw [Nat.zero_add]; exact h.2.2.1 j hj
  have hth2 := World.there_setCells hth g o (bv m (strB s))
  have hin : (w.setCells g o (bv m (strB s))).rangeAt g o (bv m (strB s)) := World.rangeAt_setCells_same w g o (bv m (strB s)) (fun j hj => by rw [bv_length] at hj; exact h.2.2.1 (o + j) (by omega))
  have hst := run_storeCells_cells (P := Tryz.prog) g o (bv m (strB s)) 0 w (fun j hj => by rw [bv_length] at hj; exact (h.2.2.1 (o + 0 + j) (by omega)).1) (fun j hj => by rw [bv_length] at hj; exact (h.2.2.1 (o + 0 + j) (by omega)).2) (bv_one _ _)
  rw [Nat.add_zero] at hst
  have htk := textTake s m hm1
  refine ⟨(m : Int), w.setCells g o (bv m (strB s)), fun ty => ?_, ⟨hnc, fun i hi => ?_, fun i hi => by have := hth2 i hi; rwa [Nat.zero_add] at this, Nat.lt_of_lt_of_le h.2.2.2 (below_setCells hB (bv m (strB s)) o w (Below.refl B w)).size⟩, below_setCells hB _ _ _ (Below.refl _ _)⟩
  · simp [Builtin.copy_, run_underlying Tryz.underlying22, Builtin.lenOf, Builtin.firstCells, sizeOf, typeInfo, h1, ← hm]
    rw [htk, hst]
    simp [Result.andThen, goInt]
  · unfold pasteF
    by_cases hin2 : o ≤ i ∧ i < o + m
    · rw [if_pos hin2]
      have := hin (i - o) _ (bv_at (f := strB s) (show i - o < m by omega))
      rwa [show o + (i - o) = i from by omega] at this
    · rw [if_neg hin2, World.cell?_setCells_out g (bv m (strB s)) o w ⟨g, i, none⟩ (fun _ _ => by
        rw [bv_length]
        show i < o ∨ o + m ≤ i
        omega)]
      exact h.2.1 i hi
/-- zeros appended. -/
theorem appendMZ (w : World) (B g n cap : Nat) (F : Nat → Nat) (k : Nat) (hB : B ≤ g) (hBw : B ≤ w.heap.size) (hn : n ≤ 1000) (hk : k ≤ 1000) (h : RowM w g n cap F) (hF : ∀ i, n ≤ i → F i = 0) (ty : TypeId) :
    ∃ g' cap' w', (Builtin.append_ #[22, 3] ty #[.slice (some ⟨g, 0, none⟩) n cap, .int .i64 (k : Int)]).run Tryz.prog w = .ok (.slice (some ⟨g', 0, none⟩) (n + k) cap') w' ∧ RowM w' g' (n + k) cap' F ∧ Below B w w' ∧ B ≤ g' := by
  obtain ⟨i0, h1, h2, h3, h4⟩ := info_parts Tryz.info8
  have hw : IntKind.i64.wrap (k : Int) = k := by rw [IntKind.wrap_i64]; omega
  have hneg : ¬ ((k : Int) < 0) := by omega
  have h48i : ¬ (281474976710656 < (k : Int)) := by omega
  by_cases hroom : n + k ≤ cap
  · have hth : w.there g 0 cap := fun j hj => by rw [Nat.zero_add]; exact h.2.2.1 j hj
    have hth2 := World.there_setCells hth g n (bv k (fun _ => 0))
    have hin : (w.setCells g n (bv k (fun _ => 0))).rangeAt g n (bv k (fun _ => 0)) := World.rangeAt_setCells_same w g n (bv k (fun _ => 0)) (fun j hj => by rw [bv_length] at hj; exact h.2.2.1 (n + j) (by omega))
    have hst := run_storeCells_cells (P := Tryz.prog) g n (bv k (fun _ => 0)) 0 w (fun j hj => by rw [bv_length] at hj; exact (h.2.2.1 (n + 0 + j) (by omega)).1) (fun j hj => by rw [bv_length] at hj; exact (h.2.2.1 (n + 0 + j) (by omega)).2) (bv_one _ _)
    rw [Nat.add_zero] at hst
    refine ⟨g, cap, w.setCells g n (bv k (fun _ => 0)), ?_, ⟨hroom, fun i hi => ?_, fun i hi => by have := hth2 i hi; rwa [Nat.zero_add] at this, Nat.lt_of_lt_of_le h.2.2.2 (below_setCells hB (bv k (fun _ => 0)) n w (Below.refl B w)).size⟩, below_setCells hB _ _ _ (Below.refl _ _), hB⟩
    · rcases Nat.eq_zero_or_pos k with rfl | hpos
      · have hw0 : IntKind.i64.wrap 0 = 0 := rfl
        have hnc := h.1
        have e0 : w.setCells g n (bv 0 (fun _ => 0)) = w := rfl
        rw [e0]
        simp [Builtin.append_, run_underlying Tryz.underlying22, run_underlying Tryz.underlying3, sizeOf, typeInfo, h1, asInt, asIntOf, storeCells, hnc, hw0]
      · have hk0 : k ≠ 0 := by omega
        simp [Builtin.append_, run_underlying Tryz.underlying22, run_underlying Tryz.underlying3, sizeOf, typeInfo, zeroValue, h1, h2, h3, h4, asInt, asIntOf, hw, hneg, h48i, hk0, hroom, zeroCells_bv, Addr.add_lit, hst]
    · by_cases hin2 : i < n
      · rw [World.cell?_setCells_out g (bv k (fun _ => 0)) n w ⟨g, i, none⟩ (fun _ _ => .inl hin2)]
        exact h.2.1 i hin2
      · rw [hF i (by omega)]
        have := hin (i - n) _ (bv_at (f := fun _ => 0) (show i - n < k by omega))
        rwa [show n + (i - n) = i from by omega] at this
  · have hold : (Builtin.firstCells i0.size n (.slice (some ⟨g, 0, none⟩) n cap)).run Tryz.prog w.drew = .ok (bv n F).toArray w.drew := run_firstCells_some w.drew i0.size n ⟨g, 0, none⟩ n cap (bv n F) (by rw [h3, bv_length, Nat.mul_one]) (fun j v hj => bv_news h.code j v hj)
    have hlt : cap < n + k := by omega
    have hnc := h.1
    have hrun := Lib.run_append_grow_zeros (P := Tryz.prog) w 22 3 ty 5 i0 (.int .u8 0) .i64 .i64 Tryz.underlying22 Tryz.underlying3 h1 h2 (some ⟨g, 0, none⟩) n cap (bv n F) hold k (by omega) (by omega) (by omega) (by omega) (by rw [h4]; omega) (by rw [h4]; exact growslice_fits (by omega) (by omega))
    have hge := grownCap_ge w (n + k) cap 5
    obtain ⟨gc, hgc⟩ : ∃ gc, gc = grownCap w (n + k) cap 5 := ⟨_, rfl⟩
    rw [← hgc] at hrun hge
    obtain ⟨cs, hcs⟩ : ∃ cs, cs = (bv n F).toArray ++ Builtin.zeroCells (Value.int .u8 0).cells k ++ Builtin.zeroCells (Value.int .u8 0).cells (gc - (n + k)) := ⟨_, rfl⟩
    rw [← hcs] at hrun
    have hzl : ∀ q, (Builtin.zeroCells (Value.int .u8 0).cells q).size = q := fun q => by simp [Builtin.zeroCells, Value.cells]
    have hsz : cs.size = gc := by rw [hcs, Array.size_append, Array.size_append, hzl, hzl, List.size_toArray, bv_length]; omega
    have hh : (w.drew.alloc (.cells cs 5)).heap[w.heap.size]? = some (.cells cs 5 (0, 0)) := heap_alloc_new w.drew _
    have hat : ∀ i, i < n + k → cs[i]? = some (.int .u8 ((F i : Nat) : Int)) := fun i hi => by
      have e : cs.toList = bv (n + k) (fun i => if i < n then F i else 0) ++ (Builtin.zeroCells (Value.int .u8 0).cells (gc - (n + k))).toList := by
        rw [hcs, zeroCells_bv k, Array.toList_append, Array.toList_append]
        show bv n F ++ bv k (fun _ => 0) ++ _ = _
        rw [bv_append]
      rw [← Array.getElem?_toList, e, List.getElem?_append_left (by rw [bv_length]; exact hi), bv_at hi]
      by_cases q : i < n
      · simp only [if_pos q]
      · simp only [if_neg q, hF i (by omega)]
    refine ⟨w.heap.size, gc, _, hrun, ⟨hge, fun i hi => ?_, fun i hi => ⟨?_, ?_⟩, ?_⟩, ((Below.refl B w).drew).alloc hBw _, hBw⟩
    · simp only [World.cell?, hh]
      simpa using hat i hi
    · simp only [World.cell?, hh]
      simp [hsz, hi]
    · simp only [World.frozen?, hh]
      simp
    · show w.heap.size < (w.drew.alloc _).heap.size
      simp
theorem strB_out (s : ByteArray) (i : Nat) (h : s.size ≤ i) : strB s i = 0 := by
  unfold strB
  rw [dif_neg (by omega)]
theorem paste_zero (s : ByteArray) (k m : Nat) (hm : m = Nat.min s.size k) : ∀ i, i < k → pasteF (fun _ => 0) 0 s m i = strB s i := fun i hi => by
  unfold pasteF
  by_cases q : 0 ≤ i ∧ i < 0 + m
  · rw [if_pos q]; rfl
  · rw [if_neg q, strB_out]
    rcases Nat.le_total s.size k with z | z
    · have : m = s.size := by rw [hm]; exact Nat.min_eq_left z
      omega
    · have : m = k := by rw [hm]; exact Nat.min_eq_right z
      omega
/-- A row of bytes of the call's own. -/
def RetZ (B : Nat) (w' : World) (e : Ending) (k : Nat) (f : Nat → Nat) : Prop := ∃ g, e = .returned (.slice (some ⟨g, 0, none⟩) k k) ∧ B ≤ g ∧ RowM w' g k k f
set_option maxRecDepth 100000 in
theorem sized_any (s : ByteArray) (k : Nat) (hk : k ≤ 100000) (w : World) :
    Calls Tryz.prog 81 #[.string s, .int .i64 (k : Int)] w fun e w' => RetZ w.heap.size w' e k (strB s) ∧ Below w.heap.size w w' := by
  have m1 := mkBytes k (by omega)
  obtain ⟨m, hm⟩ : ∃ m, m = Nat.min s.size k := ⟨_, rfl⟩
  obtain ⟨v1, hv1⟩ : ∃ v, v = w.alloc (.cells (madeCells #[.int .u8 0] k) 5) := ⟨_, rfl⟩
  have B1 : Below w.heap.size w v1 := by rw [hv1]; exact (Below.refl _ _).alloc (Nat.le_refl _) _
  obtain ⟨x, v2, hr, hR, hb⟩ := copyM v1 w.heap.size w.heap.size k k 0 k k m (fun _ => 0) s (Nat.le_refl _) (by omega) hm (by rw [hv1]; exact RowM.made w k)
  have HR : Hid (RowM v2 w.heap.size k k (strB s)) := hR.congr (paste_zero s k m hm)
  have HB : Hid (Below w.heap.size w v2) := B1.trans hb
  subst hv1
  clear hm B1 hR hb
  go_enter Tryz.func81, Tryz.ntmps81
  go_wp2_with (at_builtin; refine wpList_copy_runI _ rfl (.tmp 8) (.tmp 9) 22 9 rfl (.slice (some ⟨w.heap.size, 0, none⟩) k k) (.string s) rfl rfl (hr _) ?_)
  go_ret
  exact ⟨⟨_, rfl, Nat.le_refl _, HR.out⟩, HB.out⟩
end Go.Proofs.YtgcdoabcopihlaaGreat

/-
  The model's own test whether a number lies between two.
-/
namespace Go.Proofs.YtgcdoabcopihlaaGreat
open Go.ChangeShapes Go.WideShapes Go.ChangeAt Go.RowKit
theorem in_any (x a b : Int) (r : Bool) (hr : r = decide (a ≤ x ∧ x ≤ b)) (w : World) :
    Calls Tryz.prog 63 #[.int .i64 x, .int .i64 a, .int .i64 b] w fun e w' => e = .returned (.bool r) ∧ w = w' := by
  by_cases h1 : a ≤ x
  · by_cases h2 : x ≤ b
    · obtain rfl : r = true := by rw [hr]; simp; omega
      clear hr
      go_enter Tryz.func63, Tryz.ntmps63
      go_wp2
      go_ret
      exact ⟨rfl, rfl⟩
    · obtain rfl : r = false := by rw [hr]; simp; omega
      clear hr
      go_enter Tryz.func63, Tryz.ntmps63
      go_wp2
      go_ret
      exact ⟨rfl, rfl⟩
  · obtain rfl : r = false := by rw [hr]; simp; omega
    clear hr
    go_enter Tryz.func63, Tryz.ntmps63
    go_wp2
    go_ret
    exact ⟨rfl, rfl⟩
end Go.Proofs.YtgcdoabcopihlaaGreat
