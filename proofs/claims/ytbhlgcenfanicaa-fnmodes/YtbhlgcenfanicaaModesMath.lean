/-
  Modes of blocks, as plain mathematics.
-/
import Derived.Test.YtbhlgcenfanicaaAesMath
import Derived.Test.YtbhlgcenfanicaaPadMath
namespace Go.Proofs.Ytbhlgcenfanicaa
namespace Gf
theorem same_subTurn {f g : Nat → Nat} (h : Same f g) : Same (subTurn f) (subTurn g) := fun j _ => by unfold subTurn; rw [h _ (ord_lt j)]
theorem same_encTo {K f g : Nat → Nat} (h : Same f g) : ∀ i, Same (encTo K f i) (encTo K g i)
  | 0 => same_addK h _
  | i + 1 => same_addK (same_mixS (same_subTurn (same_encTo h i))) _
theorem same_enc {K f g : Nat → Nat} {R : Nat} (h : Same f g) : Same (enc K R f) (enc K R g) := same_addK (same_subTurn (same_encTo h _)) _
theorem Same.symm {f g : Nat → Nat} (h : Same f g) : Same g f := fun j hj => (h j hj).symm
theorem Same.refl (f : Nat → Nat) : Same f f := fun _ _ => rfl
end Gf
/-- The i-th block behind the chain's first: block 0 is the first itself. -/
def cbcB (K : Nat → Nat) (R : Nat) (iv P : Nat → Nat) : Nat → Nat → Nat
  | 0 => iv
  | i + 1 => Gf.enc K R (fun j => cbcB K R iv P i j ^^^ P (16 * i + j))
theorem cbcB_lt {K iv P : Nat → Nat} {R : Nat} (hK : ∀ j, K j < 256) (hi : ∀ j, iv j < 256) (hP : ∀ j, P j < 256) : ∀ i j, cbcB K R iv P i j < 256
  | 0, j => hi j
  | i + 1, j => Gf.enc_lt hK (fun j _ => Gf.xor_lt (cbcB_lt hK hi hP i j) (hP _)) j
/-- All that is chained. -/
def cbcO (K : Nat → Nat) (R : Nat) (iv P : Nat → Nat) (x : Nat) : Nat := cbcB K R iv P (x / 16 + 1) (x % 16)
/-- The bytes when i blocks have been chained. -/
def cbcTo (K : Nat → Nat) (R : Nat) (iv P : Nat → Nat) (i x : Nat) : Nat := if x < 16 * i then cbcO K R iv P x else P x
theorem cbcO_at (K : Nat → Nat) (R : Nat) (iv P : Nat → Nat) (i j : Nat) (hj : j < 16) : cbcO K R iv P (16 * i + j) = cbcB K R iv P (i + 1) j := by
  unfold cbcO
  rw [show (16 * i + j) / 16 = i from by omega, show (16 * i + j) % 16 = j from by omega]
/-- The block of a nonce and a counter. -/
def ctrBlk (N : Nat → Nat) (k j : Nat) : Nat := if j < 12 then N j else k / 256 ^ (15 - j) % 256
theorem ctrBlk_lt {N : Nat → Nat} (hN : ∀ j, N j < 256) (k j : Nat) : ctrBlk N k j < 256 := by
  unfold ctrBlk
  split
  · exact hN j
  · exact Nat.mod_lt _ (by omega)
/-- What a stream puts on at place x. -/
def ctrK (K : Nat → Nat) (R : Nat) (N : Nat → Nat) (x : Nat) : Nat := Gf.enc K R (ctrBlk N (x / 16 + 1)) (x % 16)
def ctrF (K : Nat → Nat) (R : Nat) (N f : Nat → Nat) (x : Nat) : Nat := f x ^^^ ctrK K R N x
theorem ctrK_lt {K N : Nat → Nat} {R : Nat} (hK : ∀ j, K j < 256) (hN : ∀ j, N j < 256) (x : Nat) : ctrK K R N x < 256 := Gf.enc_lt hK (fun j _ => ctrBlk_lt hN _ j) _
theorem ctrF_lt {K N f : Nat → Nat} {R : Nat} (hK : ∀ j, K j < 256) (hN : ∀ j, N j < 256) (hf : ∀ j, f j < 256) (x : Nat) : ctrF K R N f x < 256 := Gf.xor_lt (hf x) (ctrK_lt hK hN x)
theorem ctrF_twice (K : Nat → Nat) (R : Nat) (N f : Nat → Nat) (x : Nat) : ctrF K R N (ctrF K R N f) x = f x := by
  unfold ctrF
  rw [Nat.xor_assoc, Nat.xor_self, Nat.xor_zero]
/-- Bytes that are unchained, their padding left on. -/
def cbcD (K : Nat → Nat) (R : Nat) (iv c : Nat → Nat) (x : Nat) : Nat := Gf.dec K R (fun j => c (16 * (x / 16) + j)) (x % 16) ^^^ (if x < 16 then iv x else c (x - 16))
theorem cbcD_lt {K iv c : Nat → Nat} {R : Nat} (hK : ∀ j, K j < 256) (hi : ∀ j, iv j < 256) (hc : ∀ j, c j < 256) (x : Nat) : cbcD K R iv c x < 256 := by
  unfold cbcD
  refine Gf.xor_lt (Gf.dec_lt hK (fun j _ => hc _) _ (Nat.mod_lt _ (by omega))) ?_
  split
  · exact hi _
  · exact hc _
/-- What is chained is unchained. -/
theorem cbcD_cbcO {K iv P : Nat → Nat} {R : Nat} (hR : 1 ≤ R) (hK : ∀ j, K j < 256) (hi : ∀ j, iv j < 256) (hP : ∀ j, P j < 256) (x : Nat) : cbcD K R iv (cbcO K R iv P) x = P x := by
  unfold cbcD
  have hm : x % 16 < 16 := Nat.mod_lt _ (by omega)
  have h1 : Gf.Same (fun j => cbcO K R iv P (16 * (x / 16) + j)) (Gf.enc K R (fun j => cbcB K R iv P (x / 16) j ^^^ P (16 * (x / 16) + j))) := fun j hj => cbcO_at K R iv P (x / 16) j hj
  have h2 := (Gf.same_dec (K := K) (R := R) h1) (x % 16) hm
  have h3 := Gf.dec_enc (K := K) (R := R) (s := fun j => cbcB K R iv P (x / 16) j ^^^ P (16 * (x / 16) + j)) hR hK (fun j _ => Gf.xor_lt (cbcB_lt hK hi hP _ j) (hP _)) (x % 16) hm
  rw [h2, h3]
  have e : 16 * (x / 16) + x % 16 = x := by omega
  simp only [e]
  have h4 : (if x < 16 then iv x else cbcO K R iv P (x - 16)) = cbcB K R iv P (x / 16) (x % 16) := by
    by_cases hx : x < 16
    · rw [if_pos hx, show x / 16 = 0 from by omega, show x % 16 = x from by omega]; rfl
    · rw [if_neg hx]
      unfold cbcO
      rw [show (x - 16) / 16 + 1 = x / 16 from by omega, show (x - 16) % 16 = x % 16 from by omega]
  rw [h4, Nat.xor_comm (cbcB K R iv P (x / 16) (x % 16)), Nat.xor_assoc, Nat.xor_self, Nat.xor_zero]
/-- The first blocks do not hang on the later ones. -/
theorem cbcB_congr {K iv P P' : Nat → Nat} {R : Nat} : ∀ i, (∀ x, x < 16 * i → P x = P' x) → Gf.Same (cbcB K R iv P i) (cbcB K R iv P' i)
  | 0, _ => Gf.Same.refl _
  | i + 1, h => Gf.same_enc (fun j hj => by
      have h1 := cbcB_congr (K := K) (iv := iv) (R := R) i (fun x hx => h x (by omega)) j hj
      show cbcB K R iv P i j ^^^ P (16 * i + j) = cbcB K R iv P' i j ^^^ P' (16 * i + j)
      rw [h1, h _ (by omega)])
end Go.Proofs.Ytbhlgcenfanicaa
