/-
  Plain mathematics of blocks decrypted: substituting and turning back, mixing back; a block decrypted.
-/
import Derived.Test.YtbhlgcenfanicaaEncMath
import Derived.Test.YtbhlgcenfanicaaMixMath
import Derived.Test.YtbhlgcenfanicaaMixSpec
import Derived.Test.YtbhlgcenfanicaaGfPow
namespace Go.Proofs.Ytbhlgcenfanicaa
namespace Gf
/-- Where byte j comes from where rows are turned right. -/
def iord (j : Nat) : Nat := (j + 12 * (j % 4)) % 16
theorem iord_lt (j : Nat) : iord j < 16 := Nat.mod_lt _ (by omega)
theorem iord_ord (j : Nat) (h : j < 16) : iord (ord j) = j := by unfold iord ord; omega
theorem ord_iord (j : Nat) (h : j < 16) : ord (iord j) = j := by unfold iord ord; omega
def unTurn (s : Nat → Nat) (j : Nat) : Nat := unsub (s (iord j))
theorem unTurn_lt {s : Nat → Nat} (hs : ∀ j, j < 16 → s j < 256) (j : Nat) : unTurn s j < 256 := unsub_lt _ (hs _ (iord_lt j))
def mix3 (s : Nat → Nat) : Nat → Nat := mixS (mixS (mixS s))
theorem mix3_lt {s : Nat → Nat} (hs : ∀ j, j < 16 → s j < 256) (j : Nat) (hj : j < 16) : mix3 s j < 256 := mixS_lt (mixS_lt (mixS_lt hs)) j hj
/-- After i rounds back, of R. -/
def decTo (K : Nat → Nat) (R : Nat) (s : Nat → Nat) : Nat → Nat → Nat
  | 0 => unTurn (addK s (keyAt K R))
  | i + 1 => unTurn (mix3 (addK (decTo K R s i) (keyAt K (R - 1 - i))))
def dec (K : Nat → Nat) (R : Nat) (s : Nat → Nat) : Nat → Nat := addK (decTo K R s (R - 1)) (keyAt K 0)
theorem decTo_lt {K s : Nat → Nat} {R : Nat} (hK : ∀ j, K j < 256) (hs : ∀ j, j < 16 → s j < 256) : ∀ i j, j < 16 → decTo K R s i j < 256 := by
  intro i
  induction i with
  | zero => intro j _; exact unTurn_lt (s := addK s (keyAt K R)) (fun j hj => addK_lt (k := keyAt K R) (hs j hj) (hK _)) j
  | succ i ih => intro j _; exact unTurn_lt (s := mix3 (addK (decTo K R s i) (keyAt K (R - 1 - i)))) (mix3_lt (fun j hj => addK_lt (k := keyAt K (R - 1 - i)) (ih j hj) (hK _))) j
theorem dec_lt {K s : Nat → Nat} {R : Nat} (hK : ∀ j, K j < 256) (hs : ∀ j, j < 16 → s j < 256) (j : Nat) (hj : j < 16) : dec K R s j < 256 := addK_lt (decTo_lt hK hs _ j hj) (hK _)
/-- The factors of mixing back. -/
def backF : Nat → Nat
  | 0 => 14
  | 1 => 11
  | 2 => 13
  | _ => 9
def Col.back (v : Col) : Col := ⟨(((mul v.a 14 ^^^ mul v.b 11) ^^^ mul v.c 13) ^^^ mul v.d 9), (((mul v.a 9 ^^^ mul v.b 14) ^^^ mul v.c 11) ^^^ mul v.d 13), (((mul v.a 13 ^^^ mul v.b 9) ^^^ mul v.c 14) ^^^ mul v.d 11), (((mul v.a 11 ^^^ mul v.b 13) ^^^ mul v.c 9) ^^^ mul v.d 14)⟩
theorem back_add (u v : Col) (hu : u.ok) (hv : v.ok) : (u.add v).back = u.back.add v.back := by
  obtain ⟨a, b, c, d⟩ := u
  obtain ⟨a', b', c', d'⟩ := v
  obtain ⟨h1, h2, h3, h4⟩ := hu
  obtain ⟨k1, k2, k3, k4⟩ := hv
  simp only at h1 h2 h3 h4 k1 k2 k3 k4
  simp only [Col.back, Col.add, mul_xorL _ _ _ h1 k1, mul_xorL _ _ _ h2 k2, mul_xorL _ _ _ h3 k3, mul_xorL _ _ _ h4 k4, Col.mk.injEq]
  refine ⟨?_, ?_, ?_, ?_⟩ <;> rw [xor4 (mul a _) (mul a' _), xor4 (mul a _ ^^^ mul b _) (mul a' _ ^^^ mul b' _), xor4 _ _ (mul d _) (mul d' _)]
theorem back_1 : ∀ x, x < 256 → (⟨x, 0, 0, 0⟩ : Col).mix.mix.mix = (⟨x, 0, 0, 0⟩ : Col).back := by decide +kernel
theorem back_2 : ∀ x, x < 256 → (⟨0, x, 0, 0⟩ : Col).mix.mix.mix = (⟨0, x, 0, 0⟩ : Col).back := by decide +kernel
theorem back_3 : ∀ x, x < 256 → (⟨0, 0, x, 0⟩ : Col).mix.mix.mix = (⟨0, 0, x, 0⟩ : Col).back := by decide +kernel
theorem back_4 : ∀ x, x < 256 → (⟨0, 0, 0, x⟩ : Col).mix.mix.mix = (⟨0, 0, 0, x⟩ : Col).back := by decide +kernel
/-- Mixing three times is the product with 14, 11, 13 and 9. -/
theorem mix3_back (v : Col) (hv : v.ok) : v.mix.mix.mix = v.back :=
  Col.ext (fun v => v.mix.mix.mix) Col.back mix3_add back_add back_1 back_2 back_3 back_4 v hv
/-- The column of a state from o on. -/
def colAt (s : Nat → Nat) (o : Nat) : Col := ⟨s o, s (o + 1), s (o + 2), s (o + 3)⟩
theorem colAt_mix (s : Nat → Nat) (c : Nat) : colAt (mixS s) (4 * c) = (colAt s (4 * c)).mix := by
  have e : ∀ r, r < 4 → mixS s (4 * c + r) = mixAt s (4 * c) r := fun r hr => by
    rw [mixS, show (4 * c + r) / 4 * 4 = 4 * c from by omega, show (4 * c + r) % 4 = r from by omega]
  have e0 := e 0 (by omega)
  rw [Nat.add_zero] at e0
  simp only [colAt, Col.mix, e0, e 1 (by omega), e 2 (by omega), e 3 (by omega)]
  rfl
theorem mrow_back (X : Nat → Nat) (_hX : ∀ k, k < 4 → X k < 256) : mrow X backF 0 = (colAt X 0).back.a ∧ mrow X backF 1 = (colAt X 0).back.b ∧ mrow X backF 2 = (colAt X 0).back.c ∧ mrow X backF 3 = (colAt X 0).back.d := by
  refine ⟨?_, ?_, ?_, ?_⟩ <;> simp [mrow, mpart, backF, Col.back, colAt]
/-- The numbers of a column times the factors of mixing back are the column mixed three times. -/
theorem mix3_row (s : Nat → Nat) (hs : ∀ j, j < 16 → s j < 256) (c r : Nat) (hc : c < 4) (hr : r < 4) : mrow (fun k => s (4 * c + k)) backF r = mix3 s (4 * c + r) := by
  have ok : (colAt s (4 * c)).ok := ⟨hs _ (by omega), hs _ (by omega), hs _ (by omega), hs _ (by omega)⟩
  have h := mix3_back _ ok
  rw [← colAt_mix, ← colAt_mix, ← colAt_mix] at h
  have m := mrow_back (fun k => s (4 * c + k)) (fun k hk => hs _ (by omega))
  have e : colAt (fun k => s (4 * c + k)) 0 = colAt s (4 * c) := rfl
  rw [e, ← h] at m
  rcases (show r = 0 ∨ r = 1 ∨ r = 2 ∨ r = 3 by omega) with rfl | rfl | rfl | rfl
  · exact m.1
  · exact m.2.1
  · exact m.2.2.1
  · exact m.2.2.2
end Gf
end Go.Proofs.Ytbhlgcenfanicaa
