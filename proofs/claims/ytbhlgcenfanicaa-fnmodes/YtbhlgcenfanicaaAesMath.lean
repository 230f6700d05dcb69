/-
  Plain mathematics: what is encrypted is decrypted.
-/
import Derived.Test.YtbhlgcenfanicaaDecMath
import Derived.Test.YtbhlgcenfanicaaKMath
namespace Go.Proofs.Ytbhlgcenfanicaa
namespace Gf
/-- Alike at the sixteen places. -/
def Same (f g : Nat → Nat) : Prop := ∀ j, j < 16 → f j = g j
theorem Same.trans {f g h : Nat → Nat} (a : Same f g) (b : Same g h) : Same f h := fun j hj => (a j hj).trans (b j hj)
theorem same_addK {f g : Nat → Nat} (h : Same f g) (k : Nat → Nat) : Same (addK f k) (addK g k) := fun j hj => by unfold addK; rw [h j hj]
theorem same_unTurn {f g : Nat → Nat} (h : Same f g) : Same (unTurn f) (unTurn g) := fun j _ => by unfold unTurn; rw [h _ (iord_lt j)]
theorem same_mixS {f g : Nat → Nat} (h : Same f g) : Same (mixS f) (mixS g) := fun j hj => by
  have m := Nat.mod_lt (j % 4 + 1) (show 0 < 4 by omega)
  unfold mixS mixAt
  rw [h (j / 4 * 4) (by omega), h (j / 4 * 4 + 1) (by omega), h (j / 4 * 4 + 2) (by omega), h (j / 4 * 4 + 3) (by omega), h (j / 4 * 4 + j % 4) (by omega), h (j / 4 * 4 + (j % 4 + 1) % 4) (by omega)]
theorem same_mix3 {f g : Nat → Nat} (h : Same f g) : Same (mix3 f) (mix3 g) := same_mixS (same_mixS (same_mixS h))
theorem addK_twice (f k : Nat → Nat) : Same (addK (addK f k) k) f := fun j _ => by
  unfold addK
  rw [Nat.xor_assoc, Nat.xor_self, Nat.xor_zero]
theorem unTurn_subTurn {f : Nat → Nat} (hf : ∀ j, j < 16 → f j < 256) : Same (unTurn (subTurn f)) f := fun j hj => by
  show unsub (sub (f (ord (iord j)))) = f j
  rw [ord_iord j hj, unsub_sub _ (hf j hj)]
theorem mix3_mixS {f : Nat → Nat} (hf : ∀ j, j < 16 → f j < 256) : Same (mix3 (mixS f)) f := fun j hj => by
  have ok : (colAt f (4 * (j / 4))).ok := ⟨hf _ (by omega), hf _ (by omega), hf _ (by omega), hf _ (by omega)⟩
  have h := mix4 _ ok
  rw [← colAt_mix, ← colAt_mix, ← colAt_mix, ← colAt_mix] at h
  simp only [colAt, Col.mk.injEq] at h
  obtain ⟨h0, h1, h2, h3⟩ := h
  have e : j = 4 * (j / 4) + j % 4 := by omega
  rcases (show j % 4 = 0 ∨ j % 4 = 1 ∨ j % 4 = 2 ∨ j % 4 = 3 by omega) with m | m | m | m
  · rw [e, m]; exact h0
  · rw [e, m]; exact h1
  · rw [e, m]; exact h2
  · rw [e, m]; exact h3
theorem same_decTo {K f g : Nat → Nat} {R : Nat} (h : Same f g) : ∀ i, Same (decTo K R f i) (decTo K R g i)
  | 0 => same_unTurn (same_addK h _)
  | i + 1 => same_unTurn (same_mix3 (same_addK (same_decTo h i) _))
theorem same_dec {K f g : Nat → Nat} {R : Nat} (h : Same f g) : Same (dec K R f) (dec K R g) := same_addK (same_decTo h _) _
theorem decTo_enc {K s : Nat → Nat} {R : Nat} (hR : 1 ≤ R) (hK : ∀ j, K j < 256) (hs : ∀ j, j < 16 → s j < 256) : ∀ i, i ≤ R - 1 → Same (decTo K R (enc K R s) i) (encTo K s (R - 1 - i)) := by
  intro i
  induction i with
  | zero =>
    intro _
    have a : Same (addK (enc K R s) (keyAt K R)) (subTurn (encTo K s (R - 1))) := addK_twice _ _
    exact (same_unTurn a).trans (unTurn_subTurn (encTo_lt hK hs _))
  | succ i ih =>
    intro hi
    have h := ih (by omega)
    obtain ⟨q, hq⟩ : ∃ q, R - 1 - i = q + 1 := ⟨R - 1 - i - 1, by omega⟩
    have hq' : R - 1 - (i + 1) = q := by omega
    rw [hq] at h
    rw [hq']
    show Same (unTurn (mix3 (addK (decTo K R (enc K R s) i) (keyAt K (R - 1 - i))))) _
    rw [hq]
    have a : Same (addK (decTo K R (enc K R s) i) (keyAt K (q + 1))) (mixS (subTurn (encTo K s q))) := (same_addK h _).trans (addK_twice _ _)
    exact (same_unTurn ((same_mix3 a).trans (mix3_mixS (fun j _ => subTurn_lt (encTo_lt hK hs q) j)))).trans (unTurn_subTurn (encTo_lt hK hs q))
/-- What is encrypted is decrypted. -/
theorem dec_enc {K s : Nat → Nat} {R : Nat} (hR : 1 ≤ R) (hK : ∀ j, K j < 256) (hs : ∀ j, j < 16 → s j < 256) : Same (dec K R (enc K R s)) s := by
  have h := decTo_enc hR hK hs (R - 1) (Nat.le_refl _)
  rw [Nat.sub_self] at h
  exact (same_addK h _).trans (addK_twice _ _)
end Gf
theorem kstr_same {f g : Nat → Nat} (h : Gf.Same f g) : kstr f 0 16 = kstr g 0 16 := kstr_congr (fun i hi => by rw [Nat.zero_add]; exact h i hi)
theorem same_strB {f : Nat → Nat} (hf : ∀ j, j < 16 → f j < 256) : Gf.Same (strB (kstr f 0 16)) f := fun j hj => by
  rw [strB_kstr f 0 16 j (by rw [Nat.zero_add]; exact hf j hj) hj, Nat.zero_add]
/-- A block that is encrypted and decrypted is what it was. -/
theorem dec_enc_text {K : Nat → Nat} {R : Nat} (hR : 1 ≤ R) (hK : ∀ j, K j < 256) (a : ByteArray) (ha : a.size = 16) : kstr (Gf.dec K R (strB (kstr (Gf.enc K R (strB a)) 0 16))) 0 16 = a := by
  have h1 := Gf.same_dec (K := K) (R := R) (same_strB (f := Gf.enc K R (strB a)) (fun j _ => Gf.enc_lt hK (fun j _ => strB_lt a j) j))
  rw [kstr_same (h1.trans (Gf.dec_enc hR hK (fun j _ => strB_lt a j)))]
  have := kstr_self a
  rwa [ha] at this
theorem enc_inj {K : Nat → Nat} {R : Nat} (hR : 1 ≤ R) (hK : ∀ j, K j < 256) (a b : ByteArray) (ha : a.size = 16) (hb : b.size = 16) (h : kstr (Gf.enc K R (strB a)) 0 16 = kstr (Gf.enc K R (strB b)) 0 16) : a = b := by
  rw [← dec_enc_text hR hK a ha, h, dec_enc_text hR hK b hb]
end Go.Proofs.Ytbhlgcenfanicaa
