/-
  Plain mathematics: mixing a column goes over sums, four times it is nothing, and three times it is the product with 14, 11, 13 and 9; for all bytes.
-/
import Derived.Test.YtbhlgcenfanicaaGfLaws
namespace Go.Proofs.Ytbhlgcenfanicaa.Gf
def mixc (a b c d x y : Nat) : Nat := (((((a ^^^ b) ^^^ c) ^^^ d)) ^^^ x) ^^^ dbl (x ^^^ y)
theorem xor_shuffle (a b c d x a' b' c' d' x' p q : Nat) :
    (((((a ^^^ a') ^^^ (b ^^^ b')) ^^^ (c ^^^ c')) ^^^ (d ^^^ d')) ^^^ (x ^^^ x')) ^^^ (p ^^^ q) = ((((((a ^^^ b) ^^^ c) ^^^ d)) ^^^ x) ^^^ p) ^^^ ((((((a' ^^^ b') ^^^ c') ^^^ d')) ^^^ x') ^^^ q) := by
  rw [xor4 a a' b b', xor4 (a ^^^ b) (a' ^^^ b') c c', xor4 ((a ^^^ b) ^^^ c) ((a' ^^^ b') ^^^ c') d d', xor4 _ _ x x', xor4 _ _ p q]
theorem mixc_xor (a b c d x y a' b' c' d' x' y' : Nat) (hx : x < 256) (hy : y < 256) (hx' : x' < 256) (hy' : y' < 256) :
    mixc (a ^^^ a') (b ^^^ b') (c ^^^ c') (d ^^^ d') (x ^^^ x') (y ^^^ y') = mixc a b c d x y ^^^ mixc a' b' c' d' x' y' := by
  unfold mixc
  rw [xor4 x x' y y', dbl_xor_fin _ (xor_lt hx hy) _ (xor_lt hx' hy')]
  exact xor_shuffle _ _ _ _ _ _ _ _ _ _ _ _
theorem mixc_lt {a b c d x y : Nat} (ha : a < 256) (hb : b < 256) (hc : c < 256) (hd : d < 256) (hx : x < 256) (hy : y < 256) : mixc a b c d x y < 256 :=
  xor_lt (xor_lt (xor_lt (xor_lt (xor_lt ha hb) hc) hd) hx) (dbl_lt _ (xor_lt hx hy))
/-- A column. -/
structure Col where
  a : Nat
  b : Nat
  c : Nat
  d : Nat
deriving DecidableEq
def Col.ok (v : Col) : Prop := v.a < 256 ∧ v.b < 256 ∧ v.c < 256 ∧ v.d < 256
def Col.add (u v : Col) : Col := ⟨u.a ^^^ v.a, u.b ^^^ v.b, u.c ^^^ v.c, u.d ^^^ v.d⟩
def Col.mix (v : Col) : Col := ⟨mixc v.a v.b v.c v.d v.a v.b, mixc v.a v.b v.c v.d v.b v.c, mixc v.a v.b v.c v.d v.c v.d, mixc v.a v.b v.c v.d v.d v.a⟩
theorem Col.add_ok {u v : Col} (hu : u.ok) (hv : v.ok) : (u.add v).ok := ⟨xor_lt hu.1 hv.1, xor_lt hu.2.1 hv.2.1, xor_lt hu.2.2.1 hv.2.2.1, xor_lt hu.2.2.2 hv.2.2.2⟩
theorem Col.mix_ok {v : Col} (h : v.ok) : v.mix.ok :=
  ⟨mixc_lt h.1 h.2.1 h.2.2.1 h.2.2.2 h.1 h.2.1, mixc_lt h.1 h.2.1 h.2.2.1 h.2.2.2 h.2.1 h.2.2.1, mixc_lt h.1 h.2.1 h.2.2.1 h.2.2.2 h.2.2.1 h.2.2.2, mixc_lt h.1 h.2.1 h.2.2.1 h.2.2.2 h.2.2.2 h.1⟩
theorem Col.mix_add {u v : Col} (hu : u.ok) (hv : v.ok) : (u.add v).mix = u.mix.add v.mix := by
  obtain ⟨a, b, c, d⟩ := u
  obtain ⟨a', b', c', d'⟩ := v
  obtain ⟨h1, h2, h3, h4⟩ := hu
  obtain ⟨k1, k2, k3, k4⟩ := hv
  simp only [Col.mix, Col.add, Col.mk.injEq]
  exact ⟨mixc_xor _ _ _ _ _ _ _ _ _ _ _ _ h1 h2 k1 k2, mixc_xor _ _ _ _ _ _ _ _ _ _ _ _ h2 h3 k2 k3, mixc_xor _ _ _ _ _ _ _ _ _ _ _ _ h3 h4 k3 k4, mixc_xor _ _ _ _ _ _ _ _ _ _ _ _ h4 h1 k4 k1⟩
/-- A column is the sum of its four parts. -/
theorem Col.parts (v : Col) : v = (((⟨v.a, 0, 0, 0⟩ : Col).add ⟨0, v.b, 0, 0⟩).add ⟨0, 0, v.c, 0⟩).add ⟨0, 0, 0, v.d⟩ := by
  obtain ⟨a, b, c, d⟩ := v
  simp [Col.add]
/-- Two maps of columns that go over sums are the same if they are on columns with one byte. -/
theorem Col.ext (f g : Col → Col) (hf : ∀ u v, u.ok → v.ok → f (u.add v) = (f u).add (f v)) (hg : ∀ u v, u.ok → v.ok → g (u.add v) = (g u).add (g v))
    (h1 : ∀ x, x < 256 → f ⟨x, 0, 0, 0⟩ = g ⟨x, 0, 0, 0⟩) (h2 : ∀ x, x < 256 → f ⟨0, x, 0, 0⟩ = g ⟨0, x, 0, 0⟩) (h3 : ∀ x, x < 256 → f ⟨0, 0, x, 0⟩ = g ⟨0, 0, x, 0⟩) (h4 : ∀ x, x < 256 → f ⟨0, 0, 0, x⟩ = g ⟨0, 0, 0, x⟩)
    (v : Col) (hv : v.ok) : f v = g v := by
  obtain ⟨ha, hb, hc, hd⟩ := hv
  have o1 : (⟨v.a, 0, 0, 0⟩ : Col).ok := ⟨ha, by show 0 < 256; omega, by show 0 < 256; omega, by show 0 < 256; omega⟩
  have o2 : (⟨0, v.b, 0, 0⟩ : Col).ok := ⟨by show 0 < 256; omega, hb, by show 0 < 256; omega, by show 0 < 256; omega⟩
  have o3 : (⟨0, 0, v.c, 0⟩ : Col).ok := ⟨by show 0 < 256; omega, by show 0 < 256; omega, hc, by show 0 < 256; omega⟩
  have o4 : (⟨0, 0, 0, v.d⟩ : Col).ok := ⟨by show 0 < 256; omega, by show 0 < 256; omega, by show 0 < 256; omega, hd⟩
  rw [v.parts, hf _ _ (Col.add_ok (Col.add_ok o1 o2) o3) o4, hf _ _ (Col.add_ok o1 o2) o3, hf _ _ o1 o2, hg _ _ (Col.add_ok (Col.add_ok o1 o2) o3) o4, hg _ _ (Col.add_ok o1 o2) o3, hg _ _ o1 o2, h1 _ ha, h2 _ hb, h3 _ hc, h4 _ hd]
theorem mix2_add (u v : Col) (hu : u.ok) (hv : v.ok) : (u.add v).mix.mix = u.mix.mix.add v.mix.mix := by rw [Col.mix_add hu hv, Col.mix_add (Col.mix_ok hu) (Col.mix_ok hv)]
theorem mix3_add (u v : Col) (hu : u.ok) (hv : v.ok) : (u.add v).mix.mix.mix = u.mix.mix.mix.add v.mix.mix.mix := by rw [mix2_add u v hu hv, Col.mix_add (Col.mix_ok (Col.mix_ok hu)) (Col.mix_ok (Col.mix_ok hv))]
theorem mix4_add (u v : Col) (hu : u.ok) (hv : v.ok) : (u.add v).mix.mix.mix.mix = u.mix.mix.mix.mix.add v.mix.mix.mix.mix := by rw [mix3_add u v hu hv, Col.mix_add (Col.mix_ok (Col.mix_ok (Col.mix_ok hu))) (Col.mix_ok (Col.mix_ok (Col.mix_ok hv)))]
theorem mix4_1 : ∀ x, x < 256 → (⟨x, 0, 0, 0⟩ : Col).mix.mix.mix.mix = ⟨x, 0, 0, 0⟩ := by decide +kernel
theorem mix4_2 : ∀ x, x < 256 → (⟨0, x, 0, 0⟩ : Col).mix.mix.mix.mix = ⟨0, x, 0, 0⟩ := by decide +kernel
theorem mix4_3 : ∀ x, x < 256 → (⟨0, 0, x, 0⟩ : Col).mix.mix.mix.mix = ⟨0, 0, x, 0⟩ := by decide +kernel
theorem mix4_4 : ∀ x, x < 256 → (⟨0, 0, 0, x⟩ : Col).mix.mix.mix.mix = ⟨0, 0, 0, x⟩ := by decide +kernel
/-- Four times it is nothing. -/
theorem mix4 (v : Col) (hv : v.ok) : v.mix.mix.mix.mix = v :=
  Col.ext (fun v => v.mix.mix.mix.mix) (fun v => v) mix4_add (fun _ _ _ _ => rfl) mix4_1 mix4_2 mix4_3 mix4_4 v hv
end Go.Proofs.Ytbhlgcenfanicaa.Gf
