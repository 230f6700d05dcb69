/-
  What bytes tell of files: the mathematics of ReadFiles.
-/
import Derived.Test.YtglfhajfbdjjcaaRdrZ
import Derived.Test.YtglfhajfbdjjcaaFileBy
import Derived.Test.YtglfhajfbdjjcaaInsJ
namespace Go.Proofs.Ytglfhajfbdjjcaa
open Go.ChangeShapes Go.WideShapes Go.ChangeAt Go.RowKit
set_option linter.unusedVariables false
/-- How long the Data is of a file that begins at s. -/
def nDR (f : Nat → Nat) (s : Nat) : Nat := f (s + 2 + f s) * 256 + f (s + 3 + f s)
/-- Where the next file begins. -/
def nxR (f : Nat → Nat) (s : Nat) : Nat := s + 4 + f s + nDR f s
/-- Where file k begins. -/
def stR (f : Nat → Nat) : Nat → Nat
  | 0 => 1
  | k + 1 => nxR f (stR f k)
/-- The file that begins at s. -/
def atR (f : Nat → Nat) (s : Nat) : Fi := ⟨kstr f (s + 1) (f s), decide (f (s + 1 + f s) = 1), kstr f (s + 4 + f s) (nDR f s)⟩
def fiR (f : Nat → Nat) (k : Nat) : Fi := atR f (stR f k)
theorem stR_le (f : Nat → Nat) (k : Nat) : ∀ m, stR f k ≤ stR f (k + m)
  | 0 => Nat.le_refl _
  | m + 1 => by
    have h := stR_le f k m
    show stR f k ≤ nxR f (stR f (k + m))
    unfold nxR
    omega
theorem stR_pos (f : Nat → Nat) (k : Nat) : 0 < stR f k := by have := stR_le f 0 k; rw [Nat.zero_add] at this; exact this
/-- The bytes as a list. -/
def byL (N : Nat) (f : Nat → Nat) : List Nat := (List.range N).map f
theorem byL_length (N : Nat) (f : Nat → Nat) : (byL N f).length = N := by unfold byL; simp
/-- N bytes f are just those of right files. -/
def GoodR (N : Nat) (f : Nat → Nat) : Prop := 0 < N ∧ stR f (f 0) ≤ N ∧ FsOk (f 0) (fiR f) ∧ filL (f 0) (fiR f) = byL N f
/-- What ReadFiles answers. -/
def RfIs (N : Nat) (f : Nat → Nat) (m : Nat) (G : Nat → Fi) (c : Int) : Prop :=
  (65536 < N ∧ c = 2 ∧ m = 0) ∨ (¬ 65536 < N ∧ ((GoodR N f ∧ c = 0 ∧ m = f 0 ∧ ∀ i, i < m → G i = fiR f i) ∨ (¬ GoodR N f ∧ c = 3 ∧ m = 0)))
theorem RfIs.uniq {N : Nat} {f : Nat → Nat} {m m' : Nat} {G G' : Nat → Fi} {c c' : Int} (h : RfIs N f m G c) (h' : RfIs N f m' G' c') : m = m' ∧ c = c' ∧ ∀ i, i < m → G i = G' i := by
  rcases h with ⟨a, rfl, rfl⟩ | ⟨a, ⟨b, rfl, rfl, g⟩ | ⟨b, rfl, rfl⟩⟩ <;> rcases h' with ⟨a', rfl, rfl⟩ | ⟨a', ⟨b', rfl, rfl, g'⟩ | ⟨b', rfl, rfl⟩⟩
  · exact ⟨rfl, rfl, fun i hi => absurd hi (by omega)⟩
  · exact absurd a a'
  · exact absurd a a'
  · exact absurd a' a
  · exact ⟨rfl, rfl, fun i hi => (g i hi).trans (g' i hi).symm⟩
  · exact absurd b b'
  · exact absurd a' a
  · exact absurd b' b
  · exact ⟨rfl, rfl, fun i hi => absurd hi (by omega)⟩
theorem RfIs.bound {N : Nat} {f : Nat → Nat} {m : Nat} {G : Nat → Fi} {c : Int} (h : RfIs N f m G c) : m ≤ 13 := by
  rcases h with ⟨_, _, rfl⟩ | ⟨_, ⟨b, _, rfl, _⟩ | ⟨_, _, rfl⟩⟩
  · omega
  · have := b.2.2.1.1; omega
  · omega
/-- A reader stands behind L bytes, or is short of them. -/
def InvR (N : Nat) (p : Option Nat) (L : Nat) : Prop := (p = some L ∧ L ≤ N) ∨ (p = none ∧ N < L)
theorem InvR.next {N : Nat} {p p' : Option Nat} {L k : Nat} {Q : Nat → Prop} (h : InvR N p L) (n : Nxt N k p p' Q) : InvR N p' (L + k) ∧ (p' ≠ none → p = some L ∧ Q L) := by
  rcases n with ⟨rfl, rfl | ⟨P, rfl, hP⟩⟩ | ⟨P, rfl, hP, rfl, hQ⟩
  · rcases h with ⟨e, _⟩ | ⟨_, h⟩
    · cases e
    · exact ⟨.inr ⟨rfl, by omega⟩, fun q => absurd rfl q⟩
  · rcases h with ⟨e, _⟩ | ⟨e, _⟩
    · cases e; exact ⟨.inr ⟨rfl, hP⟩, fun q => absurd rfl q⟩
    · cases e
  · rcases h with ⟨e, _⟩ | ⟨e, _⟩
    · cases e; exact ⟨.inl ⟨rfl, hP⟩, fun _ => ⟨rfl, hQ⟩⟩
    · cases e
theorem InvR.pos {N : Nat} {p : Option Nat} {L : Nat} (h : InvR N p L) (hL : 0 < L) (P : Nat) (e : p = some P) : 0 < P := by
  rcases h with ⟨e', _⟩ | ⟨e', _⟩
  · rw [e'] at e; cases e; exact hL
  · rw [e'] at e; cases e
theorem valN1 (f : Nat → Nat) (P : Nat) : valN (fun i => f (P + i)) 1 = f P := by show (0 * 256 + f (P + 0)) = _; simp
theorem valN2 (f : Nat → Nat) (P : Nat) : valN (fun i => f (P + i)) 2 = f P * 256 + f (P + 1) := by show ((0 * 256 + f (P + 0)) * 256 + f (P + 1)) = _; simp
/-- A file that was read, of so many bytes as it has. -/
theorem file_next {N s : Nat} {f : Nat → Nat} {p0 p1 p2 p3 p4 p5 : Option Nat} {x1 x2 x3 : Nat} {t1 t2 : ByteArray} (h : InvR N p0 s)
    (n1 : Nxt N 1 p0 p1 (fun P => x1 = valN (fun i => f (P + i)) 1)) (n2 : Nxt N x1 p1 p2 (fun P => t1 = kstr f P x1)) (n3 : Nxt N 1 p2 p3 (fun P => x2 = valN (fun i => f (P + i)) 1)) (n4 : Nxt N 2 p3 p4 (fun P => x3 = valN (fun i => f (P + i)) 2)) (n5 : Nxt N x3 p4 p5 (fun P => t2 = kstr f P x3)) :
    InvR N p5 (s + (4 + x1 + x3)) ∧ (p5 ≠ none → (⟨t1, decide (x2 = 1), t2⟩ : Fi) = atR f s ∧ s + (4 + x1 + x3) = nxR f s) := by
  obtain ⟨i1, q1⟩ := h.next n1
  obtain ⟨i2, q2⟩ := i1.next n2
  obtain ⟨i3, q3⟩ := i2.next n3
  obtain ⟨i4, q4⟩ := i3.next n4
  obtain ⟨i5, q5⟩ := i4.next n5
  refine ⟨by rw [show s + (4 + x1 + x3) = s + 1 + x1 + 1 + 2 + x3 by omega]; exact i5, fun hp => ?_⟩
  obtain ⟨e5, h5⟩ := q5 hp
  obtain ⟨e4, h4⟩ := q4 (by rw [e5]; simp)
  obtain ⟨e3, h3⟩ := q3 (by rw [e4]; simp)
  obtain ⟨e2, h2⟩ := q2 (by rw [e3]; simp)
  obtain ⟨e1, h1⟩ := q1 (by rw [e2]; simp)
  rw [valN1] at h1 h3
  rw [valN2] at h4
  subst h1
  have hx3 : x3 = nDR f s := by
    rw [h4]
    unfold nDR
    rw [show s + 1 + f s + 1 = s + 2 + f s by omega, show s + 2 + f s + 1 = s + 3 + f s by omega]
  refine ⟨?_, by unfold nxR; omega⟩
  unfold atR
  rw [h2, h3, h5, hx3, show s + 1 + f s + 1 + 2 = s + 4 + f s by omega]
theorem Nxt.yes {N k P : Nat} {p' : Option Nat} {Q : Nat → Prop} (n : Nxt N k (some P) p' Q) (h : P + k ≤ N) : p' = some (P + k) ∧ Q P := by
  rcases n with ⟨rfl, e | ⟨P', e, hP⟩⟩ | ⟨P', e, hP, rfl, hQ⟩
  · cases e
  · cases e; omega
  · cases e; exact ⟨rfl, hQ⟩
/-- Where a whole file is, it is read. -/
theorem file_whole {N s : Nat} {f : Nat → Nat} {p1 p2 p3 p4 p5 : Option Nat} {x1 x2 x3 : Nat} {t1 t2 : ByteArray}
    (n1 : Nxt N 1 (some s) p1 (fun P => x1 = valN (fun i => f (P + i)) 1)) (n2 : Nxt N x1 p1 p2 (fun P => t1 = kstr f P x1)) (n3 : Nxt N 1 p2 p3 (fun P => x2 = valN (fun i => f (P + i)) 1)) (n4 : Nxt N 2 p3 p4 (fun P => x3 = valN (fun i => f (P + i)) 2)) (n5 : Nxt N x3 p4 p5 (fun P => t2 = kstr f P x3)) (h : nxR f s ≤ N) : p5 ≠ none := by
  unfold nxR nDR at h
  obtain ⟨rfl, h1⟩ := n1.yes (by omega)
  rw [valN1] at h1
  subst h1
  obtain ⟨rfl, _⟩ := n2.yes (by omega)
  obtain ⟨rfl, _⟩ := n3.yes (by omega)
  obtain ⟨rfl, h4⟩ := n4.yes (by omega)
  rw [valN2, show s + 1 + f s + 1 = s + 2 + f s by omega, show s + 2 + f s + 1 = s + 3 + f s by omega] at h4
  obtain ⟨rfl, _⟩ := n5.yes (by omega)
  simp
theorem fiL_len (x : Fi) : (fiL x).length = 4 + x.p.size + x.t.size := by
  unfold fiL
  simp [strL_length, numL_length]
  omega
theorem flatF_succ_len (F : Nat → Fi) (k : Nat) : (flatF fiL F (k + 1)).length = (flatF fiL F k).length + (4 + (F k).p.size + (F k).t.size) := by
  show (flatF fiL F k ++ fiL (F k)).length = _
  rw [List.length_append, fiL_len]
theorem flatF_congr {F G : Nat → Fi} : ∀ {n : Nat}, (∀ i, i < n → F i = G i) → flatF fiL F n = flatF fiL G n
  | 0, _ => rfl
  | n + 1, h => by
    show flatF fiL F n ++ fiL (F n) = flatF fiL G n ++ fiL (G n)
    rw [flatF_congr (fun i hi => h i (by omega)), h n (by omega)]
theorem fsOk_congr {n : Nat} {F G : Nat → Fi} (h : ∀ i, i < n → F i = G i) (hF : FsOk n F) : FsOk n G := by
  refine ⟨hF.1, fun i hi => ?_⟩
  obtain ⟨h1, h2, h3⟩ := hF.2 i hi
  refine ⟨by rw [← h i hi]; exact h1, fun h0 => by rw [← h i hi, ← h (i - 1) (by omega)]; exact h2 h0, ?_⟩
  rw [← h i hi]
  rcases h3 with q | ⟨j, hj, e, d⟩
  · exact .inl q
  · exact .inr ⟨j, hj, by rw [← h j hj]; exact e, by rw [← h j hj]; exact d⟩
/-- What a reader of files has come to. -/
def SoFar (N : Nat) (f : Nat → Nat) (k : Nat) (G : Nat → Fi) (p : Option Nat) : Prop := (p = some (stR f k) ∧ stR f k ≤ N ∧ ∀ i, i < k → G i = fiR f i) ∨ (p = none ∧ N < 1 + (flatF fiL G k).length ∧ N < stR f k)
theorem SoFar.inv {N : Nat} {f : Nat → Nat} {k : Nat} {G : Nat → Fi} {p : Option Nat} (h : SoFar N f k G p) : ∃ s, 0 < s ∧ InvR N p s ∧ (p = none → s = 1 + (flatF fiL G k).length) ∧ (p ≠ none → s = stR f k ∧ ∀ i, i < k → G i = fiR f i) := by
  rcases h with ⟨rfl, h1, h2⟩ | ⟨rfl, h1, _⟩
  · exact ⟨_, stR_pos f k, .inl ⟨rfl, h1⟩, (fun e => by cases e), fun _ => ⟨rfl, h2⟩⟩
  · exact ⟨1 + (flatF fiL G k).length, by omega, .inr ⟨rfl, h1⟩, fun _ => rfl, fun q => absurd rfl q⟩
theorem flat_fiR (f : Nat → Nat) : ∀ k, 1 + (flatF fiL (fiR f) k).length = stR f k
  | 0 => rfl
  | k + 1 => by
    have h := flat_fiR f k
    rw [flatF_succ_len]
    show _ = nxR f (stR f k)
    unfold nxR
    have h1 : (fiR f k).p.size = f (stR f k) := kstr_size _ _ _
    have h2 : (fiR f k).t.size = nDR f (stR f k) := kstr_size _ _ _
    omega
theorem SoFar.step {N k : Nat} {f : Nat → Nat} {G G' : Nat → Fi} {p p' : Option Nat} {x : Fi} {s : Nat} (h : SoFar N f k G p) (hs : InvR N p s) (hi : InvR N p' (s + (4 + x.p.size + x.t.size))) (hx : p' ≠ none → x = atR f s ∧ s + (4 + x.p.size + x.t.size) = nxR f s)
    (hp : p ≠ none → s = stR f k) (hp0 : p = none → s = 1 + (flatF fiL G k).length) (hG : ∀ i, i < k → G' i = G i) (hk : G' k = x) (hw : p = some s → nxR f s ≤ N → p' ≠ none) : SoFar N f (k + 1) G' p' := by
  rcases hi with ⟨rfl, h1⟩ | ⟨rfl, h1⟩
  · obtain ⟨e1, e2⟩ := hx (by simp)
    have hpn : p ≠ none := fun e => by
      rcases hs with ⟨e', _⟩ | ⟨_, h⟩
      · rw [e] at e'; cases e'
      · omega
    have hss := hp hpn
    refine .inl ⟨by rw [e2, hss]; rfl, by show nxR f (stR f k) ≤ N; rw [← hss, ← e2]; exact h1, fun i hi => ?_⟩
    rcases h with ⟨_, _, h3⟩ | ⟨e, _⟩
    · rcases Nat.lt_or_ge i k with hl | hl
      · rw [hG i hl]; exact h3 i hl
      · obtain rfl : i = k := by omega
        rw [hk, e1, hss]; rfl
    · exact absurd e hpn
  · refine .inr ⟨rfl, ?_, ?_⟩
    rotate_left
    · rcases h with ⟨e, h2, _⟩ | ⟨_, _, h2⟩
      · have hss := hp (by rw [e]; simp)
        rcases Nat.lt_or_ge N (nxR f s) with q | q
        · show N < nxR f (stR f k)
          rw [← hss]; exact q
        · exact absurd rfl (hw (by rw [e, hss]) q)
      · have := stR_le f k 1; omega
    rw [flatF_succ_len, hk, flatF_congr hG]
    by_cases hpn : p = none
    · have := hp0 hpn; omega
    · have := hp hpn
      rcases h with ⟨_, _, h3⟩ | ⟨e, _⟩
      · have h4 := flat_fiR f k
        rw [flatF_congr h3]
        omega
      · exact absurd e hpn
/-- Behind all files: right bytes are told. -/
theorem SoFar.good {N m : Nat} {f : Nat → Nat} {G : Nat → Fi} {p : Option Nat} (hN : 0 < N) (hm : m = f 0) (h : SoFar N f m G p) : (FsOk m G ∧ filL m G = byL N f) ↔ (GoodR N f ∧ ∀ i, i < m → G i = fiR f i) := by
  subst hm
  constructor
  · rintro ⟨h1, h2⟩
    rcases h with ⟨_, h3, h4⟩ | ⟨_, h3, _⟩
    · exact ⟨⟨hN, h3, fsOk_congr h4 h1, by rw [← h2]; unfold filL; rw [flatF_congr h4]⟩, h4⟩
    · have := congrArg List.length h2
      rw [byL_length] at this
      unfold filL at this
      rw [List.length_append] at this
      simp at this
      omega
  · rintro ⟨⟨_, h1, h2, h3⟩, h4⟩
    exact ⟨fsOk_congr (fun i hi => (h4 i hi).symm) h2, by rw [← h3]; unfold filL; rw [flatF_congr h4]⟩
theorem SoFar.bad {N m : Nat} {f : Nat → Nat} {G : Nat → Fi} {p : Option Nat} (hN : 0 < N) (hm : m = f 0) (h : SoFar N f m G p) (hb : ¬ (FsOk m G ∧ filL m G = byL N f)) : ¬ GoodR N f := fun hg => by
  subst hm
  rcases h with ⟨_, h3, h4⟩ | ⟨_, _, h3⟩
  · exact hb ⟨fsOk_congr (fun i hi => (h4 i hi).symm) hg.2.2.1, by rw [← hg.2.2.2]; unfold filL; rw [flatF_congr h4]⟩
  · have := hg.2.1; omega
end Go.Proofs.Ytglfhajfbdjjcaa
