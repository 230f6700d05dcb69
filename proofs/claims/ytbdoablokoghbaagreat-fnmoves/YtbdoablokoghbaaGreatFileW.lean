/-
  New ones' faults, put by path, and MakeDir of the program.
-/
import Derived.Test.YtbdoablokoghbaaGreatFileFt
import Derived.Test.YtbdoablokoghbaaGreatPutFi
namespace Go.Proofs.YtbdoablokoghbaaGreat
open Go.ChangeShapes Go.WideShapes Go.ChangeAt Go.RowKit
set_option linter.unusedVariables false
theorem Pos.uniq {f : Nat → Int} {n : Nat} {x : Int} {k k' : Nat} (h : Pos f n x k) (h' : Pos f n x k') : k = k' := by
  rcases Nat.lt_trichotomy k k' with g | g | g
  · have h1 := h'.2.1 k g
    have h2 := h.2.2 k (Nat.le_refl _) (by have := h'.1; omega)
    omega
  · exact g
  · have h1 := h.2.1 k' g
    have h2 := h'.2.2 k' (Nat.le_refl _) (by have := h.1; omega)
    omega
/-- What a new one's faults are. -/
def NewIs (n : Nat) (F : Nat → Fi) (p : ByteArray) (c : Int) : Prop := (DirIs n F (par p) c ∧ c ≠ 0) ∨ (DirIs n F (par p) 0 ∧ ((12 ≤ n ∧ c = 7) ∨ (n < 12 ∧ c = 0)))
theorem NewIs.uniq {n : Nat} {F : Nat → Fi} {p : ByteArray} {c c' : Int} (hs : Srt n F) (h : NewIs n F p c) (h' : NewIs n F p c') : c = c' := by
  rcases h with ⟨a, b⟩ | ⟨a, ⟨b, rfl⟩ | ⟨b, rfl⟩⟩ <;> rcases h' with ⟨a', b'⟩ | ⟨a', ⟨b', rfl⟩ | ⟨b', rfl⟩⟩ <;> first | rfl | exact a.uniq hs a' | exact absurd (a.uniq hs a') b | exact absurd (a.uniq hs a').symm b' | omega
/-- Files with one set at its path. -/
def PutIs (n : Nat) (F : Nat → Fi) (f : Fi) (m : Nat) (G : Nat → Fi) : Prop := (∃ k, k < n ∧ (F k).p = f.p ∧ m = n ∧ ∀ i, i < m → G i = updE F k f i) ∨ ((∀ j, j < n → (F j).p ≠ f.p) ∧ m = n + 1 ∧ ∃ k, Pos (fun i => ord (F i).p) n (ord f.p) k ∧ ∀ i, i < m → G i = insE F k f i)
theorem PutIs.uniq {n : Nat} {F : Nat → Fi} {f : Fi} {m m' : Nat} {G G' : Nat → Fi} (hs : Srt n F) (h : PutIs n F f m G) (h' : PutIs n F f m' G') : m = m' ∧ ∀ i, i < m → G i = G' i := by
  rcases h with ⟨k, hk, e, rfl, hG⟩ | ⟨hno, rfl, k, hP, hG⟩ <;> rcases h' with ⟨k', hk', e', rfl, hG'⟩ | ⟨hno', rfl, k', hP', hG'⟩
  · obtain rfl := hs.uniq hk hk' (e.trans e'.symm)
    exact ⟨rfl, fun i hi => (hG i hi).trans (hG' i hi).symm⟩
  · exact absurd e (hno' k hk)
  · exact absurd e' (hno k' hk')
  · obtain rfl := hP.uniq hP'
    exact ⟨rfl, fun i hi => (hG i hi).trans (hG' i hi).symm⟩
theorem fiF_congr {n : Nat} {F G : Nat → Fi} (h : ∀ i, i < n → F i = G i) : ∀ i, i < n → ∀ j, j < 3 → fiF F i j = fiF G i j := fun i hi j _ => by unfold fiF; rw [h i hi]
/-- A row of files of one's own is handed back. -/
def RetPut (n : Nat) (F : Nat → Fi) (f : Fi) (B : Nat) (e : Ending) (w : World) : Prop := ∃ (a : Option Addr) (m c : Nat) (G : Nat → Fi), e = .returned (.slice a m c) ∧ EO w B 32 3 (.slice a m c) m (fiF G) ∧ PutIs n F f m G
end Go.Proofs.YtbdoablokoghbaaGreat
