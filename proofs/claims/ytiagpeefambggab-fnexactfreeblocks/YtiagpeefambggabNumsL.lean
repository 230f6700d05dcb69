/-
  Lists of numbers that have a property, and rows of one's own that hold them.
-/
import Derived.Test.YtiagpeefambggabIntK
namespace Go.Proofs.Ytiagpeefambggab
open Go.ChangeShapes Go.WideShapes Go.ChangeAt Go.RowKit
set_option linter.unusedVariables false
open Classical in
/-- The places of the first k that are dirty. -/
noncomputable def dirL (P : Nat → Prop) : Nat → List Nat
  | 0 => []
  | k + 1 => if P k then dirL P k ++ [k] else dirL P k
theorem dirL_yes {P : Nat → Prop} {k : Nat} (h : P k) : dirL P (k + 1) = dirL P k ++ [k] := by
  simp [dirL, h]
theorem dirL_no {P : Nat → Prop} {k : Nat} (h : ¬ P k) : dirL P (k + 1) = dirL P k := by
  simp [dirL, h]
theorem dirL_le (P : Nat → Prop) : ∀ k, (dirL P k).length ≤ k
  | 0 => by simp [dirL]
  | k + 1 => by
    have := dirL_le P k
    by_cases h : P k
    · rw [dirL_yes h, List.length_append]; simp; omega
    · rw [dirL_no h]; omega
theorem dirL_mem (P : Nat → Prop) (i : Nat) : ∀ k, i ∈ dirL P k ↔ i < k ∧ P i
  | 0 => by simp [dirL]
  | k + 1 => by
    have ih := dirL_mem P i k
    by_cases h : P k
    · rw [dirL_yes h, List.mem_append, ih, List.mem_singleton]
      constructor
      · rintro (⟨h1, h2⟩ | rfl)
        · exact ⟨by omega, h2⟩
        · exact ⟨by omega, h⟩
      · rintro ⟨h1, h2⟩
        by_cases e : i = k
        · exact .inr e
        · exact .inl ⟨by omega, h2⟩
    · rw [dirL_no h, ih]
      constructor
      · rintro ⟨h1, h2⟩
        exact ⟨by omega, h2⟩
      · rintro ⟨h1, h2⟩
        refine ⟨?_, h2⟩
        by_cases e : i = k
        · subst e; exact absurd h2 h
        · omega
def nthI (L : List Nat) (i : Nat) : Int := ((L.getD i 0 : Nat) : Int)
theorem nthI_snoc (L : List Nat) (x : Nat) (i : Nat) (h : i < L.length + 1) : updE (nthI L) L.length (x : Int) i = nthI (L ++ [x]) i := by
  unfold updE nthI
  by_cases e : i = L.length
  · subst e; rw [if_pos rfl]; simp
  · rw [if_neg e, List.getD_eq_getElem?_getD, List.getD_eq_getElem?_getD, List.getElem?_append_left (by omega)]
theorem litInt (w : World) (x : Int) : (w.alloc (.cells #[.int .i64 x] 3)).cell? ⟨w.heap.size, 0, none⟩ = some (.int .i64 x) := (World.rowIs_alloc w #[.int .i64 x] 3 (fun _ => .int .i64 x) (fun i hi => by
    obtain rfl : i = 0 := by simpa using hi
    rfl)).cell (i := 0) (by simp)
/-- A number is put behind a row of one's own. -/
theorem appNum {w wr : World} {a : Option Addr} {q c : Nat} {L : List Nat} (x : Nat) (hq : q = L.length) (hl : q ≤ 1000) (h : IE wr w.heap.size (.slice a q c) q (nthI L)) (hb : Below w.heap.size w wr) :
    ∃ a' c' w', (∀ ty, (Builtin.append_ #[26, 26] ty #[.slice a q c, .slice (some ⟨wr.heap.size, 0, none⟩) 1 1]).run Try.prog (wr.alloc (.cells #[.int .i64 (x : Int)] 3)) = .ok (.slice a' (q + 1) c') w') ∧ IE w' w.heap.size (.slice a' (q + 1) c') (q + 1) (nthI (L ++ [x])) ∧ Below w.heap.size w w' := by
  have hsz := hb.size
  have hl2 : q ≤ 100000 := Nat.le_trans hl (by decide)
  have WB : Below wr.heap.size wr (wr.alloc (.cells #[.int .i64 (x : Int)] 3)) := (Below.refl _ _).alloc (Nat.le_refl _) _
  obtain ⟨v', w', hr, ho, hg, hloc⟩ := IE.app (wr.alloc (.cells #[.int .i64 (x : Int)] 3)) w.heap.size _ q wr.heap.size (nthI L) x (by simp; omega) hl2 (EO.below h WB) (litInt wr x)
  obtain ⟨a', c', rfl⟩ := EO.form ho
  refine ⟨a', c', w', hr, ho.congr (fun i hi => ?_), ?_⟩
  · subst hq; exact nthI_snoc L x i hi
  · exact (hb.trans (WB.mono (by omega))).grown hg (by simp; omega) (fun g e => (EO.ge h g e).1)
end Go.Proofs.Ytiagpeefambggab
