/-
  Rows of texts of a call's own (the same as in ProveI, under names of their own).
-/
import Derived.Test.YthebbijbedffpaaDoorStrS
import Derived.Test.YthebbijbedffpaaDoorEOg
import Derived.Lib.SliceRun
import Derived.Lib.AppendZeros
namespace Go.Proofs.YthebbijbedffpaaDoor
open Go.ChangeShapes Go.WideShapes Go.ChangeAt Go.RowKit
set_option linter.unusedVariables false
def pxV (s : ByteArray) (_ : Nat) : Value := .string s
/-- The cells of texts. -/
def pxF (f : Nat → ByteArray) (i j : Nat) : Value := pxV (f i) j
theorem infoPx : (Tryd.prog.info? 9).map (fun i => (i.zero, i.size, i.bytes)) = some (some (.string ⟨#[]⟩), 1, 16) := by kernel_rfl
set_option maxRecDepth 100000 in
theorem appPx (w : World) (B : Nat) (v : Value) (n q : Nat) (R : Nat → ByteArray) (x : ByteArray) (hB : B ≤ w.heap.size) (hn : n ≤ 100000) (h : EO w B 9 1 v n (pxF R)) (hx : ∀ j, j < 1 → w.cell? ⟨q, 0 + j, none⟩ = some (pxV x j)) :
    ∃ v' w', (∀ ty, (Builtin.append_ #[32, 32] ty #[v, .slice (some ⟨q, 0, none⟩) 1 1]).run Tryd.prog w = .ok v' w') ∧ EO w' B 9 1 v' (n + 1) (pxF (updE R n x)) ∧ w.grownBy w' v.ownBlock ∧ (v'.ownBlock = v.ownBlock ∨ v'.ownBlock = some w.heap.size) := by
  obtain ⟨i, hi, hz, hsz, hby⟩ := info_parts infoPx
  obtain ⟨v', w', hr, ho, hg, _, hloc⟩ := run_append_own_at (P := Tryd.prog) w B 32 32 9 i _ 1 16 Tryd.underlying32 hi hz hsz hby rfl (by decide) v n _ h ⟨q, 0, none⟩ 1 1 ((List.range 1).map (pxV x)) (by simp) (fun j u hj => by
    rw [Go.WideShapes.add_plain]
    rw [List.getElem?_map, Option.map_eq_some_iff] at hj
    obtain ⟨b, hb, rfl⟩ := hj
    obtain ⟨hj', rfl⟩ := List.getElem?_eq_some_iff.1 hb
    rw [List.getElem_range]
    exact hx j (by simpa using hj')) (fun u hu => by
      obtain ⟨j, hj, rfl⟩ := List.mem_map.1 hu
      have := List.mem_range.1 hj
      obtain rfl : j = 0 := by omega
      rfl) (by unfold maxLen; omega) (by omega) hB
  refine ⟨v', w', fun ty => hr, ?_, hg, hloc⟩
  unfold EO
  rw [elv_snoc, elv_congr (G := pxF R) (fun i hi j hj => by unfold pxF updE; rw [if_neg (by omega)])]
  have e : (List.range 1).map (pxF (updE R n x) n) = (List.range 1).map (pxV x) := by unfold pxF updE; simp
  rw [e]
  exact ho

theorem EO.pxs {w : World} {B : Nat} {a : Option Addr} {n c : Nat} {f : Nat → ByteArray} (h : EO w B 9 1 (.slice a n c) n (pxF f)) : Strs w a n f := fun i hi => by
  obtain ⟨b, off, e, hc⟩ := h.els i hi
  exact ⟨b, off, e, by have := hc 0 (by omega); simpa [pxF, pxV] using this⟩
/-- The i-th text of a list. -/
def nthT (L : List ByteArray) (i : Nat) : ByteArray := L.getD i ⟨#[]⟩
theorem nthT_snoc (L : List ByteArray) (x : ByteArray) (i : Nat) (h : i < L.length + 1) : updE (nthT L) L.length x i = nthT (L ++ [x]) i := by
  unfold updE nthT
  by_cases e : i = L.length
  · subst e; simp
  · rw [if_neg e]
    simp [List.getD, List.getElem?_append_left (show i < L.length by omega)]
theorem nthT_mem (L : List ByteArray) (i : Nat) (h : i < L.length) : nthT L i ∈ L := by
  unfold nthT
  simp [List.getD, List.getElem?_eq_getElem h]
theorem mem_nthT {L : List ByteArray} {x : ByteArray} (h : x ∈ L) : ∃ i, i < L.length ∧ nthT L i = x := by
  obtain ⟨i, hi, e⟩ := List.getElem_of_mem h
  exact ⟨i, hi, by unfold nthT; simp [List.getD, List.getElem?_eq_getElem hi, e]⟩
end Go.Proofs.YthebbijbedffpaaDoor
