/-
  The contract of the laws' own function at: over any slice of bytes it returns some number below n and writes nothing.
-/
import Derived.Test.YtdoacpnjggdojaaRows
import Derived.WalkKit
import Derived.ProofKit
import Derived.OpenShut
import Derived.ShutString
import Derived.ChangeOld
import Derived.Below
import Derived.WalkSmall
import Derived.Deep.QuietTactic
import Derived.BigQuiet
namespace Go.Proofs.Ytdoacpnjggdojaa
open Go.ChangeShapes Go.WideShapes Go.ChangeAt Go.RowKit
/-- What is known of a slice of integers that came in. -/
def IsRow (k : IntKind) (w : World) (a : Option Addr) (len cap : Nat) (zs : List Int) : Prop :=
  (a = none ∧ len = 0 ∧ cap = 0 ∧ zs = []) ∨
  ∃ x, a = some x ∧ len ≤ cap ∧ cap ≤ maxLen ∧ zs.length = cap ∧ (∀ i, i < zs.length → w.cell? (x.add i) = some (.int k (zs.getD i 0))) ∧ ∀ n ∈ zs, (Lit.int k n).wf = true
theorem IsRow.drewN {k : IntKind} {w : World} {a : Option Addr} {len cap : Nat} {zs : List Int} (h : IsRow k w a len cap zs) (q : Nat) : IsRow k (w.drewN q) a len cap zs := by
  rcases h with h | ⟨x, ha, hl, hm, hz, hc, hw⟩
  · exact .inl h
  · exact .inr ⟨x, ha, hl, hm, hz, fun i hi => by rw [World.cell?_drewN]; exact hc i hi, hw⟩
theorem block_of_cell {w : World} {p : Addr} {v : Value} (h : w.cell? p = some v) : p.block < w.heap.size := by
  rcases Nat.lt_or_ge p.block w.heap.size with g | g
  · exact g
  · simp [World.cell?, Array.getElem?_eq_none g] at h
theorem IsRow.below {k : IntKind} {w w' : World} {a : Option Addr} {len cap : Nat} {zs : List Int} (h : IsRow k w a len cap zs) (hb : Below w.heap.size w w') : IsRow k w' a len cap zs := by
  rcases h with h | ⟨x, ha, hl, hm, hz, hc, hw⟩
  · exact .inl h
  · exact .inr ⟨x, ha, hl, hm, hz, fun i hi => by rw [hb.cell (block_of_cell (hc i hi))]; exact hc i hi, hw⟩
theorem IsRow.lenLe {k : IntKind} {w : World} {a : Option Addr} {len cap : Nat} {zs : List Int} (h : IsRow k w a len cap zs) : len ≤ maxLen := by
  rcases h with ⟨_, h, _, _⟩ | ⟨x, ha, hl, hm, _⟩
  · rw [h]; exact Nat.zero_le _
  · exact Nat.le_trans hl hm
theorem at_any (a : Option Addr) (len cap : Nat) (zs : List Int) (w : World) (hr : IsRow .u8 w a len cap zs) (i n : Int) (hi : 0 ≤ i) (hi' : i ≤ 100000) (hn : 2 ≤ n) (hn' : n ≤ 100000) :
    Calls Try.prog 8 #[.slice a len cap, .int .i64 i, .int .i64 n] w fun e w' => (∃ r : Nat, (r : Int) < n ∧ e = .returned (.int .i64 r)) ∧ ∃ q, w' = w.drewN q := by
  obtain ⟨i, rfl⟩ := Int.eq_ofNat_of_zero_le hi
  obtain ⟨n, rfl⟩ := Int.eq_ofNat_of_zero_le (a := n) (by omega)
  rcases hr with ⟨rfl, rfl, rfl, rfl⟩ | ⟨x, rfl, hl, hm, hz, hcell, hwz⟩
  · go_enter Try.func8, Try.ntmps8
    go_wp2
    go_ret
    exact ⟨⟨i * 7 % n, by have := Nat.mod_lt (i * 7) (show 0 < n by omega); omega, rfl⟩, 0, rfl⟩
  · unfold maxLen at hm
    by_cases h0 : len = 0
    · subst h0
      go_enter Try.func8, Try.ntmps8
      go_wp2
      go_ret
      exact ⟨⟨i * 7 % n, by have := Nat.mod_lt (i * 7) (show 0 < n by omega); omega, rfl⟩, 0, rfl⟩
    · obtain ⟨b, off, rfl, hc⟩ := ints_at hcell (by omega)
      have hne : ((len : Int) == 0) = false := by simp; omega
      have m1 : i % len < len := Nat.mod_lt _ (by omega)
      have m2 : (i + 1) % len < len := Nat.mod_lt _ (by omega)
      have c1 := hc (i % len) (by omega)
      have c2 := hc ((i + 1) % len) (by omega)
      have z1 : 0 ≤ zs.getD (i % len) 0 ∧ zs.getD (i % len) 0 ≤ 255 := by simpa using range_u8 hwz (i % len)
      have z2 : 0 ≤ zs.getD ((i + 1) % len) 0 ∧ zs.getD ((i + 1) % len) 0 ≤ 255 := by simpa using range_u8 hwz ((i + 1) % len)
      generalize zs.getD (i % len) 0 = A at *
      generalize zs.getD ((i + 1) % len) 0 = B at *
      clear hcell hwz hz hc
      have q1 : (i : Int).tmod len = ((i % len : Nat) : Int) := (Int.ofNat_tmod i len).symm
      have q2 : ((i : Int) + 1).tmod len = (((i + 1) % len : Nat) : Int) := (Int.ofNat_tmod (i + 1) len).symm
      have q3 : (i : Int).tdiv len = ((i / len : Nat) : Int) := (Int.ofNat_tdiv i len).symm
      have d1 : i / len ≤ 100000 := Nat.le_trans (Nat.div_le_self _ _) (by omega)
      generalize i % len = I at *
      generalize (i + 1) % len = J at *
      generalize i / len = D at *
      go_enter Try.func8, Try.ntmps8
      go_wp2
      go_quiet (fail)
      go_wp2
      go_ret
      have l1 := Int.emod_lt_of_pos (A * 31 + B + D) (show (0 : Int) < n by omega)
      have l2 := Int.emod_nonneg (A * 31 + B + D) (show (n : Int) ≠ 0 by omega)
      refine ⟨⟨((A * 31 + B + D) % n).toNat, by omega, ?_⟩, _, rfl⟩
      rw [Int.toNat_of_nonneg l2]; rfl
end Go.Proofs.Ytdoacpnjggdojaa
