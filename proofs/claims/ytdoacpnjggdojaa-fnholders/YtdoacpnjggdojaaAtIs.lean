/-
  The laws' own function at, told: the number is a function of the bytes.
-/
import Derived.Test.YtdoacpnjggdojaaAt
namespace Go.Proofs.Ytdoacpnjggdojaa
open Go.ChangeShapes Go.WideShapes Go.ChangeAt Go.RowKit
def atN (len : Nat) (zs : List Int) (i n : Nat) : Nat := if len = 0 then i * 7 % n else ((zs.getD (i % len) 0 * 31 + zs.getD ((i + 1) % len) 0 + ((i / len : Nat) : Int)) % (n : Int)).toNat
theorem atN_lt (len : Nat) (zs : List Int) (i n : Nat) (hn : 0 < n) : atN len zs i n < n := by
  unfold atN
  split
  · exact Nat.mod_lt _ hn
  · have l1 := Int.emod_lt_of_pos (zs.getD (i % len) 0 * 31 + zs.getD ((i + 1) % len) 0 + ((i / len : Nat) : Int)) (show (0 : Int) < n by omega)
    omega
theorem at_is (a : Option Addr) (len cap : Nat) (zs : List Int) (w : World) (hr : IsRow .u8 w a len cap zs) (i n : Nat) (hi' : i ≤ 100000) (hn : 2 ≤ n) (hn' : n ≤ 100000) :
    Calls Try.prog 8 #[.slice a len cap, .int .i64 (i : Int), .int .i64 (n : Int)] w fun e w' => e = .returned (.int .i64 ((atN len zs i n : Nat) : Int)) ∧ ∃ q, w' = w.drewN q := by
  rcases hr with ⟨rfl, rfl, rfl, rfl⟩ | ⟨x, rfl, hl, hm, hz, hcell, hwz⟩
  · go_enter Try.func8, Try.ntmps8
    go_wp2
    go_ret
    exact ⟨by unfold atN; rw [if_pos rfl]; rfl, 0, rfl⟩
  · unfold maxLen at hm
    by_cases h0 : len = 0
    · subst h0
      go_enter Try.func8, Try.ntmps8
      go_wp2
      go_ret
      exact ⟨by unfold atN; rw [if_pos rfl]; rfl, 0, rfl⟩
    · obtain ⟨b, off, rfl, hc⟩ := ints_at hcell (by omega)
      have hne : ((len : Int) == 0) = false := by simp; omega
      have m1 : i % len < len := Nat.mod_lt _ (by omega)
      have m2 : (i + 1) % len < len := Nat.mod_lt _ (by omega)
      have c1 := hc (i % len) (by omega)
      have c2 := hc ((i + 1) % len) (by omega)
      have z1 : 0 ≤ zs.getD (i % len) 0 ∧ zs.getD (i % len) 0 ≤ 255 := by simpa using range_u8 hwz (i % len)
      have z2 : 0 ≤ zs.getD ((i + 1) % len) 0 ∧ zs.getD ((i + 1) % len) 0 ≤ 255 := by simpa using range_u8 hwz ((i + 1) % len)
      have HR : Hid (atN len zs i n = ((zs.getD (i % len) 0 * 31 + zs.getD ((i + 1) % len) 0 + ((i / len : Nat) : Int)) % (n : Int)).toNat) := by show atN len zs i n = _; unfold atN; rw [if_neg h0]
      generalize atN len zs i n = R at *
      generalize zs.getD (i % len) 0 = A at *
      generalize zs.getD ((i + 1) % len) 0 = B at *
      clear hcell hwz hz hc
      have q1 : (i : Int).tmod len = ((i % len : Nat) : Int) := (Int.ofNat_tmod i len).symm
      have q2 : ((i : Int) + 1).tmod len = (((i + 1) % len : Nat) : Int) := (Int.ofNat_tmod (i + 1) len).symm
      have q3 : (i : Int).tdiv len = ((i / len : Nat) : Int) := (Int.ofNat_tdiv i len).symm
      have d1 : i / len ≤ 100000 := Nat.le_trans (Nat.div_le_self _ _) (by omega)
      generalize i % len = I at *
      generalize (i + 1) % len = J at *
      generalize i / len = D at *
      go_enter Try.func8, Try.ntmps8
      go_wp2
      go_quiet (fail)
      go_wp2
      go_ret
      have l1 := Int.emod_lt_of_pos (A * 31 + B + D) (show (0 : Int) < n by omega)
      have l2 := Int.emod_nonneg (A * 31 + B + D) (show (n : Int) ≠ 0 by omega)
      refine ⟨?_, _, rfl⟩
      rw [HR.out, Int.toNat_of_nonneg l2]; rfl
end Go.Proofs.Ytdoacpnjggdojaa
