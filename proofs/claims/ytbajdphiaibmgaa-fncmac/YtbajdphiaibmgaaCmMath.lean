/-
  CMAC, as plain mathematics.
-/
import Derived.Test.YtbajdphiaibmgaaModesMath
namespace Go.Proofs.Ytbajdphiaibmgaa
/-- A block doubled. -/
def dblB (s : Nat → Nat) (j : Nat) : Nat := if j = 15 then (s 15 * 2 % 256) ^^^ (if 128 ≤ s 0 then 135 else 0) else (s j * 2 % 256) ||| (s (j + 1) / 128)
theorem or_lt8 {a b : Nat} (ha : a < 256) (hb : b < 256) : a ||| b < 256 := Nat.or_lt_two_pow (n := 8) ha hb
theorem dblB_lt {s : Nat → Nat} (hs : ∀ j, j < 16 → s j < 256) (j : Nat) (hj : j < 16) : dblB s j < 256 := by
  unfold dblB
  split
  · refine Gf.xor_lt (Nat.mod_lt _ (by omega)) ?_
    split
    · omega
    · omega
  · have := hs (j + 1) (by omega)
    exact or_lt8 (Nat.mod_lt _ (by omega)) (by omega)
theorem same_dblB {f g : Nat → Nat} (h : Gf.Same f g) : Gf.Same (dblB f) (dblB g) := fun j hj => by
  unfold dblB
  by_cases e : j = 15
  · rw [if_pos e, if_pos e, h 15 (by omega), h 0 (by omega)]
  · rw [if_neg e, if_neg e, h j hj, h (j + 1) (by omega)]
/-- How many blocks come ahead of the last one. -/
def cmQ (n : Nat) : Nat := (n - 1) / 16
/-- The last block, filled up if it is not whole. -/
def lastS (n : Nat) (b : Nat → Nat) (j : Nat) : Nat := if 16 * cmQ n + j < n then b (16 * cmQ n + j) else if 16 * cmQ n + j = n then 128 else 0
/-- The mask of the last block. -/
def maskB (K : Nat → Nat) (R n : Nat) : Nat → Nat := if n - 16 * cmQ n < 16 then dblB (dblB (Gf.enc K R (fun _ => 0))) else dblB (Gf.enc K R (fun _ => 0))
/-- The code of n bytes. -/
def cmacB (K : Nat → Nat) (R n : Nat) (b : Nat → Nat) : Nat → Nat := Gf.enc K R (fun j => cbcB K R (fun _ => 0) b (cmQ n) j ^^^ (lastS n b j ^^^ maskB K R n j))
theorem lastS_lt {n : Nat} {b : Nat → Nat} (hb : ∀ j, b j < 256) (j : Nat) : lastS n b j < 256 := by
  unfold lastS
  split
  · exact hb _
  · split
    · omega
    · omega
theorem maskB_lt {K : Nat → Nat} {R n : Nat} (hK : ∀ j, K j < 256) (j : Nat) (hj : j < 16) : maskB K R n j < 256 := by
  have h1 : ∀ j, j < 16 → dblB (Gf.enc K R (fun _ => 0)) j < 256 := dblB_lt (fun j _ => Gf.enc_lt hK (fun _ _ => by show (0 : Nat) < 256; omega) j)
  unfold maskB
  split
  · exact dblB_lt h1 j hj
  · exact h1 j hj
end Go.Proofs.Ytbajdphiaibmgaa
