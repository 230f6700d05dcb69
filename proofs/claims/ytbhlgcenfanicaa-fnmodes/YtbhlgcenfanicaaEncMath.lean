/-
  Plain mathematics of blocks: adding a key, substituting and turning, mixing; a block encrypted. No function of the program in sight.
-/
import Derived.Test.YtbhlgcenfanicaaMix
import Derived.Test.YtbhlgcenfanicaaSub
namespace Go.Proofs.Ytbhlgcenfanicaa
namespace Gf
def addK (s k : Nat → Nat) (j : Nat) : Nat := s j ^^^ k j
/-- Which byte comes to place j where rows are turned left. -/
def ord (j : Nat) : Nat := (j + 4 * (j % 4)) % 16
def subTurn (s : Nat → Nat) (j : Nat) : Nat := sub (s (ord j))
/-- Byte r of column o .. o + 3, mixed. -/
def mixAt (s : Nat → Nat) (o r : Nat) : Nat := mx (s o) (s (o + 1)) (s (o + 2)) (s (o + 3)) (s (o + r)) (s (o + (r + 1) % 4))
def mixS (s : Nat → Nat) (j : Nat) : Nat := mixAt s (j / 4 * 4) (j % 4)
/-- The i-th round key of 16 bytes. -/
def keyAt (K : Nat → Nat) (i j : Nat) : Nat := K (i * 16 + j)
def encTo (K : Nat → Nat) (s : Nat → Nat) : Nat → Nat → Nat
  | 0 => addK s (keyAt K 0)
  | i + 1 => addK (mixS (subTurn (encTo K s i))) (keyAt K (i + 1))
def enc (K : Nat → Nat) (R : Nat) (s : Nat → Nat) : Nat → Nat := addK (subTurn (encTo K s (R - 1))) (keyAt K R)
theorem ord_lt (j : Nat) : ord j < 16 := Nat.mod_lt _ (by omega)
theorem addK_lt {s k : Nat → Nat} {j : Nat} (hs : s j < 256) (hk : k j < 256) : addK s k j < 256 := xor_lt hs hk
theorem subTurn_lt {s : Nat → Nat} (hs : ∀ j, j < 16 → s j < 256) (j : Nat) : subTurn s j < 256 := sub_lt _ (hs _ (ord_lt j))
theorem mixAt_lt {s : Nat → Nat} {o r : Nat} (hs : ∀ j, j < 16 → s j < 256) (ho : o + 4 ≤ 16) (hr : r < 4) : mixAt s o r < 256 :=
  mx_lt (hs _ (by omega)) (hs _ (by omega)) (hs _ (by omega)) (hs _ (by omega)) (hs _ (by omega)) (hs _ (by have := Nat.mod_lt (r + 1) (show 0 < 4 by omega); omega))
theorem mixS_lt {s : Nat → Nat} (hs : ∀ j, j < 16 → s j < 256) (j : Nat) (hj : j < 16) : mixS s j < 256 := mixAt_lt hs (by omega) (Nat.mod_lt _ (by omega))
theorem encTo_lt {K s : Nat → Nat} (hK : ∀ j, K j < 256) (hs : ∀ j, j < 16 → s j < 256) : ∀ i j, j < 16 → encTo K s i j < 256 := by
  intro i
  induction i with
  | zero => intro j hj; exact addK_lt (hs j hj) (hK _)
  | succ i ih => intro j hj; exact addK_lt (mixS_lt (fun j _ => subTurn_lt ih j) j hj) (hK _)
theorem enc_lt {K s : Nat → Nat} {R : Nat} (hK : ∀ j, K j < 256) (hs : ∀ j, j < 16 → s j < 256) (j : Nat) : enc K R s j < 256 := addK_lt (subTurn_lt (encTo_lt hK hs _) j) (hK _)
end Gf
end Go.Proofs.Ytbhlgcenfanicaa
