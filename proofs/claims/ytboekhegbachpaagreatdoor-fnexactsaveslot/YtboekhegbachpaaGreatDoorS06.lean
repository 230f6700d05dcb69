/-
  Texts of the proof, joined: ShaMath, IntS, Jump.
-/
import Derived.Test.YtboekhegbachpaaGreatDoorRows
import Derived.WalkKit
import Derived.ProofKit
import Derived.OpenShut
import Derived.Below
import Derived.WalkSmall
import Derived.Deep.QuietTactic
import Derived.BigQuiet
import Derived.Deep.OwnRows
import Derived.WalkMore
import Derived.ScopeJumps
namespace Go.Proofs.YtboekhegbachpaaGreatDoor
namespace Sha
def ad (a b : Nat) : Nat := (a + b) % 4294967296
def xr (a b : Nat) : Nat := (a ^^^ b) % 4294967296
def an (a b : Nat) : Nat := (a &&& b) % 4294967296
def orr (a b : Nat) : Nat := (a ||| b) % 4294967296
def sr (a n : Nat) : Nat := a / 2 ^ n
def sl (a n : Nat) : Nat := a * 2 ^ n % 4294967296
def rt (x n : Nat) : Nat := orr (sr x n) (sl x (32 - n))
def nt (x : Nat) : Nat := xr 4294967295 x
theorem ad_lt (a b : Nat) : ad a b < 4294967296 := Nat.mod_lt _ (by omega)
theorem orr_lt (a b : Nat) : orr a b < 4294967296 := Nat.mod_lt _ (by omega)
theorem orr_comm (a b : Nat) : orr a b = orr b a := by unfold orr; rw [Nat.or_comm]
theorem tb (x i : Nat) : (x % 4294967296).testBit i = (decide (i < 32) && x.testBit i) := by
 have := Nat.testBit_mod_two_pow x 32 i
 rwa [show (2 : Nat) ^ 32 = 4294967296 from by decide] at this
theorem tb1 {i : Nat} (h : i < 32) : (4294967295 : Nat).testBit i = true := by
 have := Nat.testBit_two_pow_sub_one 32 i
 rw [show (2 : Nat) ^ 32 - 1 = 4294967295 from by decide] at this
 rw [this]; simpa using h
theorem ch_same (e f g : Nat) : orr (an e f) (an (nt e) g) = xr (an e f) (an (nt e) g) := by
 apply Nat.eq_of_testBit_eq
 intro i
 unfold orr xr an nt xr
 rw [tb, tb, Nat.testBit_or, Nat.testBit_xor, tb, tb, Nat.testBit_and, Nat.testBit_and, tb, Nat.testBit_xor]
 by_cases h : i < 32
 ·rw [tb1 h]
  cases e.testBit i <;> cases f.testBit i <;> cases g.testBit i <;> simp [h]
 ·simp [h]
theorem maj_same (a b c : Nat) : orr (orr (an a b) (an a c)) (an b c) = xr (xr (an a b) (an a c)) (an b c) := by
 apply Nat.eq_of_testBit_eq
 intro i
 unfold orr xr an
 simp only [tb, Nat.testBit_or, Nat.testBit_xor, Nat.testBit_and]
 cases a.testBit i <;> cases b.testBit i <;> cases c.testBit i <;> cases decide (i < 32) <;> rfl
def kL : List Nat := [0x428a2f98, 0x71374491, 0xb5c0fbcf, 0xe9b5dba5, 0x3956c25b, 0x59f111f1, 0x923f82a4, 0xab1c5ed5,
 0xd807aa98, 0x12835b01, 0x243185be, 0x550c7dc3, 0x72be5d74, 0x80deb1fe, 0x9bdc06a7, 0xc19bf174,
 0xe49b69c1, 0xefbe4786, 0x0fc19dc6, 0x240ca1cc, 0x2de92c6f, 0x4a7484aa, 0x5cb0a9dc, 0x76f988da,
 0x983e5152, 0xa831c66d, 0xb00327c8, 0xbf597fc7, 0xc6e00bf3, 0xd5a79147, 0x06ca6351, 0x14292967,
 0x27b70a85, 0x2e1b2138, 0x4d2c6dfc, 0x53380d13, 0x650a7354, 0x766a0abb, 0x81c2c92e, 0x92722c85,
 0xa2bfe8a1, 0xa81a664b, 0xc24b8b70, 0xc76c51a3, 0xd192e819, 0xd6990624, 0xf40e3585, 0x106aa070,
 0x19a4c116, 0x1e376c08, 0x2748774c, 0x34b0bcb5, 0x391c0cb3, 0x4ed8aa4a, 0x5b9cca4f, 0x682e6ff3,
 0x748f82ee, 0x78a5636f, 0x84c87814, 0x8cc70208, 0x90befffa, 0xa4506ceb, 0xbef9a3f7, 0xc67178f2]
def hL : List Nat := [0x6a09e667, 0xbb67ae85, 0x3c6ef372, 0xa54ff53a, 0x510e527f, 0x9b05688c, 0x1f83d9ab, 0x5be0cd19]
def kc (i : Nat) : Nat := kL.getD i 0
def h0 (i : Nat) : Nat := hL.getD i 0
theorem hL_lt : ∀ x ∈ hL, x < 4294967296 := by decide
theorem getD_lt {l : List Nat} (h : ∀ x ∈ l, x < 4294967296) (i : Nat) : l.getD i 0 < 4294967296 := by
 rw [List.getD_eq_getElem?_getD]
 cases hh : l[i]? with
 | none => show 0 < 4294967296; omega
 | some v => exact h v (List.mem_of_getElem? hh)
theorem h0_lt (i : Nat) : h0 i < 4294967296 := getD_lt hL_lt i
def word (b : Nat → Nat) (i : Nat) : Nat := orr (orr (orr (sl (b (4 * i)) 24) (sl (b (4 * i + 1)) 16)) (sl (b (4 * i + 2)) 8)) (b (4 * i + 3))
theorem word_lt (b : Nat → Nat) (i : Nat) : word b i < 4294967296 := orr_lt _ _
def s0 (x : Nat) : Nat := xr (xr (rt x 7) (rt x 18)) (sr x 3)
def s1 (x : Nat) : Nat := xr (xr (rt x 17) (rt x 19)) (sr x 10)
def ws (b : Nat → Nat) (i : Nat) : Nat :=
 if h : i < 16 then word b i else ad (ad (ad (ws b (i - 16)) (s0 (ws b (i - 15)))) (ws b (i - 7))) (s1 (ws b (i - 2)))
termination_by i
decreasing_by all_goals omega
theorem ws_in (b : Nat → Nat) {i : Nat} (h : i < 16) : ws b i = word b i := by rw [ws, dif_pos h]
theorem ws_out (b : Nat → Nat) {i : Nat} (h : ¬ i < 16) : ws b i = ad (ad (ad (ws b (i - 16)) (s0 (ws b (i - 15)))) (ws b (i - 7))) (s1 (ws b (i - 2))) := by rw [ws, dif_neg h]
theorem ws_lt (b : Nat → Nat) (i : Nat) : ws b i < 4294967296 := by
 by_cases h : i < 16
 ·rw [ws_in b h]; exact word_lt _ _
 ·rw [ws_out b h]; exact ad_lt _ _
def big1 (e : Nat) : Nat := xr (xr (rt e 6) (rt e 11)) (rt e 25)
def big0 (a : Nat) : Nat := xr (xr (rt a 2) (rt a 13)) (rt a 22)
def t1 (v : Nat → Nat) (k w : Nat) : Nat := ad (ad (ad (ad (v 7) (big1 (v 4))) (xr (an (v 4) (v 5)) (an (nt (v 4)) (v 6)))) k) w
def t2 (v : Nat → Nat) : Nat := ad (big0 (v 0)) (xr (xr (an (v 0) (v 1)) (an (v 0) (v 2))) (an (v 1) (v 2)))
def step (v : Nat → Nat) (k w : Nat) (j : Nat) : Nat :=
 if j = 0 then ad (t1 v k w) (t2 v) else if j = 4 then ad (v 3) (t1 v k w) else v (j - 1)
def rounds (W v : Nat → Nat) : Nat → Nat → Nat
 | 0 => v
 | i + 1 => step (rounds W v i) (kc i) (W i)
def block (v b : Nat → Nat) (j : Nat) : Nat := ad (v j) (rounds (ws b) v 64 j)
def hashTo (c : Nat → Nat) : Nat → Nat → Nat
 | 0 => h0
 | n + 1 => block (hashTo c n) (fun j => c (64 * n + j))
theorem hashTo_lt (c : Nat → Nat) (n j : Nat) : hashTo c n j < 4294967296 := by
 cases n with
 | zero => exact h0_lt j
 | succ n => exact ad_lt _ _
def fullN (n : Nat) : Nat := (n + 72) / 64 * 64
def fullF (n : Nat) (f : Nat → Nat) (j : Nat) : Nat :=
 if j < n then f j else if j = n then 128 else if j < fullN n - 8 then 0 else 8 * n / 2 ^ (8 * (fullN n - 1 - j)) % 256
theorem fullF_lt {n : Nat} {f : Nat → Nat} (h : ∀ j, f j < 256) (j : Nat) : fullF n f j < 256 := by
 unfold fullF
 split
 ·exact h j
 ·split
  ·omega
  ·split
   ·omega
   ·exact Nat.mod_lt _ (by omega)
def outB (v : Nat → Nat) (j : Nat) : Nat := v (j / 4) / 2 ^ (24 - 8 * (j % 4)) % 256
theorem outB_lt (v : Nat → Nat) (j : Nat) : outB v j < 256 := Nat.mod_lt _ (by omega)
def hash (n : Nat) (f : Nat → Nat) : Nat → Nat := outB (hashTo (fullF n f) (fullN n / 64))
theorem hash_lt (n : Nat) (f : Nat → Nat) (j : Nat) : hash n f j < 256 := outB_lt _ _
def cat (n : Nat) (f g : Nat → Nat) (j : Nat) : Nat := if j < n then f j else g (j - n)
theorem cat_lt {n : Nat} {f g : Nat → Nat} (hf : ∀ j, f j < 256) (hg : ∀ j, g j < 256) (j : Nat) : cat n f g j < 256 := by
 unfold cat
 split
 ·exact hf j
 ·exact hg _
def keyF (n : Nat) (f : Nat → Nat) (j : Nat) : Nat := if 64 < n then (if j < 32 then hash n f j else 0) else (if j < n then f j else 0)
theorem keyF_lt {n : Nat} {f : Nat → Nat} (h : ∀ j, f j < 256) (j : Nat) : keyF n f j < 256 := by
 unfold keyF
 split
 ·split
  ·exact hash_lt _ _ _
  ·omega
 ·split
  ·exact h j
  ·omega
def maskF (k : Nat → Nat) (m : Nat) (j : Nat) : Nat := k j ^^^ m
theorem maskF_lt {k : Nat → Nat} {m : Nat} (h : ∀ j, k j < 256) (hm : m < 256) (j : Nat) : maskF k m j < 256 := Nat.xor_lt_two_pow (n := 8) (h j) hm
def mac (k : Nat → Nat) (n : Nat) (f : Nat → Nat) : Nat → Nat := hash 96 (cat 64 (maskF k 0x5c) (hash (64 + n) (cat 64 (maskF k 0x36) f)))
theorem mac_lt (k : Nat → Nat) (n : Nat) (f : Nat → Nat) (j : Nat) : mac k n f j < 256 := hash_lt _ _ _
def drawnB (k : Nat → Nat) (m : Nat) (g : Nat → Nat) : Nat → Nat → Nat
 | 0 => fun _ => 0
 | i + 1 => mac k ((if i = 0 then 0 else 32) + m + 1) (cat (if i = 0 then 0 else 32) (drawnB k m g i) (cat m g (fun _ => (i + 1) % 256)))
def drawnF (k : Nat → Nat) (m : Nat) (g : Nat → Nat) (j : Nat) : Nat := drawnB k m g (j / 32 + 1) (j % 32)
theorem drawnF_lt (k : Nat → Nat) (m : Nat) (g : Nat → Nat) (j : Nat) : drawnF k m g j < 256 := mac_lt _ _ _ _
end Sha
end Go.Proofs.YtboekhegbachpaaGreatDoor
namespace Go.Proofs.YtboekhegbachpaaGreatDoor
open Go.ChangeShapes Go.WideShapes Go.ChangeAt Go.RowKit
theorem cellBlock {w : World} {p : Addr} {v : Value} (h : w.cell? p = some v) : p.block < w.heap.size := by
 rcases Nat.lt_or_ge p.block w.heap.size with g | g
 ·exact g
 ·simp [World.cell?, Array.getElem?_eq_none g] at h
theorem numEq {k : IntKind} {a b : Int} (h : a = b) : Value.int k a = .int k b := by rw [h]
structure Only (a : Option Addr) (w w' : World) : Prop where
 os : w'.os = w.os
 tape : w'.tape = w.tape
 output : w'.output = w.output
 size : w'.heap.size = w.heap.size
 block : ∀ k, (∀ p, a = some p → p.block ≠ k) → w'.heap[k]? = w.heap[k]?
end Go.Proofs.YtboekhegbachpaaGreatDoor
namespace Go.Proofs.YtboekhegbachpaaGreatDoor
theorem wp_scope_label {P : Program} {a : Act} {w : World} {Q : Exit → Act → World → Prop} {c body : Code} (l : Nat) (J : Act → World → Prop) (μ : Act → World → Nat) (hf : findLabel c l = some (Code.skip.seq body))
  (pass : ∀ a w, J a w → body.wp P (Exit.jump l (fun a' w' => J a' w' ∧ μ a' w' < μ a w) Q) a w)
  (first : (∀ a w, J a w → body.wp P (Exit.jump l J Q) a w) → c.wp P (Exit.jump l J Q) a w) : (Code.scope c).wp P Q a w :=
 wp_scope_jumps l J μ hf (first (fun a w h => Code.wp_mono (fun e a' w' hq => by
  cases e with
  | goto l' => exact ⟨hq.1, hq.2.1⟩
  | _ => exact hq) (pass a w h))) (fun a w h => wp_seq (wp_skip (pass a w h)))
theorem jump_ret {l : Nat} {J : Act → World → Prop} {Q : Exit → Act → World → Prop} {a : Act} {w : World} : Exit.jump l J Q .ret a w = Q .ret a w := rfl
def lenOf : Value → Nat | .slice _ n _ => n | _ => 0
end Go.Proofs.YtboekhegbachpaaGreatDoor
