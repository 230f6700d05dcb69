/-
  SHA-256 in numbers: words are numbers below 2^32; what a block, a text, a key's code and what is drawn from it are.
-/
import Derived.Test.YtbecnaabmlkjjabDoorRows
import Derived.WalkKit
import Derived.ProofKit
import Derived.Below
import Derived.WalkSmall
import Derived.IntWalk
import Derived.Laws.BytesArg
import Derived.Laws.Concat
import Derived.Deep.OwnRows
import Derived.Deep.RegionHeld3
import Derived.Deep.QuietTactic
import Derived.BigQuiet
import Derived.OpenShut
import Derived.ShutString
import Derived.ChangeOld
import Derived.Deep.MidRow
import Derived.Deep.WholeRow
import Derived.Laws.OwnMore
namespace Go.Proofs.YtbecnaabmlkjjabDoor
namespace Sha
def ad (a b : Nat) : Nat := (a + b) % 4294967296
def xr (a b : Nat) : Nat := (a ^^^ b) % 4294967296
def an (a b : Nat) : Nat := (a &&& b) % 4294967296
def orr (a b : Nat) : Nat := (a ||| b) % 4294967296
def sr (a n : Nat) : Nat := a / 2 ^ n
def sl (a n : Nat) : Nat := a * 2 ^ n % 4294967296
/-- A word turned to the right. -/
def rt (x n : Nat) : Nat := orr (sr x n) (sl x (32 - n))
def nt (x : Nat) : Nat := xr 4294967295 x
theorem ad_lt (a b : Nat) : ad a b < 4294967296 := Nat.mod_lt _ (by omega)
theorem xr_lt (a b : Nat) : xr a b < 4294967296 := Nat.mod_lt _ (by omega)
theorem an_lt (a b : Nat) : an a b < 4294967296 := Nat.mod_lt _ (by omega)
theorem orr_lt (a b : Nat) : orr a b < 4294967296 := Nat.mod_lt _ (by omega)
theorem sl_lt (a n : Nat) : sl a n < 4294967296 := Nat.mod_lt _ (by omega)
theorem rt_lt (a n : Nat) : rt a n < 4294967296 := orr_lt _ _
theorem orr_comm (a b : Nat) : orr a b = orr b a := by unfold orr; rw [Nat.or_comm]
theorem tb (x i : Nat) : (x % 4294967296).testBit i = (decide (i < 32) && x.testBit i) := by
  have := Nat.testBit_mod_two_pow x 32 i
  rwa [show (2 : Nat) ^ 32 = 4294967296 from by decide] at this
theorem tb1 {i : Nat} (h : i < 32) : (4294967295 : Nat).testBit i = true := by
  have := Nat.testBit_two_pow_sub_one 32 i
  rw [show (2 : Nat) ^ 32 - 1 = 4294967295 from by decide] at this
  rw [this]; simpa using h
/-- Choose: with or, as with exclusive or. -/
theorem ch_same (e f g : Nat) : orr (an e f) (an (nt e) g) = xr (an e f) (an (nt e) g) := by
  apply Nat.eq_of_testBit_eq
  intro i
  unfold orr xr an nt xr
  rw [tb, tb, Nat.testBit_or, Nat.testBit_xor, tb, tb, Nat.testBit_and, Nat.testBit_and, tb, Nat.testBit_xor]
  by_cases h : i < 32
  · rw [tb1 h]
    cases e.testBit i <;> cases f.testBit i <;> cases g.testBit i <;> simp [h]
  · simp [h]
/-- Majority: with or, as with exclusive or. -/
theorem maj_same (a b c : Nat) : orr (orr (an a b) (an a c)) (an b c) = xr (xr (an a b) (an a c)) (an b c) := by
  apply Nat.eq_of_testBit_eq
  intro i
  unfold orr xr an
  simp only [tb, Nat.testBit_or, Nat.testBit_xor, Nat.testBit_and]
  cases a.testBit i <;> cases b.testBit i <;> cases c.testBit i <;> cases decide (i < 32) <;> rfl
def kL : List Nat := [0x428a2f98, 0x71374491, 0xb5c0fbcf, 0xe9b5dba5, 0x3956c25b, 0x59f111f1, 0x923f82a4, 0xab1c5ed5,
  0xd807aa98, 0x12835b01, 0x243185be, 0x550c7dc3, 0x72be5d74, 0x80deb1fe, 0x9bdc06a7, 0xc19bf174,
  0xe49b69c1, 0xefbe4786, 0x0fc19dc6, 0x240ca1cc, 0x2de92c6f, 0x4a7484aa, 0x5cb0a9dc, 0x76f988da,
  0x983e5152, 0xa831c66d, 0xb00327c8, 0xbf597fc7, 0xc6e00bf3, 0xd5a79147, 0x06ca6351, 0x14292967,
  0x27b70a85, 0x2e1b2138, 0x4d2c6dfc, 0x53380d13, 0x650a7354, 0x766a0abb, 0x81c2c92e, 0x92722c85,
  0xa2bfe8a1, 0xa81a664b, 0xc24b8b70, 0xc76c51a3, 0xd192e819, 0xd6990624, 0xf40e3585, 0x106aa070,
  0x19a4c116, 0x1e376c08, 0x2748774c, 0x34b0bcb5, 0x391c0cb3, 0x4ed8aa4a, 0x5b9cca4f, 0x682e6ff3,
  0x748f82ee, 0x78a5636f, 0x84c87814, 0x8cc70208, 0x90befffa, 0xa4506ceb, 0xbef9a3f7, 0xc67178f2]
def hL : List Nat := [0x6a09e667, 0xbb67ae85, 0x3c6ef372, 0xa54ff53a, 0x510e527f, 0x9b05688c, 0x1f83d9ab, 0x5be0cd19]
/-- The round's word, the first digest. -/
def kc (i : Nat) : Nat := kL.getD i 0
def h0 (i : Nat) : Nat := hL.getD i 0
theorem kL_lt : ∀ x ∈ kL, x < 4294967296 := by decide
theorem hL_lt : ∀ x ∈ hL, x < 4294967296 := by decide
theorem getD_lt {l : List Nat} (h : ∀ x ∈ l, x < 4294967296) (i : Nat) : l.getD i 0 < 4294967296 := by
  rw [List.getD_eq_getElem?_getD]
  cases hh : l[i]? with
  | none => show 0 < 4294967296; omega
  | some v => exact h v (List.mem_of_getElem? hh)
theorem kc_lt (i : Nat) : kc i < 4294967296 := getD_lt kL_lt i
theorem h0_lt (i : Nat) : h0 i < 4294967296 := getD_lt hL_lt i
/-- Four bytes as a word. -/
def word (b : Nat → Nat) (i : Nat) : Nat := orr (orr (orr (sl (b (4 * i)) 24) (sl (b (4 * i + 1)) 16)) (sl (b (4 * i + 2)) 8)) (b (4 * i + 3))
theorem word_lt (b : Nat → Nat) (i : Nat) : word b i < 4294967296 := orr_lt _ _
def s0 (x : Nat) : Nat := xr (xr (rt x 7) (rt x 18)) (sr x 3)
def s1 (x : Nat) : Nat := xr (xr (rt x 17) (rt x 19)) (sr x 10)
/-- The words of a block's rounds. -/
def ws (b : Nat → Nat) (i : Nat) : Nat :=
  if h : i < 16 then word b i else ad (ad (ad (ws b (i - 16)) (s0 (ws b (i - 15)))) (ws b (i - 7))) (s1 (ws b (i - 2)))
termination_by i
decreasing_by all_goals omega
theorem ws_in (b : Nat → Nat) {i : Nat} (h : i < 16) : ws b i = word b i := by rw [ws, dif_pos h]
theorem ws_out (b : Nat → Nat) {i : Nat} (h : ¬ i < 16) : ws b i = ad (ad (ad (ws b (i - 16)) (s0 (ws b (i - 15)))) (ws b (i - 7))) (s1 (ws b (i - 2))) := by rw [ws, dif_neg h]
theorem ws_lt (b : Nat → Nat) (i : Nat) : ws b i < 4294967296 := by
  by_cases h : i < 16
  · rw [ws_in b h]; exact word_lt _ _
  · rw [ws_out b h]; exact ad_lt _ _
def big1 (e : Nat) : Nat := xr (xr (rt e 6) (rt e 11)) (rt e 25)
def big0 (a : Nat) : Nat := xr (xr (rt a 2) (rt a 13)) (rt a 22)
def t1 (v : Nat → Nat) (k w : Nat) : Nat := ad (ad (ad (ad (v 7) (big1 (v 4))) (xr (an (v 4) (v 5)) (an (nt (v 4)) (v 6)))) k) w
def t2 (v : Nat → Nat) : Nat := ad (big0 (v 0)) (xr (xr (an (v 0) (v 1)) (an (v 0) (v 2))) (an (v 1) (v 2)))
def step (v : Nat → Nat) (k w : Nat) (j : Nat) : Nat :=
  if j = 0 then ad (t1 v k w) (t2 v) else if j = 4 then ad (v 3) (t1 v k w) else v (j - 1)
def rounds (W v : Nat → Nat) : Nat → Nat → Nat
  | 0 => v
  | i + 1 => step (rounds W v i) (kc i) (W i)
theorem rounds_lt {W v : Nat → Nat} (h : ∀ j, v j < 4294967296) (i j : Nat) : rounds W v i j < 4294967296 := by
  induction i generalizing j with
  | zero => exact h j
  | succ i ih =>
    show step _ _ _ j < _
    unfold step
    split
    · exact ad_lt _ _
    · split
      · exact ad_lt _ _
      · exact ih _
/-- A digest behind a block more. -/
def block (v b : Nat → Nat) (j : Nat) : Nat := ad (v j) (rounds (ws b) v 64 j)
def hashTo (c : Nat → Nat) : Nat → Nat → Nat
  | 0 => h0
  | n + 1 => block (hashTo c n) (fun j => c (64 * n + j))
theorem hashTo_lt (c : Nat → Nat) (n j : Nat) : hashTo c n j < 4294967296 := by
  cases n with
  | zero => exact h0_lt j
  | succ n => exact ad_lt _ _
/-- How long a text of n bytes is when it is filled up. -/
def fullN (n : Nat) : Nat := (n + 72) / 64 * 64
def fullF (n : Nat) (f : Nat → Nat) (j : Nat) : Nat :=
  if j < n then f j else if j = n then 128 else if j < fullN n - 8 then 0 else 8 * n / 2 ^ (8 * (fullN n - 1 - j)) % 256
theorem fullF_lt {n : Nat} {f : Nat → Nat} (h : ∀ j, f j < 256) (j : Nat) : fullF n f j < 256 := by
  unfold fullF
  split
  · exact h j
  · split
    · omega
    · split
      · omega
      · exact Nat.mod_lt _ (by omega)
/-- The bytes of a digest. -/
def outB (v : Nat → Nat) (j : Nat) : Nat := v (j / 4) / 2 ^ (24 - 8 * (j % 4)) % 256
theorem outB_lt (v : Nat → Nat) (j : Nat) : outB v j < 256 := Nat.mod_lt _ (by omega)
/-- The hash of n bytes: its 32 bytes. -/
def hash (n : Nat) (f : Nat → Nat) : Nat → Nat := outB (hashTo (fullF n f) (fullN n / 64))
theorem hash_lt (n : Nat) (f : Nat → Nat) (j : Nat) : hash n f j < 256 := outB_lt _ _
/-- A text behind another one. -/
def cat (n : Nat) (f g : Nat → Nat) (j : Nat) : Nat := if j < n then f j else g (j - n)
theorem cat_lt {n : Nat} {f g : Nat → Nat} (hf : ∀ j, f j < 256) (hg : ∀ j, g j < 256) (j : Nat) : cat n f g j < 256 := by
  unfold cat
  split
  · exact hf j
  · exact hg _
/-- A key of 64 bytes. -/
def keyF (n : Nat) (f : Nat → Nat) (j : Nat) : Nat := if 64 < n then (if j < 32 then hash n f j else 0) else (if j < n then f j else 0)
theorem keyF_lt {n : Nat} {f : Nat → Nat} (h : ∀ j, f j < 256) (j : Nat) : keyF n f j < 256 := by
  unfold keyF
  split
  · split
    · exact hash_lt _ _ _
    · omega
  · split
    · exact h j
    · omega
def maskF (k : Nat → Nat) (m : Nat) (j : Nat) : Nat := k j ^^^ m
theorem maskF_lt {k : Nat → Nat} {m : Nat} (h : ∀ j, k j < 256) (hm : m < 256) (j : Nat) : maskF k m j < 256 := Nat.xor_lt_two_pow (n := 8) (h j) hm
/-- The code of n bytes under a key of 64. -/
def mac (k : Nat → Nat) (n : Nat) (f : Nat → Nat) : Nat → Nat := hash 96 (cat 64 (maskF k 0x5c) (hash (64 + n) (cat 64 (maskF k 0x36) f)))
theorem mac_lt (k : Nat → Nat) (n : Nat) (f : Nat → Nat) (j : Nat) : mac k n f j < 256 := hash_lt _ _ _
/-- The blocks that are drawn: block i (from 1 on). -/
def drawnB (k : Nat → Nat) (m : Nat) (g : Nat → Nat) : Nat → Nat → Nat
  | 0 => fun _ => 0
  | i + 1 => mac k ((if i = 0 then 0 else 32) + m + 1) (cat (if i = 0 then 0 else 32) (drawnB k m g i) (cat m g (fun _ => (i + 1) % 256)))
def drawnF (k : Nat → Nat) (m : Nat) (g : Nat → Nat) (j : Nat) : Nat := drawnB k m g (j / 32 + 1) (j % 32)
theorem drawnF_lt (k : Nat → Nat) (m : Nat) (g : Nat → Nat) (j : Nat) : drawnF k m g j < 256 := mac_lt _ _ _ _
end Sha
end Go.Proofs.YtbecnaabmlkjjabDoor

/-
  Slices of texts: what they hold, and the contracts of the law's own helpers on them (eqStringS, sameTexts, markText, markStringS, heldStringS).
-/
namespace Go.Proofs.YtbecnaabmlkjjabDoor
open Go.ChangeShapes Go.WideShapes Go.ChangeAt Go.RowKit
/-- n texts behind a slice's address. -/
def Strs (w : World) (a : Option Addr) (n : Nat) (f : Nat → ByteArray) : Prop := ∀ i, i < n → ∃ b off, a = some ⟨b, off, none⟩ ∧ w.cell? ⟨b, off + i, none⟩ = some (.string (f i))
theorem strBlock {w : World} {p : Addr} {v : Value} (h : w.cell? p = some v) : p.block < w.heap.size := by
  rcases Nat.lt_or_ge p.block w.heap.size with g | g
  · exact g
  · simp [World.cell?, Array.getElem?_eq_none g] at h
theorem Strs.opened {w : World} {a : Option Addr} {n : Nat} {f : Nat → ByteArray} (h : Strs w a n f) (hn : 0 < n) :
    ∃ b off, a = some ⟨b, off, none⟩ ∧ ∀ i, i < n → w.cell? ⟨b, off + i, none⟩ = some (.string (f i)) := by
  obtain ⟨b, off, rfl, _⟩ := h 0 hn
  refine ⟨b, off, rfl, fun i hi => ?_⟩
  obtain ⟨b', off', hab, hc⟩ := h i hi
  cases hab
  exact hc
theorem Strs.below {w w' : World} {a : Option Addr} {n : Nat} {f : Nat → ByteArray} (h : Strs w a n f) (hb : Below w.heap.size w w') : Strs w' a n f := fun i hi => by
  obtain ⟨b, off, ha, hc⟩ := h i hi
  exact ⟨b, off, ha, by rw [hb.cell (strBlock hc)]; exact hc⟩
theorem Strs.drewN {w : World} {a : Option Addr} {n : Nat} {f : Nat → ByteArray} (h : Strs w a n f) (q : Nat) : Strs (w.drewN q) a n f := fun i hi => by
  obtain ⟨b, off, ha, hc⟩ := h i hi
  exact ⟨b, off, ha, by rw [World.cell?_drewN]; exact hc⟩
theorem Strs.ofRow {w : World} {b : Nat} {t : TypeId} {n : Nat} {f : Nat → ByteArray} (h : w.rowIs b t n (fun i => .string (f i))) : Strs w (some ⟨b, 0, none⟩) n f := fun i hi => ⟨b, 0, rfl, by rw [Nat.zero_add]; exact h.cell hi⟩
theorem numEqS {k : IntKind} {a b : Int} (h : a = b) : Value.int k a = .int k b := by rw [h]
theorem held_keep {B b q : Nat} {w w1 w2 : World} {V : ByteArray} (hc : w1.cell? ⟨b, q, none⟩ = some (.string V)) (hb : Below B w w1) (_hB : b < B) (h : Below w1.heap.size w1 w2) (hs : B ≤ w.heap.size := by exact Nat.le_refl _) : w2.cell? ⟨b, q, none⟩ = some (.string V) ∧ Below B w w2 :=
  ⟨by rw [h.cell (strBlock hc)]; exact hc, hb.trans (h.mono (Nat.le_trans hs hb.size))⟩
/-- From w to w' only block b and new blocks have changed. -/
structure OnlyB (b : Nat) (w w' : World) : Prop where
  os : w'.os = w.os
  tape : w'.tape = w.tape
  output : w'.output = w.output
  size : w.heap.size ≤ w'.heap.size
  block : ∀ k, k < w.heap.size → k ≠ b → w'.heap[k]? = w.heap[k]?
theorem OnlyB.refl (b : Nat) (w : World) : OnlyB b w w := ⟨rfl, rfl, rfl, Nat.le_refl _, fun _ _ _ => rfl⟩
theorem OnlyB.below {b : Nat} {w w' w'' : World} (h : OnlyB b w w') (hb : Below w'.heap.size w' w'') : OnlyB b w w'' :=
  ⟨hb.os.trans h.os, hb.tape.trans h.tape, hb.output.trans h.output, Nat.le_trans h.size hb.size, fun k hk hn => (hb.block k (Nat.lt_of_lt_of_le hk h.size)).trans (h.block k hk hn)⟩
theorem OnlyB.setCell {b : Nat} {w w' : World} (h : OnlyB b w w') (i : Nat) (v : Value) : OnlyB b w (w'.setCell ⟨b, i, none⟩ v) :=
  ⟨h.os, h.tape, h.output, by simpa using h.size, fun k hk hn => (Below.heap_setCell w' ⟨b, i, none⟩ v k hn).trans (h.block k hk hn)⟩
theorem OnlyB.toBelow {b B : Nat} {w w' : World} (h : OnlyB b w w') (hB : B ≤ b) (hw : B ≤ w.heap.size) : Below B w w' :=
  ⟨h.os, h.tape, h.output, h.size, fun k hk => h.block k (by omega) (by omega)⟩
end Go.Proofs.YtbecnaabmlkjjabDoor

/-
  The contract of the laws' own function at: over any slice of bytes it returns some number below n and writes nothing.
-/
namespace Go.Proofs.YtbecnaabmlkjjabDoor
open Go.ChangeShapes Go.WideShapes Go.ChangeAt Go.RowKit
/-- What is known of a slice of integers that came in. -/
def IsRow (k : IntKind) (w : World) (a : Option Addr) (len cap : Nat) (zs : List Int) : Prop :=
  (a = none ∧ len = 0 ∧ cap = 0 ∧ zs = []) ∨
  ∃ x, a = some x ∧ len ≤ cap ∧ cap ≤ maxLen ∧ zs.length = cap ∧ (∀ i, i < zs.length → w.cell? (x.add i) = some (.int k (zs.getD i 0))) ∧ ∀ n ∈ zs, (Lit.int k n).wf = true
theorem IsRow.drewN {k : IntKind} {w : World} {a : Option Addr} {len cap : Nat} {zs : List Int} (h : IsRow k w a len cap zs) (q : Nat) : IsRow k (w.drewN q) a len cap zs := by
  rcases h with h | ⟨x, ha, hl, hm, hz, hc, hw⟩
  · exact .inl h
  · exact .inr ⟨x, ha, hl, hm, hz, fun i hi => by rw [World.cell?_drewN]; exact hc i hi, hw⟩
theorem block_of_cell {w : World} {p : Addr} {v : Value} (h : w.cell? p = some v) : p.block < w.heap.size := by
  rcases Nat.lt_or_ge p.block w.heap.size with g | g
  · exact g
  · simp [World.cell?, Array.getElem?_eq_none g] at h
theorem IsRow.below {k : IntKind} {w w' : World} {a : Option Addr} {len cap : Nat} {zs : List Int} (h : IsRow k w a len cap zs) (hb : Below w.heap.size w w') : IsRow k w' a len cap zs := by
  rcases h with h | ⟨x, ha, hl, hm, hz, hc, hw⟩
  · exact .inl h
  · exact .inr ⟨x, ha, hl, hm, hz, fun i hi => by rw [hb.cell (block_of_cell (hc i hi))]; exact hc i hi, hw⟩
theorem IsRow.lenLe {k : IntKind} {w : World} {a : Option Addr} {len cap : Nat} {zs : List Int} (h : IsRow k w a len cap zs) : len ≤ maxLen := by
  rcases h with ⟨_, h, _, _⟩ | ⟨x, ha, hl, hm, _⟩
  · rw [h]; exact Nat.zero_le _
  · exact Nat.le_trans hl hm
end Go.Proofs.YtbecnaabmlkjjabDoor

/-
  Plain laws of the model on arrays that are values: what an index of one is. No function of the program in sight.
-/
namespace Go.Proofs.YtbecnaabmlkjjabDoor
theorem run_index_flat {P : Program} {t e : TypeId} {n : Nat} {d : TypeDesc} (hu : P.underlying t = some (.array n e)) (he : P.underlying e = some d) (hd : d.isRow = false)
    (hs : (P.info? e).map (·.size) = some 1) {A : Array Value} {k : Nat} {v : Value} (hk : k < n) (hv : A[k]? = some v) (w : World) :
    (Instr.index t (.agg A) (.int .i64 (k : Int))).run P w = .ok v w := by
  cases hq : P.info? e with
  | none => simp [hq] at hs
  | some i =>
    have hz : i.size = 1 := by simpa [hq] using hs
    have hagg : (isAgg e).run P w = .ok false w := by
      unfold isAgg
      rw [Sem.run_bind, run_underlying he w]
      cases d <;> simp_all
    have hk1 : (0 : Int) ≤ (k : Int) ∧ (k : Int) < (n : Int) := by omega
    simp [Instr.index, asIntOf, Sem.run_bind, run_underlying hu w, hk1, sizeOf, typeInfo, hq, hz, part, hagg, hv]
    intro h
    omega
end Go.Proofs.YtbecnaabmlkjjabDoor

/-
  Arrays of bytes as values and as rows of memory: plain laws that the walks of the program's ciphers use. No function of the program in sight.
-/
namespace Go.Proofs.YtbecnaabmlkjjabDoor
open Go.ChangeShapes Go.WideShapes Go.ChangeAt Go.RowKit
/-- n bytes as cells. -/
def bv (n : Nat) (f : Nat → Nat) : List Value := (List.range n).map fun i => .int .u8 (f i : Nat)
/-- n bytes as the value of an array. -/
def bA (n : Nat) (f : Nat → Nat) : Array Value := (bv n f).toArray
theorem bv_length (n : Nat) (f : Nat → Nat) : (bv n f).length = n := by simp [bv]
theorem bA_size (n : Nat) (f : Nat → Nat) : (bA n f).size = n := by simp [bA, bv]
theorem bA_toList (n : Nat) (f : Nat → Nat) : (bA n f).toList = bv n f := by simp [bA]
theorem bv_at {n : Nat} {f : Nat → Nat} {k : Nat} (h : k < n) : (bv n f)[k]? = some (.int .u8 (f k : Nat)) := by simp [bv, h]
theorem bA_at {n : Nat} {f : Nat → Nat} {k : Nat} (h : k < n) : (bA n f)[k]? = some (.int .u8 (f k : Nat)) := by rw [bA, List.getElem?_toArray]; exact bv_at h
theorem bv_congr {n : Nat} {f g : Nat → Nat} (h : ∀ i, i < n → f i = g i) : bv n f = bv n g := by
  unfold bv
  exact List.map_congr_left (fun i hi => by rw [h i (List.mem_range.1 hi)])
theorem bA_congr {n : Nat} {f g : Nat → Nat} (h : ∀ i, i < n → f i = g i) : bA n f = bA n g := by rw [bA, bv_congr h, bA]
theorem bA_one (n : Nat) (f : Nat → Nat) : (bA n f).all (·.oneCell') = true := all_oneCell_toArray (fun v hv => by
  obtain ⟨i, _, rfl⟩ := List.mem_map.1 hv
  rfl)
/-- The row in block b holds n bytes. -/
def Row8 (w : World) (b : Nat) (t : TypeId) (n : Nat) (f : Nat → Nat) : Prop := w.rowIs b t n (fun i => .int .u8 (f i : Nat))
theorem Row8.range {w : World} {b n : Nat} {t : TypeId} {f : Nat → Nat} (h : Row8 w b t n f) : w.rangeAt b 0 (bv n f) := fun j v hv => by
  have hj : j < n := by have := (List.getElem?_eq_some_iff.1 hv).1; rwa [bv_length] at this
  rw [bv_at hj] at hv
  cases hv
  rw [Nat.zero_add]
  exact h.cell hj
theorem Row8.there {w : World} {b n : Nat} {t : TypeId} {f : Nat → Nat} (h : Row8 w b t n f) : w.there b 0 n := fun j hj => by
  rw [Nat.zero_add, h.cell hj, h.frozen j]
  exact ⟨rfl, rfl⟩
theorem Row8.boxed (w : World) (t : TypeId) (n : Nat) (f : Nat → Nat) : Row8 (w.alloc (.cells (bA n f) t)) w.heap.size t n f := by
  have := World.rowIs_alloc w (bA n f) t (fun i => .int .u8 (f i : Nat)) (fun i hi => bA_at (by rwa [bA_size] at hi))
  rw [bA_size] at this
  exact this
theorem Row8.zeros (w : World) (t : TypeId) (n : Nat) : Row8 (w.alloc (.cells (Array.replicate n (.int .u8 0)) t)) w.heap.size t n (fun _ => 0) := by
  have := World.rowIs_alloc w (Array.replicate n (.int .u8 0)) t (fun _ => .int .u8 ((0 : Nat) : Int)) (fun i hi => by
    have hi' : i < n := by simpa using hi
    simp [hi'])
  rw [Array.size_replicate] at this
  exact this
theorem Row8.set {w : World} {b n : Nat} {t : TypeId} {f : Nat → Nat} (h : Row8 w b t n f) (i v : Nat) : Row8 (w.setCell ⟨b, i, none⟩ (.int .u8 (v : Nat))) b t n (fun j => if j = i then v else f j) :=
  (World.rowIs.set h i _).congr (fun j _ => by by_cases e : j = i <;> simp [e])
theorem Row8.congr {w : World} {b n : Nat} {t : TypeId} {f g : Nat → Nat} (h : Row8 w b t n f) (e : ∀ i, i < n → f i = g i) : Row8 w b t n g := World.rowIs.congr h (fun i hi => by rw [e i hi])
theorem Row8.below {w w' : World} {b n : Nat} {t : TypeId} {f : Nat → Nat} (h : Row8 w b t n f) (hb : Below w.heap.size w w') : Row8 w' b t n f := World.rowIs.of_block h (hb.block b h.lt)
theorem Row8.other {w : World} {b n : Nat} {t : TypeId} {f : Nat → Nat} (h : Row8 w b t n f) {a : Addr} (ha : b ≠ a.block) (v : Value) : Row8 (w.setCell a v) b t n f := World.rowIs.setOther h ha v
theorem Row8.alloc {w : World} {b n : Nat} {t : TypeId} {f : Nat → Nat} (h : Row8 w b t n f) (o : Obj) : Row8 (w.alloc o) b t n f := World.rowIs.alloc h o
theorem Row8.drewN {w : World} {b n : Nat} {t : TypeId} {f : Nat → Nat} (h : Row8 w b t n f) (q : Nat) : Row8 (w.drewN q) b t n f := h
theorem below_setCells {B b : Nat} {a : World} (hb : B ≤ b) (vs : List Value) : ∀ (o : Nat) (w : World), Below B a w → Below B a (w.setCells b o vs) := by
  induction vs with
  | nil => intro o w h; exact h
  | cons v vs ih => intro o w h; exact ih (o + 1) _ (h.setCell hb v)
theorem rowIs_setCells {b n : Nat} {t : TypeId} (vs : List Value) : ∀ (o : Nat) (w : World) (f : Nat → Value), w.rowIs b t n f →
    (w.setCells b o vs).rowIs b t n (fun i => if o ≤ i ∧ i < o + vs.length then vs.getD (i - o) undef else f i) := by
  induction vs with
  | nil => intro o w f h; exact h.congr (fun i _ => by rw [if_neg (by intro g; have := g.1; have := g.2; simp at this; omega)])
  | cons v vs ih =>
    intro o w f h
    refine (ih (o + 1) _ _ (h.set o v)).congr (fun i _ => ?_)
    by_cases h1 : o + 1 ≤ i ∧ i < o + 1 + vs.length
    · rw [if_pos h1, if_pos (by simp; omega)]
      rw [show i - o = (i - (o + 1)) + 1 from by omega]
      rfl
    · rw [if_neg h1]
      by_cases h2 : i = o
      · subst h2; simp
      · rw [if_neg h2, if_neg (by simp; omega)]
theorem Row8.stored {w : World} {b n : Nat} {t : TypeId} {f : Nat → Nat} (h : Row8 w b t n f) (g : Nat → Nat) : Row8 (w.setCells b 0 (bv n g)) b t n g :=
  (rowIs_setCells (bv n g) 0 w _ h).congr (fun i hi => by
    rw [if_pos (by rw [bv_length]; omega), Nat.sub_zero, List.getD_eq_getElem?_getD, bv_at hi]; rfl)
theorem rowIs_setCells_other {b b' n : Nat} {t : TypeId} {f : Nat → Value} (hne : b' ≠ b) (vs : List Value) : ∀ (o : Nat) (w : World), w.rowIs b' t n f → (w.setCells b o vs).rowIs b' t n f := by
  induction vs with
  | nil => intro o w h; exact h
  | cons v vs ih => intro o w h; exact ih (o + 1) _ (h.setOther hne v)
theorem Row8.storedOther {w : World} {b b' n : Nat} {t : TypeId} {f : Nat → Nat} (h : Row8 w b' t n f) (hne : b' ≠ b) (o : Nat) (vs : List Value) : Row8 (w.setCells b o vs) b' t n f := rowIs_setCells_other hne vs o w h
/-- What a function hands back whose one result lies in a variable. -/
theorem results_cell_one {fn : Func} {p : Tmp} {ty : TypeId} (h : fn.results = #[.cell p ty]) (tmps : Array Value) (P : Program) (w : World) {b o : Nat} (hp : tmps.getD p undef = .pointer (some ⟨b, o, none⟩)) {v : Value} (hl : (loadVar ty ⟨b, o, none⟩).run P w = .ok v w) :
    (results fn tmps).run P w = .ok v w := by
  have hp' : tmps[p]?.getD undef = .pointer (some ⟨b, o, none⟩) := by simpa using hp
  simp only [results, h]
  simp [hp', asAddr, hl]
theorem Row8.load {P : Program} {w : World} {b n : Nat} {t : TypeId} {f : Nat → Nat} (h : Row8 w b t n f) {d : TypeDesc} (hu : P.underlying t = some d) (hd : d.isRow = true) (hi : (P.info? t).map (·.size) = some n) : (loadVar t ⟨b, 0, none⟩).run P w = .ok (.agg (bA n f)) w :=
  run_loadVar_mid w b 0 t (bv n f) d h.range hu hd (by rw [bv_length]; exact hi)
theorem Row8.boxedAt {w : World} {b : Nat} (hb : w.heap.size = b) (t : TypeId) (n : Nat) (f : Nat → Nat) : Row8 (w.alloc (.cells (bA n f) t)) b t n f := by subst hb; exact Row8.boxed w t n f
theorem Row8.zerosAt {w : World} {b : Nat} (hb : w.heap.size = b) (t : TypeId) (n : Nat) : Row8 (w.alloc (.cells (Array.replicate n (.int .u8 0)) t)) b t n (fun _ => 0) := by subst hb; exact Row8.zeros w t n
/-- Sixteen noughts, as the walk writes them out. -/
def z16 : Array Value := #[.int .u8 0, .int .u8 0, .int .u8 0, .int .u8 0, .int .u8 0, .int .u8 0, .int .u8 0, .int .u8 0, .int .u8 0, .int .u8 0, .int .u8 0, .int .u8 0, .int .u8 0, .int .u8 0, .int .u8 0, .int .u8 0]
theorem z16_eq : z16 = Array.replicate 16 (.int .u8 0) := by kernel_rfl
theorem Row8.z16At {w : World} {b : Nat} (hb : w.heap.size = b) (t : TypeId) : Row8 (w.alloc (.cells z16 t)) b t 16 (fun _ => 0) := by rw [z16_eq]; exact Row8.zerosAt hb t 16
theorem Row8.zerosSetAt {w : World} {b : Nat} (hb : w.heap.size = b) (t : TypeId) (n i v : Nat) : Row8 (w.alloc (.cells ((Array.replicate n (.int .u8 0)).setIfInBounds i (.int .u8 (v : Nat))) t)) b t n (fun j => if j = i then v else 0) := by
  subst hb
  have := World.rowIs_alloc w ((Array.replicate n (.int .u8 0)).setIfInBounds i (.int .u8 (v : Nat))) t (fun j => .int .u8 ((if j = i then v else 0 : Nat) : Int)) (fun j hj => by
    have hj' : j < n := by simpa using hj
    rw [Array.getElem?_setIfInBounds]
    by_cases e : i = j
    · subst e; simp [hj']
    · rw [if_neg e]
      rw [if_neg (fun h => e h.symm)]
      simp [hj'])
  simpa [Row8] using this
end Go.Proofs.YtbecnaabmlkjjabDoor

/-
  Slices of bytes: what they read as, and rows of bytes of a call's own (whatever their capacity).
-/
namespace Go.Proofs.YtbecnaabmlkjjabDoor
open Go.ChangeShapes Go.WideShapes Go.ChangeAt Go.RowKit
/-- The bytes behind a slice. -/
def Code8 (w : World) (a : Option Addr) (len : Nat) (z : Nat → Nat) : Prop := ∀ i, i < len → ∃ cb off, a = some ⟨cb, off, none⟩ ∧ w.cell? ⟨cb, off + i, none⟩ = some (.int .u8 (z i : Nat))
theorem Code8.opened {w : World} {a : Option Addr} {n : Nat} {f : Nat → Nat} (h : Code8 w a n f) (hn : 0 < n) :
    ∃ b off, a = some ⟨b, off, none⟩ ∧ ∀ i, i < n → w.cell? ⟨b, off + i, none⟩ = some (.int .u8 (f i : Nat)) := by
  obtain ⟨b, off, rfl, _⟩ := h 0 hn
  refine ⟨b, off, rfl, fun i hi => ?_⟩
  obtain ⟨b', off', hab, hc⟩ := h i hi
  cases hab
  exact hc
theorem Code8.below {w w' : World} {a : Option Addr} {n : Nat} {f : Nat → Nat} (h : Code8 w a n f) (hb : Below w.heap.size w w') : Code8 w' a n f := fun i hi => by
  obtain ⟨b, off, ha, hc⟩ := h i hi
  exact ⟨b, off, ha, by rw [hb.cell (strBlock hc)]; exact hc⟩
theorem Code8.onlyB {w w' : World} {a : Option Addr} {n b : Nat} {f : Nat → Nat} (h : Code8 w a n f) (ho : OnlyB b w w') (hs : ∀ x, 0 < n → a = some x → x.block ≠ b) : Code8 w' a n f := fun i hi => by
  obtain ⟨cb, off, ha, hc⟩ := h i hi
  exact ⟨cb, off, ha, by rw [World.cell?_of_block (w := w) (ho.block cb (strBlock hc) (hs _ (by omega) ha))]; exact hc⟩
theorem code8_of_row {w : World} {a : Option Addr} {len cap : Nat} {zs : List Int} (h : IsRow .u8 w a len cap zs) : ∃ z : Nat → Nat, (∀ i, z i < 256) ∧ Code8 w a len z := by
  rcases h with ⟨rfl, rfl, rfl, rfl⟩ | ⟨x, rfl, hl, hm, hz, hcell, hwz⟩
  · exact ⟨fun _ => 0, fun _ => by show 0 < 256; omega, fun i hi => absurd hi (by omega)⟩
  · have r : ∀ i, 0 ≤ zs.getD i 0 ∧ zs.getD i 0 ≤ 255 := fun i => by simpa using range_u8 hwz i
    refine ⟨fun i => (zs.getD i 0).toNat, fun i => by have := r i; show (zs.getD i 0).toNat < 256; omega, fun i hi => ?_⟩
    obtain ⟨b, off, rfl, hc⟩ := ints_at hcell (by omega)
    refine ⟨b, off, rfl, ?_⟩
    rw [hc i (by omega)]
    have := r i
    rw [show (((zs.getD i 0).toNat : Nat) : Int) = zs.getD i 0 from by omega]
theorem Code8.drewN {w : World} {a : Option Addr} {n : Nat} {f : Nat → Nat} (h : Code8 w a n f) (q : Nat) : Code8 (w.drewN q) a n f := fun i hi => by
  obtain ⟨b, off, ha, hc⟩ := h i hi
  exact ⟨b, off, ha, by rw [World.cell?_drewN]; exact hc⟩
theorem Code8.congr {w : World} {a : Option Addr} {n : Nat} {f g : Nat → Nat} (h : Code8 w a n f) (e : ∀ i, i < n → f i = g i) : Code8 w a n g := fun i hi => by
  obtain ⟨b, off, ha, hc⟩ := h i hi
  exact ⟨b, off, ha, by rw [← e i hi]; exact hc⟩
theorem Code8.part {w : World} {a : Option Addr} {n m : Nat} {f : Nat → Nat} (h : Code8 w a n f) (hm : m ≤ n) : Code8 w a m f := fun i hi => h i (by omega)
theorem code8_zero (w : World) (a : Option Addr) (f : Nat → Nat) : Code8 w a 0 f := fun i hi => absurd hi (by omega)
theorem Code8.lt {w : World} {a : Option Addr} {n : Nat} {f : Nat → Nat} (h : Code8 w a n f) : ∀ x, 0 < n → a = some x → x.block < w.heap.size := fun x h0 hx => by
  obtain ⟨cb, off, ha, hh⟩ := h 0 h0
  rw [ha] at hx
  cases hx
  exact strBlock hh
theorem Code8.shift {w : World} {b off n : Nat} {f : Nat → Nat} (h : Code8 w (some ⟨b, off, none⟩) n f) (k : Nat) : Code8 w (some ⟨b, off + k, none⟩) (n - k) (fun i => f (k + i)) := fun i hi => by
  obtain ⟨b', off', ha, hc⟩ := h (k + i) (by omega)
  cases ha
  exact ⟨b, off + k, rfl, by rw [Nat.add_assoc]; exact hc⟩
/-- Block b is a row of bytes that may be written, of at least n, that reads as f from its head on. -/
def Own8 (w : World) (b n : Nat) (f : Nat → Nat) : Prop := ∃ (m : Nat) (g : Nat → Value), n ≤ m ∧ w.rowIs b 5 m g ∧ ∀ i, i < n → g i = .int .u8 (f i : Nat)
theorem Own8.cell {w : World} {b n : Nat} {f : Nat → Nat} (h : Own8 w b n f) {i : Nat} (hi : i < n) : w.cell? ⟨b, i, none⟩ = some (.int .u8 (f i : Nat)) := by
  obtain ⟨m, g, hm, hr, hg⟩ := h
  rw [hr.cell (by omega), hg i hi]
theorem Own8.frozen {w : World} {b n : Nat} {f : Nat → Nat} (h : Own8 w b n f) (i : Nat) : w.frozen? ⟨b, i, none⟩ = false := by
  obtain ⟨m, g, hm, hr, hg⟩ := h
  exact hr.frozen i
theorem Own8.lt {w : World} {b n : Nat} {f : Nat → Nat} (h : Own8 w b n f) : b < w.heap.size := by
  obtain ⟨m, g, hm, hr, hg⟩ := h
  exact hr.lt
theorem Own8.congr {w : World} {b n : Nat} {f f' : Nat → Nat} (h : Own8 w b n f) (e : ∀ i, i < n → f i = f' i) : Own8 w b n f' := by
  obtain ⟨m, g, hm, hr, hg⟩ := h
  exact ⟨m, g, hm, hr, fun i hi => by rw [hg i hi, e i hi]⟩
theorem Own8.part {w : World} {b n n' : Nat} {f : Nat → Nat} (h : Own8 w b n f) (hn : n' ≤ n) : Own8 w b n' f := by
  obtain ⟨m, g, hm, hr, hg⟩ := h
  exact ⟨m, g, by omega, hr, fun i hi => hg i (by omega)⟩
theorem Own8.set {w : World} {b n : Nat} {f : Nat → Nat} (h : Own8 w b n f) (i v : Nat) : Own8 (w.setCell ⟨b, i, none⟩ (.int .u8 (v : Nat))) b n (fun j => if j = i then v else f j) := by
  obtain ⟨m, g, hm, hr, hg⟩ := h
  refine ⟨m, _, hm, hr.set i _, fun j hj => ?_⟩
  by_cases e : j = i
  · simp [e]
  · simp [e, hg j hj]
theorem Own8.other {w : World} {b n : Nat} {f : Nat → Nat} (h : Own8 w b n f) {a : Addr} (ha : b ≠ a.block) (v : Value) : Own8 (w.setCell a v) b n f := by
  obtain ⟨m, g, hm, hr, hg⟩ := h
  exact ⟨m, g, hm, hr.setOther ha v, hg⟩
theorem Own8.of_block {w w' : World} {b n : Nat} {f : Nat → Nat} (h : Own8 w b n f) (e : w'.heap[b]? = w.heap[b]?) : Own8 w' b n f := by
  obtain ⟨m, g, hm, hr, hg⟩ := h
  exact ⟨m, g, hm, hr.of_block e, hg⟩
theorem Own8.alloc {w : World} {b n : Nat} {f : Nat → Nat} (h : Own8 w b n f) (o : Obj) : Own8 (w.alloc o) b n f := by
  obtain ⟨m, g, hm, hr, hg⟩ := h
  exact ⟨m, g, hm, hr.alloc o, hg⟩
theorem Own8.below {w w' : World} {b n : Nat} {f : Nat → Nat} (h : Own8 w b n f) (hb : Below w.heap.size w w') : Own8 w' b n f := h.of_block (hb.block b h.lt)
theorem Own8.onlyB {w w' : World} {b c n : Nat} {f : Nat → Nat} (h : Own8 w b n f) (ho : OnlyB c w w') (hne : b ≠ c) : Own8 w' b n f := h.of_block (ho.block b h.lt hne)
theorem Own8.drewN {w : World} {b n : Nat} {f : Nat → Nat} (h : Own8 w b n f) (q : Nat) : Own8 (w.drewN q) b n f := h
theorem Own8.code {w : World} {b n : Nat} {f : Nat → Nat} (h : Own8 w b n f) : Code8 w (some ⟨b, 0, none⟩) n f := fun i hi => ⟨b, 0, rfl, by rw [Nat.zero_add]; exact h.cell hi⟩
theorem Own8.ofRow {w : World} {b n : Nat} {f : Nat → Nat} (h : w.rowIs b 5 n (fun i => .int .u8 (f i : Nat))) : Own8 w b n f := ⟨n, _, Nat.le_refl _, h, fun _ _ => rfl⟩
/-- n bytes as the cells of a list. -/
theorem own8_of_owned {w : World} {base : Nat} {v : Value} {n : Nat} {f : Nat → Nat} (h : w.ownsRow base 5 1 v n (bv n f)) (hn : 0 < n) :
    ∃ b cap, (base ≤ b ∧ n ≤ cap) ∧ v = .slice (some ⟨b, 0, none⟩) n cap ∧ Own8 w b n f := by
  obtain ⟨hl, ⟨rfl, rfl⟩ | ⟨g, cap, cur, rfl, hb, hh, hn', hm, hs, ht⟩⟩ := h
  · omega
  · refine ⟨g, cap, ⟨hb, hn'⟩, rfl, cap, fun i => cur.getD i undef, hn', ⟨cur, hh, by omega, fun i hi => ?_⟩, fun i hi => ?_⟩
    · have : i < cur.size := by omega
      simp [Array.getD, this]
    · have h1 : (cur.toList.take (n * 1))[i]? = some (.int .u8 (f i : Nat)) := by rw [ht]; exact bv_at hi
      rw [List.getElem?_take, if_pos (by omega), Array.getElem?_toList] at h1
      simp [Array.getD_eq_getD_getElem?, h1]
/-- A slice of n bytes at the head of a row of the call's own, from block B on. -/
def OwnS (w : World) (B : Nat) (a : Option Addr) (n : Nat) (f : Nat → Nat) : Prop := n = 0 ∨ ∃ b, B ≤ b ∧ a = some ⟨b, 0, none⟩ ∧ Own8 w b n f
theorem OwnS.code {w : World} {B : Nat} {a : Option Addr} {n : Nat} {f : Nat → Nat} (h : OwnS w B a n f) : Code8 w a n f := by
  rcases h with rfl | ⟨b, _, rfl, hr⟩
  · exact code8_zero _ _ _
  · exact hr.code
theorem OwnS.below {w w' : World} {B : Nat} {a : Option Addr} {n : Nat} {f : Nat → Nat} (h : OwnS w B a n f) (hb : Below w.heap.size w w') : OwnS w' B a n f := by
  rcases h with h | ⟨b, hB, ha, hr⟩
  · exact .inl h
  · exact .inr ⟨b, hB, ha, hr.below hb⟩
theorem OwnS.drewN {w : World} {B : Nat} {a : Option Addr} {n : Nat} {f : Nat → Nat} (h : OwnS w B a n f) (q : Nat) : OwnS (w.drewN q) B a n f := h
theorem OwnS.congr {w : World} {B : Nat} {a : Option Addr} {n : Nat} {f g : Nat → Nat} (h : OwnS w B a n f) (e : ∀ i, i < n → f i = g i) : OwnS w B a n g := by
  rcases h with h | ⟨b, hB, ha, hr⟩
  · exact .inl h
  · exact .inr ⟨b, hB, ha, hr.congr e⟩
theorem OwnS.mono {w : World} {B B' : Nat} {a : Option Addr} {n : Nat} {f : Nat → Nat} (h : OwnS w B a n f) (hB : B' ≤ B) : OwnS w B' a n f := by
  rcases h with h | ⟨b, h1, ha, hr⟩
  · exact .inl h
  · exact .inr ⟨b, Nat.le_trans hB h1, ha, hr⟩
theorem ownS_of_owned {w : World} {base : Nat} {v : Value} {n : Nat} {f : Nat → Nat} (h : w.ownsRow base 5 1 v n (bv n f)) :
    ∃ a cap, v = .slice a n cap ∧ OwnS w base a n f := by
  rcases Nat.eq_zero_or_pos n with rfl | hn
  · obtain ⟨hl, ⟨rfl, _⟩ | ⟨g, cap, cur, rfl, hb, hh, hn', hm, hs, ht⟩⟩ := h
    · exact ⟨_, _, rfl, .inl rfl⟩
    · exact ⟨_, _, rfl, .inl rfl⟩
  · obtain ⟨b, cap, hb, rfl, ho⟩ := own8_of_owned h hn
    exact ⟨_, cap, rfl, .inr ⟨b, hb.1, rfl, ho⟩⟩
theorem Code8.at {w : World} {b o n : Nat} {f : Nat → Nat} (h : Code8 w (some ⟨b, o, none⟩) n f) {i : Nat} (hi : i < n) : w.cell? ⟨b, o + i, none⟩ = some (.int .u8 (f i : Nat)) := by
  obtain ⟨b', o', ha, hc⟩ := h i hi
  cases ha
  exact hc
theorem code8_of {w : World} {b o n : Nat} {f : Nat → Nat} (h : ∀ i, i < n → w.cell? ⟨b, o + i, none⟩ = some (.int .u8 (f i : Nat))) : Code8 w (some ⟨b, o, none⟩) n f := fun i hi => ⟨b, o, rfl, h i hi⟩
theorem bv_news {w : World} {b o n : Nat} {f : Nat → Nat} (h : Code8 w (some ⟨b, o, none⟩) n f) : ∀ j u, (bv n f)[j]? = some u → w.cell? ((⟨b, o, none⟩ : Addr).add j) = some u := fun j u hu => by
  have hj : j < n := by have := (List.getElem?_eq_some_iff.1 hu).1; rwa [bv_length] at this
  rw [bv_at hj] at hu
  cases hu
  rw [Addr.add_lit]
  exact h.at hj
theorem bv_one (n : Nat) (f : Nat → Nat) : ∀ u ∈ bv n f, u.oneCell' = true := fun u hu => by
  obtain ⟨i, _, rfl⟩ := List.mem_map.1 hu
  rfl
theorem bv_append (n m : Nat) (f g : Nat → Nat) : bv n f ++ bv m g = bv (n + m) (fun i => if i < n then f i else g (i - n)) := by
  apply List.ext_getElem?
  intro i
  by_cases h : i < n
  · rw [List.getElem?_append_left (by rw [bv_length]; exact h), bv_at h, bv_at (by omega), if_pos h]
  · rw [List.getElem?_append_right (by rw [bv_length]; omega), bv_length]
    by_cases h2 : i < n + m
    · rw [bv_at (by omega), bv_at h2, if_neg h]
    · rw [List.getElem?_eq_none (by rw [bv_length]; omega), List.getElem?_eq_none (by rw [bv_length]; omega)]
theorem bv_zero (f : Nat → Nat) : bv 0 f = [] := rfl
theorem bv_single (x : Nat) : bv 1 (fun _ => x) = [.int .u8 (x : Nat)] := rfl
theorem bv_snoc (n : Nat) (f : Nat → Nat) : bv n f ++ [.int .u8 (f n : Nat)] = bv (n + 1) f := by
  unfold bv
  rw [List.range_succ, List.map_append]
  rfl
theorem own8_of_own {w : World} {base : Nat} {v : Value} {n : Nat} {f : Nat → Nat} (h : w.ownsRow base 5 1 v n (bv n f)) (hv : v ≠ .slice none 0 0) :
    ∃ b cap, (base ≤ b ∧ n ≤ cap) ∧ v = .slice (some ⟨b, 0, none⟩) n cap ∧ Own8 w b n f := by
  rcases Nat.eq_zero_or_pos n with rfl | hn
  · obtain ⟨hl, ⟨rfl, _⟩ | ⟨g, cap, cur, rfl, hb, hh, hn', hm, hs, ht⟩⟩ := h
    · exact absurd rfl hv
    · exact ⟨g, cap, ⟨hb, hn'⟩, rfl, cap, fun i => cur.getD i undef, hn', ⟨cur, hh, by omega, fun i hi => by
        have : i < cur.size := by omega
        simp [Array.getD, this]⟩, fun i hi => absurd hi (by omega)⟩
  · exact own8_of_owned h hn
theorem ownsRow_below8 {w w' : World} {base : Nat} {e : TypeId} {size : Nat} {v : Value} {n : Nat} {xs : List Value} (h : w.ownsRow base e size v n xs) (hb : Below w.heap.size w w') : w'.ownsRow base e size v n xs := by
  obtain ⟨hl, h0 | ⟨g, cap, cur, hv, h1, hh, h2⟩⟩ := h
  · exact ⟨hl, .inl h0⟩
  · refine ⟨hl, .inr ⟨g, cap, cur, hv, h1, ?_, h2⟩⟩
    rw [hb.block g ?_]
    · exact hh
    · rcases Nat.lt_or_ge g w.heap.size with k | k
      · exact k
      · rw [Array.getElem?_eq_none k] at hh; cases hh
/-- What an append of the call's own leaves as it was: all below the row's own first block. -/
theorem grown_below {w w' : World} {base : Nat} {e : TypeId} {size : Nat} {v : Value} {n : Nat} {xs : List Value} (h : w.ownsRow base e size v n xs) (hg : w.grownBy w' v.ownBlock) (hb : base ≤ w.heap.size) : Below base w w' :=
  (Below.refl base w).grown hg hb (fun k hk => (h.lt k hk).1)
/-- A slice elsewhere than the row that was appended to. -/
theorem Code8.grown {w w' : World} {row : Option Nat} {b o n : Nat} {f : Nat → Nat} (h : Code8 w (some ⟨b, o, none⟩) n f) (hg : w.grownBy w' row) (hne : some b ≠ row) : Code8 w' (some ⟨b, o, none⟩) n f :=
  code8_of (fun i hi => by
    have hc := h.at hi
    rw [World.cell?_of_block (w := w) (hg.block b (strBlock hc) hne)]; exact hc)
theorem Code8.belowAt {w w' : World} {B b o n : Nat} {f : Nat → Nat} (h : Code8 w (some ⟨b, o, none⟩) n f) (hb : Below B w w') (hB : b < B) : Code8 w' (some ⟨b, o, none⟩) n f :=
  code8_of (fun i hi => by rw [hb.cell (p := ⟨b, o + i, none⟩) hB]; exact h.at hi)
theorem Code8.belowO {w w' : World} {B : Nat} {a : Option Addr} {n : Nat} {f : Nat → Nat} (h : Code8 w a n f) (hb : Below B w w') (hlt : ∀ x, 0 < n → a = some x → x.block < B) : Code8 w' a n f := fun i hi => by
  obtain ⟨b, off, ha, hc⟩ := h i hi
  have hbB : b < B := hlt ⟨b, off, none⟩ (by omega) ha
  exact ⟨b, off, ha, by rw [hb.cell (p := ⟨b, off + i, none⟩) hbB]; exact hc⟩
theorem OwnS.onlyB {w w' : World} {B c : Nat} {a : Option Addr} {n : Nat} {f : Nat → Nat} (h : OwnS w B a n f) (ho : OnlyB c w w') (hc : c < B) : OwnS w' B a n f := by
  rcases h with h | ⟨b, hB, ha, hr⟩
  · exact .inl h
  · exact .inr ⟨b, hB, ha, hr.onlyB ho (by omega)⟩
theorem OwnS.ltS {w : World} {B : Nat} {a : Option Addr} {n : Nat} {f : Nat → Nat} (h : OwnS w B a n f) : ∀ x, 0 < n → a = some x → x.block < w.heap.size := h.code.lt
theorem below_drewN8 {B : Nat} {w w' : World} (h : Below B w w') (q : Nat) : Below B w (w'.drewN q) := ⟨h.os, h.tape, h.output, h.size, h.block⟩
end Go.Proofs.YtbecnaabmlkjjabDoor
