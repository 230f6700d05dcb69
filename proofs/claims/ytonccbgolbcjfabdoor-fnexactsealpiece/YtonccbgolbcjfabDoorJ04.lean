/-
  Contracts of the program's round keys (statesOf, roundKeys).
-/
import Derived.Test.YtonccbgolbcjfabDoorJ03
import Derived.Test.YtonccbgolbcjfabDoorTxtA
import Derived.Laws.BytesArg
import Derived.Test.YtonccbgolbcjfabDoorJ02
import Derived.Laws.IdiomCopy
import Derived.Deep.Cut
namespace Go.Proofs.YtonccbgolbcjfabDoor
open Go.ChangeShapes Go.WideShapes Go.ChangeAt Go.RowKit
/-- An index of an array whose elements are arrays or structs. -/
theorem run_index_part {P : Program} {t e : TypeId} {n m : Nat} {d : TypeDesc} (hu : P.underlying t = some (.array n e)) (he : P.underlying e = some d) (hd : d.isRow = true)
    (hs : (P.info? e).map (·.size) = some m) {A : Array Value} {k : Nat} (hk : k < n) (w : World) :
    (Instr.index t (.agg A) (.int .i64 (k : Int))).run P w = .ok (.agg (A.extract (k * m) (k * m + m))) w := by
  cases hq : P.info? e with
  | none => simp [hq] at hs
  | some i =>
    have hz : i.size = m := by simpa [hq] using hs
    have hagg : (isAgg e).run P w = .ok true w := by
      unfold isAgg
      rw [Sem.run_bind, run_underlying he w]
      cases d <;> simp_all
    have hk1 : (0 : Int) ≤ (k : Int) ∧ (k : Int) < (n : Int) := by omega
    simp [Instr.index, asIntOf, Sem.run_bind, run_underlying hu w, hk1, sizeOf, typeInfo, hq, hz, part, hagg]
    intro h
    omega
theorem bA_extract4 {n : Nat} {f : Nat → Nat} {o : Nat} (h : o + 4 ≤ n) : (bA n f).extract o (o + 4) = #[.int .u8 (f o : Nat), .int .u8 (f (o + 1) : Nat), .int .u8 (f (o + 2) : Nat), .int .u8 (f (o + 3) : Nat)] := by
  apply Array.ext_getElem?
  intro i
  rw [Array.getElem?_extract]
  rcases (show i = 0 ∨ i = 1 ∨ i = 2 ∨ i = 3 ∨ 4 ≤ i by omega) with rfl | rfl | rfl | rfl | hi
  · rw [if_pos (by rw [bA_size]; omega), bA_at (by omega)]; rfl
  · rw [if_pos (by rw [bA_size]; omega), bA_at (by omega)]; rfl
  · rw [if_pos (by rw [bA_size]; omega), bA_at (by omega)]; rfl
  · rw [if_pos (by rw [bA_size]; omega), bA_at (by omega)]; rfl
  · rw [if_neg (by rw [bA_size]; omega)]
    simp [hi]
theorem Tryd.infoK : (Tryd.prog.info? 78).map (fun i => (i.zero, i.size)) = some (some (.agg (Array.replicate 240 (.int .u8 0))), 240) := by kernel_rfl
theorem Tryd.zeroK : ∀ w, (zeroValue 78).run Tryd.prog w = .ok (.agg (Array.replicate 240 (.int .u8 0))) w := (zero_of_info Tryd.infoK).1
theorem Tryd.sizeK : (Tryd.prog.info? 78).map (·.size) = some 240 := (zero_of_info Tryd.infoK).2
theorem Tryd.infoW : (Tryd.prog.info? 119).map (fun i => (i.zero, i.size)) = some (some (.agg (Array.replicate 240 (.int .u8 0))), 240) := by kernel_rfl
theorem Tryd.zeroW : ∀ w, (zeroValue 119).run Tryd.prog w = .ok (.agg (Array.replicate 240 (.int .u8 0))) w := (zero_of_info Tryd.infoW).1
theorem Tryd.sizeW : (Tryd.prog.info? 119).map (·.size) = some 240 := (zero_of_info Tryd.infoW).2
theorem idxW {f : Nat → Nat} {k : Nat} (h : k < 60) (w : World) : (Instr.index 119 (.agg (bA 240 f)) (.int .i64 (k : Int))).run Tryd.prog w = .ok (.agg #[.int .u8 (f (k * 4) : Nat), .int .u8 (f (k * 4 + 1) : Nat), .int .u8 (f (k * 4 + 2) : Nat), .int .u8 (f (k * 4 + 3) : Nat)]) w := by
  rw [run_index_part (m := 4) Tryd.underlying119 Tryd.underlying118 rfl (by kernel_rfl) h w, bA_extract4 (by omega)]
set_option maxRecDepth 100000 in
set_option maxHeartbeats 2000000 in
/-- impl.statesOf: the words' bytes, one behind the other. -/
theorem statesOf_any (f : Nat → Nat) (w : World) :
    Calls Tryd.prog 84 #[.agg (bA 240 f)] w fun e w' => e = .returned (.agg (bA 240 f)) ∧ Below w.heap.size w w' := by
  have z1 := Tryd.zeroK
  have K0 : Hid (Row8 (((w.alloc (.cells (bA 240 f) 119)).alloc (.cells (Array.replicate 240 (.int .u8 0)) 78)).alloc (.cells (Array.replicate 240 (.int .u8 0)) 78)) w.heap.size 119 240 f) := ((Row8.boxedAt rfl _ _ _).alloc _).alloc _
  have K1 : Hid (Row8 (((w.alloc (.cells (bA 240 f) 119)).alloc (.cells (Array.replicate 240 (.int .u8 0)) 78)).alloc (.cells (Array.replicate 240 (.int .u8 0)) 78)) (w.heap.size + 1) 78 240 (fun _ => 0)) := (Row8.zerosAt (by simp) _ _).alloc _
  have K2 : Hid (Row8 (((w.alloc (.cells (bA 240 f) 119)).alloc (.cells (Array.replicate 240 (.int .u8 0)) 78)).alloc (.cells (Array.replicate 240 (.int .u8 0)) 78)) (w.heap.size + 1 + 1) 78 240 (fun _ => 0)) := Row8.zerosAt (by simp) _ _
  have K3 : Hid (Below w.heap.size w (((w.alloc (.cells (bA 240 f) 119)).alloc (.cells (Array.replicate 240 (.int .u8 0)) 78)).alloc (.cells (Array.replicate 240 (.int .u8 0)) 78))) := (((Below.refl _ _).alloc (Nat.le_refl _) _).alloc (by simp) _).alloc (by simp; omega) _
  go_enter Tryd.func84, Tryd.ntmps84
  go_wp2_with (refine wpList_load_mid rfl 119 (.tmp 1) rfl w.heap.size 0 rfl (bv 240 f) _ K0.out.range Tryd.underlying119 rfl (by rw [bv_length]; exact Tryd.sizeW) ?_)
  generalize ((w.alloc (.cells (bA 240 f) 119)).alloc (.cells (Array.replicate 240 (.int .u8 0)) 78)).alloc (.cells (Array.replicate 240 (.int .u8 0)) 78) = wz at *
  have eA : (bv 240 f).toArray = bA 240 f := rfl
  rw [eA]
  clear eA K0
  go_loopw [4, 5, 9] (fun _ _ i wr => ∃ k : Nat, k ≤ 60 ∧ i = .int .i64 k ∧ Row8 wr (w.heap.size + 1) 78 240 (fun _ => 0) ∧ Row8 wr (w.heap.size + 1 + 1) 78 240 (fun j => if j < k * 4 then f j else 0) ∧ Below w.heap.size w wr) (fun _ _ i _ => 60 - (intOf i).toNat)
  case atStart => exact ⟨0, by omega, rfl, K1.out, K2.out.congr (fun j hj => by simp), K3.out⟩
  case round =>
    obtain ⟨k, hk, rfl, h1, h2, hb⟩ := hrel
    have H1 : Hid (Row8 wr (w.heap.size + 1) 78 240 (fun _ => 0)) := h1
    have H2 : Hid (Row8 wr (w.heap.size + 1 + 1) 78 240 (fun j => if j < k * 4 then f j else 0)) := h2
    have HB : Hid (Below w.heap.size w wr) := hb
    by_cases hlt : k < 60
    · have ix := idxW (f := f) hlt
      have hl2 := World.rowIs.lt h2
      have j0 := idx0
      have j1 := idx1
      have j2 := idx2
      have j3 := idx3
      have g0 := World.rowIs.cell h2 (i := k * 4) (by omega)
      have g1 := World.rowIs.cell h2 (i := k * 4 + 1) (by omega)
      have g2 := World.rowIs.cell h2 (i := k * 4 + 2) (by omega)
      have g3 := World.rowIs.cell h2 (i := k * 4 + 3) (by omega)
      have q0 := World.rowIs.frozen h2 (k * 4)
      have q1 := World.rowIs.frozen h2 (k * 4 + 1)
      have q2 := World.rowIs.frozen h2 (k * 4 + 2)
      have q3 := World.rowIs.frozen h2 (k * 4 + 3)
      clear h1 h2 hb K1 K2 K3
      have o0 : k / 4 * 16 + k % 4 * 4 = k * 4 := by omega
      have o1 : k / 4 * 16 + (k % 4 * 4 + 1) = k * 4 + 1 := by omega
      have o2 : k / 4 * 16 + (k % 4 * 4 + 2) = k * 4 + 2 := by omega
      have o3 : k / 4 * 16 + (k % 4 * 4 + 3) = k * 4 + 3 := by omega
      go_wp2
      refine wp_loop_rounds 5 ?_
      rw [rounds_succ]
      go_wp2
      rw [rounds_succ]
      go_wp2
      rw [rounds_succ]
      go_wp2
      rw [rounds_succ]
      go_wp2
      rw [rounds_succ]
      go_wp2
      go_roundw
      case rel =>
        refine ⟨k + 1, by omega, by go_num, ((((H1.out.other (by show w.heap.size + 1 ≠ w.heap.size + 1 + 1; omega) _).other (by show w.heap.size + 1 ≠ w.heap.size + 1 + 1; omega) _).other (by show w.heap.size + 1 ≠ w.heap.size + 1 + 1; omega) _).other (by show w.heap.size + 1 ≠ w.heap.size + 1 + 1; omega) _).alloc _, ?_, ((((HB.out.setCell (by show w.heap.size ≤ w.heap.size + 1 + 1; omega) _).setCell (by show w.heap.size ≤ w.heap.size + 1 + 1; omega) _).setCell (by show w.heap.size ≤ w.heap.size + 1 + 1; omega) _).setCell (by show w.heap.size ≤ w.heap.size + 1 + 1; omega) _).alloc (by simpa using HB.out.size) _⟩
        exact (((((H2.out.set (k * 4) (f (k * 4))).set (k * 4 + 1) (f (k * 4 + 1))).set (k * 4 + 2) (f (k * 4 + 2))).set (k * 4 + 3) (f (k * 4 + 3))).alloc _).congr (fun j hj => by
          by_cases h1 : j < k * 4
          · rw [if_neg (by omega), if_neg (by omega), if_neg (by omega), if_neg (by omega), if_pos h1, if_pos (by omega)]
          · by_cases h2 : j < (k + 1) * 4
            · rw [if_pos h2]
              rcases (show j = k * 4 ∨ j = k * 4 + 1 ∨ j = k * 4 + 2 ∨ j = k * 4 + 3 by omega) with rfl | rfl | rfl | rfl <;> simp
            · rw [if_neg (by omega), if_neg (by omega), if_neg (by omega), if_neg (by omega), if_neg h1, if_neg h2])
      case measure => simp [intOf]; omega
    · have H2' : Hid (Row8 wr (w.heap.size + 1 + 1) 78 240 f) := h2.congr (fun j hj => by rw [if_pos (by omega)])
      clear h1 h2 hb K1 K2 K3 H2
      go_wp2_with (first
        | (refine wpList_load_mid rfl 78 (.tmp 3) rfl (w.heap.size + 1 + 1) 0 rfl (bv 240 f) _ H2'.out.range Tryd.underlying78 rfl (by rw [bv_length]; exact Tryd.sizeK) ?_)
        | (refine wpList_store_mid rfl 78 (.tmp 2) (.tmp 30) rfl (w.heap.size + 1) 0 (bA 240 f) rfl rfl (by rw [bA_size]; exact H1.out.there) (by rw [bA_size]; exact Tryd.sizeK) (bA_one _ _) ?_))
      rw [bA_toList]
      have L : (loadVar 78 ⟨w.heap.size + 1, 0, none⟩).run Tryd.prog (wr.setCells (w.heap.size + 1) 0 (bv 240 f)) = .ok (.agg (bA 240 f)) (wr.setCells (w.heap.size + 1) 0 (bv 240 f)) := (H1.out.stored _).load Tryd.underlying78 rfl Tryd.sizeK
      have B : Below w.heap.size w (wr.setCells (w.heap.size + 1) 0 (bv 240 f)) := below_setCells (by omega) _ _ _ HB.out
      exact bodyPost_ret (v := .agg (bA 240 f)) (results_cell_one (b := w.heap.size + 1) (o := 0) Tryd.results84 _ _ _ rfl L) rfl ⟨rfl, B⟩
end Go.Proofs.YtonccbgolbcjfabDoor

/-
  Plain mathematics of round keys, and the contract of impl.roundKeys.
-/
namespace Go.Proofs.YtonccbgolbcjfabDoor
open Go.ChangeShapes Go.WideShapes Go.ChangeAt Go.RowKit
namespace Gf
def pows : Nat → Nat
  | 0 => 1
  | k + 1 => dbl (pows k)
theorem pows_lt (k : Nat) : pows k < 256 := by
  induction k with
  | zero => decide
  | succ k ih => exact dbl_lt _ ih
/-- What a word is exclusive-ored with: byte r, of the word i, the last word being L. -/
def kt (n : Nat) (L : Nat → Nat) (i r : Nat) : Nat :=
  if i % n = 0 then (if r = 0 then sub (L 1) ^^^ pows (i / n - 1) else sub (L ((r + 1) % 4))) else if n = 8 ∧ i % 8 = 4 then sub (L r) else L r
/-- The bytes of the round keys when s words behind the key's own n are made. -/
def ws (key : Nat → Nat) (n : Nat) : Nat → Nat → Nat
  | 0, j => if j < n * 4 then key j else 0
  | s + 1, j => if (n + s) * 4 ≤ j ∧ j < (n + s) * 4 + 4 then ws key n s (s * 4 + (j - (n + s) * 4)) ^^^ kt n (fun r => ws key n s ((n + s - 1) * 4 + r)) (n + s) (j - (n + s) * 4) else ws key n s j
theorem kt_lt {n : Nat} {L : Nat → Nat} (hL : ∀ r, r < 4 → L r < 256) (i r : Nat) (hr : r < 4) : kt n L i r < 256 := by
  unfold kt
  split
  · split
    · exact xor_lt (sub_lt _ (hL 1 (by omega))) (pows_lt _)
    · exact sub_lt _ (hL _ (Nat.mod_lt _ (by omega)))
  · split
    · exact sub_lt _ (hL r hr)
    · exact hL r hr
theorem ws_lt {key : Nat → Nat} {n : Nat} (hk : ∀ j, key j < 256) : ∀ s j, ws key n s j < 256 := by
  intro s
  induction s with
  | zero => intro j; unfold ws; split; exact hk j; omega
  | succ s ih =>
    intro j
    show (if (n + s) * 4 ≤ j ∧ j < (n + s) * 4 + 4 then _ else _) < 256
    split
    · exact xor_lt (ih _) (kt_lt (fun r _ => ih _) _ _ (by omega))
    · exact ih j
theorem ws_new {key : Nat → Nat} {n : Nat} (s r : Nat) (hr : r < 4) : ws key n (s + 1) ((n + s) * 4 + r) = ws key n s (s * 4 + r) ^^^ kt n (fun r => ws key n s ((n + s - 1) * 4 + r)) (n + s) r := by
  show (if (n + s) * 4 ≤ (n + s) * 4 + r ∧ (n + s) * 4 + r < (n + s) * 4 + 4 then _ else _) = _
  rw [if_pos (by omega), show (n + s) * 4 + r - (n + s) * 4 = r from by omega]
theorem ws_old {key : Nat → Nat} {n : Nat} (s j : Nat) (h : j < (n + s) * 4 ∨ (n + s) * 4 + 4 ≤ j) : ws key n (s + 1) j = ws key n s j := by
  show (if (n + s) * 4 ≤ j ∧ j < (n + s) * 4 + 4 then _ else _) = _
  rw [if_neg (by omega)]
end Gf
theorem four_cells {w : World} (x0 x1 x2 x3 : Value) (f : Nat → Value) (h0 : x0 = f 0) (h1 : x1 = f 1) (h2 : x2 = f 2) (h3 : x3 = f 3) (t : TypeId) : (w.alloc (.cells #[x0, x1, x2, x3] t)).rowIs w.heap.size t 4 f := by
  refine World.rowIs_alloc w #[x0, x1, x2, x3] t f (fun i hi => ?_)
  have hi' : i < 4 := hi
  rcases (show i = 0 ∨ i = 1 ∨ i = 2 ∨ i = 3 by omega) with rfl | rfl | rfl | rfl
  · simp [h0]
  · simp [h1]
  · simp [h2]
  · simp [h3]
set_option maxRecDepth 100000 in
set_option maxHeartbeats 4000000 in
/-- impl.roundKeys -/
theorem roundKeys_any (s : ByteArray) (n : Nat) (hn : n = 4 ∨ n = 8) (hs : s.size = n * 4) (w : World) :
    Calls Tryd.prog 70 #[.string s, .agg (bA 256 Gf.sub)] w fun e w' => e = .returned (.agg (bA 240 (Gf.ws (strB s) n (3 * n + 28)))) ∧ Below w.heap.size w w' := by
  have z1 := Tryd.zeroK
  have z2 := Tryd.zeroW
  have hs' : Hid (s.size = n * 4) := hs
  have hsz : s.size ≤ 32 := by omega
  clear hs
  have K0 : Hid (Row8 (((w.alloc (.cells (bA 256 Gf.sub) 79)).alloc (.cells (Array.replicate 240 (.int .u8 0)) 78)).alloc (.cells (Array.replicate 240 (.int .u8 0)) 119)) w.heap.size 79 256 Gf.sub) := ((Row8.boxedAt rfl _ _ _).alloc _).alloc _
  have K1 : Hid (Row8 (((w.alloc (.cells (bA 256 Gf.sub) 79)).alloc (.cells (Array.replicate 240 (.int .u8 0)) 78)).alloc (.cells (Array.replicate 240 (.int .u8 0)) 119)) (w.heap.size + 1) 78 240 (fun _ => 0)) := (Row8.zerosAt (by simp) _ _).alloc _
  have K2 : Hid (Row8 (((w.alloc (.cells (bA 256 Gf.sub) 79)).alloc (.cells (Array.replicate 240 (.int .u8 0)) 78)).alloc (.cells (Array.replicate 240 (.int .u8 0)) 119)) (w.heap.size + 1 + 1) 119 240 (fun _ => 0)) := Row8.zerosAt (by simp) _ _
  have K3 : Hid (Below w.heap.size w (((w.alloc (.cells (bA 256 Gf.sub) 79)).alloc (.cells (Array.replicate 240 (.int .u8 0)) 78)).alloc (.cells (Array.replicate 240 (.int .u8 0)) 119))) := (((Below.refl _ _).alloc (Nat.le_refl _) _).alloc (by simp) _).alloc (by simp; omega) _
  go_enter Tryd.func70, Tryd.ntmps70
  go_wp2
  generalize ((w.alloc (.cells (bA 256 Gf.sub) 79)).alloc (.cells (Array.replicate 240 (.int .u8 0)) 78)).alloc (.cells (Array.replicate 240 (.int .u8 0)) 119) = wz at *
  go_loopw [6, 14] (fun _ i wr => ∃ k : Nat, k ≤ s.size ∧ i = .int .i64 k ∧ Row8 wr w.heap.size 79 256 Gf.sub ∧ Row8 wr (w.heap.size + 1) 78 240 (fun _ => 0) ∧ Row8 wr (w.heap.size + 1 + 1) 119 240 (fun j => if j < k then strB s j else 0) ∧ Below w.heap.size w wr) (fun _ i _ => s.size - (intOf i).toNat)
  case atStart => exact ⟨0, by omega, rfl, K0.out, K1.out, K2.out.congr (fun j hj => by simp), K3.out⟩
  case round =>
    obtain ⟨k, hk, rfl, h0, h1, h2, hb⟩ := hrel
    have H0 : Hid (Row8 wr w.heap.size 79 256 Gf.sub) := h0
    have H1 : Hid (Row8 wr (w.heap.size + 1) 78 240 (fun _ => 0)) := h1
    have H2 : Hid (Row8 wr (w.heap.size + 1 + 1) 119 240 (fun j => if j < k then strB s j else 0)) := h2
    have HB : Hid (Below w.heap.size w wr) := hb
    by_cases hlt : k < s.size
    · have c2 := World.rowIs.cell h2 (i := k) (by omega)
      have f2 := World.rowIs.frozen h2 k
      have es := strB_eq s k hlt
      have o0 : k / 4 * 4 + k % 4 = k := by omega
      have q1 : (k : Int) / 4 < 60 := by omega
      have q2 : (k : Int) % 4 < 4 := by omega
      clear h0 h1 h2 hb K0 K1 K2 K3
      go_wp2
      go_region
      go_wp2
      go_roundw
      case rel =>
        refine ⟨k + 1, by omega, by go_num, (H0.out.other (by show w.heap.size ≠ w.heap.size + 1 + 1; omega) _).drewN 1, (H1.out.other (by show w.heap.size + 1 ≠ w.heap.size + 1 + 1; omega) _).drewN 1, ?_, below_drewN (HB.out.setCell (by show w.heap.size ≤ w.heap.size + 1 + 1; omega) _) 1⟩
        exact ((H2.out.set k (strB s k)).congr (fun j hj => by
          by_cases e : j = k
          · subst e; simp
          · simp only [if_neg e]
            by_cases h1 : j < k
            · rw [if_pos h1, if_pos (by omega)]
            · rw [if_neg h1, if_neg (by omega)])).drewN 1
      case measure => simp [intOf]; omega
    · have H2' : Hid (Row8 wr (w.heap.size + 1 + 1) 119 240 (Gf.ws (strB s) n 0)) := h2.congr (fun j hj => by
        show _ = if j < n * 4 then strB s j else 0
        have := hs'.out
        rw [show k = n * 4 from by omega])
      have hk' : ¬ (k : Int) < (s.size : Int) := by omega
      have hse := hs'.out
      have hse' : (s.size : Int) = (n * 4 : Nat) := by omega
      clear h0 h1 h2 hb K0 K1 K2 K3 H2
      have E4 : (s.size : Int) / 4 = n := by omega
      clear hse hse'
      generalize (k : Int) = kk at *
      go_wp2
      go_loopw [8, 9, 10] (fun p i _ wq => ∃ I : Nat, n ≤ I ∧ I ≤ 4 * n + 28 ∧ i = .int .i64 I ∧ p = .int .u8 (Gf.pows ((I - 1) / n) : Nat) ∧ Row8 wq w.heap.size 79 256 Gf.sub ∧ Row8 wq (w.heap.size + 1) 78 240 (fun _ => 0) ∧ Row8 wq (w.heap.size + 1 + 1) 119 240 (Gf.ws (strB s) n (I - n)) ∧ Below w.heap.size w wq) (fun _ i _ _ => 4 * n + 28 - (intOf i).toNat)
      case atStart =>
        refine ⟨n, Nat.le_refl _, by omega, rfl, ?_, H0.out, H1.out, by rw [Nat.sub_self]; exact H2'.out, HB.out⟩
        rw [Nat.div_eq_of_lt (by omega)]; rfl
      case round =>
        clear H0 H1 H2' HB
        obtain ⟨I, hI1, hI2, rfl, rfl, h0, h1, h2, hb⟩ := hrel
        have H0 : Hid (Row8 wr w.heap.size 79 256 Gf.sub) := h0
        have H1 : Hid (Row8 wr (w.heap.size + 1) 78 240 (fun _ => 0)) := h1
        have H2 : Hid (Row8 wr (w.heap.size + 1 + 1) 119 240 (Gf.ws (strB s) n (I - n))) := h2
        have HB : Hid (Below w.heap.size w wr) := hb
        by_cases hI : I < 4 * n + 28
        · have lf : ∀ j, Gf.ws (strB s) n (I - n) j < 256 := Gf.ws_lt (strB_lt s) _
          have LF : Hid (∀ j, Gf.ws (strB s) n (I - n) j < 256) := lf
          have lp := Gf.pows_lt ((I - 1) / n)
          have F2 : Hid (∀ j, Gf.ws (strB s) n (I + 1 - n) j = if I * 4 ≤ j ∧ j < I * 4 + 4 then Gf.ws (strB s) n (I - n) ((I - n) * 4 + (j - I * 4)) ^^^ Gf.kt n (fun r => Gf.ws (strB s) n (I - n) ((I - 1) * 4 + r)) I (j - I * 4) else Gf.ws (strB s) n (I - n) j) := fun j => by
            have e : I + 1 - n = (I - n) + 1 := by omega
            have e2 : n + (I - n) = I := by omega
            rw [e]
            show (if (n + (I - n)) * 4 ≤ j ∧ j < (n + (I - n)) * 4 + 4 then _ else _) = _
            rw [e2]
          have P2 : Hid (I % n = 0 → Gf.pows ((I + 1 - 1) / n) = Gf.dbl (Gf.pows ((I - 1) / n))) := fun h => by
            have e : I / n = (I - 1) / n + 1 := by
              rcases hn with rfl | rfl <;> omega
            show Gf.pows (I / n) = _
            rw [e]; rfl
          have P3 : Hid (I % n ≠ 0 → Gf.pows ((I + 1 - 1) / n) = Gf.pows ((I - 1) / n)) := fun h => by
            have e : I / n = (I - 1) / n := by
              rcases hn with rfl | rfl <;> omega
            show Gf.pows (I / n) = _
            rw [e]
          have P4 : Hid (I % n = 0 → (I - 1) / n = I / n - 1) := fun h => by rcases hn with rfl | rfl <;> omega
          have hl2 := World.rowIs.lt h2
          have g0 := World.rowIs.cell h2 (i := (I - 1) * 4) (by omega)
          have g1 := World.rowIs.cell h2 (i := (I - 1) * 4 + 1) (by omega)
          have g2 := World.rowIs.cell h2 (i := (I - 1) * 4 + 2) (by omega)
          have g3 := World.rowIs.cell h2 (i := (I - 1) * 4 + 3) (by omega)
          have KT : Hid (∀ r, Gf.kt n (fun r => Gf.ws (strB s) n (I - n) ((I - 1) * 4 + r)) I r = Gf.kt n (fun r => Gf.ws (strB s) n (I - n) ((I - 1) * 4 + r)) I r) := fun _ => rfl
          clear h0 h1 h2 hb lf
          generalize Gf.ws (strB s) n (I - n) = f at *
          generalize hpw : Gf.pows ((I - 1) / n) = pw at *
          have HP : Hid (Gf.pows ((I - 1) / n) = pw) := hpw
          clear hpw
          by_cases hA : I % n = 0
          · have em : ((I : Int).tmod (n : Int) == 0) = true := by rw [← Int.ofNat_tmod, hA]; rfl
            go_wp2_with (first
              | (refine wpList_load_mid rfl 79 (.tmp 3) rfl w.heap.size 0 rfl (bv 256 Gf.sub) _ (H0.out.alloc _).range Tryd.underlying79 rfl (by rw [bv_length]; exact Tryd.size256) ?_))
            refine (subWord_any (f ((I - 1) * 4 + 1)) (f ((I - 1) * 4 + 2)) (f ((I - 1) * 4 + 3)) (f ((I - 1) * 4)) (LF.out _) (LF.out _) (LF.out _) (LF.out _) _).mono ?_
            rintro e w1 ⟨rfl, hB⟩
            have rl := (four_cells (w := wr) (.int .u8 (f ((I - 1) * 4) : Nat)) (.int .u8 (f ((I - 1) * 4 + 1) : Nat)) (.int .u8 (f ((I - 1) * 4 + 2) : Nat)) (.int .u8 (f ((I - 1) * 4 + 3) : Nat)) (fun r => .int .u8 (f ((I - 1) * 4 + r) : Nat)) rfl rfl rfl rfl 118).of_block (hB.block _ (by simp))
            have R0 : Hid (Row8 w1 w.heap.size 79 256 Gf.sub) := (H0.out.alloc _).below hB
            have R1 : Hid (Row8 w1 (w.heap.size + 1) 78 240 (fun _ => 0)) := (H1.out.alloc _).below hB
            have R2 : Hid (Row8 w1 (w.heap.size + 1 + 1) 119 240 f) := (H2.out.alloc _).below hB
            have B1 : Hid (Below w.heap.size w w1) := (HB.out.alloc HB.out.size _).trans (hB.mono (by have := HB.out.size; simp; omega))
            have RL : Hid (w1.rowIs wr.heap.size 118 4 (fun r => .int .u8 (f ((I - 1) * 4 + r) : Nat))) := rl
            have k0 := rl.cell (i := 0) (by omega)
            have k1 := rl.cell (i := 1) (by omega)
            have k2 := rl.cell (i := 2) (by omega)
            have k3 := rl.cell (i := 3) (by omega)
            have q0 := rl.frozen 0
            have q1 := rl.frozen 1
            have q2 := rl.frozen 2
            have q3 := rl.frozen 3
            have s0 := Gf.sub_lt _ (LF.out ((I - 1) * 4 + 1))
            have ex0 : bits .xor .u8 (Gf.sub (f ((I - 1) * 4 + 1)) : Int) (pw : Int) = ((Gf.sub (f ((I - 1) * 4 + 1)) ^^^ pw : Nat) : Int) := u8_xor_nat _ _ s0 lp
            clear hB rl g0 g1 g2 g3 H0 H1 H2 HB
            go_wp2_with (go_at_call 81; refine (double_any pw lp _).mono ?_; rintro e w' ⟨rfl, rfl⟩)
            have W1 : ∀ {b : Nat}, b ≠ wr.heap.size → True := fun _ => trivial
            clear W1
            have lL : w.heap.size + 1 + 1 < wr.heap.size := hl2
            generalize hT : (fun r => Gf.kt n (fun r => f ((I - 1) * 4 + r)) I r) = T
            have LT : Hid (∀ r, r < 4 → T r < 256) := fun r hr => by rw [← hT]; exact Gf.kt_lt (fun _ _ => LF.out _) _ _ hr
            have ET : Hid (∀ r, r < 4 → T r = Gf.kt n (fun r => f ((I - 1) * 4 + r)) I r) := fun r _ => by rw [← hT]
            have PP := P4.out hA
            have VT : (Gf.sub (f ((I - 1) * 4 + 1)) ^^^ pw = T 0) ∧ Gf.sub (f ((I - 1) * 4 + 2)) = T 1 ∧ Gf.sub (f ((I - 1) * 4 + 3)) = T 2 ∧ Gf.sub (f ((I - 1) * 4)) = T 3 := by
              refine ⟨?_, ?_, ?_, ?_⟩
              · rw [← hT]; show _ = Gf.kt n _ I 0; rw [Gf.kt, if_pos hA, if_pos rfl, ← PP, HP.out]
              · rw [← hT]; show _ = Gf.kt n _ I 1; rw [Gf.kt, if_pos hA, if_neg (by omega)]
              · rw [← hT]; show _ = Gf.kt n _ I 2; rw [Gf.kt, if_pos hA, if_neg (by omega)]
              · rw [← hT]; show _ = Gf.kt n _ I 3; rw [Gf.kt, if_pos hA, if_neg (by omega)]; rfl
            clear hT
            obtain ⟨v0, v1, v2, v3⟩ := VT
            rw [v0, v1, v2, v3]
            generalize Gf.sub (f ((I - 1) * 4 + 1)) = S0 at *
            have NE : ∀ b, b ≤ w.heap.size + 1 + 1 → b ≠ wr.heap.size := fun b hb => by omega
            have R0' : Hid (Row8 (((((w1.setCell ⟨wr.heap.size, 0, none⟩ (.int .u8 (S0 : Nat))).setCell ⟨wr.heap.size, 1, none⟩ (.int .u8 (T 1 : Nat))).setCell ⟨wr.heap.size, 2, none⟩ (.int .u8 (T 2 : Nat))).setCell ⟨wr.heap.size, 3, none⟩ (.int .u8 (T 3 : Nat))).setCell ⟨wr.heap.size, 0, none⟩ (.int .u8 (T 0 : Nat))) w.heap.size 79 256 Gf.sub) := ((((R0.out.other (NE _ (by omega)) _).other (NE _ (by omega)) _).other (NE _ (by omega)) _).other (NE _ (by omega)) _).other (NE _ (by omega)) _
            have R1' : Hid (Row8 (((((w1.setCell ⟨wr.heap.size, 0, none⟩ (.int .u8 (S0 : Nat))).setCell ⟨wr.heap.size, 1, none⟩ (.int .u8 (T 1 : Nat))).setCell ⟨wr.heap.size, 2, none⟩ (.int .u8 (T 2 : Nat))).setCell ⟨wr.heap.size, 3, none⟩ (.int .u8 (T 3 : Nat))).setCell ⟨wr.heap.size, 0, none⟩ (.int .u8 (T 0 : Nat))) (w.heap.size + 1) 78 240 (fun _ => 0)) := ((((R1.out.other (NE _ (by omega)) _).other (NE _ (by omega)) _).other (NE _ (by omega)) _).other (NE _ (by omega)) _).other (NE _ (by omega)) _
            have R2' : Hid (Row8 (((((w1.setCell ⟨wr.heap.size, 0, none⟩ (.int .u8 (S0 : Nat))).setCell ⟨wr.heap.size, 1, none⟩ (.int .u8 (T 1 : Nat))).setCell ⟨wr.heap.size, 2, none⟩ (.int .u8 (T 2 : Nat))).setCell ⟨wr.heap.size, 3, none⟩ (.int .u8 (T 3 : Nat))).setCell ⟨wr.heap.size, 0, none⟩ (.int .u8 (T 0 : Nat))) (w.heap.size + 1 + 1) 119 240 f) := ((((R2.out.other (NE _ (by omega)) _).other (NE _ (by omega)) _).other (NE _ (by omega)) _).other (NE _ (by omega)) _).other (NE _ (by omega)) _
            have RL' : Hid ((((((w1.setCell ⟨wr.heap.size, 0, none⟩ (.int .u8 (S0 : Nat))).setCell ⟨wr.heap.size, 1, none⟩ (.int .u8 (T 1 : Nat))).setCell ⟨wr.heap.size, 2, none⟩ (.int .u8 (T 2 : Nat))).setCell ⟨wr.heap.size, 3, none⟩ (.int .u8 (T 3 : Nat))).setCell ⟨wr.heap.size, 0, none⟩ (.int .u8 (T 0 : Nat))).rowIs wr.heap.size 118 4 (fun r => .int .u8 (T r : Nat))) := (((((RL.out.set 0 _).set 1 _).set 2 _).set 3 _).set 0 _).congr (fun r hr => by
              rcases (show r = 0 ∨ r = 1 ∨ r = 2 ∨ r = 3 by omega) with rfl | rfl | rfl | rfl <;> simp)
            have B1' : Hid (Below w.heap.size w (((((w1.setCell ⟨wr.heap.size, 0, none⟩ (.int .u8 (S0 : Nat))).setCell ⟨wr.heap.size, 1, none⟩ (.int .u8 (T 1 : Nat))).setCell ⟨wr.heap.size, 2, none⟩ (.int .u8 (T 2 : Nat))).setCell ⟨wr.heap.size, 3, none⟩ (.int .u8 (T 3 : Nat))).setCell ⟨wr.heap.size, 0, none⟩ (.int .u8 (T 0 : Nat)))) := ((((B1.out.setCell (by show w.heap.size ≤ wr.heap.size; omega) _).setCell (by show w.heap.size ≤ wr.heap.size; omega) _).setCell (by show w.heap.size ≤ wr.heap.size; omega) _).setCell (by show w.heap.size ≤ wr.heap.size; omega) _).setCell (by show w.heap.size ≤ wr.heap.size; omega) _
            clear R0 R1 R2 RL B1 v0 v1 v2 v3 k0 k1 k2 k3 q0 q1 q2 q3 ex0 s0 NE PP em
            generalize ((((w1.setCell ⟨wr.heap.size, 0, none⟩ (.int .u8 (S0 : Nat))).setCell ⟨wr.heap.size, 1, none⟩ (.int .u8 (T 1 : Nat))).setCell ⟨wr.heap.size, 2, none⟩ (.int .u8 (T 2 : Nat))).setCell ⟨wr.heap.size, 3, none⟩ (.int .u8 (T 3 : Nat))).setCell ⟨wr.heap.size, 0, none⟩ (.int .u8 (T 0 : Nat)) = wq at *
            generalize wr.heap.size = L at *
            have R0 := R0'
            have R1 := R1'
            have R2 := R2'
            have RL := RL'
            have B1 := B1'
            clear R0' R1' R2' RL' B1'
            go_loopw [11, 74] (fun _ i wy => ∃ r : Nat, r ≤ 4 ∧ i = .int .i64 r ∧ Row8 wy w.heap.size 79 256 Gf.sub ∧ Row8 wy (w.heap.size + 1) 78 240 (fun _ => 0) ∧ Row8 wy (w.heap.size + 1 + 1) 119 240 (fun j => if I * 4 ≤ j ∧ j < I * 4 + r then f ((I - n) * 4 + (j - I * 4)) ^^^ T (j - I * 4) else f j) ∧ wy.rowIs L 118 4 (fun r => .int .u8 (T r : Nat)) ∧ Below w.heap.size w wy) (fun _ i _ => 4 - (intOf i).toNat)
            case atStart => exact ⟨0, by omega, rfl, R0.out, R1.out, R2.out.congr (fun j hj => by rw [if_neg (by omega)]), RL.out, B1.out⟩
            case round =>
              clear R0 R1 R2 RL B1
              obtain ⟨r, hr, rfl, h0, h1, h2, hl, hb⟩ := hrel
              have H0 : Hid (Row8 wr w.heap.size 79 256 Gf.sub) := h0
              have H1 : Hid (Row8 wr (w.heap.size + 1) 78 240 (fun _ => 0)) := h1
              have H2 : Hid (Row8 wr (w.heap.size + 1 + 1) 119 240 (fun j => if I * 4 ≤ j ∧ j < I * 4 + r then f ((I - n) * 4 + (j - I * 4)) ^^^ T (j - I * 4) else f j)) := h2
              have HL : Hid (wr.rowIs L 118 4 (fun r => .int .u8 (T r : Nat))) := hl
              have HB : Hid (Below w.heap.size w wr) := hb
              by_cases hr4 : r < 4
              · have c1 := World.rowIs.cell h2 (i := (I - n) * 4 + r) (by omega)
                simp only [] at c1
                rw [if_neg (by omega)] at c1
                have c2 := hl.cell hr4
                have c3 := World.rowIs.cell h2 (i := I * 4 + r) (by omega)
                have f3 := World.rowIs.frozen h2 (I * 4 + r)
                have lt := LT.out r hr4
                have lff := LF.out ((I - n) * 4 + r)
                have ex : bits .xor .u8 (f ((I - n) * 4 + r) : Int) (T r : Int) = ((f ((I - n) * 4 + r) ^^^ T r : Nat) : Int) := u8_xor_nat _ _ lff lt
                have x1 : (I : Int) - (n : Int) < 60 := by omega
                have x2 : (I : Int) < 60 := by omega
                have x3 : (r : Int) < 4 := by omega
                clear h0 h1 h2 hl hb
                go_wp2
                go_region
                go_wp2
                go_roundw
                case rel =>
                  refine ⟨r + 1, by omega, by go_num, (H0.out.other (by show w.heap.size ≠ w.heap.size + 1 + 1; omega) _).drewN 1, (H1.out.other (by show w.heap.size + 1 ≠ w.heap.size + 1 + 1; omega) _).drewN 1, ?_, HL.out.setOther (by show L ≠ w.heap.size + 1 + 1; omega) _, below_drewN (HB.out.setCell (by show w.heap.size ≤ w.heap.size + 1 + 1; omega) _) 1⟩
                  exact ((H2.out.set (I * 4 + r) (f ((I - n) * 4 + r) ^^^ T r)).congr (fun j hj => by
                    by_cases e : j = I * 4 + r
                    · rw [if_pos e, if_pos (by omega), show j - I * 4 = r from by omega]
                    · rw [if_neg e]
                      by_cases h1 : I * 4 ≤ j ∧ j < I * 4 + r
                      · rw [if_pos h1, if_pos (by omega)]
                      · rw [if_neg h1, if_neg (by omega)])).drewN 1
                case measure => simp [intOf]; omega
              · have R2' : Hid (Row8 wr (w.heap.size + 1 + 1) 119 240 (Gf.ws (strB s) n (I + 1 - n))) := h2.congr (fun j hj => by
                  rw [F2.out j]
                  by_cases h1 : I * 4 ≤ j ∧ j < I * 4 + 4
                  · rw [if_pos (by omega), if_pos h1, ET.out _ (by omega)]
                  · rw [if_neg (by omega), if_neg h1])
                have hr' : ¬ (r : Int) < 4 := by omega
                clear h0 h1 h2 hl hb H2 HL
                go_wp2
                go_roundw
                case rel => exact ⟨I + 1, by omega, by omega, by go_num, val_int (by rw [P2.out hA]), H0.out, H1.out, R2'.out, HB.out⟩
                case measure => simp [intOf]; omega
          · have em : ((I : Int).tmod (n : Int) == 0) = false := by
              rw [← Int.ofNat_tmod, beq_eq_false_iff_ne]; omega
            have em' : ((I : Int) % (n : Int) == 0) = false := by
              rw [← Int.natCast_emod, beq_eq_false_iff_ne]; omega
            have lL : w.heap.size + 1 + 1 < wr.heap.size := hl2
            by_cases h8 : n = 8 ∧ I % 8 = 4
            · have t1 : ((n : Int) == 8) = true := by rw [beq_iff_eq]; omega
              have t2 : ((I : Int) % 8 == 4) = true := by rw [beq_iff_eq]; omega
              have H8 : Hid (n = 8 ∧ I % 8 = 4) := h8
              clear h8
              go_wp2_with (first
                | (refine wpList_load_mid rfl 79 (.tmp 3) rfl w.heap.size 0 rfl (bv 256 Gf.sub) _ (H0.out.alloc _).range Tryd.underlying79 rfl (by rw [bv_length]; exact Tryd.size256) ?_))
              refine (subWord_any (f ((I - 1) * 4)) (f ((I - 1) * 4 + 1)) (f ((I - 1) * 4 + 2)) (f ((I - 1) * 4 + 3)) (LF.out _) (LF.out _) (LF.out _) (LF.out _) _).mono ?_
              rintro e w1 ⟨rfl, hB⟩
              have rl := (four_cells (w := wr) (.int .u8 (f ((I - 1) * 4) : Nat)) (.int .u8 (f ((I - 1) * 4 + 1) : Nat)) (.int .u8 (f ((I - 1) * 4 + 2) : Nat)) (.int .u8 (f ((I - 1) * 4 + 3) : Nat)) (fun r => .int .u8 (f ((I - 1) * 4 + r) : Nat)) rfl rfl rfl rfl 118).of_block (hB.block _ (by simp))
              have R0 : Hid (Row8 w1 w.heap.size 79 256 Gf.sub) := (H0.out.alloc _).below hB
              have R1 : Hid (Row8 w1 (w.heap.size + 1) 78 240 (fun _ => 0)) := (H1.out.alloc _).below hB
              have R2 : Hid (Row8 w1 (w.heap.size + 1 + 1) 119 240 f) := (H2.out.alloc _).below hB
              have B1 : Hid (Below w.heap.size w w1) := (HB.out.alloc HB.out.size _).trans (hB.mono (by have := HB.out.size; simp; omega))
              have RL : Hid (w1.rowIs wr.heap.size 118 4 (fun r => .int .u8 (f ((I - 1) * 4 + r) : Nat))) := rl
              have k0 := rl.cell (i := 0) (by omega)
              have k1 := rl.cell (i := 1) (by omega)
              have k2 := rl.cell (i := 2) (by omega)
              have k3 := rl.cell (i := 3) (by omega)
              have q0 := rl.frozen 0
              have q1 := rl.frozen 1
              have q2 := rl.frozen 2
              have q3 := rl.frozen 3
              clear hB rl g0 g1 g2 g3 H0 H1 H2 HB
              go_wp2_with fail
              generalize hT : (fun r => Gf.kt n (fun r => f ((I - 1) * 4 + r)) I r) = T
              have LT : Hid (∀ r, r < 4 → T r < 256) := fun r hr => by rw [← hT]; exact Gf.kt_lt (fun _ _ => LF.out _) _ _ hr
              have ET : Hid (∀ r, r < 4 → T r = Gf.kt n (fun r => f ((I - 1) * 4 + r)) I r) := fun r _ => by rw [← hT]
              have VT : Gf.sub (f ((I - 1) * 4)) = T 0 ∧ Gf.sub (f ((I - 1) * 4 + 1)) = T 1 ∧ Gf.sub (f ((I - 1) * 4 + 2)) = T 2 ∧ Gf.sub (f ((I - 1) * 4 + 3)) = T 3 := by
                refine ⟨?_, ?_, ?_, ?_⟩
                · rw [← hT]; show _ = Gf.kt n _ I 0; rw [Gf.kt, if_neg hA, if_pos H8.out]; rfl
                · rw [← hT]; show _ = Gf.kt n _ I 1; rw [Gf.kt, if_neg hA, if_pos H8.out]
                · rw [← hT]; show _ = Gf.kt n _ I 2; rw [Gf.kt, if_neg hA, if_pos H8.out]
                · rw [← hT]; show _ = Gf.kt n _ I 3; rw [Gf.kt, if_neg hA, if_pos H8.out]
              clear hT
              obtain ⟨v0, v1, v2, v3⟩ := VT
              rw [v0, v1, v2, v3]
              have NE : ∀ b, b ≤ w.heap.size + 1 + 1 → b ≠ wr.heap.size := fun b hb => by omega
              have R0' : Hid (Row8 ((((w1.setCell ⟨wr.heap.size, 0, none⟩ (.int .u8 (T 0 : Nat))).setCell ⟨wr.heap.size, 1, none⟩ (.int .u8 (T 1 : Nat))).setCell ⟨wr.heap.size, 2, none⟩ (.int .u8 (T 2 : Nat))).setCell ⟨wr.heap.size, 3, none⟩ (.int .u8 (T 3 : Nat))) w.heap.size 79 256 Gf.sub) := (((R0.out.other (NE _ (by omega)) _).other (NE _ (by omega)) _).other (NE _ (by omega)) _).other (NE _ (by omega)) _
              have R1' : Hid (Row8 ((((w1.setCell ⟨wr.heap.size, 0, none⟩ (.int .u8 (T 0 : Nat))).setCell ⟨wr.heap.size, 1, none⟩ (.int .u8 (T 1 : Nat))).setCell ⟨wr.heap.size, 2, none⟩ (.int .u8 (T 2 : Nat))).setCell ⟨wr.heap.size, 3, none⟩ (.int .u8 (T 3 : Nat))) (w.heap.size + 1) 78 240 (fun _ => 0)) := (((R1.out.other (NE _ (by omega)) _).other (NE _ (by omega)) _).other (NE _ (by omega)) _).other (NE _ (by omega)) _
              have R2' : Hid (Row8 ((((w1.setCell ⟨wr.heap.size, 0, none⟩ (.int .u8 (T 0 : Nat))).setCell ⟨wr.heap.size, 1, none⟩ (.int .u8 (T 1 : Nat))).setCell ⟨wr.heap.size, 2, none⟩ (.int .u8 (T 2 : Nat))).setCell ⟨wr.heap.size, 3, none⟩ (.int .u8 (T 3 : Nat))) (w.heap.size + 1 + 1) 119 240 f) := (((R2.out.other (NE _ (by omega)) _).other (NE _ (by omega)) _).other (NE _ (by omega)) _).other (NE _ (by omega)) _
              have RL' : Hid (((((w1.setCell ⟨wr.heap.size, 0, none⟩ (.int .u8 (T 0 : Nat))).setCell ⟨wr.heap.size, 1, none⟩ (.int .u8 (T 1 : Nat))).setCell ⟨wr.heap.size, 2, none⟩ (.int .u8 (T 2 : Nat))).setCell ⟨wr.heap.size, 3, none⟩ (.int .u8 (T 3 : Nat))).rowIs wr.heap.size 118 4 (fun r => .int .u8 (T r : Nat))) := ((((RL.out.set 0 _).set 1 _).set 2 _).set 3 _).congr (fun r hr => by
                rcases (show r = 0 ∨ r = 1 ∨ r = 2 ∨ r = 3 by omega) with rfl | rfl | rfl | rfl <;> simp)
              have B1' : Hid (Below w.heap.size w ((((w1.setCell ⟨wr.heap.size, 0, none⟩ (.int .u8 (T 0 : Nat))).setCell ⟨wr.heap.size, 1, none⟩ (.int .u8 (T 1 : Nat))).setCell ⟨wr.heap.size, 2, none⟩ (.int .u8 (T 2 : Nat))).setCell ⟨wr.heap.size, 3, none⟩ (.int .u8 (T 3 : Nat)))) := (((B1.out.setCell (by show w.heap.size ≤ wr.heap.size; omega) _).setCell (by show w.heap.size ≤ wr.heap.size; omega) _).setCell (by show w.heap.size ≤ wr.heap.size; omega) _).setCell (by show w.heap.size ≤ wr.heap.size; omega) _
              clear R0 R1 R2 RL B1 v0 v1 v2 v3 k0 k1 k2 k3 q0 q1 q2 q3 NE em em' t1 t2
              generalize ((((w1.setCell ⟨wr.heap.size, 0, none⟩ (.int .u8 (T 0 : Nat))).setCell ⟨wr.heap.size, 1, none⟩ (.int .u8 (T 1 : Nat))).setCell ⟨wr.heap.size, 2, none⟩ (.int .u8 (T 2 : Nat))).setCell ⟨wr.heap.size, 3, none⟩ (.int .u8 (T 3 : Nat))) = wq at *
              generalize wr.heap.size = L at *
              have R0 := R0'
              have R1 := R1'
              have R2 := R2'
              have RL := RL'
              have B1 := B1'
              clear R0' R1' R2' RL' B1'
              go_loopw [11, 74] (fun _ i wy => ∃ r : Nat, r ≤ 4 ∧ i = .int .i64 r ∧ Row8 wy w.heap.size 79 256 Gf.sub ∧ Row8 wy (w.heap.size + 1) 78 240 (fun _ => 0) ∧ Row8 wy (w.heap.size + 1 + 1) 119 240 (fun j => if I * 4 ≤ j ∧ j < I * 4 + r then f ((I - n) * 4 + (j - I * 4)) ^^^ T (j - I * 4) else f j) ∧ wy.rowIs L 118 4 (fun r => .int .u8 (T r : Nat)) ∧ Below w.heap.size w wy) (fun _ i _ => 4 - (intOf i).toNat)
              case atStart => exact ⟨0, by omega, rfl, R0.out, R1.out, R2.out.congr (fun j hj => by rw [if_neg (by omega)]), RL.out, B1.out⟩
              case round =>
                clear R0 R1 R2 RL B1
                obtain ⟨r, hr, rfl, h0, h1, h2, hl, hb⟩ := hrel
                have H0 : Hid (Row8 wr w.heap.size 79 256 Gf.sub) := h0
                have H1 : Hid (Row8 wr (w.heap.size + 1) 78 240 (fun _ => 0)) := h1
                have H2 : Hid (Row8 wr (w.heap.size + 1 + 1) 119 240 (fun j => if I * 4 ≤ j ∧ j < I * 4 + r then f ((I - n) * 4 + (j - I * 4)) ^^^ T (j - I * 4) else f j)) := h2
                have HL : Hid (wr.rowIs L 118 4 (fun r => .int .u8 (T r : Nat))) := hl
                have HB : Hid (Below w.heap.size w wr) := hb
                by_cases hr4 : r < 4
                · have c1 := World.rowIs.cell h2 (i := (I - n) * 4 + r) (by omega)
                  simp only [] at c1
                  rw [if_neg (by omega)] at c1
                  have c2 := hl.cell hr4
                  have c3 := World.rowIs.cell h2 (i := I * 4 + r) (by omega)
                  have f3 := World.rowIs.frozen h2 (I * 4 + r)
                  have lt := LT.out r hr4
                  have lff := LF.out ((I - n) * 4 + r)
                  have ex : bits .xor .u8 (f ((I - n) * 4 + r) : Int) (T r : Int) = ((f ((I - n) * 4 + r) ^^^ T r : Nat) : Int) := u8_xor_nat _ _ lff lt
                  have x1 : (I : Int) - (n : Int) < 60 := by omega
                  have x2 : (I : Int) < 60 := by omega
                  have x3 : (r : Int) < 4 := by omega
                  clear h0 h1 h2 hl hb
                  go_wp2
                  go_region
                  go_wp2
                  go_roundw
                  case rel =>
                    refine ⟨r + 1, by omega, by go_num, (H0.out.other (by show w.heap.size ≠ w.heap.size + 1 + 1; omega) _).drewN 1, (H1.out.other (by show w.heap.size + 1 ≠ w.heap.size + 1 + 1; omega) _).drewN 1, ?_, HL.out.setOther (by show L ≠ w.heap.size + 1 + 1; omega) _, below_drewN (HB.out.setCell (by show w.heap.size ≤ w.heap.size + 1 + 1; omega) _) 1⟩
                    exact ((H2.out.set (I * 4 + r) (f ((I - n) * 4 + r) ^^^ T r)).congr (fun j hj => by
                      by_cases e : j = I * 4 + r
                      · rw [if_pos e, if_pos (by omega), show j - I * 4 = r from by omega]
                      · rw [if_neg e]
                        by_cases h1 : I * 4 ≤ j ∧ j < I * 4 + r
                        · rw [if_pos h1, if_pos (by omega)]
                        · rw [if_neg h1, if_neg (by omega)])).drewN 1
                  case measure => simp [intOf]; omega
                · have R2' : Hid (Row8 wr (w.heap.size + 1 + 1) 119 240 (Gf.ws (strB s) n (I + 1 - n))) := h2.congr (fun j hj => by
                    rw [F2.out j]
                    by_cases h1 : I * 4 ≤ j ∧ j < I * 4 + 4
                    · rw [if_pos (by omega), if_pos h1, ET.out _ (by omega)]
                    · rw [if_neg (by omega), if_neg h1])
                  have hr' : ¬ (r : Int) < 4 := by omega
                  clear h0 h1 h2 hl hb H2 HL
                  go_wp2
                  go_roundw
                  case rel => exact ⟨I + 1, by omega, by omega, by go_num, val_int (by rw [P3.out hA]), H0.out, H1.out, R2'.out, HB.out⟩
                  case measure => simp [intOf]; omega
            · have t3 : ((n : Int) == 8) = false ∨ ((n : Int) == 8) = true ∧ ((I : Int) % 8 == 4) = false := by
                by_cases e8 : n = 8
                · refine .inr ⟨by rw [beq_iff_eq]; omega, ?_⟩
                  rw [beq_eq_false_iff_ne]; intro h; exact h8 ⟨e8, by omega⟩
                · exact .inl (by rw [beq_eq_false_iff_ne]; omega)
              have R0 : Hid (Row8 (wr.alloc (.cells #[.int .u8 (f ((I - 1) * 4) : Nat), .int .u8 (f ((I - 1) * 4 + 1) : Nat), .int .u8 (f ((I - 1) * 4 + 2) : Nat), .int .u8 (f ((I - 1) * 4 + 3) : Nat)] 118)) w.heap.size 79 256 Gf.sub) := H0.out.alloc _
              have R1 : Hid (Row8 (wr.alloc (.cells #[.int .u8 (f ((I - 1) * 4) : Nat), .int .u8 (f ((I - 1) * 4 + 1) : Nat), .int .u8 (f ((I - 1) * 4 + 2) : Nat), .int .u8 (f ((I - 1) * 4 + 3) : Nat)] 118)) (w.heap.size + 1) 78 240 (fun _ => 0)) := H1.out.alloc _
              have R2 : Hid (Row8 (wr.alloc (.cells #[.int .u8 (f ((I - 1) * 4) : Nat), .int .u8 (f ((I - 1) * 4 + 1) : Nat), .int .u8 (f ((I - 1) * 4 + 2) : Nat), .int .u8 (f ((I - 1) * 4 + 3) : Nat)] 118)) (w.heap.size + 1 + 1) 119 240 f) := H2.out.alloc _
              have B1 : Hid (Below w.heap.size w (wr.alloc (.cells #[.int .u8 (f ((I - 1) * 4) : Nat), .int .u8 (f ((I - 1) * 4 + 1) : Nat), .int .u8 (f ((I - 1) * 4 + 2) : Nat), .int .u8 (f ((I - 1) * 4 + 3) : Nat)] 118))) := HB.out.alloc HB.out.size _
              generalize hT : (fun r => Gf.kt n (fun r => f ((I - 1) * 4 + r)) I r) = T
              have LT : Hid (∀ r, r < 4 → T r < 256) := fun r hr => by rw [← hT]; exact Gf.kt_lt (fun _ _ => LF.out _) _ _ hr
              have ET : Hid (∀ r, r < 4 → T r = Gf.kt n (fun r => f ((I - 1) * 4 + r)) I r) := fun r _ => by rw [← hT]
              have RL : Hid ((wr.alloc (.cells #[.int .u8 (f ((I - 1) * 4) : Nat), .int .u8 (f ((I - 1) * 4 + 1) : Nat), .int .u8 (f ((I - 1) * 4 + 2) : Nat), .int .u8 (f ((I - 1) * 4 + 3) : Nat)] 118)).rowIs wr.heap.size 118 4 (fun r => .int .u8 (T r : Nat))) := by
                have VT : ∀ r, T r = f ((I - 1) * 4 + r) := fun r => by rw [← hT]; show Gf.kt n _ I r = _; rw [Gf.kt, if_neg hA, if_neg h8]
                exact (four_cells (w := wr) (.int .u8 (f ((I - 1) * 4) : Nat)) (.int .u8 (f ((I - 1) * 4 + 1) : Nat)) (.int .u8 (f ((I - 1) * 4 + 2) : Nat)) (.int .u8 (f ((I - 1) * 4 + 3) : Nat)) (fun r => .int .u8 (f ((I - 1) * 4 + r) : Nat)) rfl rfl rfl rfl 118).congr (fun r hr => by rw [VT r])
              clear hT H0 H1 H2 HB
              rcases t3 with t3 | ⟨t3, t4⟩
              all_goals
                go_wp2_with fail
                generalize (wr.alloc (.cells #[.int .u8 (f ((I - 1) * 4) : Nat), .int .u8 (f ((I - 1) * 4 + 1) : Nat), .int .u8 (f ((I - 1) * 4 + 2) : Nat), .int .u8 (f ((I - 1) * 4 + 3) : Nat)] 118)) = wq at *
                generalize wr.heap.size = L at *
                clear g0 g1 g2 g3 em em' t3
                try clear t4
                go_loopw [11, 74] (fun _ i wy => ∃ r : Nat, r ≤ 4 ∧ i = .int .i64 r ∧ Row8 wy w.heap.size 79 256 Gf.sub ∧ Row8 wy (w.heap.size + 1) 78 240 (fun _ => 0) ∧ Row8 wy (w.heap.size + 1 + 1) 119 240 (fun j => if I * 4 ≤ j ∧ j < I * 4 + r then f ((I - n) * 4 + (j - I * 4)) ^^^ T (j - I * 4) else f j) ∧ wy.rowIs L 118 4 (fun r => .int .u8 (T r : Nat)) ∧ Below w.heap.size w wy) (fun _ i _ => 4 - (intOf i).toNat)
                case atStart => exact ⟨0, by omega, rfl, R0.out, R1.out, R2.out.congr (fun j hj => by rw [if_neg (by omega)]), RL.out, B1.out⟩
                case round =>
                  clear R0 R1 R2 RL B1
                  obtain ⟨r, hr, rfl, h0, h1, h2, hl, hb⟩ := hrel
                  have H0 : Hid (Row8 wr w.heap.size 79 256 Gf.sub) := h0
                  have H1 : Hid (Row8 wr (w.heap.size + 1) 78 240 (fun _ => 0)) := h1
                  have H2 : Hid (Row8 wr (w.heap.size + 1 + 1) 119 240 (fun j => if I * 4 ≤ j ∧ j < I * 4 + r then f ((I - n) * 4 + (j - I * 4)) ^^^ T (j - I * 4) else f j)) := h2
                  have HL : Hid (wr.rowIs L 118 4 (fun r => .int .u8 (T r : Nat))) := hl
                  have HB : Hid (Below w.heap.size w wr) := hb
                  by_cases hr4 : r < 4
                  · have c1 := World.rowIs.cell h2 (i := (I - n) * 4 + r) (by omega)
                    simp only [] at c1
                    rw [if_neg (by omega)] at c1
                    have c2 := hl.cell hr4
                    have c3 := World.rowIs.cell h2 (i := I * 4 + r) (by omega)
                    have f3 := World.rowIs.frozen h2 (I * 4 + r)
                    have lt := LT.out r hr4
                    have lff := LF.out ((I - n) * 4 + r)
                    have ex : bits .xor .u8 (f ((I - n) * 4 + r) : Int) (T r : Int) = ((f ((I - n) * 4 + r) ^^^ T r : Nat) : Int) := u8_xor_nat _ _ lff lt
                    have x1 : (I : Int) - (n : Int) < 60 := by omega
                    have x2 : (I : Int) < 60 := by omega
                    have x3 : (r : Int) < 4 := by omega
                    clear h0 h1 h2 hl hb
                    go_wp2
                    go_region
                    go_wp2
                    go_roundw
                    case rel =>
                      refine ⟨r + 1, by omega, by go_num, (H0.out.other (by show w.heap.size ≠ w.heap.size + 1 + 1; omega) _).drewN 1, (H1.out.other (by show w.heap.size + 1 ≠ w.heap.size + 1 + 1; omega) _).drewN 1, ?_, HL.out.setOther (by show L ≠ w.heap.size + 1 + 1; omega) _, below_drewN (HB.out.setCell (by show w.heap.size ≤ w.heap.size + 1 + 1; omega) _) 1⟩
                      exact ((H2.out.set (I * 4 + r) (f ((I - n) * 4 + r) ^^^ T r)).congr (fun j hj => by
                        by_cases e : j = I * 4 + r
                        · rw [if_pos e, if_pos (by omega), show j - I * 4 = r from by omega]
                        · rw [if_neg e]
                          by_cases h1 : I * 4 ≤ j ∧ j < I * 4 + r
                          · rw [if_pos h1, if_pos (by omega)]
                          · rw [if_neg h1, if_neg (by omega)])).drewN 1
                    case measure => simp [intOf]; omega
                  · have R2' : Hid (Row8 wr (w.heap.size + 1 + 1) 119 240 (Gf.ws (strB s) n (I + 1 - n))) := h2.congr (fun j hj => by
                      rw [F2.out j]
                      by_cases h1 : I * 4 ≤ j ∧ j < I * 4 + 4
                      · rw [if_pos (by omega), if_pos h1, ET.out _ (by omega)]
                      · rw [if_neg (by omega), if_neg h1])
                    have hr' : ¬ (r : Int) < 4 := by omega
                    clear h0 h1 h2 hl hb H2 HL
                    go_wp2
                    go_roundw
                    case rel => exact ⟨I + 1, by omega, by omega, by go_num, val_int (by rw [P3.out hA]), H0.out, H1.out, R2'.out, HB.out⟩
                    case measure => simp [intOf]; omega
        · have H2' : Hid (Row8 wr (w.heap.size + 1 + 1) 119 240 (Gf.ws (strB s) n (3 * n + 28))) := by
            have e : I - n = 3 * n + 28 := by omega
            rw [← e]; exact h2
          clear h0 h1 h2 hb H2
          have hI' : ¬ (I : Int) < 4 * ((n : Int) + 7) := by omega
          generalize hg : Gf.ws (strB s) n (3 * n + 28) = g at *
          have HG : Hid (Gf.ws (strB s) n (3 * n + 28) = g) := hg
          clear hg
          generalize Gf.pows ((I - 1) / n) = pw at *
          go_wp2_with (refine wpList_load_mid rfl 119 (.tmp 5) rfl (w.heap.size + 1 + 1) 0 rfl (bv 240 g) _ H2'.out.range Tryd.underlying119 rfl (by rw [bv_length]; exact Tryd.sizeW) ?_)
          refine (statesOf_any g _).mono ?_
          rintro e w1 ⟨rfl, hB⟩
          have R1 : Hid (Row8 w1 (w.heap.size + 1) 78 240 (fun _ => 0)) := H1.out.below hB
          have B1 : Hid (Below w.heap.size w w1) := HB.out.trans (hB.mono HB.out.size)
          clear hB
          go_wp2_with (refine wpList_store_mid rfl 78 (.tmp 4) (.tmp 94) rfl (w.heap.size + 1) 0 (bA 240 g) rfl rfl (by rw [bA_size]; exact R1.out.there) (by rw [bA_size]; exact Tryd.sizeK) (bA_one _ _) ?_)
          rw [bA_toList]
          have Lo : (loadVar 78 ⟨w.heap.size + 1, 0, none⟩).run Tryd.prog (w1.setCells (w.heap.size + 1) 0 (bv 240 g)) = .ok (.agg (bA 240 g)) (w1.setCells (w.heap.size + 1) 0 (bv 240 g)) := (R1.out.stored _).load Tryd.underlying78 rfl Tryd.sizeK
          have Bo : Below w.heap.size w (w1.setCells (w.heap.size + 1) 0 (bv 240 g)) := below_setCells (by omega) _ _ _ B1.out
          exact bodyPost_ret (v := .agg (bA 240 g)) (results_cell_one (b := w.heap.size + 1) (o := 0) Tryd.results70 _ _ _ rfl Lo) rfl ⟨by rw [HG.out], Bo⟩
end Go.Proofs.YtonccbgolbcjfabDoor

/-
  Plain mathematics of round keys as texts: no function of the program in sight.
-/
namespace Go.Proofs.YtonccbgolbcjfabDoor
open Go.ChangeShapes Go.WideShapes Go.ChangeAt Go.RowKit
namespace Gf
theorem kt_congr {n : Nat} {L L' : Nat → Nat} {i r : Nat} (hr : r < 4) (h : ∀ r, r < 4 → L r = L' r) : kt n L i r = kt n L' i r := by
  unfold kt
  rw [h 1 (by omega), h ((r + 1) % 4) (Nat.mod_lt _ (by omega)), h r hr]
theorem ws_stay {key : Nat → Nat} {n : Nat} (t : Nat) : ∀ d j, j < (n + t) * 4 → ws key n (t + d) j = ws key n t j := by
  intro d
  induction d with
  | zero => intro j _; rfl
  | succ d ih =>
    intro j hj
    rw [← Nat.add_assoc, ws_old _ _ (Or.inl (by omega)), ih j hj]
theorem ws_key {key : Nat → Nat} {n : Nat} (t j : Nat) (hj : j < n * 4) : ws key n t j = key j := by
  have := ws_stay (key := key) (n := n) 0 t j (by omega)
  rw [Nat.zero_add] at this
  rw [this]
  show (if j < n * 4 then key j else 0) = key j
  rw [if_pos hj]
theorem ws_rec {key : Nat → Nat} {n M : Nat} (hn : 1 ≤ n) (I r : Nat) (hI : n ≤ I) (hM : I < n + M) (hr : r < 4) :
    ws key n M (I * 4 + r) = ws key n M ((I - n) * 4 + r) ^^^ kt n (fun r => ws key n M ((I - 1) * 4 + r)) I r := by
  obtain ⟨t, rfl⟩ : ∃ t, I = n + t := ⟨I - n, by omega⟩
  obtain ⟨d, rfl⟩ : ∃ d, M = t + 1 + d := ⟨M - (t + 1), by omega⟩
  rw [ws_stay (t + 1) d _ (by omega), ws_new t r hr]
  have e1 : ws key n (t + 1 + d) ((n + t - n) * 4 + r) = ws key n t (t * 4 + r) := by
    rw [show n + t - n = t from by omega, show t + 1 + d = t + (1 + d) from by omega, ws_stay t (1 + d) _ (by omega)]
  rw [e1]
  congr 1
  refine kt_congr hr (fun r hr => ?_)
  show _ = ws key n (t + 1 + d) ((n + t - 1) * 4 + r)
  rw [show t + 1 + d = t + (1 + d) from by omega, ws_stay t (1 + d) _ (by omega)]
theorem mul_two : ∀ x, x < 256 → mul x 2 = dbl x := by decide +kernel
end Gf
end Go.Proofs.YtonccbgolbcjfabDoor

/-
  The contract of impl.stateOf: a text of sixteen bytes as a state.
-/
namespace Go.Proofs.YtonccbgolbcjfabDoor
open Go.ChangeShapes Go.WideShapes Go.ChangeAt Go.RowKit
theorem run_copy_text {P : Program} (w : World) (dT sT ty elem : TypeId) (b o dLen dCap : Nat) (s : ByteArray) (cs : List Value)
    (hu : P.underlying dT = some (.slice elem)) (hs : (P.info? elem).map (·.size) = some 1) (hn : s.size = dLen) (hcs : cs = s.data.toList.map (fun b => .int .u8 b.toNat))
    (hc : ∀ j, j < cs.length → (w.cell? ⟨b, o + j, none⟩).isSome = true) (hf : ∀ j, j < cs.length → w.frozen? ⟨b, o + j, none⟩ = false) :
    (Builtin.copy_ #[dT, sT] ty #[.slice (some ⟨b, o, none⟩) dLen dCap, .string s]).run P w = .ok (goInt cs.length) (w.setCells b o cs) := by
  have h1 : ∀ v ∈ cs, v.oneCell' = true := fun v hv => by
    rw [hcs] at hv
    obtain ⟨x, _, rfl⟩ := List.mem_map.1 hv
    rfl
  have hst := run_storeCells_cells (P := P) b o cs 0 w (by simpa using hc) (by simpa using hf) h1
  cases hq : P.info? elem with
  | none => simp [hq] at hs
  | some i =>
    have hi : i.size = 1 := by simpa [hq] using hs
    have hl : s.data.toList.length = s.size := by simp
    have hcl : cs.length = dLen := by rw [hcs, List.length_map, hl, hn]
    simp [Builtin.copy_, run_underlying hu, Builtin.lenOf, Builtin.firstCells, sizeOf, typeInfo, hq, hn]
    rw [← hcs, List.take_of_length_le (by omega), hst, hcl]
    rfl
theorem bv_text (s : ByteArray) (n : Nat) (h : s.size = n) : bv n (strB s) = s.data.toList.map (fun b => .int .u8 b.toNat) := by
  apply List.ext_getElem
  · rw [bv_length]; simp [h]
  · intro i h1 h2
    have hi : i < n := by rwa [bv_length] at h1
    have hi' : i < s.size := by omega
    have e := bv_at (n := n) (f := strB s) hi
    rw [List.getElem?_eq_getElem h1] at e
    rw [Option.some.inj e, List.getElem_map, ← ba_get s i hi']
    simp [strB, hi']
set_option maxRecDepth 100000 in
set_option maxHeartbeats 1000000 in
theorem stateOf_any (s : ByteArray) (hs : s.size = 16) (w : World) :
    Calls Tryd.prog 76 #[.string s] w fun e w' => e = .returned (.agg (bA 16 (strB s))) ∧ Below w.heap.size w w' := by
  have Z2 : Hid (Row8 ((w.alloc (.cells z16 77)).alloc (.cells z16 77)) (w.heap.size + 1) 77 16 (fun _ => 0)) := Row8.z16At (by simp) _
  have Z1 : Hid (Row8 ((w.alloc (.cells z16 77)).alloc (.cells z16 77)) w.heap.size 77 16 (fun _ => 0)) := (Row8.z16At rfl _).alloc _
  have B3 : Hid (Below w.heap.size w ((w.alloc (.cells z16 77)).alloc (.cells z16 77))) := ((Below.refl _ _).alloc (Nat.le_refl _) _).alloc (by simp) _
  have sz : (Tryd.prog.info? 5).map (·.size) = some 1 := by kernel_rfl
  have SZ : Hid ((Tryd.prog.info? 5).map (·.size) = some 1) := sz
  clear sz
  unfold z16 at Z2 Z1 B3
  go_enter Tryd.func76, Tryd.ntmps76
  go_upto_region 2 with fail
  generalize (w.alloc (.cells #[.int .u8 0, .int .u8 0, .int .u8 0, .int .u8 0, .int .u8 0, .int .u8 0, .int .u8 0, .int .u8 0, .int .u8 0, .int .u8 0, .int .u8 0, .int .u8 0, .int .u8 0, .int .u8 0, .int .u8 0, .int .u8 0] 77)).alloc (.cells #[.int .u8 0, .int .u8 0, .int .u8 0, .int .u8 0, .int .u8 0, .int .u8 0, .int .u8 0, .int .u8 0, .int .u8 0, .int .u8 0, .int .u8 0, .int .u8 0, .int .u8 0, .int .u8 0, .int .u8 0, .int .u8 0] 77) = wz at *
  have CP : ∀ ty c, (Builtin.copy_ #[30, 9] ty #[.slice (some ⟨w.heap.size + 1, 0, none⟩) 16 c, .string s]).run Tryd.prog wz = .ok (goInt 16) (wz.setCells (w.heap.size + 1) 0 (bv 16 (strB s))) := fun ty c => by
    have h := run_copy_text (P := Tryd.prog) wz 30 9 ty 5 (w.heap.size + 1) 0 16 c s (bv 16 (strB s)) Tryd.underlying30 SZ.out hs (bv_text s 16 hs) (fun j hj => by rw [bv_length] at hj; exact (Z2.out.there j hj).1) (fun j hj => by rw [bv_length] at hj; exact (Z2.out.there j hj).2)
    rw [bv_length] at h
    exact h
  have R2 : Hid (Row8 (wz.setCells (w.heap.size + 1) 0 (bv 16 (strB s))) (w.heap.size + 1) 77 16 (strB s)) := Z2.out.stored _
  have R1 : Hid (Row8 (wz.setCells (w.heap.size + 1) 0 (bv 16 (strB s))) w.heap.size 77 16 (fun _ => 0)) := Z1.out.storedOther (by omega) _ _
  have B4 : Hid (Below w.heap.size w (wz.setCells (w.heap.size + 1) 0 (bv 16 (strB s)))) := below_setCells (by omega) _ _ _ B3.out
  generalize wz.setCells (w.heap.size + 1) 0 (bv 16 (strB s)) = wy at *
  clear Z1 Z2 B3
  go_upto_region 3 with fail
  clear CP
  generalize hG : strB s = G at *
  have HG : Hid (strB s = G) := hG
  clear hG
  refine wp_region_lit ?_
  refine wpList_load_mid rfl 77 (.tmp 3) rfl (w.heap.size + 1) 0 rfl (bv 16 G) _ R2.out.range Tryd.underlying77 rfl (by rw [bv_length]; exact Tryd.sizeSt) ?_
  refine wpList_store_mid rfl 77 (.tmp 2) (.tmp 7) rfl w.heap.size 0 (bA 16 G) rfl rfl (by rw [bA_size]; exact R1.out.there) (by rw [bA_size]; exact Tryd.sizeSt) (bA_one _ _) ?_
  rw [bA_toList]
  have L : Hid ((loadVar 77 ⟨w.heap.size, 0, none⟩).run Tryd.prog (wy.setCells (w.heap.size) 0 (bv 16 G)) = .ok (.agg (bA 16 G)) (wy.setCells (w.heap.size) 0 (bv 16 G))) := (R1.out.stored _).load Tryd.underlying77 rfl Tryd.sizeSt
  have B : Hid (Below w.heap.size w (wy.setCells (w.heap.size) 0 (bv 16 G))) := below_setCells (Nat.le_refl _) _ _ _ B4.out
  have eA : (bv 16 G).toArray = bA 16 G := rfl
  rw [eA]
  generalize wy.setCells (w.heap.size) 0 (bv 16 G) = wf at *
  generalize hA : bA 16 G = AA at *
  have HA : Hid (bA 16 G = AA) := hA
  clear hA eA
  go_wp2
  rw [HG.out, HA.out]
  exact bodyPost_ret (v := .agg AA) (results_cell_one (b := w.heap.size) (o := 0) Tryd.results76 _ _ _ rfl L.out) rfl ⟨rfl, B.out⟩
end Go.Proofs.YtonccbgolbcjfabDoor

/-
  The contract of impl.stateOf at a text of at most sixteen bytes: the rest is noughts.
-/
namespace Go.Proofs.YtonccbgolbcjfabDoor
open Go.ChangeShapes Go.WideShapes Go.ChangeAt Go.RowKit
theorem run_copy_le {P : Program} (w : World) (dT sT ty elem : TypeId) (b o dLen dCap : Nat) (s : ByteArray) (cs : List Value)
    (hu : P.underlying dT = some (.slice elem)) (hs : (P.info? elem).map (·.size) = some 1) (hn : s.size ≤ dLen) (hcs : cs = s.data.toList.map (fun b => .int .u8 b.toNat))
    (hc : ∀ j, j < cs.length → (w.cell? ⟨b, o + j, none⟩).isSome = true) (hf : ∀ j, j < cs.length → w.frozen? ⟨b, o + j, none⟩ = false) :
    (Builtin.copy_ #[dT, sT] ty #[.slice (some ⟨b, o, none⟩) dLen dCap, .string s]).run P w = .ok (goInt cs.length) (w.setCells b o cs) := by
  have h1 : ∀ v ∈ cs, v.oneCell' = true := fun v hv => by
    rw [hcs] at hv
    obtain ⟨x, _, rfl⟩ := List.mem_map.1 hv
    rfl
  have hst := run_storeCells_cells (P := P) b o cs 0 w (by simpa using hc) (by simpa using hf) h1
  cases hq : P.info? elem with
  | none => simp [hq] at hs
  | some i =>
    have hl : s.data.toList.length = s.size := by simp
    have hcl : cs.length = s.size := by rw [hcs, List.length_map, hl]
    have hm : min s.size dLen = s.size := Nat.min_eq_left hn
    simp [Builtin.copy_, run_underlying hu, Builtin.lenOf, Builtin.firstCells, sizeOf, typeInfo, hq, hm]
    rw [← hcs, List.take_of_length_le (by omega), hst, hcl]
    rfl
set_option maxRecDepth 100000 in
set_option maxHeartbeats 1000000 in
theorem stateOf_le (s : ByteArray) (hs : s.size ≤ 16) (w : World) :
    Calls Tryd.prog 76 #[.string s] w fun e w' => e = .returned (.agg (bA 16 (strB s))) ∧ Below w.heap.size w w' := by
  have Z2 : Hid (Row8 ((w.alloc (.cells z16 77)).alloc (.cells z16 77)) (w.heap.size + 1) 77 16 (fun _ => 0)) := Row8.z16At (by simp) _
  have Z1 : Hid (Row8 ((w.alloc (.cells z16 77)).alloc (.cells z16 77)) w.heap.size 77 16 (fun _ => 0)) := (Row8.z16At rfl _).alloc _
  have B3 : Hid (Below w.heap.size w ((w.alloc (.cells z16 77)).alloc (.cells z16 77))) := ((Below.refl _ _).alloc (Nat.le_refl _) _).alloc (by simp) _
  have sz : (Tryd.prog.info? 5).map (·.size) = some 1 := by kernel_rfl
  have SZ : Hid ((Tryd.prog.info? 5).map (·.size) = some 1) := sz
  clear sz
  unfold z16 at Z2 Z1 B3
  go_enter Tryd.func76, Tryd.ntmps76
  go_upto_region 2 with fail
  generalize (w.alloc (.cells #[.int .u8 0, .int .u8 0, .int .u8 0, .int .u8 0, .int .u8 0, .int .u8 0, .int .u8 0, .int .u8 0, .int .u8 0, .int .u8 0, .int .u8 0, .int .u8 0, .int .u8 0, .int .u8 0, .int .u8 0, .int .u8 0] 77)).alloc (.cells #[.int .u8 0, .int .u8 0, .int .u8 0, .int .u8 0, .int .u8 0, .int .u8 0, .int .u8 0, .int .u8 0, .int .u8 0, .int .u8 0, .int .u8 0, .int .u8 0, .int .u8 0, .int .u8 0, .int .u8 0, .int .u8 0] 77) = wz at *
  have CP : ∀ ty c, (Builtin.copy_ #[30, 9] ty #[.slice (some ⟨w.heap.size + 1, 0, none⟩) 16 c, .string s]).run Tryd.prog wz = .ok (goInt s.size) (wz.setCells (w.heap.size + 1) 0 (bv s.size (strB s))) := fun ty c => by
    have h := run_copy_le (P := Tryd.prog) wz 30 9 ty 5 (w.heap.size + 1) 0 16 c s (bv s.size (strB s)) Tryd.underlying30 SZ.out hs (bv_text s s.size rfl) (fun j hj => by rw [bv_length] at hj; exact (Z2.out.there j (by omega)).1) (fun j hj => by rw [bv_length] at hj; exact (Z2.out.there j (by omega)).2)
    rw [bv_length] at h
    exact h
  have R2 : Hid (Row8 (wz.setCells (w.heap.size + 1) 0 (bv s.size (strB s))) (w.heap.size + 1) 77 16 (strB s)) := (rowIs_setCells (bv s.size (strB s)) 0 wz _ Z2.out).congr (fun i hi => by
    rw [bv_length]
    by_cases h : i < s.size
    · rw [if_pos (by omega), Nat.sub_zero, List.getD_eq_getElem?_getD, bv_at h]; rfl
    · rw [if_neg (by omega)]
      simp [strB, h])
  have R1 : Hid (Row8 (wz.setCells (w.heap.size + 1) 0 (bv s.size (strB s))) w.heap.size 77 16 (fun _ => 0)) := Z1.out.storedOther (by omega) _ _
  have B4 : Hid (Below w.heap.size w (wz.setCells (w.heap.size + 1) 0 (bv s.size (strB s)))) := below_setCells (by omega) _ _ _ B3.out
  generalize wz.setCells (w.heap.size + 1) 0 (bv s.size (strB s)) = wy at *
  clear Z1 Z2 B3
  go_upto_region 3 with fail
  clear CP
  generalize hG : strB s = G at *
  have HG : Hid (strB s = G) := hG
  clear hG
  refine wp_region_lit ?_
  refine wpList_load_mid rfl 77 (.tmp 3) rfl (w.heap.size + 1) 0 rfl (bv 16 G) _ R2.out.range Tryd.underlying77 rfl (by rw [bv_length]; exact Tryd.sizeSt) ?_
  refine wpList_store_mid rfl 77 (.tmp 2) (.tmp 7) rfl w.heap.size 0 (bA 16 G) rfl rfl (by rw [bA_size]; exact R1.out.there) (by rw [bA_size]; exact Tryd.sizeSt) (bA_one _ _) ?_
  rw [bA_toList]
  have L : Hid ((loadVar 77 ⟨w.heap.size, 0, none⟩).run Tryd.prog (wy.setCells (w.heap.size) 0 (bv 16 G)) = .ok (.agg (bA 16 G)) (wy.setCells (w.heap.size) 0 (bv 16 G))) := (R1.out.stored _).load Tryd.underlying77 rfl Tryd.sizeSt
  have B : Hid (Below w.heap.size w (wy.setCells (w.heap.size) 0 (bv 16 G))) := below_setCells (Nat.le_refl _) _ _ _ B4.out
  have eA : (bv 16 G).toArray = bA 16 G := rfl
  rw [eA]
  generalize wy.setCells (w.heap.size) 0 (bv 16 G) = wf at *
  generalize hA : bA 16 G = AA at *
  have HA : Hid (bA 16 G = AA) := hA
  clear hA eA
  go_wp2
  rw [HG.out, HA.out]
  exact bodyPost_ret (v := .agg AA) (results_cell_one (b := w.heap.size) (o := 0) Tryd.results76 _ _ _ rfl L.out) rfl ⟨rfl, B.out⟩
end Go.Proofs.YtonccbgolbcjfabDoor
