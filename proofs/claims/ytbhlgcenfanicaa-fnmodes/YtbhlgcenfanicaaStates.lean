/-
  Contracts of the program's round keys (statesOf, roundKeys).
-/
import Derived.Test.YtbhlgcenfanicaaSubst
namespace Go.Proofs.Ytbhlgcenfanicaa
open Go.ChangeShapes Go.WideShapes Go.ChangeAt Go.RowKit
/-- An index of an array whose elements are arrays or structs. -/
theorem run_index_part {P : Program} {t e : TypeId} {n m : Nat} {d : TypeDesc} (hu : P.underlying t = some (.array n e)) (he : P.underlying e = some d) (hd : d.isRow = true)
    (hs : (P.info? e).map (·.size) = some m) {A : Array Value} {k : Nat} (hk : k < n) (w : World) :
    (Instr.index t (.agg A) (.int .i64 (k : Int))).run P w = .ok (.agg (A.extract (k * m) (k * m + m))) w := by
  cases hq : P.info? e with
  | none => simp [hq] at hs
  | some i =>
    have hz : i.size = m := by simpa [hq] using hs
    have hagg : (isAgg e).run P w = .ok true w := by
      unfold isAgg
      rw [Sem.run_bind, run_underlying he w]
      cases d <;> simp_all
    have hk1 : (0 : Int) ≤ (k : Int) ∧ (k : Int) < (n : Int) := by omega
    simp [Instr.index, asIntOf, Sem.run_bind, run_underlying hu w, hk1, sizeOf, typeInfo, hq, hz, part, hagg]
    intro h
    omega
theorem bA_extract4 {n : Nat} {f : Nat → Nat} {o : Nat} (h : o + 4 ≤ n) : (bA n f).extract o (o + 4) = #[.int .u8 (f o : Nat), .int .u8 (f (o + 1) : Nat), .int .u8 (f (o + 2) : Nat), .int .u8 (f (o + 3) : Nat)] := by
  apply Array.ext_getElem?
  intro i
  rw [Array.getElem?_extract]
  rcases (show i = 0 ∨ i = 1 ∨ i = 2 ∨ i = 3 ∨ 4 ≤ i by omega) with rfl | rfl | rfl | rfl | hi
  · rw [if_pos (by rw [bA_size]; omega), bA_at (by omega)]; rfl
  · rw [if_pos (by rw [bA_size]; omega), bA_at (by omega)]; rfl
  · rw [if_pos (by rw [bA_size]; omega), bA_at (by omega)]; rfl
  · rw [if_pos (by rw [bA_size]; omega), bA_at (by omega)]; rfl
  · rw [if_neg (by rw [bA_size]; omega)]
    simp [hi]
theorem Try.infoK : (Try.prog.info? 40).map (fun i => (i.zero, i.size)) = some (some (.agg (Array.replicate 240 (.int .u8 0))), 240) := by kernel_rfl
theorem Try.zeroK : ∀ w, (zeroValue 40).run Try.prog w = .ok (.agg (Array.replicate 240 (.int .u8 0))) w := (zero_of_info Try.infoK).1
theorem Try.sizeK : (Try.prog.info? 40).map (·.size) = some 240 := (zero_of_info Try.infoK).2
theorem Try.infoW : (Try.prog.info? 93).map (fun i => (i.zero, i.size)) = some (some (.agg (Array.replicate 240 (.int .u8 0))), 240) := by kernel_rfl
theorem Try.zeroW : ∀ w, (zeroValue 93).run Try.prog w = .ok (.agg (Array.replicate 240 (.int .u8 0))) w := (zero_of_info Try.infoW).1
theorem Try.sizeW : (Try.prog.info? 93).map (·.size) = some 240 := (zero_of_info Try.infoW).2
theorem idxW {f : Nat → Nat} {k : Nat} (h : k < 60) (w : World) : (Instr.index 93 (.agg (bA 240 f)) (.int .i64 (k : Int))).run Try.prog w = .ok (.agg #[.int .u8 (f (k * 4) : Nat), .int .u8 (f (k * 4 + 1) : Nat), .int .u8 (f (k * 4 + 2) : Nat), .int .u8 (f (k * 4 + 3) : Nat)]) w := by
  rw [run_index_part (m := 4) Try.underlying93 Try.underlying92 rfl (by kernel_rfl) h w, bA_extract4 (by omega)]
set_option maxRecDepth 100000 in
set_option maxHeartbeats 2000000 in
/-- impl.statesOf: the words' bytes, one behind the other. -/
theorem statesOf_any (f : Nat → Nat) (w : World) :
    Calls Try.prog 77 #[.agg (bA 240 f)] w fun e w' => e = .returned (.agg (bA 240 f)) ∧ Below w.heap.size w w' := by
  have z1 := Try.zeroK
  have K0 : Hid (Row8 (((w.alloc (.cells (bA 240 f) 93)).alloc (.cells (Array.replicate 240 (.int .u8 0)) 40)).alloc (.cells (Array.replicate 240 (.int .u8 0)) 40)) w.heap.size 93 240 f) := ((Row8.boxedAt rfl _ _ _).alloc _).alloc _
  have K1 : Hid (Row8 (((w.alloc (.cells (bA 240 f) 93)).alloc (.cells (Array.replicate 240 (.int .u8 0)) 40)).alloc (.cells (Array.replicate 240 (.int .u8 0)) 40)) (w.heap.size + 1) 40 240 (fun _ => 0)) := (Row8.zerosAt (by simp) _ _).alloc _
  have K2 : Hid (Row8 (((w.alloc (.cells (bA 240 f) 93)).alloc (.cells (Array.replicate 240 (.int .u8 0)) 40)).alloc (.cells (Array.replicate 240 (.int .u8 0)) 40)) (w.heap.size + 1 + 1) 40 240 (fun _ => 0)) := Row8.zerosAt (by simp) _ _
  have K3 : Hid (Below w.heap.size w (((w.alloc (.cells (bA 240 f) 93)).alloc (.cells (Array.replicate 240 (.int .u8 0)) 40)).alloc (.cells (Array.replicate 240 (.int .u8 0)) 40))) := (((Below.refl _ _).alloc (Nat.le_refl _) _).alloc (by simp) _).alloc (by simp; omega) _
  go_enter Try.func77, Try.ntmps77
  go_wp2_with (refine wpList_load_mid rfl 93 (.tmp 1) rfl w.heap.size 0 rfl (bv 240 f) _ K0.out.range Try.underlying93 rfl (by rw [bv_length]; exact Try.sizeW) ?_)
  generalize ((w.alloc (.cells (bA 240 f) 93)).alloc (.cells (Array.replicate 240 (.int .u8 0)) 40)).alloc (.cells (Array.replicate 240 (.int .u8 0)) 40) = wz at *
  have eA : (bv 240 f).toArray = bA 240 f := rfl
  rw [eA]
  clear eA K0
  go_loopw [4, 5, 9] (fun _ _ i wr => ∃ k : Nat, k ≤ 60 ∧ i = .int .i64 k ∧ Row8 wr (w.heap.size + 1) 40 240 (fun _ => 0) ∧ Row8 wr (w.heap.size + 1 + 1) 40 240 (fun j => if j < k * 4 then f j else 0) ∧ Below w.heap.size w wr) (fun _ _ i _ => 60 - (intOf i).toNat)
  case atStart => exact ⟨0, by omega, rfl, K1.out, K2.out.congr (fun j hj => by simp), K3.out⟩
  case round =>
    obtain ⟨k, hk, rfl, h1, h2, hb⟩ := hrel
    have H1 : Hid (Row8 wr (w.heap.size + 1) 40 240 (fun _ => 0)) := h1
    have H2 : Hid (Row8 wr (w.heap.size + 1 + 1) 40 240 (fun j => if j < k * 4 then f j else 0)) := h2
    have HB : Hid (Below w.heap.size w wr) := hb
    by_cases hlt : k < 60
    · have ix := idxW (f := f) hlt
      have hl2 := World.rowIs.lt h2
      have j0 := idx0
      have j1 := idx1
      have j2 := idx2
      have j3 := idx3
      have g0 := World.rowIs.cell h2 (i := k * 4) (by omega)
      have g1 := World.rowIs.cell h2 (i := k * 4 + 1) (by omega)
      have g2 := World.rowIs.cell h2 (i := k * 4 + 2) (by omega)
      have g3 := World.rowIs.cell h2 (i := k * 4 + 3) (by omega)
      have q0 := World.rowIs.frozen h2 (k * 4)
      have q1 := World.rowIs.frozen h2 (k * 4 + 1)
      have q2 := World.rowIs.frozen h2 (k * 4 + 2)
      have q3 := World.rowIs.frozen h2 (k * 4 + 3)
      clear h1 h2 hb K1 K2 K3
      have o0 : k / 4 * 16 + k % 4 * 4 = k * 4 := by omega
      have o1 : k / 4 * 16 + (k % 4 * 4 + 1) = k * 4 + 1 := by omega
      have o2 : k / 4 * 16 + (k % 4 * 4 + 2) = k * 4 + 2 := by omega
      have o3 : k / 4 * 16 + (k % 4 * 4 + 3) = k * 4 + 3 := by omega
      go_wp2
      refine wp_loop_rounds 5 ?_
      rw [rounds_succ]
      go_wp2
      rw [rounds_succ]
      go_wp2
      rw [rounds_succ]
      go_wp2
      rw [rounds_succ]
      go_wp2
      rw [rounds_succ]
      go_wp2
      go_roundw
      case rel =>
        refine ⟨k + 1, by omega, by go_num, ((((H1.out.other (by show w.heap.size + 1 ≠ w.heap.size + 1 + 1; omega) _).other (by show w.heap.size + 1 ≠ w.heap.size + 1 + 1; omega) _).other (by show w.heap.size + 1 ≠ w.heap.size + 1 + 1; omega) _).other (by show w.heap.size + 1 ≠ w.heap.size + 1 + 1; omega) _).alloc _, ?_, ((((HB.out.setCell (by show w.heap.size ≤ w.heap.size + 1 + 1; omega) _).setCell (by show w.heap.size ≤ w.heap.size + 1 + 1; omega) _).setCell (by show w.heap.size ≤ w.heap.size + 1 + 1; omega) _).setCell (by show w.heap.size ≤ w.heap.size + 1 + 1; omega) _).alloc (by simpa using HB.out.size) _⟩
        exact (((((H2.out.set (k * 4) (f (k * 4))).set (k * 4 + 1) (f (k * 4 + 1))).set (k * 4 + 2) (f (k * 4 + 2))).set (k * 4 + 3) (f (k * 4 + 3))).alloc _).congr (fun j hj => by
          by_cases h1 : j < k * 4
          · rw [if_neg (by omega), if_neg (by omega), if_neg (by omega), if_neg (by omega), if_pos h1, if_pos (by omega)]
          · by_cases h2 : j < (k + 1) * 4
            · rw [if_pos h2]
              rcases (show j = k * 4 ∨ j = k * 4 + 1 ∨ j = k * 4 + 2 ∨ j = k * 4 + 3 by omega) with rfl | rfl | rfl | rfl <;> simp
            · rw [if_neg (by omega), if_neg (by omega), if_neg (by omega), if_neg (by omega), if_neg h1, if_neg h2])
      case measure => simp [intOf]; omega
    · have H2' : Hid (Row8 wr (w.heap.size + 1 + 1) 40 240 f) := h2.congr (fun j hj => by rw [if_pos (by omega)])
      clear h1 h2 hb K1 K2 K3 H2
      go_wp2_with (first
        | (refine wpList_load_mid rfl 40 (.tmp 3) rfl (w.heap.size + 1 + 1) 0 rfl (bv 240 f) _ H2'.out.range Try.underlying40 rfl (by rw [bv_length]; exact Try.sizeK) ?_)
        | (refine wpList_store_mid rfl 40 (.tmp 2) (.tmp 30) rfl (w.heap.size + 1) 0 (bA 240 f) rfl rfl (by rw [bA_size]; exact H1.out.there) (by rw [bA_size]; exact Try.sizeK) (bA_one _ _) ?_))
      rw [bA_toList]
      have L : (loadVar 40 ⟨w.heap.size + 1, 0, none⟩).run Try.prog (wr.setCells (w.heap.size + 1) 0 (bv 240 f)) = .ok (.agg (bA 240 f)) (wr.setCells (w.heap.size + 1) 0 (bv 240 f)) := (H1.out.stored _).load Try.underlying40 rfl Try.sizeK
      have B : Below w.heap.size w (wr.setCells (w.heap.size + 1) 0 (bv 240 f)) := below_setCells (by omega) _ _ _ HB.out
      exact bodyPost_ret (v := .agg (bA 240 f)) (results_cell_one (b := w.heap.size + 1) (o := 0) Try.results77 _ _ _ rfl L) rfl ⟨rfl, B⟩
end Go.Proofs.Ytbhlgcenfanicaa
