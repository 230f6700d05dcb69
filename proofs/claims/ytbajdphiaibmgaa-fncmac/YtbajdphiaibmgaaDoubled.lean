/-
  The contract of impl.doubledBlock.
-/
import Derived.Test.YtbajdphiaibmgaaCmMath
import Derived.Test.YtbajdphiaibmgaaModes
namespace Go.Proofs.Ytbajdphiaibmgaa
open Go.ChangeShapes Go.WideShapes Go.ChangeAt Go.RowKit
theorem u8_or_two (a b : Nat) (hb : b < 256) : bits BinOp.or IntKind.u8 ((a : Int) * 2 % 256) ((b : Int) / 128) = ((a * 2 % 256 ||| b / 128 : Nat) : Int) := by
  have := u8_or_nat (a * 2 % 256) (b / 128) (by omega) (by omega)
  rw [← this]
  congr 1
theorem u8_dbl_last (a b : Nat) (hb : b < 256) : bits BinOp.xor IntKind.u8 ((a : Int) * 2 % 256) ((b : Int) / 128 * 135) = (((a * 2 % 256) ^^^ (if 128 ≤ b then 135 else 0) : Nat) : Int) := by
  have e1 : (a : Int) * 2 % 256 = ((a * 2 % 256 : Nat) : Int) := by omega
  have e2 : (b : Int) / 128 * 135 = ((if 128 ≤ b then 135 else 0 : Nat) : Int) := by split <;> omega
  rw [e1, e2]
  exact u8_xor_nat _ _ (Nat.mod_lt _ (by omega)) (by split <;> omega)
set_option maxRecDepth 100000 in
set_option maxHeartbeats 2000000 in
theorem doubled_any (f : Nat → Nat) (hf : ∀ i, i < 16 → f i < 256) (w : World) :
    Calls Try.prog 19 #[.agg (bA 16 f)] w fun e w' => e = .returned (.agg (bA 16 (dblB f))) ∧ Below w.heap.size w w' := by
  have HF : Hid (∀ i, i < 16 → f i < 256) := hf
  have R0 : Hid (Row8 ((w.alloc (.cells (bA 16 f) 37)).alloc (.cells z16 37)) w.heap.size 37 16 f) := (Row8.boxedAt rfl _ _ _).alloc _
  have Z0 : Hid (Row8 ((w.alloc (.cells (bA 16 f) 37)).alloc (.cells z16 37)) (w.heap.size + 1) 37 16 (fun _ => 0)) := Row8.z16At (by simp) _
  have B0 : Hid (Below w.heap.size w ((w.alloc (.cells (bA 16 f) 37)).alloc (.cells z16 37))) := ((Below.refl _ _).alloc (Nat.le_refl _) _).alloc (by simp) _
  clear hf
  unfold z16 at R0 Z0 B0
  go_enter Try.func19, Try.ntmps19
  go_upto_region 1 with fail
  generalize (w.alloc (.cells (bA 16 f) 37)).alloc (.cells #[.int .u8 0, .int .u8 0, .int .u8 0, .int .u8 0, .int .u8 0, .int .u8 0, .int .u8 0, .int .u8 0, .int .u8 0, .int .u8 0, .int .u8 0, .int .u8 0, .int .u8 0, .int .u8 0, .int .u8 0, .int .u8 0] 37) = wz at *
  generalize bA 16 f = FA at *
  have c0 := World.rowIs.cell R0.out (i := 0) (by omega)
  have l0 := HF.out 0 (by omega)
  obtain ⟨F0, hF0⟩ : ∃ F0, F0 = f 0 := ⟨_, rfl⟩
  rw [← hF0] at c0 l0
  have HF0 : Hid (F0 = f 0) := hF0
  clear hF0
  go_wp2_with fail
  go_loopw [4, 8] (fun _ i wr => ∃ k : Nat, k ≤ 15 ∧ i = .int .i64 k ∧ Row8 wr w.heap.size 37 16 (fun j => if j < k then dblB f j else f j) ∧ Row8 wr (w.heap.size + 1) 37 16 (fun _ => 0) ∧ Below w.heap.size w wr) (fun _ i _ => 15 - (intOf i).toNat)
  case atStart => exact ⟨0, by omega, rfl, R0.out.congr (fun j hj => by rw [if_neg (by omega)]), Z0.out, B0.out⟩
  case round =>
    clear R0 Z0 B0 c0
    obtain ⟨k, hk, rfl, hr, hz, hb⟩ := hrel
    have HR : Hid (Row8 wr w.heap.size 37 16 (fun j => if j < k then dblB f j else f j)) := hr
    have HZ : Hid (Row8 wr (w.heap.size + 1) 37 16 (fun _ => 0)) := hz
    have HB : Hid (Below w.heap.size w wr) := hb
    by_cases hlt : k < 15
    · have c1 := World.rowIs.cell hr (i := k) (by omega)
      simp only [Nat.lt_irrefl, if_false] at c1
      have c2 := World.rowIs.cell hr (i := k + 1) (by omega)
      simp only [show ¬ (k + 1 < k) from by omega, if_false] at c2
      have f1 := World.rowIs.frozen hr k
      have l1 := HF.out k (by omega)
      have l2 := HF.out (k + 1) (by omega)
      have x0 : (0 : Int) ≤ (k : Int) := by omega
      have x1 : (k : Int) < 15 := by omega
      have x2 : (k : Int) < 16 := by omega
      have x3 : (k : Int) + 1 < 16 := by omega
      have x4 : ((k : Int) + 1).toNat = k + 1 := by omega
      obtain ⟨V, hV⟩ : ∃ V, V = (f k * 2 % 256) ||| (f (k + 1) / 128) := ⟨_, rfl⟩
      have ex : bits .or .u8 ((f k : Int) * 2 % 256) ((f (k + 1) : Int) / 128) = ((V : Nat) : Int) := by rw [hV]; exact u8_or_two _ _ l2
      have HV : Hid (∀ j, j < 16 → (if j = k then V else if j < k then dblB f j else f j) = if j < k + 1 then dblB f j else f j) := fun j hj => by
        by_cases e : j = k
        · subst e
          rw [if_pos rfl, if_pos (by omega), hV]
          unfold dblB
          rw [if_neg (by omega)]
        · rw [if_neg e]
          by_cases e2 : j < k
          · rw [if_pos e2, if_pos (by omega)]
          · rw [if_neg e2, if_neg (by omega)]
      clear hV hr hz hb
      generalize f k = A1 at *
      generalize f (k + 1) = A2 at *
      go_wp2_with fail
      go_region
      go_wp2
      go_roundw
      case rel =>
        refine ⟨k + 1, by omega, by go_num, (HR.out.set k V).congr HV.out, HZ.out.other (by show w.heap.size + 1 ≠ w.heap.size; omega) _, ?_⟩
        exact (HB.out.setCell (by exact Nat.le_refl _) _).drew
      case measure => simp [intOf]; omega
    · have ek : k = 15 := by omega
      have hr : Row8 wr w.heap.size 37 16 (fun j => if j < 15 then dblB f j else f j) := by rw [← ek]; exact HR.out
      have x1 : ¬ (k : Int) < 15 := by omega
      have HR : Hid (Row8 wr w.heap.size 37 16 (fun j => if j < 15 then dblB f j else f j)) := hr
      clear ek
      have c1 := World.rowIs.cell hr (i := 15) (by omega)
      simp only [Nat.lt_irrefl, if_false] at c1
      have f1 := World.rowIs.frozen hr 15
      have l1 := HF.out 15 (by omega)
      obtain ⟨V, hV⟩ : ∃ V, V = (f 15 * 2 % 256) ^^^ (if 128 ≤ f 0 then 135 else 0) := ⟨_, rfl⟩
      have ex : bits .xor .u8 ((f 15 : Int) * 2 % 256) ((F0 : Int) / 128 * 135) = ((V : Nat) : Int) := by
        rw [hV, ← HF0.out]; exact u8_dbl_last _ _ l0
      have HRf : Hid (∀ w' : World, Row8 w' w.heap.size 37 16 (fun j => if j = 15 then V else if j < 15 then dblB f j else f j) → Row8 w' w.heap.size 37 16 (dblB f)) := fun w' h => h.congr (fun j hj => by
        by_cases e : j = 15
        · subst e; rw [if_pos rfl, hV]; unfold dblB; rw [if_pos rfl]
        · rw [if_neg e, if_pos (by omega)])
      have HR2 : Hid (Row8 (wr.setCell ⟨w.heap.size, 15, none⟩ (.int .u8 (V : Nat))) w.heap.size 37 16 (dblB f)) := HRf.out _ (HR.out.set 15 V)
      have HZ2 : Hid (Row8 (wr.setCell ⟨w.heap.size, 15, none⟩ (.int .u8 (V : Nat))) (w.heap.size + 1) 37 16 (fun _ => 0)) := HZ.out.other (by show w.heap.size + 1 ≠ w.heap.size; omega) _
      have HB2 : Hid (Below w.heap.size w (wr.setCell ⟨w.heap.size, 15, none⟩ (.int .u8 (V : Nat)))) := HB.out.setCell (by exact Nat.le_refl _) _
      clear hV hr hz hb HR HZ HB HRf
      generalize f 15 = A1 at *
      go_upto_region 8 with fail
      generalize wr.setCell ⟨w.heap.size, 15, none⟩ (.int .u8 (V : Nat)) = ws at *
      generalize hG : dblB f = G at *
      have HG : Hid (dblB f = G) := hG
      clear hG
      refine wp_region_lit ?_
      refine wpList_load_mid rfl 37 (.tmp 1) rfl w.heap.size 0 rfl (bv 16 G) _ HR2.out.range Try.underlying37 rfl (by rw [bv_length]; exact Try.sizeSt) ?_
      refine wpList_store_mid rfl 37 (.tmp 2) (.tmp 31) rfl (w.heap.size + 1) 0 (bA 16 G) rfl rfl (by rw [bA_size]; exact HZ2.out.there) (by rw [bA_size]; exact Try.sizeSt) (bA_one _ _) ?_
      rw [bA_toList]
      have L : Hid ((loadVar 37 ⟨w.heap.size + 1, 0, none⟩).run Try.prog (ws.setCells (w.heap.size + 1) 0 (bv 16 G)) = .ok (.agg (bA 16 G)) (ws.setCells (w.heap.size + 1) 0 (bv 16 G))) := (HZ2.out.stored _).load Try.underlying37 rfl Try.sizeSt
      have B : Hid (Below w.heap.size w (ws.setCells (w.heap.size + 1) 0 (bv 16 G))) := below_setCells (by omega) _ _ _ HB2.out
      have eA : (bv 16 G).toArray = bA 16 G := rfl
      rw [eA]
      generalize ws.setCells (w.heap.size + 1) 0 (bv 16 G) = wf at *
      generalize hA : bA 16 G = AA at *
      have HA : Hid (bA 16 G = AA) := hA
      clear hA eA
      go_wp2
      rw [HG.out, HA.out]
      exact bodyPost_ret (v := .agg AA) (results_cell_one (b := w.heap.size + 1) (o := 0) Try.results19 _ _ _ rfl L.out) rfl ⟨rfl, B.out⟩
end Go.Proofs.Ytbajdphiaibmgaa
