/-
  CMAC, as plain mathematics.
-/
import Derived.Test.YtbhlgcenfanicaaModesMath
import Derived.Test.YtbhlgcenfanicaaModes
import Derived.Test.YtbhlgcenfanicaaCbc
import Derived.Test.YtbhlgcenfanicaaCbcS
import Derived.Test.YtbhlgcenfanicaaCbcS2
import Derived.Test.YtbhlgcenfanicaaZeros
import Derived.Test.YtbhlgcenfanicaaSlices
namespace Go.Proofs.Ytbhlgcenfanicaa
/-- A block doubled. -/
def dblB (s : Nat → Nat) (j : Nat) : Nat := if j = 15 then (s 15 * 2 % 256) ^^^ (if 128 ≤ s 0 then 135 else 0) else (s j * 2 % 256) ||| (s (j + 1) / 128)
theorem or_lt8 {a b : Nat} (ha : a < 256) (hb : b < 256) : a ||| b < 256 := Nat.or_lt_two_pow (n := 8) ha hb
theorem dblB_lt {s : Nat → Nat} (hs : ∀ j, j < 16 → s j < 256) (j : Nat) (hj : j < 16) : dblB s j < 256 := by
  unfold dblB
  split
  · refine Gf.xor_lt (Nat.mod_lt _ (by omega)) ?_
    split
    · omega
    · omega
  · have := hs (j + 1) (by omega)
    exact or_lt8 (Nat.mod_lt _ (by omega)) (by omega)
theorem same_dblB {f g : Nat → Nat} (h : Gf.Same f g) : Gf.Same (dblB f) (dblB g) := fun j hj => by
  unfold dblB
  by_cases e : j = 15
  · rw [if_pos e, if_pos e, h 15 (by omega), h 0 (by omega)]
  · rw [if_neg e, if_neg e, h j hj, h (j + 1) (by omega)]
/-- How many blocks come ahead of the last one. -/
def cmQ (n : Nat) : Nat := (n - 1) / 16
/-- The last block, filled up if it is not whole. -/
def lastS (n : Nat) (b : Nat → Nat) (j : Nat) : Nat := if 16 * cmQ n + j < n then b (16 * cmQ n + j) else if 16 * cmQ n + j = n then 128 else 0
/-- The mask of the last block. -/
def maskB (K : Nat → Nat) (R n : Nat) : Nat → Nat := if n - 16 * cmQ n < 16 then dblB (dblB (Gf.enc K R (fun _ => 0))) else dblB (Gf.enc K R (fun _ => 0))
/-- The code of n bytes. -/
def cmacB (K : Nat → Nat) (R n : Nat) (b : Nat → Nat) : Nat → Nat := Gf.enc K R (fun j => cbcB K R (fun _ => 0) b (cmQ n) j ^^^ (lastS n b j ^^^ maskB K R n j))
theorem lastS_lt {n : Nat} {b : Nat → Nat} (hb : ∀ j, b j < 256) (j : Nat) : lastS n b j < 256 := by
  unfold lastS
  split
  · exact hb _
  · split
    · omega
    · omega
theorem maskB_lt {K : Nat → Nat} {R n : Nat} (hK : ∀ j, K j < 256) (j : Nat) (hj : j < 16) : maskB K R n j < 256 := by
  have h1 : ∀ j, j < 16 → dblB (Gf.enc K R (fun _ => 0)) j < 256 := dblB_lt (fun j _ => Gf.enc_lt hK (fun _ _ => by show (0 : Nat) < 256; omega) j)
  unfold maskB
  split
  · exact dblB_lt h1 j hj
  · exact h1 j hj
end Go.Proofs.Ytbhlgcenfanicaa

/-
  The contract of impl.doubledBlock.
-/
namespace Go.Proofs.Ytbhlgcenfanicaa
open Go.ChangeShapes Go.WideShapes Go.ChangeAt Go.RowKit
theorem u8_or_two (a b : Nat) (hb : b < 256) : bits BinOp.or IntKind.u8 ((a : Int) * 2 % 256) ((b : Int) / 128) = ((a * 2 % 256 ||| b / 128 : Nat) : Int) := by
  have := u8_or_nat (a * 2 % 256) (b / 128) (by omega) (by omega)
  rw [← this]
  congr 1
theorem u8_dbl_last (a b : Nat) (hb : b < 256) : bits BinOp.xor IntKind.u8 ((a : Int) * 2 % 256) ((b : Int) / 128 * 135) = (((a * 2 % 256) ^^^ (if 128 ≤ b then 135 else 0) : Nat) : Int) := by
  have e1 : (a : Int) * 2 % 256 = ((a * 2 % 256 : Nat) : Int) := by omega
  have e2 : (b : Int) / 128 * 135 = ((if 128 ≤ b then 135 else 0 : Nat) : Int) := by split <;> omega
  rw [e1, e2]
  exact u8_xor_nat _ _ (Nat.mod_lt _ (by omega)) (by split <;> omega)
set_option maxRecDepth 100000 in
set_option maxHeartbeats 2000000 in
theorem doubled_any (f : Nat → Nat) (hf : ∀ i, i < 16 → f i < 256) (w : World) :
    Calls Try.prog 38 #[.agg (bA 16 f)] w fun e w' => e = .returned (.agg (bA 16 (dblB f))) ∧ Below w.heap.size w w' := by
  have HF : Hid (∀ i, i < 16 → f i < 256) := hf
  have R0 : Hid (Row8 ((w.alloc (.cells (bA 16 f) 39)).alloc (.cells z16 39)) w.heap.size 39 16 f) := (Row8.boxedAt rfl _ _ _).alloc _
  have Z0 : Hid (Row8 ((w.alloc (.cells (bA 16 f) 39)).alloc (.cells z16 39)) (w.heap.size + 1) 39 16 (fun _ => 0)) := Row8.z16At (by simp) _
  have B0 : Hid (Below w.heap.size w ((w.alloc (.cells (bA 16 f) 39)).alloc (.cells z16 39))) := ((Below.refl _ _).alloc (Nat.le_refl _) _).alloc (by simp) _
  clear hf
  unfold z16 at R0 Z0 B0
  go_enter Try.func38, Try.ntmps38
  go_upto_region 1 with fail
  generalize (w.alloc (.cells (bA 16 f) 39)).alloc (.cells #[.int .u8 0, .int .u8 0, .int .u8 0, .int .u8 0, .int .u8 0, .int .u8 0, .int .u8 0, .int .u8 0, .int .u8 0, .int .u8 0, .int .u8 0, .int .u8 0, .int .u8 0, .int .u8 0, .int .u8 0, .int .u8 0] 39) = wz at *
  generalize bA 16 f = FA at *
  have c0 := World.rowIs.cell R0.out (i := 0) (by omega)
  have l0 := HF.out 0 (by omega)
  obtain ⟨F0, hF0⟩ : ∃ F0, F0 = f 0 := ⟨_, rfl⟩
  rw [← hF0] at c0 l0
  have HF0 : Hid (F0 = f 0) := hF0
  clear hF0
  go_wp2_with fail
  go_loopw [4, 8] (fun _ i wr => ∃ k : Nat, k ≤ 15 ∧ i = .int .i64 k ∧ Row8 wr w.heap.size 39 16 (fun j => if j < k then dblB f j else f j) ∧ Row8 wr (w.heap.size + 1) 39 16 (fun _ => 0) ∧ Below w.heap.size w wr) (fun _ i _ => 15 - (intOf i).toNat)
  case atStart => exact ⟨0, by omega, rfl, R0.out.congr (fun j hj => by rw [if_neg (by omega)]), Z0.out, B0.out⟩
  case round =>
    clear R0 Z0 B0 c0
    obtain ⟨k, hk, rfl, hr, hz, hb⟩ := hrel
    have HR : Hid (Row8 wr w.heap.size 39 16 (fun j => if j < k then dblB f j else f j)) := hr
    have HZ : Hid (Row8 wr (w.heap.size + 1) 39 16 (fun _ => 0)) := hz
    have HB : Hid (Below w.heap.size w wr) := hb
    by_cases hlt : k < 15
    · have c1 := World.rowIs.cell hr (i := k) (by omega)
      simp only [Nat.lt_irrefl, if_false] at c1
      have c2 := World.rowIs.cell hr (i := k + 1) (by omega)
      simp only [show ¬ (k + 1 < k) from by omega, if_false] at c2
      have f1 := World.rowIs.frozen hr k
      have l1 := HF.out k (by omega)
      have l2 := HF.out (k + 1) (by omega)
      have x0 : (0 : Int) ≤ (k : Int) := by omega
      have x1 : (k : Int) < 15 := by omega
      have x2 : (k : Int) < 16 := by omega
      have x3 : (k : Int) + 1 < 16 := by omega
      have x4 : ((k : Int) + 1).toNat = k + 1 := by omega
      obtain ⟨V, hV⟩ : ∃ V, V = (f k * 2 % 256) ||| (f (k + 1) / 128) := ⟨_, rfl⟩
      have ex : bits .or .u8 ((f k : Int) * 2 % 256) ((f (k + 1) : Int) / 128) = ((V : Nat) : Int) := by rw [hV]; exact u8_or_two _ _ l2
      have HV : Hid (∀ j, j < 16 → (if j = k then V else if j < k then dblB f j else f j) = if j < k + 1 then dblB f j else f j) := fun j hj => by
        by_cases e : j = k
        · subst e
          rw [if_pos rfl, if_pos (by omega), hV]
          unfold dblB
          rw [if_neg (by omega)]
        · rw [if_neg e]
          by_cases e2 : j < k
          · rw [if_pos e2, if_pos (by omega)]
          · rw [if_neg e2, if_neg (by omega)]
      clear hV hr hz hb
      generalize f k = A1 at *
      generalize f (k + 1) = A2 at *
      go_wp2_with fail
      go_region
      go_wp2
      go_roundw
      case rel =>
        refine ⟨k + 1, by omega, by go_num, (HR.out.set k V).congr HV.out, HZ.out.other (by show w.heap.size + 1 ≠ w.heap.size; omega) _, ?_⟩
        exact (HB.out.setCell (by exact Nat.le_refl _) _).drew
      case measure => simp [intOf]; omega
    · have ek : k = 15 := by omega
      have hr : Row8 wr w.heap.size 39 16 (fun j => if j < 15 then dblB f j else f j) := by rw [← ek]; exact HR.out
      have x1 : ¬ (k : Int) < 15 := by omega
      have HR : Hid (Row8 wr w.heap.size 39 16 (fun j => if j < 15 then dblB f j else f j)) := hr
      clear ek
      have c1 := World.rowIs.cell hr (i := 15) (by omega)
      simp only [Nat.lt_irrefl, if_false] at c1
      have f1 := World.rowIs.frozen hr 15
      have l1 := HF.out 15 (by omega)
      obtain ⟨V, hV⟩ : ∃ V, V = (f 15 * 2 % 256) ^^^ (if 128 ≤ f 0 then 135 else 0) := ⟨_, rfl⟩
      have ex : bits .xor .u8 ((f 15 : Int) * 2 % 256) ((F0 : Int) / 128 * 135) = ((V : Nat) : Int) := by
        rw [hV, ← HF0.out]; exact u8_dbl_last _ _ l0
      have HRf : Hid (∀ w' : World, Row8 w' w.heap.size 39 16 (fun j => if j = 15 then V else if j < 15 then dblB f j else f j) → Row8 w' w.heap.size 39 16 (dblB f)) := fun w' h => h.congr (fun j hj => by
        by_cases e : j = 15
        · subst e; rw [if_pos rfl, hV]; unfold dblB; rw [if_pos rfl]
        · rw [if_neg e, if_pos (by omega)])
      have HR2 : Hid (Row8 (wr.setCell ⟨w.heap.size, 15, none⟩ (.int .u8 (V : Nat))) w.heap.size 39 16 (dblB f)) := HRf.out _ (HR.out.set 15 V)
      have HZ2 : Hid (Row8 (wr.setCell ⟨w.heap.size, 15, none⟩ (.int .u8 (V : Nat))) (w.heap.size + 1) 39 16 (fun _ => 0)) := HZ.out.other (by show w.heap.size + 1 ≠ w.heap.size; omega) _
      have HB2 : Hid (Below w.heap.size w (wr.setCell ⟨w.heap.size, 15, none⟩ (.int .u8 (V : Nat)))) := HB.out.setCell (by exact Nat.le_refl _) _
      clear hV hr hz hb HR HZ HB HRf
      generalize f 15 = A1 at *
      go_upto_region 8 with fail
      generalize wr.setCell ⟨w.heap.size, 15, none⟩ (.int .u8 (V : Nat)) = ws at *
      generalize hG : dblB f = G at *
      have HG : Hid (dblB f = G) := hG
      clear hG
      refine wp_region_lit ?_
      refine wpList_load_mid rfl 39 (.tmp 1) rfl w.heap.size 0 rfl (bv 16 G) _ HR2.out.range Try.underlying39 rfl (by rw [bv_length]; exact Try.sizeSt) ?_
      refine wpList_store_mid rfl 39 (.tmp 2) (.tmp 31) rfl (w.heap.size + 1) 0 (bA 16 G) rfl rfl (by rw [bA_size]; exact HZ2.out.there) (by rw [bA_size]; exact Try.sizeSt) (bA_one _ _) ?_
      rw [bA_toList]
      have L : Hid ((loadVar 39 ⟨w.heap.size + 1, 0, none⟩).run Try.prog (ws.setCells (w.heap.size + 1) 0 (bv 16 G)) = .ok (.agg (bA 16 G)) (ws.setCells (w.heap.size + 1) 0 (bv 16 G))) := (HZ2.out.stored _).load Try.underlying39 rfl Try.sizeSt
      have B : Hid (Below w.heap.size w (ws.setCells (w.heap.size + 1) 0 (bv 16 G))) := below_setCells (by omega) _ _ _ HB2.out
      have eA : (bv 16 G).toArray = bA 16 G := rfl
      rw [eA]
      generalize ws.setCells (w.heap.size + 1) 0 (bv 16 G) = wf at *
      generalize hA : bA 16 G = AA at *
      have HA : Hid (bA 16 G = AA) := hA
      clear hA eA
      go_wp2
      rw [HG.out, HA.out]
      exact bodyPost_ret (v := .agg AA) (results_cell_one (b := w.heap.size + 1) (o := 0) Try.results38 _ _ _ rfl L.out) rfl ⟨rfl, B.out⟩
end Go.Proofs.Ytbhlgcenfanicaa

/-
  The contract of impl.lastBlock.
-/
namespace Go.Proofs.Ytbhlgcenfanicaa
open Go.ChangeShapes Go.WideShapes Go.ChangeAt Go.RowKit
/-- r bytes filled up to a block. -/
def fillB (r : Nat) (f : Nat → Nat) (j : Nat) : Nat := if j < r then f j else if j = r then 128 else 0
theorem fillB_lt {r : Nat} {f : Nat → Nat} (hf : ∀ i, f i < 256) (j : Nat) : fillB r f j < 256 := by
  unfold fillB
  split
  · exact hf j
  · split <;> omega
set_option maxRecDepth 100000 in
set_option maxHeartbeats 2000000 in
/-- The end of lastBlock: both states summed into the result. -/
theorem lastBlock_any (b o r c : Nat) (f g : Nat → Nat) (hf : ∀ i, f i < 256) (hg : ∀ i, i < 16 → g i < 256) (hr : r ≤ 16) (w : World) (h : Code8 w (some ⟨b, o, none⟩) r f) :
    Calls Try.prog 39 #[.slice (some ⟨b, o, none⟩) r c, .agg (bA 16 g)] w fun e w' => e = .returned (.agg (bA 16 (fun j => fillB r f j ^^^ (if r < 16 then dblB g else g) j))) ∧ Below w.heap.size w w' := by
  have DB : Hid (∀ w : World, Calls Try.prog 38 #[.agg (bA 16 g)] w fun e w' => e = .returned (.agg (bA 16 (dblB g))) ∧ Below w.heap.size w w') := doubled_any g hg
  have AD : Hid (∀ w : World, Calls Try.prog 37 #[.agg (bA 16 (fillB r f)), .agg (bA 16 (if r < 16 then dblB g else g))] w fun e w' => e = .returned (.agg (bA 16 (fun j => fillB r f j ^^^ (if r < 16 then dblB g else g) j))) ∧ Below w.heap.size w w') := added_any _ _ (fun j _ => fillB_lt hf j) (fun j hj => by
    split
    · exact dblB_lt hg j hj
    · exact hg j hj)
  have W0 : ((w.alloc (.cells (bA 16 g) 39)).alloc (.cells z16 39)).alloc (.cells z16 39) = ((w.alloc (.cells (bA 16 g) 39)).alloc (.cells z16 39)).alloc (.cells z16 39) := rfl
  clear W0
  have M0 : Hid (Row8 (((w.alloc (.cells (bA 16 g) 39)).alloc (.cells z16 39)).alloc (.cells z16 39)) w.heap.size 39 16 g) := ((Row8.boxedAt rfl _ _ _).alloc _).alloc _
  have E0 : Hid (Row8 (((w.alloc (.cells (bA 16 g) 39)).alloc (.cells z16 39)).alloc (.cells z16 39)) (w.heap.size + 1) 39 16 (fun _ => 0)) := (Row8.z16At (by simp) _).alloc _
  have S0 : Hid (Row8 (((w.alloc (.cells (bA 16 g) 39)).alloc (.cells z16 39)).alloc (.cells z16 39)) (w.heap.size + 1 + 1) 39 16 (fun _ => 0)) := Row8.z16At (by simp) _
  have B0 : Hid (Below w.heap.size w (((w.alloc (.cells (bA 16 g) 39)).alloc (.cells z16 39)).alloc (.cells z16 39))) := (((Below.refl _ _).alloc (Nat.le_refl _) _).alloc (by simp) _).alloc (by simp; omega) _
  have HC0 : Hid (Code8 (((w.alloc (.cells (bA 16 g) 39)).alloc (.cells z16 39)).alloc (.cells z16 39)) (some ⟨b, o, none⟩) r f) := h.below (Below.mono B0.out (Nat.le_refl _))
  clear h hf hg
  unfold z16 at M0 E0 S0 B0 HC0
  go_enter Try.func39, Try.ntmps39
  go_upto_region 2 with fail
  generalize ((w.alloc (.cells (bA 16 g) 39)).alloc (.cells #[.int .u8 0, .int .u8 0, .int .u8 0, .int .u8 0, .int .u8 0, .int .u8 0, .int .u8 0, .int .u8 0, .int .u8 0, .int .u8 0, .int .u8 0, .int .u8 0, .int .u8 0, .int .u8 0, .int .u8 0, .int .u8 0] 39)).alloc (.cells #[.int .u8 0, .int .u8 0, .int .u8 0, .int .u8 0, .int .u8 0, .int .u8 0, .int .u8 0, .int .u8 0, .int .u8 0, .int .u8 0, .int .u8 0, .int .u8 0, .int .u8 0, .int .u8 0, .int .u8 0, .int .u8 0] 39) = wz at *
  have CP : ∀ ty, (Builtin.copy_ #[22, 22] ty #[.slice (some ⟨w.heap.size + 1 + 1, 0, none⟩) 16 16, .slice (some ⟨b, o, none⟩) r c]).run Try.prog wz = .ok (goInt r) (wz.setCells (w.heap.size + 1 + 1) 0 (bv r f)) := fun ty => by
    have := run_copy_cells (P := Try.prog) wz 22 22 ty 5 (w.heap.size + 1 + 1) 0 16 16 ⟨b, o, none⟩ r c (bv r f) Try.underlying22 size8 (by rw [bv_length]; show r = min r 16; omega) (bv_news HC0.out) (fun j hj => by rw [bv_length] at hj; exact (S0.out.there j (by omega)).1) (fun j hj => by rw [bv_length] at hj; exact (S0.out.there j (by omega)).2) (bv_one _ _)
    rw [bv_length] at this
    exact this
  have X1 : OnlyB (w.heap.size + 1 + 1) wz (wz.setCells (w.heap.size + 1 + 1) 0 (bv r f)) := onlyB_setCells _ _ _ (OnlyB.refl _ _)
  have M1 : Hid (Row8 (wz.setCells (w.heap.size + 1 + 1) 0 (bv r f)) w.heap.size 39 16 g) := M0.out.onlyB X1 (by omega)
  have E1 : Hid (Row8 (wz.setCells (w.heap.size + 1 + 1) 0 (bv r f)) (w.heap.size + 1) 39 16 (fun _ => 0)) := E0.out.onlyB X1 (by omega)
  have S1 : Hid (Row8 (wz.setCells (w.heap.size + 1 + 1) 0 (bv r f)) (w.heap.size + 1 + 1) 39 16 (fun j => if j < r then f j else 0)) := (rowIs_setCells (bv r f) 0 wz _ S0.out).congr (fun i hi => by
    rw [bv_length]
    show _ = Value.int .u8 ((if i < r then f i else 0 : Nat) : Int)
    by_cases h : i < r
    · rw [if_pos (by omega), Nat.sub_zero, List.getD_eq_getElem?_getD, bv_at h, if_pos h]; rfl
    · rw [if_neg (by omega), if_neg h])
  have B1 : Hid (Below w.heap.size w (wz.setCells (w.heap.size + 1 + 1) 0 (bv r f))) := B0.out.trans (X1.toBelow (by omega) B0.out.size)
  generalize wz.setCells (w.heap.size + 1 + 1) 0 (bv r f) = w1 at *
  clear X1 M0 E0 S0 B0 HC0
  generalize hG : bA 16 g = GA at *
  have HG : Hid (bA 16 g = GA) := hG
  clear hG
  go_upto_region 3 with fail
  clear CP
  generalize hLF : fillB r f = LF at *
  have HLF : Hid (fillB r f = LF) := hLF
  by_cases h16 : r < 16
  · have xr : (r : Int) < 16 := by omega
    have x0 : (0 : Int) ≤ (r : Int) := by omega
    have c1 := World.rowIs.cell S1.out (i := r) h16
    have f1 := World.rowIs.frozen S1.out r
    have S2 : Hid (Row8 (w1.setCell ⟨w.heap.size + 1 + 1, r, none⟩ (.int .u8 128)) (w.heap.size + 1 + 1) 39 16 LF) := (Row8.set S1.out r 128).congr (fun j hj => by
      rw [← hLF]; unfold fillB
      by_cases e : j = r
      · subst e; rw [if_pos rfl, if_neg (by omega), if_pos rfl]
      · rw [if_neg e]
        by_cases e2 : j < r
        · rw [if_pos e2, if_pos e2]
        · rw [if_neg e2, if_neg e2, if_neg e])
    have M2 : Hid (Row8 (w1.setCell ⟨w.heap.size + 1 + 1, r, none⟩ (.int .u8 128)) w.heap.size 39 16 g) := M1.out.other (by show w.heap.size ≠ w.heap.size + 1 + 1; omega) _
    have E2 : Hid (Row8 (w1.setCell ⟨w.heap.size + 1 + 1, r, none⟩ (.int .u8 128)) (w.heap.size + 1) 39 16 (fun _ => 0)) := E1.out.other (by show w.heap.size + 1 ≠ w.heap.size + 1 + 1; omega) _
    have B2 : Hid (Below w.heap.size w (w1.setCell ⟨w.heap.size + 1 + 1, r, none⟩ (.int .u8 128))) := B1.out.setCell (by show w.heap.size ≤ w.heap.size + 1 + 1; omega) _
    rw [show (if r < 16 then dblB g else g) = dblB g from if_pos h16] at AD
    generalize hMF : dblB g = MF at *
    have HMF : Hid (dblB g = MF) := hMF
    clear hMF
    clear hLF S1 M1 E1 B1
    go_upto_region 5 with fail
    generalize w1.setCell ⟨w.heap.size + 1 + 1, r, none⟩ (.int .u8 128) = w2 at *
    clear c1 f1
    have eG : (bv 16 g).toArray = GA := HG.out
    have SA : Hid ((Try.prog.info? 39).map (·.size) = some (bA 16 MF).size) := by rw [bA_size]; exact Try.sizeSt
    have OA : Hid ((bA 16 MF).all (·.oneCell') = true) := bA_one _ _
    have TL : Hid ((bA 16 MF).toList = bv 16 MF) := bA_toList _ _
    have BS : Hid ((bA 16 MF).size = 16) := bA_size _ _
    generalize hMA : bA 16 MF = MA at *
    have HMA : Hid (bA 16 MF = MA) := hMA
    clear hMA
    go_wp2_with (refine wpList_load_mid rfl 39 (.tmp 3) rfl w.heap.size 0 rfl (bv 16 g) _ M2.out.range Try.underlying39 rfl (by rw [bv_length]; exact Try.sizeSt) ?_)
    clear eG
    refine (DB.out _).mono ?_
    rintro e w3 ⟨rfl, hb3⟩
    have S3 : Hid (Row8 w3 (w.heap.size + 1 + 1) 39 16 LF) := S2.out.below hb3
    have M3 : Hid (Row8 w3 w.heap.size 39 16 g) := M2.out.below hb3
    have E3 : Hid (Row8 w3 (w.heap.size + 1) 39 16 (fun _ => 0)) := E2.out.below hb3
    have B3 : Hid (Below w.heap.size w w3) := B2.out.trans (hb3.mono B2.out.size)
    have X4 : OnlyB w.heap.size w3 (w3.setCells w.heap.size 0 (bv 16 MF)) := onlyB_setCells _ _ _ (OnlyB.refl _ _)
    have SF : Hid (Row8 (w3.setCells w.heap.size 0 (bv 16 MF)) (w.heap.size + 1 + 1) 39 16 LF) := S3.out.onlyB X4 (by omega)
    have EF : Hid (Row8 (w3.setCells w.heap.size 0 (bv 16 MF)) (w.heap.size + 1) 39 16 (fun _ => 0)) := E3.out.onlyB X4 (by omega)
    have MFr : Hid (Row8 (w3.setCells w.heap.size 0 (bv 16 MF)) w.heap.size 39 16 MF) := M3.out.stored _
    have BF : Hid (Below w.heap.size w (w3.setCells w.heap.size 0 (bv 16 MF))) := B3.out.trans (X4.toBelow (Nat.le_refl _) B3.out.size)
    clear hb3 S2 M2 E2 B2 DB
    go_upto_region 6 with (refine wpList_store_mid rfl 39 (.tmp 3) (.tmp 16) rfl w.heap.size 0 MA rfl rfl (by rw [BS.out]; exact M3.out.there) SA.out OA.out ?_)
    rw [TL.out]
    generalize w3.setCells w.heap.size 0 (bv 16 MF) = w4 at *
    clear S3 M3 E3 B3 X4 SA OA TL BS
    generalize hLA : bA 16 LF = LA at *
    have HLA : Hid (bA 16 LF = LA) := hLA
    clear hLA
    have SAf : Hid ((Try.prog.info? 39).map (·.size) = some (bA 16 (fun j => LF j ^^^ MF j)).size) := by rw [bA_size]; exact Try.sizeSt
    have OAf : Hid ((bA 16 (fun j => LF j ^^^ MF j)).all (·.oneCell') = true) := bA_one _ _
    have TLf : Hid ((bA 16 (fun j => LF j ^^^ MF j)).toList = bv 16 (fun j => LF j ^^^ MF j)) := bA_toList _ _
    have BSf : Hid ((bA 16 (fun j => LF j ^^^ MF j)).size = 16) := bA_size _ _
    have eL : (bv 16 LF).toArray = LA := HLA.out
    have eM : (bv 16 MF).toArray = MA := HMA.out
    generalize hQ : bA 16 (fun j => LF j ^^^ MF j) = Q at *
    have HQ : Hid (bA 16 (fun j => LF j ^^^ MF j) = Q) := hQ
    clear hQ
    go_wp2_with (first
      | (refine wpList_load_mid rfl 39 (.tmp 5) rfl (w.heap.size + 1 + 1) 0 rfl (bv 16 LF) _ SF.out.range Try.underlying39 rfl (by rw [bv_length]; exact Try.sizeSt) ?_)
      | (refine wpList_load_mid rfl 39 (.tmp 3) rfl w.heap.size 0 rfl (bv 16 MF) _ MFr.out.range Try.underlying39 rfl (by rw [bv_length]; exact Try.sizeSt) ?_))
    clear eL eM
    refine (AD.out _).mono ?_
    rintro e w9 ⟨rfl, hb9⟩
    have E9 : Hid (Row8 w9 (w.heap.size + 1) 39 16 (fun _ => 0)) := EF.out.below hb9
    have B9 : Hid (Below w.heap.size w w9) := BF.out.trans (hb9.mono BF.out.size)
    have L9 : Hid ((loadVar 39 ⟨w.heap.size + 1, 0, none⟩).run Try.prog (w9.setCells (w.heap.size + 1) 0 (bv 16 (fun j => LF j ^^^ MF j))) = .ok (.agg Q) (w9.setCells (w.heap.size + 1) 0 (bv 16 (fun j => LF j ^^^ MF j)))) := by
      have := (E9.out.stored (fun j => LF j ^^^ MF j)).load Try.underlying39 rfl Try.sizeSt
      rwa [HQ.out] at this
    have Bf : Hid (Below w.heap.size w (w9.setCells (w.heap.size + 1) 0 (bv 16 (fun j => LF j ^^^ MF j)))) := below_setCells (by omega) _ _ _ B9.out
    clear hb9 BF EF SF MFr
    go_wp2_with (refine wpList_store_mid rfl 39 (.tmp 4) (.tmp 19) rfl (w.heap.size + 1) 0 Q rfl rfl (by rw [BSf.out]; exact E9.out.there) SAf.out OAf.out ?_; rw [TLf.out]; generalize w9.setCells (w.heap.size + 1) 0 (bv 16 (fun j => LF j ^^^ MF j)) = wf at *)
    rw [HMF.out, HLF.out, HQ.out]
    exact bodyPost_ret (v := .agg Q) (results_cell_one (b := w.heap.size + 1) (o := 0) Try.results39 _ _ _ rfl L9.out) rfl ⟨rfl, Bf.out⟩
  · have xr : ¬ (r : Int) < 16 := by omega
    have SF : Hid (Row8 w1 (w.heap.size + 1 + 1) 39 16 LF) := S1.out.congr (fun j hj => by rw [← hLF]; unfold fillB; rw [if_pos (by omega), if_pos (by omega)])
    rw [show (if r < 16 then dblB g else g) = g from if_neg h16] at AD
    obtain ⟨MF, hMF⟩ : ∃ MF, MF = g := ⟨_, rfl⟩
    have HMF : Hid (g = MF) := hMF.symm
    have EF : Hid (Row8 w1 (w.heap.size + 1) 39 16 (fun _ => 0)) := E1.out
    have MFr : Hid (Row8 w1 w.heap.size 39 16 MF) := by show Row8 w1 _ _ 16 MF; rw [hMF]; exact M1.out
    have BF : Hid (Below w.heap.size w w1) := B1.out
    rw [← hMF] at AD
    clear hLF S1 M1 E1 B1 DB HG hMF
    generalize hMA : bA 16 MF = MA at *
    have HMA : Hid (bA 16 MF = MA) := hMA
    clear hMA
    generalize hLA : bA 16 LF = LA at *
    have HLA : Hid (bA 16 LF = LA) := hLA
    clear hLA
    have SAf : Hid ((Try.prog.info? 39).map (·.size) = some (bA 16 (fun j => LF j ^^^ MF j)).size) := by rw [bA_size]; exact Try.sizeSt
    have OAf : Hid ((bA 16 (fun j => LF j ^^^ MF j)).all (·.oneCell') = true) := bA_one _ _
    have TLf : Hid ((bA 16 (fun j => LF j ^^^ MF j)).toList = bv 16 (fun j => LF j ^^^ MF j)) := bA_toList _ _
    have BSf : Hid ((bA 16 (fun j => LF j ^^^ MF j)).size = 16) := bA_size _ _
    have eL : (bv 16 LF).toArray = LA := HLA.out
    have eM : (bv 16 MF).toArray = MA := HMA.out
    generalize hQ : bA 16 (fun j => LF j ^^^ MF j) = Q at *
    have HQ : Hid (bA 16 (fun j => LF j ^^^ MF j) = Q) := hQ
    clear hQ
    go_wp2_with (first
      | (refine wpList_load_mid rfl 39 (.tmp 5) rfl (w.heap.size + 1 + 1) 0 rfl (bv 16 LF) _ SF.out.range Try.underlying39 rfl (by rw [bv_length]; exact Try.sizeSt) ?_)
      | (refine wpList_load_mid rfl 39 (.tmp 3) rfl w.heap.size 0 rfl (bv 16 MF) _ MFr.out.range Try.underlying39 rfl (by rw [bv_length]; exact Try.sizeSt) ?_))
    clear eL eM
    refine (AD.out _).mono ?_
    rintro e w9 ⟨rfl, hb9⟩
    have E9 : Hid (Row8 w9 (w.heap.size + 1) 39 16 (fun _ => 0)) := EF.out.below hb9
    have B9 : Hid (Below w.heap.size w w9) := BF.out.trans (hb9.mono BF.out.size)
    have L9 : Hid ((loadVar 39 ⟨w.heap.size + 1, 0, none⟩).run Try.prog (w9.setCells (w.heap.size + 1) 0 (bv 16 (fun j => LF j ^^^ MF j))) = .ok (.agg Q) (w9.setCells (w.heap.size + 1) 0 (bv 16 (fun j => LF j ^^^ MF j)))) := by
      have := (E9.out.stored (fun j => LF j ^^^ MF j)).load Try.underlying39 rfl Try.sizeSt
      rwa [HQ.out] at this
    have Bf : Hid (Below w.heap.size w (w9.setCells (w.heap.size + 1) 0 (bv 16 (fun j => LF j ^^^ MF j)))) := below_setCells (by omega) _ _ _ B9.out
    clear hb9 BF EF SF MFr
    go_wp2_with (refine wpList_store_mid rfl 39 (.tmp 4) (.tmp 19) rfl (w.heap.size + 1) 0 Q rfl rfl (by rw [BSf.out]; exact E9.out.there) SAf.out OAf.out ?_; rw [TLf.out]; generalize w9.setCells (w.heap.size + 1) 0 (bv 16 (fun j => LF j ^^^ MF j)) = wf at *)
    rw [HMF.out, HLF.out, HQ.out]
    exact bodyPost_ret (v := .agg Q) (results_cell_one (b := w.heap.size + 1) (o := 0) Try.results39 _ _ _ rfl L9.out) rfl ⟨rfl, Bf.out⟩
end Go.Proofs.Ytbhlgcenfanicaa

/-
  The contract of impl.Cmac.
-/
namespace Go.Proofs.Ytbhlgcenfanicaa
open Go.ChangeShapes Go.WideShapes Go.ChangeAt Go.RowKit
/-- What Cmac's steps keep. -/
def CMS (w0 : World) (Cb m sb kb : Nat) (K G D : Nat → Nat) (w' : World) : Prop := Row8 w' sb 39 16 G ∧ Row8 w' kb 39 16 D ∧ CiphAt w' Cb m K ∧ Below w0.heap.size w0 w'
theorem CMS.below {w0 w' w'' : World} {Cb m sb kb : Nat} {K G D : Nat → Nat} (h : CMS w0 Cb m sb kb K G D w') (hb : Below w'.heap.size w' w'') : CMS w0 Cb m sb kb K G D w'' :=
  ⟨h.1.below hb, h.2.1.below hb, h.2.2.1.below hb, h.2.2.2.trans (hb.mono h.2.2.2.size)⟩
theorem CMS.drew {w0 w' : World} {Cb m sb kb : Nat} {K G D : Nat → Nat} (h : CMS w0 Cb m sb kb K G D w') : CMS w0 Cb m sb kb K G D w'.drew := ⟨h.1, h.2.1, h.2.2.1, h.2.2.2.drew⟩
theorem CMS.store {w0 w' : World} {Cb m sb kb : Nat} {K G D : Nat → Nat} (h : CMS w0 Cb m sb kb K G D w') (h1 : Cb ≠ sb) (h2 : w0.heap.size ≤ sb) (G1 : Nat → Nat) :
    (CiphAt (w'.setCells sb 0 (bv 16 G1)) Cb m K ∧ Below w0.heap.size w0 (w'.setCells sb 0 (bv 16 G1))) ∧ Row8 (w'.setCells sb 0 (bv 16 G1)) sb 39 16 G1 := by
  have X1 : OnlyB sb w' (w'.setCells sb 0 (bv 16 G1)) := onlyB_setCells _ _ _ (OnlyB.refl _ _)
  exact ⟨⟨h.2.2.1.onlyBe X1 (by omega), h.2.2.2.trans (X1.toBelow h2 h.2.2.2.size)⟩, h.1.stored G1⟩
theorem CMS.store2 {w0 w' : World} {Cb m sb kb : Nat} {K G D : Nat → Nat} (h : CMS w0 Cb m sb kb K G D w') (h1 : Cb ≠ sb) (h3 : kb ≠ sb) (h2 : w0.heap.size ≤ sb) (G1 : Nat → Nat) :
    CMS w0 Cb m sb kb K G1 D (w'.setCells sb 0 (bv 16 G1)) := by
  have X1 : OnlyB sb w' (w'.setCells sb 0 (bv 16 G1)) := onlyB_setCells _ _ _ (OnlyB.refl _ _)
  exact ⟨h.1.stored G1, h.2.1.onlyB X1 (by omega), h.2.2.1.onlyBe X1 (by omega), h.2.2.2.trans (X1.toBelow h2 h.2.2.2.size)⟩
theorem implCm_no (k : ByteArray) (a : Option Addr) (n c : Nat) (code : Int) (hc : code ≠ 0) (hf : ∀ w : World, Calls Try.prog 24 #[.string k, .string ⟨#[]⟩, .int .i64 0, .int .i64 (n : Int), .int .i64 65536] w fun e w' => e = .returned (.int .i64 code) ∧ w = w') (w : World) :
    Calls Try.prog 14 #[.string k, .slice a n c] w fun e w' => e = .returned (.tuple #[.string ⟨#[]⟩, .int .i64 code]) ∧ w = w' := by
  have HF : Hid (∀ w : World, Calls Try.prog 24 #[.string k, .string ⟨#[]⟩, .int .i64 0, .int .i64 (n : Int), .int .i64 65536] w fun e w' => e = .returned (.int .i64 code) ∧ w = w') := hf
  have e1 : (code != 0) = true := by rw [bne_iff_ne]; exact hc
  clear hf
  go_enter Try.func14, Try.ntmps14
  go_wp2
  go_step3
  go_wp2_with (go_at_call 24; refine (HF.out _).mono ?_; rintro e w' ⟨rfl, rfl⟩)
  rw [Exit.noGoto_ret]
  go_ret2
  exact ⟨rfl, rfl⟩
/-- What holds where a block more begins: i blocks are done. -/
def CmJ (w0 : World) (Cb m sb n : Nat) (K c : Nat → Nat) (b o : Nat) (a' : Act) (w' : World) : Prop := ∃ (i L cr : Nat) (u0 u1 u2 u3 u4 u5 u6 u10 u11 u12 u13 u14 u15 u16 u17 u18 u19 u20 u21 u22 u23 u24 u25 u26 u27 u28 u29 u30 u31 u32 u33 u34 u35 u36 u37 u38 u39 u40 u41 u42 u43 : Value), a' = { tmps := #[u0, u1, u2, u3, u4, u5, u6, .pointer (some ⟨Cb, 0, none⟩), .pointer (some ⟨sb, 0, none⟩), .slice (some ⟨b, o + 16 * i, none⟩) L cr, u10, u11, u12, u13, u14, u15, u16, u17, u18, u19, u20, u21, u22, u23, u24, u25, u26, u27, u28, u29, u30, u31, u32, u33, u34, u35, u36, u37, u38, u39, u40, u41, u42, u43], defers := [] } ∧
  L = n - 16 * i ∧ (i = 0 ∨ 16 * i < n) ∧ L ≤ cr ∧ Row8 w' sb 39 16 (cbcB K m (fun _ => 0) c i) ∧ CiphAt w' Cb m K ∧ Below w0.heap.size w0 w'
set_option maxRecDepth 100000 in
set_option maxHeartbeats 4000000 in
theorem implCm_yes (k : ByteArray) (kn b o n cp : Nat) (c : Nat → Nat) (hkn : kn = 4 ∨ kn = 8) (hk : k.size = kn * 4) (hn : n ≤ 65536) (hncp : n ≤ cp) (hc : ∀ i, c i < 256) (w : World) (h : Code8 w (some ⟨b, o, none⟩) n c) :
    Calls Try.prog 14 #[.string k, .slice (some ⟨b, o, none⟩) n cp] w fun e w' => e = .returned (.tuple #[.string (kstr (cmacB (Gf.ws (strB k) kn (3 * kn + 28)) (kn + 6) n c) 0 16), .int .i64 0]) ∧ Below w.heap.size w w' := by
  have MF : Hid (∀ w : World, Calls Try.prog 24 #[.string k, .string ⟨#[]⟩, .int .i64 0, .int .i64 (n : Int), .int .i64 65536] w fun e w' => e = .returned (.int .i64 0) ∧ w = w') := mf_ok k ⟨#[]⟩ 0 n 65536 (by omega) (by omega) rfl (by omega)
  have NC : Hid (∀ w : World, Calls Try.prog 25 #[.string k] w fun e w' => e = .returned (.agg (cA (kn + 6) (Gf.ws (strB k) kn (3 * kn + 28)))) ∧ Below w.heap.size w w') := newCipher_any k kn hkn hk
  have LW : Hid (∀ j, Gf.ws (strB k) kn (3 * kn + 28) j < 256) := Gf.ws_lt (strB_lt k) _
  generalize Gf.ws (strB k) kn (3 * kn + 28) = W at *
  obtain ⟨m, hm⟩ : ∃ m, m = kn + 6 := ⟨_, rfl⟩
  have hm1 : 1 ≤ m := by omega
  have hm2 : m ≤ 14 := by omega
  rw [← hm] at NC ⊢
  have LC : Hid (∀ j, c j < 256) := hc
  have LB : Hid (∀ i j, cbcB W m (fun _ => 0) c i j < 256) := fun i j => cbcB_lt LW.out (fun _ => by show (0 : Nat) < 256; omega) hc i j
  obtain ⟨TAG, hTAG⟩ : ∃ T, T = cmacB W m n c := ⟨_, rfl⟩
  rw [← hTAG]
  have HTAG : Hid (TAG = cmacB W m n c) := hTAG
  obtain ⟨Z, z0, hZ, -⟩ := Try.zeroC
  have S2 : Hid ((Try.prog.info? 44).map (·.size) = some (cA m W).size) := by rw [cA_size]; exact Try.sizeC
  have O2 : Hid ((cA m W).all (·.oneCell') = true) := cA_one _ _
  have hLen : (cA m W).toList.length = 769 := cA_len _ _
  have hAt : Hid (∀ k, k < 769 → (cA m W).toList[k]? = some (cf m W k)) := fun k hk => by
    have := cA_at (n := m) (K := W) hk
    rwa [← Array.getElem?_toList] at this
  have HSZ : Hid ((cA m W).size = 769) := cA_size _ _
  generalize cA m W = CA at *
  have HC : Hid (Code8 w (some ⟨b, o, none⟩) n c) := h
  clear h hc hkn hk hm hTAG
  go_enter Try.func14, Try.ntmps14
  go_wp2
  refine wp_scope_label 0 (fun a' w' => ∃ Cb sb, (Cb < sb ∧ w.heap.size ≤ Cb) ∧ CmJ w Cb m sb n W c b o a' w') (fun a' _ => lenOf (a'.tmps.getD 9 undef)) rfl ?_ ?_
  · rintro a' wr ⟨Cb, sb, ⟨hCs, hwC⟩, i, L, cr, u0, u1, u2, u3, u4, u5, u6, u10, u11, u12, u13, u14, u15, u16, u17, u18, u19, u20, u21, u22, u23, u24, u25, u26, u27, u28, u29, u30, u31, u32, u33, u34, u35, u36, u37, u38, u39, u40, u41, u42, u43, rfl, hL, hi, hcr, hr, hC, hB⟩
    have HR : Hid (Row8 wr sb 39 16 (cbcB W m (fun _ => 0) c i)) := hr
    have CC : Hid (CiphAt wr Cb m W) := hC
    have HB : Hid (Below w.heap.size w wr) := hB
    clear hr hC hB
    clear NC MF S2 O2 hLen hAt HSZ z0 hZ
    by_cases hlt : 16 < L
    · have hb : b < w.heap.size := HC.out.lt _ (by omega) rfl
      have eL : (16 : Int) < (L : Int) := by omega
      have xc : (16 : Int) ≤ (cr : Int) := by omega
      have xL : (16 : Int) ≤ (L : Int) := by omega
      have ncr : ¬ cr = 16 := by omega
      obtain ⟨X, hX⟩ : ∃ X : Nat → Nat, X = fun j => c (16 * i + j) := ⟨_, rfl⟩
      have lX : ∀ j, X j < 256 := fun j => by rw [hX]; exact LC.out _
      obtain ⟨S, hS⟩ : ∃ S, S = kstr X 0 16 := ⟨_, rfl⟩
      have hcv : Hid (∀ wq, Below w.heap.size w wq → (convert 22 9 (.slice (some ⟨b, o + 16 * i, none⟩) 16 16)).run Try.prog wq = .ok (.string S) wq) := fun wq hq => by
        rw [hS]
        refine kstr_of_code (code8_of (fun j hj => ?_))
        rw [hq.cell (p := ⟨b, o + 16 * i + j, none⟩) hb, hX, Nat.add_assoc]
        exact HC.out.at (by omega)
      have SO : Hid (∀ w : World, Calls Try.prog 33 #[.string S] w fun e w' => e = .returned (.agg (bA 16 X)) ∧ Below w.heap.size w w') := fun w => by
        have := stateOf_le S (by rw [hS, kstr_size]; exact Nat.le_refl _) w
        rwa [hS, bA_same (same_strB (fun j _ => lX j)), ← hS] at this
      have AD : Hid (∀ w : World, Calls Try.prog 37 #[.agg (bv 16 (cbcB W m (fun _ => 0) c i)).toArray, .agg (bA 16 X)] w fun e w' => e = .returned (.agg (bA 16 (fun j => cbcB W m (fun _ => 0) c i j ^^^ X j))) ∧ Below w.heap.size w w') := added_any _ _ (fun j _ => LB.out i j) (fun j _ => lX j)
      have EN : Hid (∀ w : World, CiphAt w Cb m W → Calls Try.prog 28 #[.pointer (some ⟨Cb, 0, none⟩), .agg (bA 16 (fun j => cbcB W m (fun _ => 0) c i j ^^^ X j))] w fun e w' => e = .returned (.agg (bA 16 (cbcB W m (fun _ => 0) c (i + 1)))) ∧ Below w.heap.size w w') := fun w h => by
        have := encrypt_any Cb m W (fun j => cbcB W m (fun _ => 0) c i j ^^^ X j) (fun j _ => Gf.xor_lt (LB.out i j) (lX j)) LW.out hm1 hm2 w h
        rw [hX] at this ⊢
        exact this
      have HL : Hid (L - 16 = n - 16 * (i + 1)) := by show L - 16 = _; omega
      generalize hG1 : cbcB W m (fun _ => 0) c (i + 1) = G1 at *
      have HG1 : Hid (cbcB W m (fun _ => 0) c (i + 1) = G1) := hG1
      generalize cbcB W m (fun _ => 0) c i = G at *
      generalize bA 16 (fun j => G j ^^^ X j) = GX at *
      generalize bA 16 X = XA at *
      clear hX hS lX hG1 hL
      go_upto_region 8 with fail
      have H : CMS w Cb m sb sb W G G wr.drew := ⟨HR.out, HR.out, CC.out, HB.out.drew⟩
      refine wp_region_noPanic ?_
      refine wp_region_held_drew (S := fun w' => CiphAt w' Cb m W ∧ Below w.heap.size w w') (by kernel_rfl) H.2.2 (fun _ => ?_)
      refine wpAnyH_take (i := 1) (v := .slice (some ⟨b, o + 16 * i, none⟩) L cr) rfl (by kernel_rfl) (by kernel_rfl) (by kernel_rfl) (fun _ _ _ h => h) (Or.inl ⟨by rfl, ?_⟩) H.2.2 ?_
      · intro w hSw; go_simp
      change wpAnyH _ _ _ _ _ _ _ { tmps := #[_, _, _, _, _, _, _, _, _, _, _, _, _, _, _, _, _, _, _, _, _, _, _, _, _, _, _, _, _, _, _, _, _, _, _, _, _, _, _, _, _, _, _, _], defers := [] } _
      refine wpAnyH_take (i := 2) (v := .slice (some ⟨b, o + 16 * i, none⟩) 16 16) rfl (by kernel_rfl) (by kernel_rfl) (by kernel_rfl) (fun _ _ _ h => h) (Or.inl ⟨by rfl, ?_⟩) H.2.2 ?_
      · intro w hSw; go_simp
      change wpAnyH _ _ _ _ _ _ _ { tmps := #[_, _, _, _, _, _, _, _, _, _, _, _, _, _, _, _, _, _, _, _, _, _, _, _, _, _, _, _, _, _, _, _, _, _, _, _, _, _, _, _, _, _, _, _], defers := [] } _
      refine wpAnyH_take (i := 3) (v := .string S) rfl (by kernel_rfl) (by kernel_rfl) (by kernel_rfl) (fun _ _ _ h => h) (Or.inl ⟨by rfl, ?_⟩) H.2.2 ?_
      · intro wq hSw; have hq := hcv.out wq hSw.2; go_simp
      change wpAnyH _ _ _ _ _ _ _ { tmps := #[_, _, _, _, _, _, _, _, _, _, _, _, _, _, _, _, _, _, _, _, _, _, _, _, _, _, _, _, _, _, _, _, _, _, _, _, _, _, _, _, _, _, _, _], defers := [] } _
      refine wpAnyH_ready (rs := [0, 4]) (by kernel_rfl) (by simp) ?_
      refine AllReadyH.cons rfl (fun KK hK => ?_) (AllReadyH.cons rfl (fun KK hK => ?_) AllReadyH.nil)
      · rw [if_pos (by rfl)]
        refine wp_load_mid 39 (.tmp 8) rfl sb 0 rfl (bv 16 G) _ H.1.range Try.underlying39 rfl (by rw [bv_length]; exact Try.sizeSt) ?_
        refine hK.out _ _ H.2.2 (fun _ => ?_)
        clear hK KK
        change wpAnyH _ _ _ _ _ _ _ { tmps := #[_, _, _, _, _, _, _, _, _, _, _, _, _, _, _, _, _, _, _, _, _, _, _, _, _, _, _, _, _, _, _, _, _, _, _, _, _, _, _, _, _, _, _, _], defers := [] } _
        refine wpAnyH_ready (rs := [4]) (by kernel_rfl) (by simp) ?_
        refine AllReadyH.cons rfl (fun KK hK => ?_) AllReadyH.nil
        go_simp
        refine (SO.out _).mono ?_
        rintro e w1 ⟨rfl, hb⟩
        replace H := CMS.below H hb
        refine hK.out _ _ H.2.2 (fun _ => ?_)
        clear hK KK hb
        change wpAnyH _ _ _ _ _ _ _ { tmps := #[_, _, _, _, _, _, _, _, _, _, _, _, _, _, _, _, _, _, _, _, _, _, _, _, _, _, _, _, _, _, _, _, _, _, _, _, _, _, _, _, _, _, _, _], defers := [] } _
        refine wpAnyH_ready (rs := [5]) (by kernel_rfl) (by simp) ?_
        refine AllReadyH.cons rfl (fun KK hK => ?_) AllReadyH.nil
        go_simp
        refine (AD.out _).mono ?_
        rintro e w2 ⟨rfl, hb⟩
        replace H := CMS.below H hb
        refine hK.out _ _ H.2.2 (fun _ => ?_)
        clear hK KK hb
        change wpAnyH _ _ _ _ _ _ _ { tmps := #[_, _, _, _, _, _, _, _, _, _, _, _, _, _, _, _, _, _, _, _, _, _, _, _, _, _, _, _, _, _, _, _, _, _, _, _, _, _, _, _, _, _, _, _], defers := [] } _
        refine wpAnyH_ready (rs := [6]) (by kernel_rfl) (by simp) ?_
        refine AllReadyH.cons rfl (fun KK hK => ?_) AllReadyH.nil
        go_simp
        refine (EN.out _ H.2.2.1).mono ?_
        rintro e w3 ⟨rfl, hb⟩
        replace H := CMS.below H hb
        refine hK.out _ _ H.2.2 (fun _ => ?_)
        clear hK KK hb
        change wpAnyH _ _ _ _ _ _ _ { tmps := #[_, _, _, _, _, _, _, _, _, _, _, _, _, _, _, _, _, _, _, _, _, _, _, _, _, _, _, _, _, _, _, _, _, _, _, _, _, _, _, _, _, _, _, _], defers := [] } _
        refine wpAnyH_ready (rs := [7]) (by kernel_rfl) (by simp) ?_
        refine AllReadyH.cons rfl (fun KK hK => ?_) AllReadyH.nil
        rw [if_pos (by rfl)]
        refine wp_store_mid 39 (.tmp 8) (.tmp 30) rfl sb 0 (bA 16 G1) rfl rfl (by rw [bA_size]; exact H.1.there) (by rw [bA_size]; exact Try.sizeSt) (bA_one _ _) ?_
        rw [bA_toList]
        have H9 := CMS.store H (by omega) (by omega) G1
        refine hK.out _ _ H9.1 (fun _ => ?_)
        clear hK KK H
        refine wpAnyH_done (by kernel_rfl) ?_ _
        refine NoPanic.normal ?_
        change Exit.then _ _ Exit.normal { tmps := #[_, _, _, _, _, _, _, _, _, _, _, _, _, _, _, _, _, _, _, _, _, _, _, _, _, _, _, _, _, _, _, _, _, _, _, _, _, _, _, _, _, _, _, _], defers := [] } _
        have CC9 : Hid (CiphAt _ _ _ _) := H9.1.1
        have HB9 : Hid (Below _ _ _) := H9.1.2
        have HR9 : Hid (Row8 _ _ _ _ _) := H9.2
        clear H9
        generalize (w3.setCells sb 0 (bv 16 G1)) = w9 at *
        generalize (bv 16 G).toArray = q1
        generalize bA 16 G1 = q2
        go_wp2_with fail
        go_step3
        rw [show o + 16 * i + 16 = o + 16 * (i + 1) from by omega]
        refine ⟨rfl, ⟨Cb, sb, ⟨hCs, hwC⟩, i + 1, L - 16, cr - 16, _, _, _, _, _, _, _, _, _, _, _, _, _, _, _, _, _, _, _, _, _, _, _, _, _, _, _, _, _, _, _, _, _, _, _, _, _, _, _, _, _, rfl, HL.out, by have := HL.out; omega, by omega, ?_, CC9.out, HB9.out⟩, ?_⟩
        · rw [HG1.out]; exact HR9.out
        · show _ < L; simp [lenOf]; omega
      · go_simp
        refine (SO.out _).mono ?_
        rintro e w1 ⟨rfl, hb⟩
        replace H := CMS.below H hb
        refine hK.out _ _ H.2.2 (fun _ => ?_)
        clear hK KK hb
        change wpAnyH _ _ _ _ _ _ _ { tmps := #[_, _, _, _, _, _, _, _, _, _, _, _, _, _, _, _, _, _, _, _, _, _, _, _, _, _, _, _, _, _, _, _, _, _, _, _, _, _, _, _, _, _, _, _], defers := [] } _
        refine wpAnyH_ready (rs := [0]) (by kernel_rfl) (by simp) ?_
        refine AllReadyH.cons rfl (fun KK hK => ?_) AllReadyH.nil
        rw [if_pos (by rfl)]
        refine wp_load_mid 39 (.tmp 8) rfl sb 0 rfl (bv 16 G) _ H.1.range Try.underlying39 rfl (by rw [bv_length]; exact Try.sizeSt) ?_
        refine hK.out _ _ H.2.2 (fun _ => ?_)
        clear hK KK
        change wpAnyH _ _ _ _ _ _ _ { tmps := #[_, _, _, _, _, _, _, _, _, _, _, _, _, _, _, _, _, _, _, _, _, _, _, _, _, _, _, _, _, _, _, _, _, _, _, _, _, _, _, _, _, _, _, _], defers := [] } _
        refine wpAnyH_ready (rs := [5]) (by kernel_rfl) (by simp) ?_
        refine AllReadyH.cons rfl (fun KK hK => ?_) AllReadyH.nil
        go_simp
        refine (AD.out _).mono ?_
        rintro e w2 ⟨rfl, hb⟩
        replace H := CMS.below H hb
        refine hK.out _ _ H.2.2 (fun _ => ?_)
        clear hK KK hb
        change wpAnyH _ _ _ _ _ _ _ { tmps := #[_, _, _, _, _, _, _, _, _, _, _, _, _, _, _, _, _, _, _, _, _, _, _, _, _, _, _, _, _, _, _, _, _, _, _, _, _, _, _, _, _, _, _, _], defers := [] } _
        refine wpAnyH_ready (rs := [6]) (by kernel_rfl) (by simp) ?_
        refine AllReadyH.cons rfl (fun KK hK => ?_) AllReadyH.nil
        go_simp
        refine (EN.out _ H.2.2.1).mono ?_
        rintro e w3 ⟨rfl, hb⟩
        replace H := CMS.below H hb
        refine hK.out _ _ H.2.2 (fun _ => ?_)
        clear hK KK hb
        change wpAnyH _ _ _ _ _ _ _ { tmps := #[_, _, _, _, _, _, _, _, _, _, _, _, _, _, _, _, _, _, _, _, _, _, _, _, _, _, _, _, _, _, _, _, _, _, _, _, _, _, _, _, _, _, _, _], defers := [] } _
        refine wpAnyH_ready (rs := [7]) (by kernel_rfl) (by simp) ?_
        refine AllReadyH.cons rfl (fun KK hK => ?_) AllReadyH.nil
        rw [if_pos (by rfl)]
        refine wp_store_mid 39 (.tmp 8) (.tmp 30) rfl sb 0 (bA 16 G1) rfl rfl (by rw [bA_size]; exact H.1.there) (by rw [bA_size]; exact Try.sizeSt) (bA_one _ _) ?_
        rw [bA_toList]
        have H9 := CMS.store H (by omega) (by omega) G1
        refine hK.out _ _ H9.1 (fun _ => ?_)
        clear hK KK H
        refine wpAnyH_done (by kernel_rfl) ?_ _
        refine NoPanic.normal ?_
        change Exit.then _ _ Exit.normal { tmps := #[_, _, _, _, _, _, _, _, _, _, _, _, _, _, _, _, _, _, _, _, _, _, _, _, _, _, _, _, _, _, _, _, _, _, _, _, _, _, _, _, _, _, _, _], defers := [] } _
        have CC9 : Hid (CiphAt _ _ _ _) := H9.1.1
        have HB9 : Hid (Below _ _ _) := H9.1.2
        have HR9 : Hid (Row8 _ _ _ _ _) := H9.2
        clear H9
        generalize (w3.setCells sb 0 (bv 16 G1)) = w9 at *
        generalize (bv 16 G).toArray = q1
        generalize bA 16 G1 = q2
        go_wp2_with fail
        go_step3
        rw [show o + 16 * i + 16 = o + 16 * (i + 1) from by omega]
        refine ⟨rfl, ⟨Cb, sb, ⟨hCs, hwC⟩, i + 1, L - 16, cr - 16, _, _, _, _, _, _, _, _, _, _, _, _, _, _, _, _, _, _, _, _, _, _, _, _, _, _, _, _, _, _, _, _, _, _, _, _, _, _, _, _, _, rfl, HL.out, by have := HL.out; omega, by omega, ?_, CC9.out, HB9.out⟩, ?_⟩
        · rw [HG1.out]; exact HR9.out
        · show _ < L; simp [lenOf]; omega
    · have eL : ¬ (16 : Int) < (L : Int) := by omega
      have hq : i = cmQ n := by unfold cmQ; omega
      obtain ⟨X, hX⟩ : ∃ X : Nat → Nat, X = fun j => c (16 * i + j) := ⟨_, rfl⟩
      have lX : ∀ j, X j < 256 := fun j => by rw [hX]; exact LC.out _
      obtain ⟨E0, hE0⟩ : ∃ E : Nat → Nat, E = Gf.enc W m (fun _ => 0) := ⟨_, rfl⟩
      have lE : ∀ j, j < 16 → E0 j < 256 := fun j _ => by rw [hE0]; exact Gf.enc_lt LW.out (fun _ _ => by show (0 : Nat) < 256; omega) j
      obtain ⟨D, hD⟩ : ∃ D : Nat → Nat, D = dblB E0 := ⟨_, rfl⟩
      have lD : ∀ j, j < 16 → D j < 256 := fun j hj => by rw [hD]; exact dblB_lt lE j hj
      obtain ⟨Y, hY⟩ : ∃ Y : Nat → Nat, Y = fun j => fillB L X j ^^^ (if L < 16 then dblB D else D) j := ⟨_, rfl⟩
      have lY : ∀ j, j < 16 → Y j < 256 := fun j hj => by
        rw [hY]
        refine Gf.xor_lt (fillB_lt lX j) ?_
        split
        · exact dblB_lt lD j hj
        · exact lD j hj
      have hT : Gf.enc W m (fun j => cbcB W m (fun _ => 0) c i j ^^^ Y j) = TAG := by
        rw [HTAG.out]
        unfold cmacB
        rw [← hq]
        congr 1
        funext j
        congr 1
        rw [hY]
        unfold lastS maskB fillB
        rw [← hq, ← hL, ← hE0, ← hD, hX]
        dsimp only
        congr 1
        by_cases h1 : j < L
        · rw [if_pos h1, if_pos (show 16 * i + j < n by omega)]
        · rw [if_neg h1, if_neg (show ¬ 16 * i + j < n by omega)]
          by_cases h2 : j = L
          · rw [if_pos h2, if_pos (show 16 * i + j = n by omega)]
          · rw [if_neg h2, if_neg (show ¬ 16 * i + j = n by omega)]
      have EZ : Hid (∀ w : World, CiphAt w Cb m W → Calls Try.prog 28 #[.pointer (some ⟨Cb, 0, none⟩), .agg (bA 16 (fun _ => 0))] w fun e w' => e = .returned (.agg (bA 16 E0)) ∧ Below w.heap.size w w') := fun w h => by
        have := encrypt_any Cb m W (fun _ => 0) (fun j _ => by show (0 : Nat) < 256; omega) LW.out hm1 hm2 w h
        rw [hE0]
        exact this
      have DB : Hid (∀ w : World, Calls Try.prog 38 #[.agg (bA 16 E0)] w fun e w' => e = .returned (.agg (bA 16 D)) ∧ Below w.heap.size w w') := by
        rw [hD]; exact doubled_any E0 lE
      have LS : Hid (∀ wq : World, Below w.heap.size w wq → Calls Try.prog 39 #[.slice (some ⟨b, o + 16 * i, none⟩) L cr, .agg (bA 16 D)] wq fun e w' => e = .returned (.agg (bA 16 Y)) ∧ Below wq.heap.size wq w') := fun wq hq => by
        rw [hY]
        refine lastBlock_any b (o + 16 * i) L cr X D lX lD (by omega) wq (code8_of (fun j hj => ?_))
        have hb : b < w.heap.size := HC.out.lt _ (by omega) rfl
        rw [hq.cell (p := ⟨b, o + 16 * i + j, none⟩) hb, hX, Nat.add_assoc]
        exact HC.out.at (by omega)
      have AD : Hid (∀ w : World, Calls Try.prog 37 #[.agg (bv 16 (cbcB W m (fun _ => 0) c i)).toArray, .agg (bA 16 Y)] w fun e w' => e = .returned (.agg (bA 16 (fun j => cbcB W m (fun _ => 0) c i j ^^^ Y j))) ∧ Below w.heap.size w w') := added_any _ _ (fun j _ => LB.out i j) lY
      have EN : Hid (∀ w : World, CiphAt w Cb m W → Calls Try.prog 28 #[.pointer (some ⟨Cb, 0, none⟩), .agg (bA 16 (fun j => cbcB W m (fun _ => 0) c i j ^^^ Y j))] w fun e w' => e = .returned (.agg (bA 16 TAG)) ∧ Below w.heap.size w w') := fun w h => by
        have := encrypt_any Cb m W (fun j => cbcB W m (fun _ => 0) c i j ^^^ Y j) (fun j hj => Gf.xor_lt (LB.out i j) (lY j hj)) LW.out hm1 hm2 w h
        rwa [hT] at this
      generalize cbcB W m (fun _ => 0) c i = G at *
      generalize bA 16 (fun j => G j ^^^ Y j) = GX at *
      generalize bA 16 Y = YA at *
      clear hT hY lY hX lX hE0 hD lD lE HTAG hq hL hi LB
      have ez : bA 16 (fun _ => 0) = #[.int .u8 0, .int .u8 0, .int .u8 0, .int .u8 0, .int .u8 0, .int .u8 0, .int .u8 0, .int .u8 0, .int .u8 0, .int .u8 0, .int .u8 0, .int .u8 0, .int .u8 0, .int .u8 0, .int .u8 0, .int .u8 0] := by kernel_rfl
      rw [ez] at EZ
      clear ez
      have SD : Hid ((Try.prog.info? 39).map (·.size) = some (bA 16 D).size) := by rw [bA_size]; exact Try.sizeSt
      have OD : Hid ((bA 16 D).all (·.oneCell') = true) := bA_one _ _
      have TD : Hid ((bA 16 D).toList = bv 16 D) := bA_toList _ _
      have ND : Hid ((bA 16 D).size = 16) := bA_size _ _
      have AD' : Hid ((bv 16 D).toArray = bA 16 D) := by
        show (bv 16 D).toArray = bA 16 D
        rw [← TD.out]
      generalize bA 16 E0 = EA at *
      generalize bA 16 D = DA at *
      go_wp2_with fail
      refine (EZ.out _ CC.out).mono ?_
      rintro e w1 ⟨rfl, hb1⟩
      have CC1 : Hid (CiphAt w1 Cb m W) := CC.out.below hb1
      have HB1 : Hid (Below w.heap.size w w1) := HB.out.trans (hb1.mono HB.out.size)
      have HR1 : Hid (Row8 w1 sb 39 16 G) := HR.out.below hb1
      clear CC HB HR hb1 EZ
      go_wp2_with fail
      refine (DB.out _).mono ?_
      rintro e w2 ⟨rfl, hb2⟩
      have CC2 : CiphAt (w2.alloc (.cells #[.int .u8 0, .int .u8 0, .int .u8 0, .int .u8 0, .int .u8 0, .int .u8 0, .int .u8 0, .int .u8 0, .int .u8 0, .int .u8 0, .int .u8 0, .int .u8 0, .int .u8 0, .int .u8 0, .int .u8 0, .int .u8 0] 39)) Cb m W := (CC1.out.below hb2).below ((Below.refl _ _).alloc (Nat.le_refl _) _)
      have HB2 : Below w.heap.size w (w2.alloc (.cells #[.int .u8 0, .int .u8 0, .int .u8 0, .int .u8 0, .int .u8 0, .int .u8 0, .int .u8 0, .int .u8 0, .int .u8 0, .int .u8 0, .int .u8 0, .int .u8 0, .int .u8 0, .int .u8 0, .int .u8 0, .int .u8 0] 39)) := (HB1.out.trans (hb2.mono HB1.out.size)).alloc (Nat.le_trans HB1.out.size hb2.size) _
      have HR2 : Row8 (w2.alloc (.cells #[.int .u8 0, .int .u8 0, .int .u8 0, .int .u8 0, .int .u8 0, .int .u8 0, .int .u8 0, .int .u8 0, .int .u8 0, .int .u8 0, .int .u8 0, .int .u8 0, .int .u8 0, .int .u8 0, .int .u8 0, .int .u8 0] 39)) sb 39 16 G := (HR1.out.below hb2).below ((Below.refl _ _).alloc (Nat.le_refl _) _)
      have HK2 : Row8 (w2.alloc (.cells #[.int .u8 0, .int .u8 0, .int .u8 0, .int .u8 0, .int .u8 0, .int .u8 0, .int .u8 0, .int .u8 0, .int .u8 0, .int .u8 0, .int .u8 0, .int .u8 0, .int .u8 0, .int .u8 0, .int .u8 0, .int .u8 0] 39)) w2.heap.size 39 16 (fun _ => 0) := Row8.z16At (w := w2) rfl _
      have hsk : sb < w2.heap.size := (HR1.out.below hb2).lt
      have X1 : OnlyB w2.heap.size (w2.alloc (.cells #[.int .u8 0, .int .u8 0, .int .u8 0, .int .u8 0, .int .u8 0, .int .u8 0, .int .u8 0, .int .u8 0, .int .u8 0, .int .u8 0, .int .u8 0, .int .u8 0, .int .u8 0, .int .u8 0, .int .u8 0, .int .u8 0] 39)) ((w2.alloc (.cells #[.int .u8 0, .int .u8 0, .int .u8 0, .int .u8 0, .int .u8 0, .int .u8 0, .int .u8 0, .int .u8 0, .int .u8 0, .int .u8 0, .int .u8 0, .int .u8 0, .int .u8 0, .int .u8 0, .int .u8 0, .int .u8 0] 39)).setCells w2.heap.size 0 (bv 16 D)) := onlyB_setCells _ _ _ (OnlyB.refl _ _)
      have H3 : CMS w Cb m sb w2.heap.size W G D ((w2.alloc (.cells #[.int .u8 0, .int .u8 0, .int .u8 0, .int .u8 0, .int .u8 0, .int .u8 0, .int .u8 0, .int .u8 0, .int .u8 0, .int .u8 0, .int .u8 0, .int .u8 0, .int .u8 0, .int .u8 0, .int .u8 0, .int .u8 0] 39)).setCells w2.heap.size 0 (bv 16 D)) := ⟨HR2.onlyB X1 (by omega), HK2.stored D, CC2.onlyBe X1 (by omega), HB2.trans (X1.toBelow (by omega) HB2.size)⟩
      have HT2 : Hid (World.there (w2.alloc (.cells #[.int .u8 0, .int .u8 0, .int .u8 0, .int .u8 0, .int .u8 0, .int .u8 0, .int .u8 0, .int .u8 0, .int .u8 0, .int .u8 0, .int .u8 0, .int .u8 0, .int .u8 0, .int .u8 0, .int .u8 0, .int .u8 0] 39)) w2.heap.size 0 DA.size) := by
        show World.there _ _ _ _
        rw [ND.out]; exact HK2.there
      have HH : Hid (CMS w Cb m sb w2.heap.size W G D ((w2.alloc (.cells #[.int .u8 0, .int .u8 0, .int .u8 0, .int .u8 0, .int .u8 0, .int .u8 0, .int .u8 0, .int .u8 0, .int .u8 0, .int .u8 0, .int .u8 0, .int .u8 0, .int .u8 0, .int .u8 0, .int .u8 0, .int .u8 0] 39)).setCells w2.heap.size 0 (bv 16 D))) := H3
      clear CC1 HB1 HR1 CC2 HB2 HR2 HK2 X1 H3 DB hb2
      go_upto_region 11 with (refine wpList_store_mid rfl 39 (.tmp 10) (.tmp 35) rfl _ 0 DA rfl rfl HT2.out SD.out OD.out ?_; rw [TD.out]; generalize hwf : (w2.alloc (.cells #[.int .u8 0, .int .u8 0, .int .u8 0, .int .u8 0, .int .u8 0, .int .u8 0, .int .u8 0, .int .u8 0, .int .u8 0, .int .u8 0, .int .u8 0, .int .u8 0, .int .u8 0, .int .u8 0, .int .u8 0, .int .u8 0] 39)).setCells w2.heap.size 0 (bv 16 D) = wf at *)
      clear hwf
      generalize w2.heap.size = kb at *
      have H : CMS w Cb m sb kb W G D wf.drew := CMS.drew HH.out
      refine wp_region_noPanic ?_
      refine wp_region_held_drew (S := fun w' => Row8 w' kb 39 16 D ∧ CiphAt w' Cb m W ∧ Below w.heap.size w w') (by kernel_rfl) H.2 (fun _ => ?_)
      refine wpAnyH_take (i := 1) (v := .slice (some ⟨b, o + 16 * i, none⟩) L cr) rfl (by kernel_rfl) (by kernel_rfl) (by kernel_rfl) (fun _ _ _ h => h) (Or.inl ⟨by rfl, ?_⟩) H.2 ?_
      · intro w hSw; go_simp
      change wpAnyH _ _ _ _ _ _ _ { tmps := #[_, _, _, _, _, _, _, _, _, _, _, _, _, _, _, _, _, _, _, _, _, _, _, _, _, _, _, _, _, _, _, _, _, _, _, _, _, _, _, _, _, _, _, _], defers := [] } _
      refine wpAnyH_take (i := 2) (v := .agg (bv 16 D).toArray) rfl (by kernel_rfl) (by kernel_rfl) (by kernel_rfl) (fun _ _ _ h => h) (yieldsIf_load_mid (by rfl) 39 (.tmp 10) rfl kb 0 rfl (bv 16 D) _ (fun w h => h.1.range) Try.underlying39 rfl (by rw [bv_length]; exact Try.sizeSt)) H.2 ?_
      change wpAnyH _ _ _ _ _ _ _ { tmps := #[_, _, _, _, _, _, _, _, _, _, _, _, _, _, _, _, _, _, _, _, _, _, _, _, _, _, _, _, _, _, _, _, _, _, _, _, _, _, _, _, _, _, _, _], defers := [] } _
      rw [AD'.out]
      refine wpAnyH_ready (rs := [0, 3]) (by kernel_rfl) (by simp) ?_
      refine AllReadyH.cons rfl (fun KK hK => ?_) (AllReadyH.cons rfl (fun KK hK => ?_) AllReadyH.nil)
      · rw [if_pos (by rfl)]
        refine wp_load_mid 39 (.tmp 8) rfl sb 0 rfl (bv 16 G) _ H.1.range Try.underlying39 rfl (by rw [bv_length]; exact Try.sizeSt) ?_
        refine hK.out _ _ H.2 (fun _ => ?_)
        clear hK KK
        change wpAnyH _ _ _ _ _ _ _ { tmps := #[_, _, _, _, _, _, _, _, _, _, _, _, _, _, _, _, _, _, _, _, _, _, _, _, _, _, _, _, _, _, _, _, _, _, _, _, _, _, _, _, _, _, _, _], defers := [] } _
        refine wpAnyH_ready (rs := [3]) (by kernel_rfl) (by simp) ?_
        refine AllReadyH.cons rfl (fun KK hK => ?_) AllReadyH.nil
        go_simp
        refine (LS.out _ H.2.2.2).mono ?_
        rintro e w4 ⟨rfl, hb⟩
        replace H := CMS.below H hb
        refine hK.out _ _ H.2 (fun _ => ?_)
        clear hK KK hb
        change wpAnyH _ _ _ _ _ _ _ { tmps := #[_, _, _, _, _, _, _, _, _, _, _, _, _, _, _, _, _, _, _, _, _, _, _, _, _, _, _, _, _, _, _, _, _, _, _, _, _, _, _, _, _, _, _, _], defers := [] } _
        refine wpAnyH_ready (rs := [4]) (by kernel_rfl) (by simp) ?_
        refine AllReadyH.cons rfl (fun KK hK => ?_) AllReadyH.nil
        go_simp
        refine (AD.out _).mono ?_
        rintro e w5 ⟨rfl, hb⟩
        replace H := CMS.below H hb
        refine hK.out _ _ H.2 (fun _ => ?_)
        clear hK KK hb
        change wpAnyH _ _ _ _ _ _ _ { tmps := #[_, _, _, _, _, _, _, _, _, _, _, _, _, _, _, _, _, _, _, _, _, _, _, _, _, _, _, _, _, _, _, _, _, _, _, _, _, _, _, _, _, _, _, _], defers := [] } _
        refine wpAnyH_ready (rs := [5]) (by kernel_rfl) (by simp) ?_
        refine AllReadyH.cons rfl (fun KK hK => ?_) AllReadyH.nil
        go_simp
        refine (EN.out _ H.2.2.1).mono ?_
        rintro e w6 ⟨rfl, hb⟩
        replace H := CMS.below H hb
        refine hK.out _ _ H.2 (fun _ => ?_)
        clear hK KK hb
        change wpAnyH _ _ _ _ _ _ _ { tmps := #[_, _, _, _, _, _, _, _, _, _, _, _, _, _, _, _, _, _, _, _, _, _, _, _, _, _, _, _, _, _, _, _, _, _, _, _, _, _, _, _, _, _, _, _], defers := [] } _
        refine wpAnyH_ready (rs := [6]) (by kernel_rfl) (by simp) ?_
        refine AllReadyH.cons rfl (fun KK hK => ?_) AllReadyH.nil
        rw [if_pos (by rfl)]
        refine wp_store_mid 39 (.tmp 8) (.tmp 41) rfl sb 0 (bA 16 TAG) rfl rfl (by rw [bA_size]; exact H.1.there) (by rw [bA_size]; exact Try.sizeSt) (bA_one _ _) ?_
        rw [bA_toList]
        replace H := CMS.store2 H (by omega) (by omega) (by omega) TAG
        refine hK.out _ _ H.2 (fun _ => ?_)
        clear hK KK
        refine wpAnyH_done (by kernel_rfl) ?_ _
        refine NoPanic.normal ?_
        change Exit.then _ _ Exit.normal { tmps := #[_, _, _, _, _, _, _, _, _, _, _, _, _, _, _, _, _, _, _, _, _, _, _, _, _, _, _, _, _, _, _, _, _, _, _, _, _, _, _, _, _, _, _, _], defers := [] } _
        have hcv : (convert 22 9 (.slice (some ⟨sb, 0, none⟩) 16 16)).run Try.prog (w6.setCells sb 0 (bv 16 TAG)) = .ok (.string (kstr TAG 0 16)) (w6.setCells sb 0 (bv 16 TAG)) := kstr_of_code (code8_of (fun j hj => by rw [Nat.zero_add]; exact World.rowIs.cell H.1 hj))
        have HB9 : Hid (Below _ _ _) := H.2.2.2
        clear H
        generalize (w6.setCells sb 0 (bv 16 TAG)) = w9 at *
        generalize hTS : kstr TAG 0 16 = TS at hcv
        have HTS : Hid (kstr TAG 0 16 = TS) := hTS
        clear hTS
        generalize (bv 16 G).toArray = q1
        generalize bA 16 TAG = q2
        go_wp2
        rw [jump_ret]
        refine bodyPost_ret (results_tmp2 Try.results14 _ _ _) rfl ⟨?_, HB9.out⟩
        rw [HTS.out]; rfl
      · go_simp
        refine (LS.out _ H.2.2.2).mono ?_
        rintro e w4 ⟨rfl, hb⟩
        replace H := CMS.below H hb
        refine hK.out _ _ H.2 (fun _ => ?_)
        clear hK KK hb
        change wpAnyH _ _ _ _ _ _ _ { tmps := #[_, _, _, _, _, _, _, _, _, _, _, _, _, _, _, _, _, _, _, _, _, _, _, _, _, _, _, _, _, _, _, _, _, _, _, _, _, _, _, _, _, _, _, _], defers := [] } _
        refine wpAnyH_ready (rs := [0]) (by kernel_rfl) (by simp) ?_
        refine AllReadyH.cons rfl (fun KK hK => ?_) AllReadyH.nil
        rw [if_pos (by rfl)]
        refine wp_load_mid 39 (.tmp 8) rfl sb 0 rfl (bv 16 G) _ H.1.range Try.underlying39 rfl (by rw [bv_length]; exact Try.sizeSt) ?_
        refine hK.out _ _ H.2 (fun _ => ?_)
        clear hK KK
        change wpAnyH _ _ _ _ _ _ _ { tmps := #[_, _, _, _, _, _, _, _, _, _, _, _, _, _, _, _, _, _, _, _, _, _, _, _, _, _, _, _, _, _, _, _, _, _, _, _, _, _, _, _, _, _, _, _], defers := [] } _
        refine wpAnyH_ready (rs := [4]) (by kernel_rfl) (by simp) ?_
        refine AllReadyH.cons rfl (fun KK hK => ?_) AllReadyH.nil
        go_simp
        refine (AD.out _).mono ?_
        rintro e w5 ⟨rfl, hb⟩
        replace H := CMS.below H hb
        refine hK.out _ _ H.2 (fun _ => ?_)
        clear hK KK hb
        change wpAnyH _ _ _ _ _ _ _ { tmps := #[_, _, _, _, _, _, _, _, _, _, _, _, _, _, _, _, _, _, _, _, _, _, _, _, _, _, _, _, _, _, _, _, _, _, _, _, _, _, _, _, _, _, _, _], defers := [] } _
        refine wpAnyH_ready (rs := [5]) (by kernel_rfl) (by simp) ?_
        refine AllReadyH.cons rfl (fun KK hK => ?_) AllReadyH.nil
        go_simp
        refine (EN.out _ H.2.2.1).mono ?_
        rintro e w6 ⟨rfl, hb⟩
        replace H := CMS.below H hb
        refine hK.out _ _ H.2 (fun _ => ?_)
        clear hK KK hb
        change wpAnyH _ _ _ _ _ _ _ { tmps := #[_, _, _, _, _, _, _, _, _, _, _, _, _, _, _, _, _, _, _, _, _, _, _, _, _, _, _, _, _, _, _, _, _, _, _, _, _, _, _, _, _, _, _, _], defers := [] } _
        refine wpAnyH_ready (rs := [6]) (by kernel_rfl) (by simp) ?_
        refine AllReadyH.cons rfl (fun KK hK => ?_) AllReadyH.nil
        rw [if_pos (by rfl)]
        refine wp_store_mid 39 (.tmp 8) (.tmp 41) rfl sb 0 (bA 16 TAG) rfl rfl (by rw [bA_size]; exact H.1.there) (by rw [bA_size]; exact Try.sizeSt) (bA_one _ _) ?_
        rw [bA_toList]
        replace H := CMS.store2 H (by omega) (by omega) (by omega) TAG
        refine hK.out _ _ H.2 (fun _ => ?_)
        clear hK KK
        refine wpAnyH_done (by kernel_rfl) ?_ _
        refine NoPanic.normal ?_
        change Exit.then _ _ Exit.normal { tmps := #[_, _, _, _, _, _, _, _, _, _, _, _, _, _, _, _, _, _, _, _, _, _, _, _, _, _, _, _, _, _, _, _, _, _, _, _, _, _, _, _, _, _, _, _], defers := [] } _
        have hcv : (convert 22 9 (.slice (some ⟨sb, 0, none⟩) 16 16)).run Try.prog (w6.setCells sb 0 (bv 16 TAG)) = .ok (.string (kstr TAG 0 16)) (w6.setCells sb 0 (bv 16 TAG)) := kstr_of_code (code8_of (fun j hj => by rw [Nat.zero_add]; exact World.rowIs.cell H.1 hj))
        have HB9 : Hid (Below _ _ _) := H.2.2.2
        clear H
        generalize (w6.setCells sb 0 (bv 16 TAG)) = w9 at *
        generalize hTS : kstr TAG 0 16 = TS at hcv
        have HTS : Hid (kstr TAG 0 16 = TS) := hTS
        clear hTS
        generalize (bv 16 G).toArray = q1
        generalize bA 16 TAG = q2
        go_wp2
        rw [jump_ret]
        refine bodyPost_ret (results_tmp2 Try.results14 _ _ _) rfl ⟨?_, HB9.out⟩
        rw [HTS.out]; rfl
  · intro hp
    go_upto_region 5 with (first
      | (go_at_call 24; refine (MF.out _).mono ?_; rintro e w' ⟨rfl, rfl⟩)
      | (go_at_call 25; refine (NC.out _).mono ?_; rintro e w1 ⟨rfl, hb⟩)
      | (refine wpList_store_mid rfl 44 (.tmp 7) (.tmp 19) rfl _ 0 CA rfl rfl ?_ S2.out O2.out ?_))
    · rw [HSZ.out]; exact there_big w1 Z _ hZ
    · have R1 : ((w1.alloc (.cells Z 44)).setCells w1.heap.size 0 CA.toList).rangeAt w1.heap.size 0 CA.toList := World.rangeAt_setCells_same _ _ _ _ (by rw [hLen]; exact there_big w1 Z _ hZ)
      have CC : Hid (CiphAt ((w1.alloc (.cells Z 44)).setCells w1.heap.size 0 CA.toList) w1.heap.size m W) := fun k hk => by
        have := R1 k _ (hAt.out k hk)
        rwa [Nat.zero_add] at this
      have hsz := hb.size
      have B1 : Hid (Below w.heap.size w ((w1.alloc (.cells Z 44)).setCells w1.heap.size 0 CA.toList)) := below_setCells hsz _ _ _ (hb.alloc hsz _)
      clear R1 hb NC MF S2 O2 hLen hAt HSZ z0 hZ HC
      generalize (w1.alloc (.cells Z 44)).setCells w1.heap.size 0 CA.toList = wz at *
      generalize w1.heap.size = Cb at *
      have CCm : Hid (CiphAt (wz.alloc (.cells #[.int .u8 0, .int .u8 0, .int .u8 0, .int .u8 0, .int .u8 0, .int .u8 0, .int .u8 0, .int .u8 0, .int .u8 0, .int .u8 0, .int .u8 0, .int .u8 0, .int .u8 0, .int .u8 0, .int .u8 0, .int .u8 0] 39)) Cb m W) := CC.out.below ((Below.refl _ _).alloc (Nat.le_refl _) _)
      have HRm : Hid (Row8 (wz.alloc (.cells #[.int .u8 0, .int .u8 0, .int .u8 0, .int .u8 0, .int .u8 0, .int .u8 0, .int .u8 0, .int .u8 0, .int .u8 0, .int .u8 0, .int .u8 0, .int .u8 0, .int .u8 0, .int .u8 0, .int .u8 0, .int .u8 0] 39)) wz.heap.size 39 16 (fun _ => 0)) := Row8.z16At (w := wz) rfl _
      have HBm : Hid (Below w.heap.size w (wz.alloc (.cells #[.int .u8 0, .int .u8 0, .int .u8 0, .int .u8 0, .int .u8 0, .int .u8 0, .int .u8 0, .int .u8 0, .int .u8 0, .int .u8 0, .int .u8 0, .int .u8 0, .int .u8 0, .int .u8 0, .int .u8 0, .int .u8 0] 39))) := B1.out.alloc B1.out.size _
      have hCz : Cb < wz.heap.size := CC.out.lt
      clear CC B1
      go_upto_region 6 with fail
      generalize wz.alloc (.cells #[.int .u8 0, .int .u8 0, .int .u8 0, .int .u8 0, .int .u8 0, .int .u8 0, .int .u8 0, .int .u8 0, .int .u8 0, .int .u8 0, .int .u8 0, .int .u8 0, .int .u8 0, .int .u8 0, .int .u8 0, .int .u8 0] 39) = wm at *
      generalize wz.heap.size = sb at *
      go_wp2_with fail
      go_step3
      rename_i hKx
      refine hKx _ _ (hp _ _ ⟨Cb, sb, ⟨hCz, hsz⟩, 0, n, cp, _, _, _, _, _, _, _, _, _, _, _, _, _, _, _, _, _, _, _, _, _, _, _, _, _, _, _, _, _, _, _, _, _, _, _, _, _, _, _, _, _, rfl, by omega, by omega, by omega, HRm.out.congr (fun j _ => rfl), CCm.out, HBm.out⟩)
end Go.Proofs.Ytbhlgcenfanicaa

/-
  The contract of spec.l02Twice.
-/
namespace Go.Proofs.Ytbhlgcenfanicaa
open Go.ChangeShapes Go.WideShapes Go.ChangeAt Go.RowKit
/-- Doubled, but for the byte that is lost. -/
def dbl1 (s : Nat → Nat) (j : Nat) : Nat := if j = 15 then s 15 * 2 % 256 else (s j * 2 % 256) ||| (s (j + 1) / 128)
set_option maxRecDepth 100000 in
set_option maxHeartbeats 2000000 in
theorem l02Twice_any (s : ByteArray) (hs : s.size = 16) (w : World) :
    Calls Try.prog 61 #[.string s] w fun e w' => e = .returned (.string (kstr (dblB (strB s)) 0 16)) ∧ Below w.heap.size w w' := by
  obtain ⟨wz, gc, hcv, hWB, hBz, hgc⟩ := bytesOf s w
  rw [hs] at hcv hWB
  have HW : Hid (WB wz w.heap.size 16 (strB s)) := hWB
  have HBz : Hid (Below w.heap.size w wz) := hBz
  have LS : Hid (∀ j, strB s j < 256) := strB_lt s
  have ES : Hid (∀ k (h : k < s.size), (s[k].toNat : Int) = (strB s k : Nat)) := fun k h => strB_eq s k h
  have es0 := strB_eq s 0 (by omega)
  obtain ⟨A, hA⟩ : ∃ A, A = strB s := ⟨_, rfl⟩
  rw [← hA] at HW LS ES es0 ⊢
  have la0 := LS.out 0
  obtain ⟨A0, hA0⟩ : ∃ A0, A0 = A 0 := ⟨_, rfl⟩
  rw [← hA0] at es0 la0
  have HA0 : Hid (A0 = A 0) := hA0
  clear hWB hBz hgc hA hA0
  go_enter Try.func61, Try.ntmps61
  go_wp2
  go_loopw [5] (fun i wr => ∃ k : Nat, k ≤ 16 ∧ i = .int .i64 k ∧ WB wr w.heap.size 16 (fun j => if j < k then dbl1 A j else A j) ∧ Below w.heap.size w wr) (fun i _ => 16 - (intOf i).toNat)
  case atStart => exact ⟨0, by omega, rfl, HW.out.congr (fun j hj => by rw [if_neg (by omega)]), HBz.out⟩
  case round =>
    clear HW HBz hcv
    obtain ⟨k, hk, rfl, hw, hb2⟩ := hrel
    have HW : Hid (WB wr w.heap.size 16 (fun j => if j < k then dbl1 A j else A j)) := hw
    have HB : Hid (Below w.heap.size w wr) := hb2
    have x0 : (0 : Int) ≤ (k : Int) := by omega
    by_cases hlt : k < 15
    · have c1 := (hw k (by omega)).1
      simp only [Nat.lt_irrefl, if_false] at c1
      have f1 := (hw k (by omega)).2
      have e1 := ES.out k (by omega)
      have e2 := ES.out (k + 1) (by omega)
      have l1 := LS.out k
      have l2 := LS.out (k + 1)
      have x1 : (k : Int) < 15 := by omega
      have x2 : (k : Int) < 16 := by omega
      have x3 : (k : Int) + 1 < 16 := by omega
      have x4 : ((k : Int) + 1).toNat = k + 1 := by omega
      obtain ⟨V, hV⟩ : ∃ V, V = (A k * 2 % 256) ||| (A (k + 1) / 128) := ⟨_, rfl⟩
      have ex : bits .or .u8 ((A k : Int) * 2 % 256) ((A (k + 1) : Int) / 128) = ((V : Nat) : Int) := by rw [hV]; exact u8_or_two _ _ l2
      have HV : Hid (∀ q j, j < 16 → (if j = k then V else if j = k then q else if j < k then dbl1 A j else A j) = if j < k + 1 then dbl1 A j else A j) := fun q j hj => by
        by_cases e : j = k
        · subst e
          rw [if_pos rfl, if_pos (by omega), hV]
          unfold dbl1
          rw [if_neg (by omega)]
        · rw [if_neg e, if_neg e]
          by_cases e2 : j < k
          · rw [if_pos e2, if_pos (by omega)]
          · rw [if_neg e2, if_neg (by omega)]
      clear hV hw hb2
      generalize A k = A1 at *
      generalize A (k + 1) = A2 at *
      have ev : ((A1 * 2 % 256 : Nat) : Int) = (A1 : Int) * 2 % 256 := by omega
      have hw1 := HW.out.set k (A1 * 2 % 256)
      rw [ev] at hw1
      have c2 := (hw1 k (by omega)).1
      simp only [if_true] at c2
      rw [ev] at c2
      have f2 := (hw1 k (by omega)).2
      have HW1 : Hid (WB (wr.setCell ⟨w.heap.size, k, none⟩ (.int .u8 ((A1 : Int) * 2 % 256))) w.heap.size 16 (fun r => if r = k then A1 * 2 % 256 else if r < k then dbl1 A r else A r)) := hw1
      have HB1 : Hid (Below w.heap.size w (wr.setCell ⟨w.heap.size, k, none⟩ (.int .u8 ((A1 : Int) * 2 % 256)))) := HB.out.setCell (by exact Nat.le_refl _) _
      clear ev hw1 HW HB
      go_wp2_with fail
      generalize wr.setCell ⟨w.heap.size, k, none⟩ (.int .u8 ((A1 : Int) * 2 % 256)) = wq at *
      clear c1 f1
      go_region
      go_wp2
      go_roundw
      case rel =>
        refine ⟨k + 1, by omega, by go_num, (HW1.out.set k V).congr (HV.out _), ?_⟩
        exact (HB1.out.setCell (by exact Nat.le_refl _) _).drew
      case measure => simp [intOf]; omega
    · by_cases h15 : k = 15
      · have c1 := (hw k (by omega)).1
        simp only [Nat.lt_irrefl, if_false] at c1
        have f1 := (hw k (by omega)).2
        have hks : k < s.size := by omega
        have e1 := ES.out k hks
        have l1 := LS.out k
        have x1 : ¬ (k : Int) < 15 := by omega
        have x2 : (k : Int) < 16 := by omega
        have ev : ((A k * 2 % 256 : Nat) : Int) = (A k : Int) * 2 % 256 := by omega
        have hw1 := HW.out.set k (A k * 2 % 256)
        rw [ev] at hw1
        have HW1 : Hid (WB (wr.setCell ⟨w.heap.size, k, none⟩ (.int .u8 ((A k : Int) * 2 % 256))) w.heap.size 16 (fun j => if j < k + 1 then dbl1 A j else A j)) := hw1.congr (fun j hj => by
          by_cases e : j = k
          · rw [if_pos e, if_pos (by omega), e]
            unfold dbl1
            rw [if_pos h15, h15]
          · rw [if_neg e, if_pos (by omega), if_pos (by omega)])
        have HB1 : Hid (Below w.heap.size w (wr.setCell ⟨w.heap.size, k, none⟩ (.int .u8 ((A k : Int) * 2 % 256)))) := HB.out.setCell (by exact Nat.le_refl _) _
        clear ev hw1 HW HB hw hb2 h15
        generalize A k = A1 at *
        go_wp2_with fail
        go_roundw
        case rel => exact ⟨k + 1, by omega, by go_num, HW1.out, HB1.out⟩
        case measure => simp [intOf]; omega
      · have hk16 : k = 16 := by omega
        have x1 : ¬ (k : Int) < 16 := by omega
        have hw2 : WB wr w.heap.size 16 (dbl1 A) := hw.congr (fun j hj => by rw [if_pos (by omega)])
        have HW2 : Hid (WB wr w.heap.size 16 (dbl1 A)) := hw2
        have la := LS.out 15
        clear HW hw hb2 h15 hlt hk hk16
        by_cases hl : 128 ≤ A0
        · have y1 : (A0 : Int) / 128 = 1 := by omega
          have c1 := (hw2 15 (by omega)).1
          have f1 := (hw2 15 (by omega)).2
          obtain ⟨V, hV⟩ : ∃ V, V = dbl1 A 15 ^^^ 135 := ⟨_, rfl⟩
          have ld : dbl1 A 15 < 256 := by unfold dbl1; rw [if_pos rfl]; omega
          have ex : bits .xor .u8 (dbl1 A 15 : Int) 135 = ((V : Nat) : Int) := by rw [hV]; exact u8_xor_nat _ 135 ld (by omega)
          have HW3 : WB (wr.setCell ⟨w.heap.size, 15, none⟩ (.int .u8 (V : Nat))) w.heap.size 16 (dblB A) := (HW2.out.set 15 V).congr (fun j hj => by
            unfold dblB
            rw [← HA0.out, if_pos hl]
            by_cases e : j = 15
            · rw [if_pos e, if_pos e, hV]; unfold dbl1; rw [if_pos rfl]
            · rw [if_neg e, if_neg e]; unfold dbl1; rw [if_neg e])
          have hcv : (convert 22 9 (.slice (some ⟨w.heap.size, 0, none⟩) 16 gc)).run Try.prog (wr.setCell ⟨w.heap.size, 15, none⟩ (.int .u8 (V : Nat))) = .ok (.string (kstr (dblB A) 0 16)) (wr.setCell ⟨w.heap.size, 15, none⟩ (.int .u8 (V : Nat))) := kstr_of_code HW3.code
          have HB3 : Hid (Below w.heap.size w (wr.setCell ⟨w.heap.size, 15, none⟩ (.int .u8 (V : Nat)))) := HB.out.setCell (by exact Nat.le_refl _) _
          clear HW3 hw2 HW2 hV
          generalize dbl1 A 15 = D1 at *
          go_wp2
          go_ret
          exact ⟨rfl, HB3.out⟩
        · have y1 : ¬ (A0 : Int) / 128 = 1 := by omega
          have hcv : (convert 22 9 (.slice (some ⟨w.heap.size, 0, none⟩) 16 gc)).run Try.prog wr = .ok (.string (kstr (dblB A) 0 16)) wr := kstr_of_code (hw2.congr (fun j hj => by
            unfold dblB
            rw [← HA0.out, if_neg hl]
            by_cases e : j = 15
            · rw [if_pos e, e]; unfold dbl1; rw [if_pos rfl, Nat.xor_zero]
            · rw [if_neg e]; unfold dbl1; rw [if_neg e])).code
          clear hw2 HW2
          go_wp2
          go_ret
          exact ⟨rfl, HB.out⟩
end Go.Proofs.Ytbhlgcenfanicaa

/-
  The model's Cmac: l02Cmac.
-/
namespace Go.Proofs.Ytbhlgcenfanicaa
open Go.ChangeShapes Go.WideShapes Go.ChangeAt Go.RowKit
theorem mk16 (w : World) : ∃ w', (Instr.makeSlice 22 (.int .i64 16) (.int .i64 16)).run Try.prog w = .ok (.slice (some ⟨w.heap.size, 0, none⟩) 16 16) w' ∧ (convert 22 9 (.slice (some ⟨w.heap.size, 0, none⟩) 16 16)).run Try.prog w' = .ok (.string (kstr (fun _ => 0) 0 16)) w' ∧ Below w.heap.size w w' := by
  obtain ⟨i0, hi, hz, hs, hb⟩ := info_parts Try.info8
  have hr := run_make (P := Try.prog) w 22 5 i0 (.int .u8 0) Try.underlying22 hi hz .i64 .i64 16 16 (by omega) (by omega) (by rw [hb]; omega) (by omega)
  rw [hs, show madeCells (Value.cells (.int .u8 0)) ((16 : Int).toNat * 1) = z16 from by kernel_rfl] at hr
  exact ⟨_, hr, kstr_of_code (code8_of (fun j hj => by rw [Nat.zero_add]; exact World.rowIs.cell (Row8.z16At (w := w) rfl 5) hj)), (Below.refl _ _).alloc (Nat.le_refl _) _⟩
/-- The tag out of the last block and its mask. -/
theorem cm_tag {W f R M : Nat → Nat} {m n : Nat} {T S3 S4 : ByteArray} (hT : Gf.Same (strB T) (cbcB W m (fun _ => 0) f (cmQ n))) (hR : ∀ j, j < 16 → R j = lastS n f j) (hM : ∀ j, j < 16 → M j = maskB W m n j) (lR : ∀ j, j < 16 → R j < 256) (lM : ∀ j, j < 16 → M j < 256)
    (h3 : S3 = kstr (fun j => strB T j ^^^ R j) 0 16) (h4 : S4 = kstr (fun j => strB S3 j ^^^ M j) 0 16) : kstr (Gf.enc W m (strB S4)) 0 16 = kstr (cmacB W m n f) 0 16 := by
  refine kstr_same (Gf.same_enc (fun j hj => ?_))
  have e3 : strB S3 j = strB T j ^^^ R j := by
    rw [h3, strB_kstr _ 0 16 j (by rw [Nat.zero_add]; exact Gf.xor_lt (strB_lt T j) (lR j hj)) hj, Nat.zero_add]
  rw [h4, strB_kstr _ 0 16 j (by rw [Nat.zero_add]; exact Gf.xor_lt (strB_lt S3 j) (lM j hj)) hj, Nat.zero_add, e3, hT j hj, hR j hj, hM j hj, Nat.xor_assoc]
set_option maxRecDepth 100000 in
set_option maxHeartbeats 4000000 in
/-- spec.l02Cmac -/
theorem l02Cmac_any (k : ByteArray) (kn b o n c : Nat) (f : Nat → Nat) (hkn : kn = 4 ∨ kn = 8) (hk : k.size = kn * 4) (hn : n ≤ 65536) (hnc : n ≤ c) (hf : ∀ i, f i < 256) (w : World) (h : Code8 w (some ⟨b, o, none⟩) n f) :
    Calls Try.prog 40 #[.string k, .slice (some ⟨b, o, none⟩) n c] w fun e w' => e = .returned (.string (kstr (cmacB (Gf.ws (strB k) kn (3 * kn + 28)) (kn + 6) n f) 0 16)) ∧ Below w.heap.size w w' := by
  obtain ⟨i0, hi⟩ := info_parts Try.info8
  have HI : Hid (Try.prog.info? 5 = some i0 ∧ i0.zero = some (.int .u8 0) ∧ i0.size = 1 ∧ i0.bytes = 1) := hi
  have TA : Hid (∀ w : World, Calls Try.prog 41 #[] w fun e w' => (∃ b, w.heap.size ≤ b ∧ e = .returned (.slice (some ⟨b, 0, none⟩) 256 256) ∧ w'.rowIs b 3 256 (fun j => .int .i64 (Gf.sub j : Nat))) ∧ Below w.heap.size w w') := table_any
  have KE : Hid (∀ (tb : Nat) (w : World), w.rowIs tb 3 256 (fun j => .int .i64 (Gf.sub j : Nat)) → Calls Try.prog 42 #[.string k, .slice (some ⟨tb, 0, none⟩) 256 256] w fun e w' => (∃ pb po ck, e = .returned (.slice (some ⟨pb, po, none⟩) (kn + 6 + 1) ck) ∧ MK w' pb po tb (kn + 6) (Gf.ws (strB k) kn (3 * kn + 28))) ∧ Below w.heap.size w w') := fun tb w h => mKeys k kn hkn hk tb w h
  have LW : Hid (∀ j, Gf.ws (strB k) kn (3 * kn + 28) j < 256) := Gf.ws_lt (strB_lt k) _
  generalize Gf.ws (strB k) kn (3 * kn + 28) = W at *
  obtain ⟨m, hm⟩ : ∃ m, m = kn + 6 := ⟨_, rfl⟩
  have hm1 : 1 ≤ m := by omega
  have hm2 : m ≤ 14 := by omega
  rw [← hm] at KE ⊢
  have HC : Hid (Code8 w (some ⟨b, o, none⟩) n f) := h
  have LF : Hid (∀ j, f j < 256) := hf
  have LB : Hid (∀ i j, cbcB W m (fun _ => 0) f i j < 256) := fun i j => cbcB_lt LW.out (fun _ => by show (0 : Nat) < 256; omega) hf i j
  obtain ⟨E0, hE0⟩ : ∃ E : Nat → Nat, E = Gf.enc W m (fun _ => 0) := ⟨_, rfl⟩
  have lE : ∀ j, j < 16 → E0 j < 256 := fun j _ => by rw [hE0]; exact Gf.enc_lt LW.out (fun _ _ => by show (0 : Nat) < 256; omega) j
  obtain ⟨D, hD⟩ : ∃ D : Nat → Nat, D = dblB E0 := ⟨_, rfl⟩
  have lD : ∀ j, j < 16 → D j < 256 := fun j hj => by rw [hD]; exact dblB_lt lE j hj
  obtain ⟨SD, hSD⟩ : ∃ S, S = kstr D 0 16 := ⟨_, rfl⟩
  obtain ⟨SE, hSE⟩ : ∃ S, S = kstr E0 0 16 := ⟨_, rfl⟩
  have TW : Hid (∀ w : World, Calls Try.prog 61 #[.string SE] w fun e w' => e = .returned (.string SD) ∧ Below w.heap.size w w') := fun w => by
    have := l02Twice_any SE (by rw [hSE, kstr_size]) w
    rw [hSD, hD]
    rwa [kstr_same (same_dblB (by rw [hSE]; exact same_strB (fun j hj => lE j hj)))] at this
  obtain ⟨SZ, hSZ⟩ : ∃ S, S = kstr (fun _ => 0) 0 16 := ⟨_, rfl⟩
  have EZ : Hid (∀ (pb po ck tb : Nat) (w : World), MK w pb po tb m W → Calls Try.prog 55 #[.slice (some ⟨pb, po, none⟩) (m + 1) ck, .slice (some ⟨tb, 0, none⟩) 256 256, .string SZ] w fun e w' => e = .returned (.string SE) ∧ Below w.heap.size w w') := fun pb po ck tb w h =>
    (mEnc pb po ck tb m W LW.out hm1 hm2 SZ (by rw [hSZ, kstr_size]) w h).mono fun e w' hh => ⟨by
      rw [hh.1, hSE, hE0]
      refine congrArg (fun x => Ending.returned (.string x)) (kstr_same (Gf.same_enc ?_))
      rw [hSZ]
      exact same_strB (fun _ _ => by show (0 : Nat) < 256; omega), hh.2⟩
  have HZS : Hid (SZ.size = 16) := by show SZ.size = 16; rw [hSZ, kstr_size]
  have HZB : Hid (Gf.Same (strB SZ) (cbcB W m (fun _ => 0) f 0)) := by
    show Gf.Same (strB SZ) (fun _ => 0)
    rw [hSZ]; exact same_strB (fun _ _ => by show (0 : Nat) < 256; omega)
  have HSZ : Hid (SZ = kstr (fun _ => 0) 0 16) := hSZ
  have HSD : Hid (SD = kstr D 0 16) := hSD
  have HDD : Hid (D = dblB (Gf.enc W m (fun _ => 0))) := by show D = _; rw [hD, hE0]
  have HLD : Hid (∀ j, j < 16 → D j < 256) := lD
  have HQ0 : Hid ((n + 15) / 16 = cmQ n + 1 ∨ (n = 0 ∧ cmQ n = 0)) := by
    show (n + 15) / 16 = cmQ n + 1 ∨ (n = 0 ∧ cmQ n = 0)
    unfold cmQ; omega
  clear h hf hkn hk hm hi hSZ hSD hSE hD hE0 lD lE
  go_enter Try.func40, Try.ntmps40
  go_wp2_with fail
  refine (TA.out _).mono ?_
  rintro e w1 ⟨⟨tb, htb, rfl, hrow⟩, hB1⟩
  have HR : Hid (w1.rowIs tb 3 256 (fun j => .int .i64 (Gf.sub j : Nat))) := hrow
  have HB1 : Hid (Below w.heap.size w w1) := hB1
  clear hrow hB1
  go_wp2_with fail
  refine (KE.out tb w1 HR.out).mono ?_
  rintro e w2 ⟨⟨pb, po, ck, rfl, hmk⟩, hB2⟩
  have HM : Hid (MK w2 pb po tb m W) := hmk
  have HB2 : Hid (Below w.heap.size w w2) := HB1.out.trans (hB2.mono HB1.out.size)
  clear hmk hB2 HR HB1 TA KE
  obtain ⟨wa, hma, hca, hba⟩ := mk16 w2
  rw [← HSZ.out] at hca
  have HMa : Hid (MK wa pb po tb m W) := HM.out.below hba
  have HBa : Hid (Below w.heap.size w wa) := HB2.out.trans (hba.mono HB2.out.size)
  clear HM HB2 hba
  go_wp2_with fail
  refine (EZ.out _ _ _ _ _ HMa.out).mono ?_
  rintro e w3 ⟨rfl, hb3⟩
  have HM3 : Hid (MK w3 pb po tb m W) := HMa.out.below hb3
  have HB3 : Hid (Below w.heap.size w w3) := HBa.out.trans (hb3.mono HBa.out.size)
  clear HMa HBa hb3 EZ hma hca
  go_wp2_with fail
  refine (TW.out _).mono ?_
  rintro e w4 ⟨rfl, hb4⟩
  obtain ⟨w5, hm5, hc5, hb5⟩ := mk16 w4
  rw [← HSZ.out] at hc5
  have HM5 : Hid (MK w5 pb po tb m W) := (HM3.out.below hb4).below hb5
  have HB5 : Hid (Below w.heap.size w w5) := (HB3.out.trans (hb4.mono HB3.out.size)).trans (hb5.mono (HB3.out.trans (hb4.mono HB3.out.size)).size)
  clear HM3 HB3 hb4 hb5 TW
  go_upto_region 5 with fail
  clear hm5 hc5
  obtain ⟨q, hq⟩ : ∃ q, q = cmQ n := ⟨_, rfl⟩
  have HQ : Hid (q = cmQ n) := hq
  obtain ⟨d, hd⟩ : ∃ d, d = (n + 15) / 16 := ⟨_, rfl⟩
  have d1 : IntKind.i64.wrap ((n : Int) + 15) = (n : Int) + 15 := IntWalk.i64_in _ ⟨by omega, by omega⟩
  have d2 : ((n : Int) + 15) / 16 = (d : Int) := by omega
  have d3 : ((n : Int) + 15).tdiv 16 = (d : Int) := by rw [Int.tdiv_eq_ediv_of_nonneg (by omega)]; exact d2
  have d4 : (if (1 : Int) < (d : Int) then (d : Int) else 1) = (q : Int) + 1 := by
    have := HQ0.out
    split <;> omega
  have d5 : IntKind.i64.wrap (d : Int) = (d : Int) := IntWalk.i64_in _ ⟨by omega, by omega⟩
  clear hq hd
  go_upto_region 6 with fail
  have hqn : 16 * q ≤ n := by have := HQ.out; unfold cmQ at this; omega
  have hqm : n ≤ 16 * q + 16 := by have := HQ.out; unfold cmQ at this; omega
  have HQN : Hid (∀ r, r < q → 16 * r + 16 < n) := fun r hr => by have := HQ.out; unfold cmQ at this; omega
  clear d1 d2 d3 d4 d5 HQ0
  go_wp2_with fail
  go_loopw [8, 10] (fun l i wr => ∃ (r : Nat) (T : ByteArray), r ≤ q ∧ i = .int .i64 (r : Int) ∧ l = .string T ∧ T.size = 16 ∧ Gf.Same (strB T) (cbcB W m (fun _ => 0) f r) ∧ MK wr pb po tb m W ∧ Below w.heap.size w wr) (fun _ i _ => q - (intOf i).toNat)
  case atStart => exact ⟨0, SZ, by omega, rfl, rfl, HZS.out, HZB.out, HM5.out, HB5.out⟩
  case round =>
    clear HM5 HB5 HZS HZB
    obtain ⟨r, T, hr, rfl, rfl, hT, hTS, hmk, hb⟩ := hrel
    have HM : Hid (MK wr pb po tb m W) := hmk
    have HB : Hid (Below w.heap.size w wr) := hb
    clear hmk hb
    by_cases hlt : r < q
    · have hrn := HQN.out r hlt
      have hbw : b < w.heap.size := HC.out.lt _ (by omega) rfl
      have g1 : (r : Int) < (q : Int) := by omega
      have g0 : (0 : Int) ≤ 16 * (r : Int) := by omega
      have g2 : 16 * (r : Int) + 16 ≤ (c : Int) := by omega
      have g3 : 16 * (r : Int) ≤ 16 * (r : Int) + 16 := by omega
      have g4 : (16 * (r : Int)).toNat = 16 * r := by omega
      have g5 : (16 * (r : Int) + 16).toNat = 16 * r + 16 := by omega
      have g6 : ¬ c = 16 * r := by omega
      have g7 : 16 * r + 16 - 16 * r = 16 := by omega
      obtain ⟨S2, hS2⟩ : ∃ S2, S2 = kstr (fun j => strB T j ^^^ f (16 * r + j)) 0 16 := ⟨_, rfl⟩
      have HCd : Hid (Code8 wr (some ⟨b, o + 16 * r, none⟩) 16 (fun j => f (16 * r + j))) := code8_of (fun j hj => by
        rw [HB.out.cell (p := ⟨b, o + 16 * r + j, none⟩) hbw, Nat.add_assoc]
        exact HC.out.at (by omega))
      have BO : Hid (∀ w : World, Code8 w (some ⟨b, o + 16 * r, none⟩) 16 (fun j => f (16 * r + j)) → Calls Try.prog 43 #[.string T, .slice (some ⟨b, o + 16 * r, none⟩) 16 (c - 16 * r)] w fun e w' => e = .returned (.string S2) ∧ Below w.heap.size w w') := fun w h => by
        rw [hS2]
        exact l02Both_any T hT b (o + 16 * r) (c - 16 * r) (fun j => f (16 * r + j)) (fun j _ => LF.out _) w h
      have EN : Hid (∀ w : World, MK w pb po tb m W → Calls Try.prog 55 #[.slice (some ⟨pb, po, none⟩) (m + 1) ck, .slice (some ⟨tb, 0, none⟩) 256 256, .string S2] w fun e w' => e = .returned (.string (kstr (cbcB W m (fun _ => 0) f (r + 1)) 0 16)) ∧ Below w.heap.size w w') := fun w h =>
        (mEnc pb po ck tb m W LW.out hm1 hm2 S2 (by rw [hS2, kstr_size]) w h).mono fun e w' hh => ⟨by
          rw [hh.1]
          refine congrArg (fun x => Ending.returned (.string x)) (kstr_same (Gf.same_enc (fun j hj => ?_)))
          rw [hS2, strB_kstr _ 0 16 j (by rw [Nat.zero_add]; exact Gf.xor_lt (strB_lt T j) (LF.out _)) hj, Nat.zero_add, hTS j hj], hh.2⟩
      have HS16 : Hid ((kstr (cbcB W m (fun _ => 0) f (r + 1)) 0 16).size = 16) := kstr_size _ _ _
      have HTS : Hid (Gf.Same (strB (kstr (cbcB W m (fun _ => 0) f (r + 1)) 0 16)) (cbcB W m (fun _ => 0) f (r + 1))) := same_strB (fun j _ => LB.out _ _)
      generalize kstr (cbcB W m (fun _ => 0) f (r + 1)) 0 16 = E1 at *
      clear hS2 hT hTS
      go_wp2_with fail
      refine (BO.out _ HCd.out).mono ?_
      rintro e w6 ⟨rfl, hb6⟩
      have HM6 : Hid (MK w6 pb po tb m W) := HM.out.below hb6
      have HB6 : Hid (Below w.heap.size w w6) := HB.out.trans (hb6.mono HB.out.size)
      clear hb6 HM HB BO HCd
      go_wp2_with fail
      refine (EN.out _ HM6.out).mono ?_
      rintro e w7 ⟨rfl, hb7⟩
      have HM7 : Hid (MK w7 pb po tb m W) := HM6.out.below hb7
      have HB7 : Hid (Below w.heap.size w w7) := HB6.out.trans (hb7.mono HB6.out.size)
      clear hb7 HM6 HB6 EN
      go_wp2_with fail
      go_roundw
      case rel => exact ⟨r + 1, E1, by omega, by go_num, rfl, HS16.out, HTS.out, HM7.out, HB7.out⟩
      case measure => simp [intOf]; omega
    · obtain rfl : r = q := by omega
      have HLast : Hid (∀ wq : World, Below w.heap.size w wq → Code8 wq (some ⟨b, o + 16 * r, none⟩) (n - 16 * r) (fun j => f (16 * r + j))) := fun wq hq => code8_of (fun j hj => by
        have hbw : b < w.heap.size := HC.out.lt _ (by omega) rfl
        rw [hq.cell (p := ⟨b, o + 16 * r + j, none⟩) hbw, Nat.add_assoc]
        exact HC.out.at (by omega))
      obtain ⟨L, hL⟩ : ∃ L, L = n - 16 * r := ⟨_, rfl⟩
      rw [← hL] at HLast
      have hL16 : L ≤ 16 := by omega
      have HL : Hid (L = n - 16 * r) := hL
      have g1 : ¬ (r : Int) < (r : Int) := by omega
      have g0 : (0 : Int) ≤ 16 * (r : Int) := by omega
      have g2 : 16 * (r : Int) ≤ (n : Int) := by omega
      have g4 : (16 * (r : Int)).toNat = 16 * r := by omega
      have eL : n - 16 * r = L := hL.symm
      have HO8 : Hid ((wr.alloc (.cells #[] 5)).ownsRow wr.heap.size 5 1 (.slice (some ⟨wr.heap.size, 0, none⟩) 0 0) 0 []) := World.ownsRow_made wr #[] 0 (Nat.le_refl _) (Nat.zero_le _) (by simp)
      have HM8 : Hid (MK (wr.alloc (.cells #[] 5)) pb po tb m W) := HM.out.alloc _
      have HB8 : Hid (Below w.heap.size w (wr.alloc (.cells #[] 5))) := HB.out.alloc HB.out.size _
      have hw8 : wr.heap.size ≤ (wr.alloc (.cells #[] 5)).heap.size := by simp
      have hpt := HM.out.lt
      have hwr := HB.out.size
      have HTT : Hid (Gf.Same (strB T) (cbcB W m (fun _ => 0) f (cmQ n))) := by show Gf.Same _ _; rw [← HQ.out]; exact hTS
      have HT16 : Hid (T.size = 16) := hT
      clear HM HB hL hTS hT
      by_cases hc0 : c = 16 * r
      · have hr0 : r = 0 := by have h9 := HQ.out; unfold cmQ at h9; omega
        have HL0 : Hid (L = 0) := by show L = 0; omega
        clear hr0
        go_wp2_with (at_builtin; refine wpList_append_own _ rfl _ _ 22 rfl wr.heap.size 5 i0 (.int .u8 0) 1 1 Try.underlying22 HI.out.1 HI.out.2.1 HI.out.2.2.1 HI.out.2.2.2 rfl (by decide) _ _ _ rfl HO8.out _ L _ (bv L (fun j => f (16 * r + j))) rfl (by rw [bv_length, Nat.mul_one]) (fun j u hj => by rw [HL0.out] at hj; simp [bv] at hj) (bv_one _ _) (by unfold maxLen; omega) (by omega) hw8 ?_)
        intro v9 w9 hown hgrow hnil
        have BG := grown_below HO8.out hgrow hw8
        have HM9 : Hid (MK w9 pb po tb m W) := HM8.out.belowAt BG hpt.1 hpt.2
        have HB9 : Hid (Below w.heap.size w w9) := HB8.out.trans (BG.mono hwr)
        have hw9 := Nat.le_trans hw8 BG.size
        obtain ⟨g9, c9, ⟨hg9, hc9⟩, rfl, ho9⟩ := own8_of_own (n := L) hown hnil
        have HO9 : Hid (w9.ownsRow wr.heap.size 5 1 (.slice (some ⟨g9, 0, none⟩) L c9) L (bv L (fun j => f (16 * r + j)))) := hown
        clear hown hgrow hnil BG HO8 HM8 HB8
        have hl16 : L < 16 := by omega
        obtain ⟨FX, hFX⟩ : ∃ F : Nat → Nat, F = fillB L (fun j => f (16 * r + j)) := ⟨_, rfl⟩
        have lFX : ∀ j, FX j < 256 := fun j => by rw [hFX]; exact fillB_lt (fun i => LF.out _) j
        have HFX : Hid (∀ j, FX j < 256) := lFX
        have eF : FX L = 128 := by rw [hFX]; unfold fillB; rw [if_neg (by omega), if_pos rfl]
        have HFZ : Hid (∀ j, L < j → FX j = 0) := fun j hj => by rw [hFX]; unfold fillB; rw [if_neg (by omega), if_neg (by omega)]
        have HSN : Hid (bv L FX ++ [.int .u8 128] = bv (L + 1) FX) := by
          have := bv_snoc L FX
          rw [eF] at this
          exact this
        have HOF : Hid (w9.ownsRow wr.heap.size 5 1 (.slice (some ⟨g9, 0, none⟩) L c9) L (bv L FX)) := by
          show w9.ownsRow _ _ _ _ _ _
          rw [show bv L FX = bv L (fun j => f (16 * r + j)) from bv_congr (fun i hi => by rw [hFX]; unfold fillB; rw [if_pos hi])]
          exact HO9.out
        obtain ⟨S2, hS2⟩ : ∃ S, S = kstr (dblB D) 0 16 := ⟨_, rfl⟩
        obtain ⟨S3, hS3⟩ : ∃ S, S = kstr (fun j => strB T j ^^^ FX j) 0 16 := ⟨_, rfl⟩
        obtain ⟨S4, hS4⟩ : ∃ S, S = kstr (fun j => strB S3 j ^^^ dblB D j) 0 16 := ⟨_, rfl⟩
        have lDD : ∀ j, j < 16 → dblB D j < 256 := fun j hj => dblB_lt HLD.out j hj
        have TAGE : Hid (kstr (Gf.enc W m (strB S4)) 0 16 = kstr (cmacB W m n f) 0 16) := cm_tag HTT.out (fun j hj => by
            have h9 := HL.out
            rw [hFX]
            unfold lastS fillB
            rw [← HQ.out]
            by_cases h1 : j < L
            · rw [if_pos h1, if_pos (show 16 * r + j < n by omega)]
            · rw [if_neg h1, if_neg (show ¬ 16 * r + j < n by omega)]
              by_cases h2 : j = L
              · rw [if_pos h2, if_pos (show 16 * r + j = n by omega)]
              · rw [if_neg h2, if_neg (show ¬ 16 * r + j = n by omega)]) (fun j hj => by
            unfold maskB
            rw [← HQ.out, if_pos (by omega), HDD.out]) (fun j _ => lFX j) lDD hS3 hS4
        have TW2 : Hid (∀ w : World, Calls Try.prog 61 #[.string SD] w fun e w' => e = .returned (.string S2) ∧ Below w.heap.size w w') := fun w => by
          have := l02Twice_any SD (by rw [HSD.out, kstr_size]) w
          rw [hS2]
          rwa [kstr_same (same_dblB (by rw [HSD.out]; exact same_strB HLD.out))] at this
        have BO : Hid (∀ (g cc : Nat) (w : World), Code8 w (some ⟨g, 0, none⟩) 16 FX → Calls Try.prog 43 #[.string T, .slice (some ⟨g, 0, none⟩) 16 cc] w fun e w' => e = .returned (.string S3) ∧ Below w.heap.size w w') := fun g cc w h => by
          rw [hS3]; exact l02Both_any T HT16.out g 0 cc FX (fun j _ => lFX j) w h
        have BO2 : Hid (∀ (gz gc : Nat) (w : World), Code8 w (some ⟨gz, 0, none⟩) 16 (dblB D) → Calls Try.prog 43 #[.string S3, .slice (some ⟨gz, 0, none⟩) 16 gc] w fun e w' => e = .returned (.string S4) ∧ Below w.heap.size w w') := fun gz gc w h => by
          rw [hS4]; exact l02Both_any S3 (by rw [hS3, kstr_size]) gz 0 gc (dblB D) lDD w h
        have EN : Hid (∀ w : World, MK w pb po tb m W → Calls Try.prog 55 #[.slice (some ⟨pb, po, none⟩) (m + 1) ck, .slice (some ⟨tb, 0, none⟩) 256 256, .string S4] w fun e w' => e = .returned (.string (kstr (cmacB W m n f) 0 16)) ∧ Below w.heap.size w w') := fun w h =>
          (mEnc pb po ck tb m W LW.out hm1 hm2 S4 (by rw [hS4, kstr_size]) w h).mono fun e w' hh => ⟨by rw [hh.1, TAGE.out], hh.2⟩
        have HS2 : Hid (S2 = kstr (dblB D) 0 16) := hS2
        have HLDD : Hid (∀ j, j < 16 → dblB D j < 256) := lDD
        have z16 : (L : Int) < 16 := by omega
        clear HO9 ho9 hS2 hS3 hS4 TAGE HTT HT16 HLast eL hFX lFX eF lDD
        go_wp2_with fail
        refine (TW2.out _).mono ?_
        rintro e w10 ⟨rfl, hb10⟩
        have HO10 : Hid (w10.ownsRow wr.heap.size 5 1 (.slice (some ⟨g9, 0, none⟩) L c9) L (bv L FX)) := ownsRow_below8 HOF.out hb10
        have HM10 : Hid (MK w10 pb po tb m W) := HM9.out.below hb10
        have HB10 : Hid (Below w.heap.size w w10) := HB9.out.trans (hb10.mono HB9.out.size)
        have hw10 := Nat.le_trans hw9 hb10.size
        clear hb10 TW2 HM9 HB9 HOF
        go_wp2_with (at_builtin; refine wpList_append_own _ rfl _ _ 22 rfl wr.heap.size 5 i0 (.int .u8 0) 1 1 Try.underlying22 HI.out.1 HI.out.2.1 HI.out.2.2.1 HI.out.2.2.2 rfl (by decide) _ _ _ rfl (HO10.out.alloc _) ⟨w10.heap.size, 0, none⟩ 1 1 [.int .u8 128] rfl rfl (one_new8 _ _ _) (one_one8 _) (by unfold maxLen; omega) (by omega) (by simp; omega) ?_)
        intro v11 w11 hown11 hgrow11 hnil11
        rw [HSN.out] at hown11
        have BG := grown_below (HO10.out.alloc _) hgrow11 (by simp; omega)
        have HM11 : Hid (MK w11 pb po tb m W) := (HM10.out.alloc _).belowAt BG hpt.1 hpt.2
        have HB11 : Hid (Below w.heap.size w w11) := (HB10.out.alloc HB10.out.size _).trans (BG.mono hwr)
        have hw11 : wr.heap.size ≤ w11.heap.size := Nat.le_trans (by simp; omega) BG.size
        obtain ⟨g11, c11, ⟨hg11, hc11⟩, rfl, -⟩ := own8_of_own (n := L + 1) hown11 hnil11
        obtain ⟨v12, w12, hrun, ho12, hgr12, hnil12⟩ := run_own_zeros w11 wr.heap.size 22 3 22 5 i0 Try.underlying22 Try.underlying3 HI.out.1 HI.out.2.1 HI.out.2.2.1 HI.out.2.2.2 g11 (L + 1) c11 (15 - L) _ hown11 (by omega) (by omega) hw11
        have BG2 : Below wr.heap.size w11 w12 := (Below.refl _ w11).grown hgr12 hw11 (fun k hk => by cases hk; exact hg11)
        rw [bv_append, show L + 1 + (15 - L) = 16 by omega] at ho12
        obtain ⟨g12, c12, -, rfl, hO12⟩ := own8_of_own (n := 16) ho12 hnil12
        have HC12 : Hid (Code8 w12 (some ⟨g12, 0, none⟩) 16 FX) := code8_of (fun j hj => by
          rw [Nat.zero_add, hO12.cell hj]
          by_cases e : j < L + 1
          · rw [if_pos e]
          · rw [if_neg e, HFZ.out j (by omega)])
        have HM12 : Hid (MK w12 pb po tb m W) := HM11.out.belowAt BG2 hpt.1 hpt.2
        have HB12 : Hid (Below w.heap.size w w12) := HB11.out.trans (BG2.mono hwr)
        have zk : (16 : Int) - ((L : Int) + 1) = ((15 - L : Nat) : Int) := by omega
        clear hown11 hgrow11 hnil11 BG BG2 ho12 hgr12 hnil12 hO12 HM10 HB10 HM11 HB11 HO10
        go_wp2_with (at_builtin; refine Lib.wpList_append_run _ rfl _ _ _ _ rfl _ _ rfl rfl _ _ hrun ?_)
        refine (BO.out _ _ _ HC12.out).mono ?_
        rintro e wA ⟨rfl, hbA⟩
        obtain ⟨wB, gz, hcz, hwb, hbB, -⟩ := bytesOf S2 wA
        rw [show S2.size = 16 from by rw [HS2.out, kstr_size]] at hcz hwb
        have HCB : Hid (Code8 wB (some ⟨wA.heap.size, 0, none⟩) 16 (dblB D)) := (hwb.congr (fun j hj => by rw [HS2.out]; exact same_strB HLDD.out j hj)).code
        have HMB : Hid (MK wB pb po tb m W) := (HM12.out.below hbA).below hbB
        have HBA : Below w.heap.size w wA := HB12.out.trans (hbA.mono HB12.out.size)
        have HBB : Hid (Below w.heap.size w wB) := HBA.trans (hbB.mono HBA.size)
        clear hbA hbB hwb HBA HM12 HB12 HC12 BO hrun
        go_wp2_with fail
        refine (BO2.out _ _ _ HCB.out).mono ?_
        rintro e wC ⟨rfl, hbC⟩
        have HMC : Hid (MK wC pb po tb m W) := HMB.out.below hbC
        have HBC : Hid (Below w.heap.size w wC) := HBB.out.trans (hbC.mono HBB.out.size)
        clear hbC HMB HBB HCB BO2 hcz
        go_wp2_with fail
        refine (EN.out _ HMC.out).mono ?_
        rintro e wD ⟨rfl, hbD⟩
        have HBD : Hid (Below w.heap.size w wD) := HBC.out.trans (hbD.mono HBC.out.size)
        clear hbD HMC HBC EN
        go_wp2
        go_ret
        exact ⟨rfl, HBD.out⟩
      · go_wp2_with (at_builtin; refine wpList_append_own _ rfl _ _ 22 rfl wr.heap.size 5 i0 (.int .u8 0) 1 1 Try.underlying22 HI.out.1 HI.out.2.1 HI.out.2.2.1 HI.out.2.2.2 rfl (by decide) _ _ _ rfl HO8.out ⟨b, o + 16 * r, none⟩ L (c - 16 * r) (bv L (fun j => f (16 * r + j))) rfl (by rw [bv_length, Nat.mul_one]) (bv_news (HLast.out _ HB8.out)) (bv_one _ _) (by unfold maxLen; omega) (by omega) hw8 ?_)
        intro v9 w9 hown hgrow hnil
        have BG := grown_below HO8.out hgrow hw8
        have HM9 : Hid (MK w9 pb po tb m W) := HM8.out.belowAt BG hpt.1 hpt.2
        have HB9 : Hid (Below w.heap.size w w9) := HB8.out.trans (BG.mono hwr)
        have hw9 := Nat.le_trans hw8 BG.size
        obtain ⟨g9, c9, ⟨hg9, hc9⟩, rfl, ho9⟩ := own8_of_own (n := L) hown hnil
        have HO9 : Hid (w9.ownsRow wr.heap.size 5 1 (.slice (some ⟨g9, 0, none⟩) L c9) L (bv L (fun j => f (16 * r + j)))) := hown
        clear hown hgrow hnil BG HO8 HM8 HB8
        by_cases h16 : L = 16
        · have ho16 : Own8 w9 g9 16 (fun j => f (16 * r + j)) := by rw [h16] at ho9; exact ho9
          have HR9 : Hid (Code8 w9 (some ⟨g9, 0, none⟩) 16 (fun j => f (16 * r + j))) := code8_of (fun j hj => by rw [Nat.zero_add]; exact ho16.cell hj)
          obtain ⟨S3, hS3⟩ : ∃ S, S = kstr (fun j => strB T j ^^^ f (16 * r + j)) 0 16 := ⟨_, rfl⟩
          obtain ⟨S4, hS4⟩ : ∃ S, S = kstr (fun j => strB S3 j ^^^ D j) 0 16 := ⟨_, rfl⟩
          have TAGE : Hid (kstr (Gf.enc W m (strB S4)) 0 16 = kstr (cmacB W m n f) 0 16) := cm_tag HTT.out (fun j hj => by
              unfold lastS
              rw [← HQ.out, if_pos (by omega)]) (fun j hj => by
              unfold maskB
              rw [← HQ.out, if_neg (by omega), HDD.out]) (fun j _ => LF.out _) HLD.out hS3 hS4
          have BO : Hid (∀ w : World, Code8 w (some ⟨g9, 0, none⟩) 16 (fun j => f (16 * r + j)) → Calls Try.prog 43 #[.string T, .slice (some ⟨g9, 0, none⟩) 16 c9] w fun e w' => e = .returned (.string S3) ∧ Below w.heap.size w w') := fun w h => by
            rw [hS3]; exact l02Both_any T HT16.out g9 0 c9 (fun j => f (16 * r + j)) (fun j _ => LF.out _) w h
          have BO2 : Hid (∀ (gz gc : Nat) (w : World), Code8 w (some ⟨gz, 0, none⟩) 16 D → Calls Try.prog 43 #[.string S3, .slice (some ⟨gz, 0, none⟩) 16 gc] w fun e w' => e = .returned (.string S4) ∧ Below w.heap.size w w') := fun gz gc w h => by
            rw [hS4]; exact l02Both_any S3 (by rw [hS3, kstr_size]) gz 0 gc D HLD.out w h
          have EN : Hid (∀ w : World, MK w pb po tb m W → Calls Try.prog 55 #[.slice (some ⟨pb, po, none⟩) (m + 1) ck, .slice (some ⟨tb, 0, none⟩) 256 256, .string S4] w fun e w' => e = .returned (.string (kstr (cmacB W m n f) 0 16)) ∧ Below w.heap.size w w') := fun w h =>
            (mEnc pb po ck tb m W LW.out hm1 hm2 S4 (by rw [hS4, kstr_size]) w h).mono fun e w' hh => ⟨by rw [hh.1, TAGE.out], hh.2⟩
          have z16 : ¬ (L : Int) < 16 := by omega
          have eL16 : L = 16 := h16
          clear HO9 ho9 ho16 hS3 hS4 TAGE HTT HT16 h16 HLast eL
          subst eL16
          go_wp2_with fail
          refine (BO.out _ HR9.out).mono ?_
          rintro e wA ⟨rfl, hbA⟩
          obtain ⟨wB, gz, hcz, hwb, hbB, -⟩ := bytesOf SD wA
          rw [show SD.size = 16 from by rw [HSD.out, kstr_size]] at hcz hwb
          have HCB : Hid (Code8 wB (some ⟨wA.heap.size, 0, none⟩) 16 D) := (hwb.congr (fun j hj => by rw [HSD.out]; exact same_strB HLD.out j hj)).code
          have HMB : Hid (MK wB pb po tb m W) := (HM9.out.below hbA).below hbB
          have HBA : Below w.heap.size w wA := HB9.out.trans (hbA.mono HB9.out.size)
          have HBB : Hid (Below w.heap.size w wB) := HBA.trans (hbB.mono HBA.size)
          clear hbA hbB hwb HBA HM9 HB9 HR9 BO
          go_wp2_with fail
          refine (BO2.out _ _ _ HCB.out).mono ?_
          rintro e wC ⟨rfl, hbC⟩
          have HMC : Hid (MK wC pb po tb m W) := HMB.out.below hbC
          have HBC : Hid (Below w.heap.size w wC) := HBB.out.trans (hbC.mono HBB.out.size)
          clear hbC HMB HBB HCB BO2 hcz
          go_wp2_with fail
          refine (EN.out _ HMC.out).mono ?_
          rintro e wD ⟨rfl, hbD⟩
          have HBD : Hid (Below w.heap.size w wD) := HBC.out.trans (hbD.mono HBC.out.size)
          clear hbD HMC HBC EN
          go_wp2
          go_ret
          exact ⟨rfl, HBD.out⟩
        · have hl16 : L < 16 := by omega
          obtain ⟨FX, hFX⟩ : ∃ F : Nat → Nat, F = fillB L (fun j => f (16 * r + j)) := ⟨_, rfl⟩
          have lFX : ∀ j, FX j < 256 := fun j => by rw [hFX]; exact fillB_lt (fun i => LF.out _) j
          have HFX : Hid (∀ j, FX j < 256) := lFX
          have eF : FX L = 128 := by rw [hFX]; unfold fillB; rw [if_neg (by omega), if_pos rfl]
          have HFZ : Hid (∀ j, L < j → FX j = 0) := fun j hj => by rw [hFX]; unfold fillB; rw [if_neg (by omega), if_neg (by omega)]
          have HSN : Hid (bv L FX ++ [.int .u8 128] = bv (L + 1) FX) := by
            have := bv_snoc L FX
            rw [eF] at this
            exact this
          have HOF : Hid (w9.ownsRow wr.heap.size 5 1 (.slice (some ⟨g9, 0, none⟩) L c9) L (bv L FX)) := by
            show w9.ownsRow _ _ _ _ _ _
            rw [show bv L FX = bv L (fun j => f (16 * r + j)) from bv_congr (fun i hi => by rw [hFX]; unfold fillB; rw [if_pos hi])]
            exact HO9.out
          obtain ⟨S2, hS2⟩ : ∃ S, S = kstr (dblB D) 0 16 := ⟨_, rfl⟩
          obtain ⟨S3, hS3⟩ : ∃ S, S = kstr (fun j => strB T j ^^^ FX j) 0 16 := ⟨_, rfl⟩
          obtain ⟨S4, hS4⟩ : ∃ S, S = kstr (fun j => strB S3 j ^^^ dblB D j) 0 16 := ⟨_, rfl⟩
          have lDD : ∀ j, j < 16 → dblB D j < 256 := fun j hj => dblB_lt HLD.out j hj
          have TAGE : Hid (kstr (Gf.enc W m (strB S4)) 0 16 = kstr (cmacB W m n f) 0 16) := cm_tag HTT.out (fun j hj => by
              have h9 := HL.out
              rw [hFX]
              unfold lastS fillB
              rw [← HQ.out]
              by_cases h1 : j < L
              · rw [if_pos h1, if_pos (show 16 * r + j < n by omega)]
              · rw [if_neg h1, if_neg (show ¬ 16 * r + j < n by omega)]
                by_cases h2 : j = L
                · rw [if_pos h2, if_pos (show 16 * r + j = n by omega)]
                · rw [if_neg h2, if_neg (show ¬ 16 * r + j = n by omega)]) (fun j hj => by
              unfold maskB
              rw [← HQ.out, if_pos (by omega), HDD.out]) (fun j _ => lFX j) lDD hS3 hS4
          have TW2 : Hid (∀ w : World, Calls Try.prog 61 #[.string SD] w fun e w' => e = .returned (.string S2) ∧ Below w.heap.size w w') := fun w => by
            have := l02Twice_any SD (by rw [HSD.out, kstr_size]) w
            rw [hS2]
            rwa [kstr_same (same_dblB (by rw [HSD.out]; exact same_strB HLD.out))] at this
          have BO : Hid (∀ (g cc : Nat) (w : World), Code8 w (some ⟨g, 0, none⟩) 16 FX → Calls Try.prog 43 #[.string T, .slice (some ⟨g, 0, none⟩) 16 cc] w fun e w' => e = .returned (.string S3) ∧ Below w.heap.size w w') := fun g cc w h => by
            rw [hS3]; exact l02Both_any T HT16.out g 0 cc FX (fun j _ => lFX j) w h
          have BO2 : Hid (∀ (gz gc : Nat) (w : World), Code8 w (some ⟨gz, 0, none⟩) 16 (dblB D) → Calls Try.prog 43 #[.string S3, .slice (some ⟨gz, 0, none⟩) 16 gc] w fun e w' => e = .returned (.string S4) ∧ Below w.heap.size w w') := fun gz gc w h => by
            rw [hS4]; exact l02Both_any S3 (by rw [hS3, kstr_size]) gz 0 gc (dblB D) lDD w h
          have EN : Hid (∀ w : World, MK w pb po tb m W → Calls Try.prog 55 #[.slice (some ⟨pb, po, none⟩) (m + 1) ck, .slice (some ⟨tb, 0, none⟩) 256 256, .string S4] w fun e w' => e = .returned (.string (kstr (cmacB W m n f) 0 16)) ∧ Below w.heap.size w w') := fun w h =>
            (mEnc pb po ck tb m W LW.out hm1 hm2 S4 (by rw [hS4, kstr_size]) w h).mono fun e w' hh => ⟨by rw [hh.1, TAGE.out], hh.2⟩
          have HS2 : Hid (S2 = kstr (dblB D) 0 16) := hS2
          have HLDD : Hid (∀ j, j < 16 → dblB D j < 256) := lDD
          have z16 : (L : Int) < 16 := by omega
          clear HO9 ho9 hS2 hS3 hS4 TAGE HTT HT16 h16 HLast eL hFX lFX eF lDD
          go_wp2_with fail
          refine (TW2.out _).mono ?_
          rintro e w10 ⟨rfl, hb10⟩
          have HO10 : Hid (w10.ownsRow wr.heap.size 5 1 (.slice (some ⟨g9, 0, none⟩) L c9) L (bv L FX)) := ownsRow_below8 HOF.out hb10
          have HM10 : Hid (MK w10 pb po tb m W) := HM9.out.below hb10
          have HB10 : Hid (Below w.heap.size w w10) := HB9.out.trans (hb10.mono HB9.out.size)
          have hw10 := Nat.le_trans hw9 hb10.size
          clear hb10 TW2 HM9 HB9 HOF
          go_wp2_with (at_builtin; refine wpList_append_own _ rfl _ _ 22 rfl wr.heap.size 5 i0 (.int .u8 0) 1 1 Try.underlying22 HI.out.1 HI.out.2.1 HI.out.2.2.1 HI.out.2.2.2 rfl (by decide) _ _ _ rfl (HO10.out.alloc _) ⟨w10.heap.size, 0, none⟩ 1 1 [.int .u8 128] rfl rfl (one_new8 _ _ _) (one_one8 _) (by unfold maxLen; omega) (by omega) (by simp; omega) ?_)
          intro v11 w11 hown11 hgrow11 hnil11
          rw [HSN.out] at hown11
          have BG := grown_below (HO10.out.alloc _) hgrow11 (by simp; omega)
          have HM11 : Hid (MK w11 pb po tb m W) := (HM10.out.alloc _).belowAt BG hpt.1 hpt.2
          have HB11 : Hid (Below w.heap.size w w11) := (HB10.out.alloc HB10.out.size _).trans (BG.mono hwr)
          have hw11 : wr.heap.size ≤ w11.heap.size := Nat.le_trans (by simp; omega) BG.size
          obtain ⟨g11, c11, ⟨hg11, hc11⟩, rfl, -⟩ := own8_of_own (n := L + 1) hown11 hnil11
          obtain ⟨v12, w12, hrun, ho12, hgr12, hnil12⟩ := run_own_zeros w11 wr.heap.size 22 3 22 5 i0 Try.underlying22 Try.underlying3 HI.out.1 HI.out.2.1 HI.out.2.2.1 HI.out.2.2.2 g11 (L + 1) c11 (15 - L) _ hown11 (by omega) (by omega) hw11
          have BG2 : Below wr.heap.size w11 w12 := (Below.refl _ w11).grown hgr12 hw11 (fun k hk => by cases hk; exact hg11)
          rw [bv_append, show L + 1 + (15 - L) = 16 by omega] at ho12
          obtain ⟨g12, c12, -, rfl, hO12⟩ := own8_of_own (n := 16) ho12 hnil12
          have HC12 : Hid (Code8 w12 (some ⟨g12, 0, none⟩) 16 FX) := code8_of (fun j hj => by
            rw [Nat.zero_add, hO12.cell hj]
            by_cases e : j < L + 1
            · rw [if_pos e]
            · rw [if_neg e, HFZ.out j (by omega)])
          have HM12 : Hid (MK w12 pb po tb m W) := HM11.out.belowAt BG2 hpt.1 hpt.2
          have HB12 : Hid (Below w.heap.size w w12) := HB11.out.trans (BG2.mono hwr)
          have zk : (16 : Int) - ((L : Int) + 1) = ((15 - L : Nat) : Int) := by omega
          clear hown11 hgrow11 hnil11 BG BG2 ho12 hgr12 hnil12 hO12 HM10 HB10 HM11 HB11 HO10
          go_wp2_with (at_builtin; refine Lib.wpList_append_run _ rfl _ _ _ _ rfl _ _ rfl rfl _ _ hrun ?_)
          refine (BO.out _ _ _ HC12.out).mono ?_
          rintro e wA ⟨rfl, hbA⟩
          obtain ⟨wB, gz, hcz, hwb, hbB, -⟩ := bytesOf S2 wA
          rw [show S2.size = 16 from by rw [HS2.out, kstr_size]] at hcz hwb
          have HCB : Hid (Code8 wB (some ⟨wA.heap.size, 0, none⟩) 16 (dblB D)) := (hwb.congr (fun j hj => by rw [HS2.out]; exact same_strB HLDD.out j hj)).code
          have HMB : Hid (MK wB pb po tb m W) := (HM12.out.below hbA).below hbB
          have HBA : Below w.heap.size w wA := HB12.out.trans (hbA.mono HB12.out.size)
          have HBB : Hid (Below w.heap.size w wB) := HBA.trans (hbB.mono HBA.size)
          clear hbA hbB hwb HBA HM12 HB12 HC12 BO hrun
          go_wp2_with fail
          refine (BO2.out _ _ _ HCB.out).mono ?_
          rintro e wC ⟨rfl, hbC⟩
          have HMC : Hid (MK wC pb po tb m W) := HMB.out.below hbC
          have HBC : Hid (Below w.heap.size w wC) := HBB.out.trans (hbC.mono HBB.out.size)
          clear hbC HMB HBB HCB BO2 hcz
          go_wp2_with fail
          refine (EN.out _ HMC.out).mono ?_
          rintro e wD ⟨rfl, hbD⟩
          have HBD : Hid (Below w.heap.size w wD) := HBC.out.trans (hbD.mono HBC.out.size)
          clear hbD HMC HBC EN
          go_wp2
          go_ret
          exact ⟨rfl, HBD.out⟩
end Go.Proofs.Ytbhlgcenfanicaa

/-
  The model's Cmac with its codes.
-/
namespace Go.Proofs.Ytbhlgcenfanicaa
open Go.ChangeShapes Go.WideShapes Go.ChangeAt Go.RowKit
theorem specCm_long (k : ByteArray) (a : Option Addr) (n c : Nat) (h : 65536 < k.size ∨ 65536 < n) (w : World) :
    Calls Try.prog 15 #[.string k, .slice a n c] w fun e w' => e = .returned (.tuple #[.string ⟨#[]⟩, .int .i64 2]) ∧ w = w' := by
  by_cases h1 : 65536 < k.size
  · have e1 : (65536 : Int) < k.size := by omega
    go_enter Try.func15, Try.ntmps15
    go_wp2
    go_ret2
    exact ⟨rfl, rfl⟩
  · have e1 : ¬ (65536 : Int) < k.size := by omega
    have e3 : (65536 : Int) < n := by omega
    go_enter Try.func15, Try.ntmps15
    go_wp2
    go_ret2
    exact ⟨rfl, rfl⟩
theorem specCm_bad (k : ByteArray) (a : Option Addr) (n c : Nat) (h1 : k.size ≤ 65536) (h3 : n ≤ 65536) (h : ¬ (k.size = 16 ∨ k.size = 32)) (w : World) :
    Calls Try.prog 15 #[.string k, .slice a n c] w fun e w' => e = .returned (.tuple #[.string ⟨#[]⟩, .int .i64 1]) ∧ w = w' := by
  have e1 : ¬ (65536 : Int) < k.size := by omega
  have e3 : ¬ (65536 : Int) < n := by omega
  have KO : Hid (∀ w : World, Calls Try.prog 30 #[.string k] w fun e w' => e = .returned (.bool false) ∧ w = w') := l01Key_no k (by omega) (by omega)
  clear h
  go_enter Try.func15, Try.ntmps15
  go_wp2_with (go_at_call 30; refine (KO.out _).mono ?_; rintro e w' ⟨rfl, rfl⟩)
  go_ret2
  exact ⟨rfl, rfl⟩
theorem specCm_yes (k : ByteArray) (kn b o n c : Nat) (f : Nat → Nat) (hkn : kn = 4 ∨ kn = 8) (hk : k.size = kn * 4) (hn : n ≤ 65536) (hnc : n ≤ c) (hf : ∀ i, f i < 256) (w : World) (h : Code8 w (some ⟨b, o, none⟩) n f) :
    Calls Try.prog 15 #[.string k, .slice (some ⟨b, o, none⟩) n c] w fun e w' => e = .returned (.tuple #[.string (kstr (cmacB (Gf.ws (strB k) kn (3 * kn + 28)) (kn + 6) n f) 0 16), .int .i64 0]) ∧ Below w.heap.size w w' := by
  have e1 : ¬ (65536 : Int) < k.size := by omega
  have e3 : ¬ (65536 : Int) < n := by omega
  have KO : Hid (∀ w : World, Calls Try.prog 30 #[.string k] w fun e w' => e = .returned (.bool true) ∧ w = w') := l01Key_yes k (by omega)
  have LC : Hid (Calls Try.prog 40 #[.string k, .slice (some ⟨b, o, none⟩) n c] w fun e w' => e = .returned (.string (kstr (cmacB (Gf.ws (strB k) kn (3 * kn + 28)) (kn + 6) n f) 0 16)) ∧ Below w.heap.size w w') := l02Cmac_any k kn b o n c f hkn hk hn hnc hf w h
  generalize kstr (cmacB (Gf.ws (strB k) kn (3 * kn + 28)) (kn + 6) n f) 0 16 = g at *
  clear h hf hkn hk
  go_enter Try.func15, Try.ntmps15
  go_wp2_with (go_at_call 30; refine (KO.out _).mono ?_; rintro e w' ⟨rfl, rfl⟩)
  refine LC.out.mono ?_
  rintro e w1 ⟨rfl, hB⟩
  have B1 : Hid (Below w.heap.size w w1) := hB
  clear hB
  go_wp2
  go_ret2
  exact ⟨rfl, B1.out⟩
end Go.Proofs.Ytbhlgcenfanicaa

/-
  The exact law of Cmac.
-/
namespace Go.Proofs.Ytbhlgcenfanicaa
open Go.ChangeShapes Go.WideShapes Go.ChangeAt Go.RowKit
set_option maxRecDepth 100000 in
set_option maxHeartbeats 4000000 in
/-- Where both answer alike, whatever memory they are called in, the law holds. -/
theorem lawCmac_of (key : ByteArray) (a : Option Addr) (N C : Nat) (f : Nat → Nat) (g : ByteArray) (code : Int) (hkey : key.size ≤ 1048576) (hN : N ≤ 1048576)
    (hsp : ∀ (b : Nat) (w : World), Code8 w (some ⟨b, 0, none⟩) N f → Calls Try.prog 15 #[.string key, .slice (some ⟨b, 0, none⟩) N N] w fun e w' => e = .returned (.tuple #[.string g, .int .i64 code]) ∧ Below w.heap.size w w')
    (him : ∀ (b : Nat) (w : World), Code8 w (some ⟨b, 0, none⟩) N f → Calls Try.prog 14 #[.string key, .slice (some ⟨b, 0, none⟩) N N] w fun e w' => e = .returned (.tuple #[.string g, .int .i64 code]) ∧ Below w.heap.size w w')
    (w : World) (h : Code8 w a N f) :
    Calls Try.prog 6 #[.string key, .slice a N C] w fun e w' => e = .returned (.bool true) ∧ Below w.heap.size w w' := by
  have SP : Hid (∀ (b : Nat) (w : World), Code8 w (some ⟨b, 0, none⟩) N f → Calls Try.prog 15 #[.string key, .slice (some ⟨b, 0, none⟩) N N] w fun e w' => e = .returned (.tuple #[.string g, .int .i64 code]) ∧ Below w.heap.size w w') := hsp
  have IM : Hid (∀ (b : Nat) (w : World), Code8 w (some ⟨b, 0, none⟩) N f → Calls Try.prog 14 #[.string key, .slice (some ⟨b, 0, none⟩) N N] w fun e w' => e = .returned (.tuple #[.string g, .int .i64 code]) ∧ Below w.heap.size w w') := him
  have HA : Hid (Code8 w a N f) := h
  have e1 : ¬ (1048576 : Int) < (N : Int) := by omega
  have ekey : ¬ (1048576 : Int) < (key.size : Int) := by omega
  have hcc : (code != code) = false := by simp
  clear hsp him h
  go_enter Try.func6, Try.ntmps6
  go_wp2_with fail
  refine (toByteS_any a N C f _ HA.out hN).mono ?_
  rintro e w1 ⟨rfl, ho1, hb1⟩
  have HO1 : Hid (Own8 w1 w.heap.size N f) := ho1
  have HB1 : Hid (Below w.heap.size w w1) := hb1
  clear ho1 hb1
  go_wp2_with fail
  refine (SP.out _ _ HO1.out.code).mono ?_
  rintro e w2 ⟨rfl, hb2⟩
  have HA2 : Hid (Code8 w2 a N f) := HA.out.below (HB1.out.trans (hb2.mono HB1.out.size))
  have HB2 : Hid (Below w.heap.size w w2) := HB1.out.trans (hb2.mono HB1.out.size)
  clear hb2 HO1 HB1 HA
  go_wp2_with fail
  refine (toByteS_any a N C f _ HA2.out hN).mono ?_
  rintro e w3 ⟨rfl, ho3, hb3⟩
  have HX3 : Hid (Own8 w3 w2.heap.size N f) := ho3
  have HA3 : Hid (Code8 w3 a N f) := HA2.out.below hb3
  have HB3 : Hid (Below w.heap.size w w3) := HB2.out.trans (hb3.mono HB2.out.size)
  clear ho3 hb3 HA2 HB2
  generalize w2.heap.size = xb at *
  go_wp2_with fail
  refine (IM.out _ _ HX3.out.code).mono ?_
  rintro e w4 ⟨rfl, hb4⟩
  have HX4 : Hid (Own8 w4 xb N f) := HX3.out.below hb4
  have HA4 : Hid (Code8 w4 a N f) := HA3.out.below hb4
  have HB4 : Hid (Below w.heap.size w w4) := HB3.out.trans (hb4.mono HB3.out.size)
  clear hb4 HX3 HA3 HB3 SP IM
  go_wp2_with fail
  refine (toByteS_any a N C f _ HA4.out hN).mono ?_
  rintro e w5 ⟨rfl, ho5, hb5⟩
  have HX5 : Hid (Code8 w5 (some ⟨xb, 0, none⟩) N f) := (HX4.out.below hb5).code
  have HY5 : Hid (Code8 w5 (some ⟨w4.heap.size, 0, none⟩) N f) := ho5.code
  have HB5 : Hid (Below w.heap.size w w5) := HB4.out.trans (hb5.mono HB4.out.size)
  clear ho5 hb5 HX4 HA4 HB4
  go_wp2_with fail
  refine (eqByteS_yes _ _ N _ _ f _ HX5.out HY5.out hN).mono ?_
  rintro e w6 ⟨rfl, q, rfl⟩
  have HB6 : Hid (Below w.heap.size w (w5.drewN q)) := below_drewN8 HB5.out q
  clear HX5 HY5 HB5
  generalize w5.drewN q = w6 at *
  go_wp2
  go_ret
  exact ⟨rfl, HB6.out⟩
theorem law_cmac (k : ByteArray) (a : Option Addr) (N C : Nat) (zs : List Int) (w : World) (h : IsRow .u8 w a N C zs) :
    Calls Try.prog 6 #[.string k, .slice a N C] w fun e w' => e = .returned (.bool true) ∧ Below w.heap.size w w' := by
  by_cases h0 : k.size ≤ 1048576 ∧ N ≤ 1048576
  · obtain ⟨hk0, hN0⟩ := h0
    obtain ⟨f, hf, hc⟩ := code8_of_row h
    by_cases h1 : 65536 < k.size ∨ 65536 < N
    · exact lawCmac_of k a N C f ⟨#[]⟩ 2 hk0 hN0 (fun b w _ => (specCm_long k _ N N h1 w).mono fun _ _ hh => ⟨hh.1, by rw [← hh.2]; exact Below.refl _ _⟩) (fun b w _ => (implCm_no k _ N N 2 (by decide) (mf_long k ⟨#[]⟩ 0 N 65536 (by omega)) w).mono fun _ _ hh => ⟨hh.1, by rw [← hh.2]; exact Below.refl _ _⟩) w hc
    · by_cases h2 : k.size = 16 ∨ k.size = 32
      · obtain ⟨kn, hkn, hk⟩ : ∃ kn, (kn = 4 ∨ kn = 8) ∧ k.size = kn * 4 := by
          rcases h2 with h | h
          · exact ⟨4, .inl rfl, h⟩
          · exact ⟨8, .inr rfl, h⟩
        exact lawCmac_of k a N C f _ 0 hk0 hN0 (fun b w hw => specCm_yes k kn b 0 N N f hkn hk (by omega) (Nat.le_refl _) hf w hw) (fun b w hw => implCm_yes k kn b 0 N N f hkn hk (by omega) (Nat.le_refl _) hf w hw) w hc
      · exact lawCmac_of k a N C f ⟨#[]⟩ 1 hk0 hN0 (fun b w _ => (specCm_bad k _ N N (by omega) (by omega) h2 w).mono fun _ _ hh => ⟨hh.1, by rw [← hh.2]; exact Below.refl _ _⟩) (fun b w _ => (implCm_no k _ N N 1 (by decide) (mf_bad k ⟨#[]⟩ 0 N 65536 (by omega) (by show (0 : Nat) ≤ 65536; omega) (by omega) (by omega)) w).mono fun _ _ hh => ⟨hh.1, by rw [← hh.2]; exact Below.refl _ _⟩) w hc
  · clear h
    by_cases h1 : k.size ≤ 1048576
    · have e1 : ¬ (1048576 : Int) < k.size := by omega
      have e3 : (1048576 : Int) < N := by omega
      clear h0
      go_enter Try.func6, Try.ntmps6
      go_wp2
      go_ret
      exact ⟨rfl, Below.refl _ _⟩
    · have e1 : (1048576 : Int) < k.size := by omega
      clear h0
      go_enter Try.func6, Try.ntmps6
      go_wp2
      go_ret
      exact ⟨rfl, Below.refl _ _⟩
end Go.Proofs.Ytbhlgcenfanicaa
