/-
  The contract of impl's subAndTurn.
-/
import Derived.Test.YtbhlgcenfanicaaEncMath
import Derived.Test.YtbhlgcenfanicaaAdded
import Derived.Test.YtbhlgcenfanicaaCipher
import Derived.Deep.Cut
namespace Go.Proofs.Ytbhlgcenfanicaa
open Go.ChangeShapes Go.WideShapes Go.ChangeAt Go.RowKit
theorem ordA_ord (k : Nat) (hk : k < 16) : ordA[k]? = some (.int .i64 (Gf.ord k : Nat)) := by
  rcases (show k = 0 ∨ k = 1 ∨ k = 2 ∨ k = 3 ∨ k = 4 ∨ k = 5 ∨ k = 6 ∨ k = 7 ∨ k = 8 ∨ k = 9 ∨ k = 10 ∨ k = 11 ∨ k = 12 ∨ k = 13 ∨ k = 14 ∨ k = 15 by omega) with rfl | rfl | rfl | rfl | rfl | rfl | rfl | rfl | rfl | rfl | rfl | rfl | rfl | rfl | rfl | rfl <;> rfl
/-- The cells of a cipher in block C. -/
def CiphAt (w : World) (C m : Nat) (K : Nat → Nat) : Prop := ∀ k, k < 769 → w.cell? ⟨C, k, none⟩ = some (cf m K k)
theorem CiphAt.lt {w : World} {C m : Nat} {K : Nat → Nat} (h : CiphAt w C m K) : C < w.heap.size := by
  have := h 0 (by omega)
  rcases Nat.lt_or_ge C w.heap.size with g | g
  · exact g
  · simp [World.cell?, Array.getElem?_eq_none g] at this
theorem CiphAt.below {w w' : World} {C m : Nat} {K : Nat → Nat} (h : CiphAt w C m K) (hb : Below w.heap.size w w') : CiphAt w' C m K := fun k hk => by
  rw [hb.cell (p := ⟨C, k, none⟩) h.lt]; exact h k hk
theorem CiphAt.belowOf {B : Nat} {w w' : World} {C m : Nat} {K : Nat → Nat} (h : CiphAt w C m K) (hb : Below B w w') (hB : C < B) : CiphAt w' C m K := fun k hk => by
  rw [hb.cell (p := ⟨C, k, none⟩) hB]; exact h k hk
theorem CiphAt.order {w : World} {C m : Nat} {K : Nat → Nat} (h : CiphAt w C m K) : w.rangeAt C 753 ordA.toList := fun j v hv => by
  have hj : j < 16 := by have := (List.getElem?_eq_some_iff.1 hv).1; rwa [ordA_len] at this
  rw [h (753 + j) (by omega)]
  unfold cf
  rw [if_neg (by omega), if_neg (by omega), if_neg (by omega), if_neg (by omega), show 753 + j - 753 = j from by omega]
  have : ordA[j]? = some v := by simpa using hv
  simp [this]
theorem CiphAt.sub {w : World} {C m : Nat} {K : Nat → Nat} (h : CiphAt w C m K) (x : Nat) (hx : x < 256) : w.cell? ⟨C, 241 + x, none⟩ = some (.int .u8 (Gf.sub x : Nat)) := by
  rw [h (241 + x) (by omega)]
  unfold cf
  rw [if_neg (by omega), if_neg (by omega), if_pos (by omega), show 241 + x - 241 = x from by omega]
theorem CiphAt.unsub {w : World} {C m : Nat} {K : Nat → Nat} (h : CiphAt w C m K) (x : Nat) (hx : x < 256) : w.cell? ⟨C, 497 + x, none⟩ = some (.int .u8 (Gf.unsub x : Nat)) := by
  rw [h (497 + x) (by omega)]
  unfold cf
  rw [if_neg (by omega), if_neg (by omega), if_neg (by omega), if_pos (by omega), show 497 + x - 497 = x from by omega]
theorem CiphAt.rounds {w : World} {C m : Nat} {K : Nat → Nat} (h : CiphAt w C m K) : w.cell? ⟨C, 0, none⟩ = some (.int .i64 (m : Nat)) := h 0 (by omega)
theorem CiphAt.key {w : World} {C m : Nat} {K : Nat → Nat} (h : CiphAt w C m K) (i : Nat) (hi : i < 15) : w.rangeAt C (1 + i * 16) (bv 16 (Gf.keyAt K i)) := fun j v hv => by
  have hj : j < 16 := by have := (List.getElem?_eq_some_iff.1 hv).1; rwa [bv_length] at this
  rw [bv_at hj] at hv
  cases hv
  rw [h (1 + i * 16 + j) (by omega)]
  unfold cf
  rw [if_neg (by omega), if_pos (by omega), show 1 + i * 16 + j - 1 = i * 16 + j from by omega]
  rfl
set_option maxRecDepth 100000 in
set_option maxHeartbeats 2000000 in
theorem subTurn_any (C m : Nat) (K f : Nat → Nat) (hf : ∀ i, i < 16 → f i < 256) (w : World) (hC : CiphAt w C m K) :
    Calls Try.prog 54 #[.pointer (some ⟨C, 0, none⟩), .agg (bA 16 f)] w fun e w' => e = .returned (.agg (bA 16 (Gf.subTurn f))) ∧ Below w.heap.size w w' := by
  have HF : Hid (∀ i, i < 16 → f i < 256) := hf
  have HC : Hid (CiphAt w C m K) := hC
  have hCl := hC.lt
  clear hf hC
  have Z2 : Hid (Row8 (((w.alloc (.cells (bA 16 f) 39)).alloc (.cells z16 39)).alloc (.cells z16 39)) (w.heap.size + 1 + 1) 39 16 (fun _ => 0)) := Row8.z16At (by simp) _
  have Z1 : Hid (Row8 (((w.alloc (.cells (bA 16 f) 39)).alloc (.cells z16 39)).alloc (.cells z16 39)) (w.heap.size + 1) 39 16 (fun _ => 0)) := (Row8.z16At (by simp) _).alloc _
  have R3 : Hid (Row8 (((w.alloc (.cells (bA 16 f) 39)).alloc (.cells z16 39)).alloc (.cells z16 39)) w.heap.size 39 16 f) := ((Row8.boxedAt rfl _ _ _).alloc _).alloc _
  have B3 : Hid (Below w.heap.size w (((w.alloc (.cells (bA 16 f) 39)).alloc (.cells z16 39)).alloc (.cells z16 39))) := (((Below.refl _ _).alloc (Nat.le_refl _) _).alloc (by simp) _).alloc (by simp; omega) _
  unfold z16 at Z2 Z1 R3 B3
  go_enter Try.func54, Try.ntmps54
  go_upto_region 2 with fail
  generalize ((w.alloc (.cells (bA 16 f) 39)).alloc (.cells #[.int .u8 0, .int .u8 0, .int .u8 0, .int .u8 0, .int .u8 0, .int .u8 0, .int .u8 0, .int .u8 0, .int .u8 0, .int .u8 0, .int .u8 0, .int .u8 0, .int .u8 0, .int .u8 0, .int .u8 0, .int .u8 0] 39)).alloc (.cells #[.int .u8 0, .int .u8 0, .int .u8 0, .int .u8 0, .int .u8 0, .int .u8 0, .int .u8 0, .int .u8 0, .int .u8 0, .int .u8 0, .int .u8 0, .int .u8 0, .int .u8 0, .int .u8 0, .int .u8 0, .int .u8 0] 39) = wz at *
  have OR : Hid (wz.rangeAt C 753 ordA.toList) := (HC.out.belowOf B3.out hCl).order
  have IX : Hid (∀ k : Nat, k < 16 → ∀ w : World, (Instr.index 42 (.agg ordA) (.int .i64 (k : Int))).run Try.prog w = .ok (.int .i64 (Gf.ord k : Nat)) w) := fun k hk => ordI k (Gf.ord k) hk (ordA_ord k hk)
  have SO : Hid ((Try.prog.info? 42).map (·.size) = some ordA.toList.length) := Try.sizeO
  generalize ordA = OA at *
  go_wp2_with (refine wpList_load_mid rfl 42 (.tmp 10) rfl C 753 rfl OA.toList _ OR.out Try.underlying42 rfl SO.out ?_)
  have HC3 : Hid (CiphAt wz C m K) := HC.out.belowOf B3.out hCl
  go_loopw [12] (fun i wr => ∃ k : Nat, k ≤ 16 ∧ i = .int .i64 k ∧ Row8 wr w.heap.size 39 16 f ∧ Row8 wr (w.heap.size + 1) 39 16 (fun _ => 0) ∧ Row8 wr (w.heap.size + 1 + 1) 39 16 (fun j => if j < k then Gf.subTurn f j else 0) ∧ CiphAt wr C m K ∧ Below w.heap.size w wr) (fun i _ => 16 - (intOf i).toNat)
  case atStart => exact ⟨0, by omega, rfl, R3.out, Z1.out, Z2.out.congr (fun j hj => by simp), HC3.out, B3.out⟩
  case round =>
    clear R3 Z1 Z2 HC3 B3 OR
    obtain ⟨k, hk, rfl, h0, h1, h2, hcc, hb⟩ := hrel
    have H0 : Hid (Row8 wr w.heap.size 39 16 f) := h0
    have H1 : Hid (Row8 wr (w.heap.size + 1) 39 16 (fun _ => 0)) := h1
    have H2 : Hid (Row8 wr (w.heap.size + 1 + 1) 39 16 (fun j => if j < k then Gf.subTurn f j else 0)) := h2
    have HCC : Hid (CiphAt wr C m K) := hcc
    have HB : Hid (Below w.heap.size w wr) := hb
    by_cases hlt : k < 16
    · have ho := Gf.ord_lt k
      have lf := HF.out _ ho
      have ix := IX.out k hlt
      have c0 : wr.cell? ⟨w.heap.size, Gf.ord k, none⟩ = some (.int .u8 (f (Gf.ord k) : Nat)) := World.rowIs.cell h0 ho
      have c1 := hcc.sub (f (Gf.ord k)) lf
      have c2 : wr.cell? ⟨w.heap.size + 1 + 1, k, none⟩ = some (.int .u8 ((0 : Nat) : Int)) := by have := World.rowIs.cell h2 hlt; simp only [] at this; rw [if_neg (by omega)] at this; exact this
      have f2 := World.rowIs.frozen h2 k
      have E : Hid (Gf.subTurn f k = Gf.sub (f (Gf.ord k))) := rfl
      clear h0 h1 h2 hcc hb
      generalize f (Gf.ord k) = X at *
      generalize Gf.ord k = O at *
      generalize Gf.sub X = Y at *
      have x0 : (k : Int) < 16 := by omega
      have x1 : (O : Int) < 16 := by omega
      have x2 : (X : Int) < 256 := by omega
      go_wp2
      go_region
      go_wp2
      go_roundw
      case rel =>
        refine ⟨k + 1, by omega, by go_num, (H0.out.other (by show w.heap.size ≠ w.heap.size + 1 + 1; omega) _).drewN 1, (H1.out.other (by show w.heap.size + 1 ≠ w.heap.size + 1 + 1; omega) _).drewN 1, ?_, ?_, (HB.out.setCell (by show w.heap.size ≤ w.heap.size + 1 + 1; omega) _).drew⟩
        · exact ((H2.out.set k Y).congr (fun j hj => by
            by_cases e : j = k
            · subst e; rw [if_pos rfl, if_pos (by omega), E.out]
            · rw [if_neg e]
              by_cases h1 : j < k
              · rw [if_pos h1, if_pos (by omega)]
              · rw [if_neg h1, if_neg (by omega)])).drewN 1
        · intro q hq
          show (wr.setCell ⟨w.heap.size + 1 + 1, k, none⟩ (.int .u8 (Y : Nat))).cell? ⟨C, q, none⟩ = _
          rw [World.cell?_setCell_other _ _ _ _ (by intro h; cases h; omega)]
          exact HCC.out q hq
      case measure => simp [intOf]; omega
    · have H2' : Hid (Row8 wr (w.heap.size + 1 + 1) 39 16 (Gf.subTurn f)) := h2.congr (fun j hj => by rw [if_pos (by omega)])
      have hk' : ¬ (k : Int) < 16 := by omega
      clear h0 h1 h2 hcc hb H0 H2 HCC IX
      generalize (k : Int) = kk at *
      generalize hG : Gf.subTurn f = G at *
      have HG : Hid (Gf.subTurn f = G) := hG
      clear hG
      go_upto_region 7 with fail
      refine wp_region_lit ?_
      refine wpList_load_mid rfl 39 (.tmp 5) rfl (w.heap.size + 1 + 1) 0 rfl (bv 16 G) _ H2'.out.range Try.underlying39 rfl (by rw [bv_length]; exact Try.sizeSt) ?_
      refine wpList_store_mid rfl 39 (.tmp 4) (.tmp 27) rfl (w.heap.size + 1) 0 (bA 16 G) rfl rfl (by rw [bA_size]; exact H1.out.there) (by rw [bA_size]; exact Try.sizeSt) (bA_one _ _) ?_
      rw [bA_toList]
      have L : Hid ((loadVar 39 ⟨(w.heap.size + 1), 0, none⟩).run Try.prog (wr.setCells ((w.heap.size + 1)) 0 (bv 16 G)) = .ok (.agg (bA 16 G)) (wr.setCells ((w.heap.size + 1)) 0 (bv 16 G))) := (H1.out.stored _).load Try.underlying39 rfl Try.sizeSt
      have B : Hid (Below w.heap.size w (wr.setCells ((w.heap.size + 1)) 0 (bv 16 G))) := below_setCells (by omega) _ _ _ HB.out
      have eA : (bv 16 G).toArray = bA 16 G := rfl
      rw [eA]
      generalize wr.setCells ((w.heap.size + 1)) 0 (bv 16 G) = wf at *
      generalize hA : bA 16 G = AA at *
      have HA : Hid (bA 16 G = AA) := hA
      clear hA eA
      go_wp2
      rw [HG.out, HA.out]
      exact bodyPost_ret (v := .agg AA) (results_cell_one (b := (w.heap.size + 1)) (o := 0) Try.results54 _ _ _ rfl L.out) rfl ⟨rfl, B.out⟩
end Go.Proofs.Ytbhlgcenfanicaa
