/-
  The contracts of impl's unturnAndUnsub and unmixed.
-/
import Derived.Test.YtbhlgcenfanicaaDecMath
import Derived.Test.YtbhlgcenfanicaaSubTurn
import Derived.Test.YtbhlgcenfanicaaMixed
namespace Go.Proofs.Ytbhlgcenfanicaa
open Go.ChangeShapes Go.WideShapes Go.ChangeAt Go.RowKit
set_option maxRecDepth 100000 in
set_option maxHeartbeats 2000000 in
theorem unTurn_any (C m : Nat) (K f : Nat → Nat) (hf : ∀ i, i < 16 → f i < 256) (w : World) (hC : CiphAt w C m K) :
    Calls Try.prog 83 #[.pointer (some ⟨C, 0, none⟩), .agg (bA 16 f)] w fun e w' => e = .returned (.agg (bA 16 (Gf.unTurn f))) ∧ Below w.heap.size w w' := by
  have HF : Hid (∀ i, i < 16 → f i < 256) := hf
  have HC : Hid (CiphAt w C m K) := hC
  have hCl := hC.lt
  clear hf hC
  have Z2 : Hid (Row8 (((w.alloc (.cells (bA 16 f) 39)).alloc (.cells z16 39)).alloc (.cells z16 39)) (w.heap.size + 1 + 1) 39 16 (fun _ => 0)) := Row8.z16At (by simp) _
  have Z1 : Hid (Row8 (((w.alloc (.cells (bA 16 f) 39)).alloc (.cells z16 39)).alloc (.cells z16 39)) (w.heap.size + 1) 39 16 (fun _ => 0)) := (Row8.z16At (by simp) _).alloc _
  have R3 : Hid (Row8 (((w.alloc (.cells (bA 16 f) 39)).alloc (.cells z16 39)).alloc (.cells z16 39)) w.heap.size 39 16 f) := ((Row8.boxedAt rfl _ _ _).alloc _).alloc _
  have B3 : Hid (Below w.heap.size w (((w.alloc (.cells (bA 16 f) 39)).alloc (.cells z16 39)).alloc (.cells z16 39))) := (((Below.refl _ _).alloc (Nat.le_refl _) _).alloc (by simp) _).alloc (by simp; omega) _
  unfold z16 at Z2 Z1 R3 B3
  go_enter Try.func83, Try.ntmps83
  go_upto_region 2 with fail
  generalize ((w.alloc (.cells (bA 16 f) 39)).alloc (.cells #[.int .u8 0, .int .u8 0, .int .u8 0, .int .u8 0, .int .u8 0, .int .u8 0, .int .u8 0, .int .u8 0, .int .u8 0, .int .u8 0, .int .u8 0, .int .u8 0, .int .u8 0, .int .u8 0, .int .u8 0, .int .u8 0] 39)).alloc (.cells #[.int .u8 0, .int .u8 0, .int .u8 0, .int .u8 0, .int .u8 0, .int .u8 0, .int .u8 0, .int .u8 0, .int .u8 0, .int .u8 0, .int .u8 0, .int .u8 0, .int .u8 0, .int .u8 0, .int .u8 0, .int .u8 0] 39) = wz at *
  have OR : Hid (wz.rangeAt C 753 ordA.toList) := (HC.out.belowOf B3.out hCl).order
  have IX : Hid (∀ k : Nat, k < 16 → ∀ w : World, (Instr.index 42 (.agg ordA) (.int .i64 (k : Int))).run Try.prog w = .ok (.int .i64 (Gf.ord k : Nat)) w) := fun k hk => ordI k (Gf.ord k) hk (ordA_ord k hk)
  have SO : Hid ((Try.prog.info? 42).map (·.size) = some ordA.toList.length) := Try.sizeO
  generalize ordA = OA at *
  go_wp2_with (refine wpList_load_mid rfl 42 (.tmp 10) rfl C 753 rfl OA.toList _ OR.out Try.underlying42 rfl SO.out ?_)
  have HC3 : Hid (CiphAt wz C m K) := HC.out.belowOf B3.out hCl
  go_loopw [12] (fun i wr => ∃ k : Nat, k ≤ 16 ∧ i = .int .i64 k ∧ Row8 wr w.heap.size 39 16 f ∧ Row8 wr (w.heap.size + 1) 39 16 (fun _ => 0) ∧ Row8 wr (w.heap.size + 1 + 1) 39 16 (fun j => if Gf.iord j < k then Gf.unTurn f j else 0) ∧ CiphAt wr C m K ∧ Below w.heap.size w wr) (fun i _ => 16 - (intOf i).toNat)
  case atStart => exact ⟨0, by omega, rfl, R3.out, Z1.out, Z2.out.congr (fun j hj => by simp), HC3.out, B3.out⟩
  case round =>
    clear R3 Z1 Z2 HC3 B3 OR
    obtain ⟨k, hk, rfl, h0, h1, h2, hcc, hb⟩ := hrel
    have H0 : Hid (Row8 wr w.heap.size 39 16 f) := h0
    have H1 : Hid (Row8 wr (w.heap.size + 1) 39 16 (fun _ => 0)) := h1
    have H2 : Hid (Row8 wr (w.heap.size + 1 + 1) 39 16 (fun j => if Gf.iord j < k then Gf.unTurn f j else 0)) := h2
    have HCC : Hid (CiphAt wr C m K) := hcc
    have HB : Hid (Below w.heap.size w wr) := hb
    by_cases hlt : k < 16
    · have ho := Gf.ord_lt k
      have lf := HF.out k hlt
      have ix := IX.out k hlt
      have io := Gf.iord_ord k hlt
      have c0 : wr.cell? ⟨w.heap.size, k, none⟩ = some (.int .u8 (f k : Nat)) := World.rowIs.cell h0 hlt
      have c1 := hcc.unsub (f k) lf
      have c2 : wr.cell? ⟨w.heap.size + 1 + 1, Gf.ord k, none⟩ = some (.int .u8 ((0 : Nat) : Int)) := by have := World.rowIs.cell h2 ho; simp only [] at this; rw [if_neg (by omega)] at this; exact this
      have f2 := World.rowIs.frozen h2 (Gf.ord k)
      have E : Hid (Gf.unTurn f (Gf.ord k) = Gf.unsub (f k)) := by show Gf.unsub (f (Gf.iord (Gf.ord k))) = _; rw [io]
      have IY : Hid (∀ j, j < 16 → (Gf.iord j = k ↔ j = Gf.ord k)) := fun j hj => ⟨fun e => by rw [← e, Gf.ord_iord j hj], fun e => by rw [e, io]⟩
      clear h0 h1 h2 hcc hb io
      generalize f k = X at *
      generalize Gf.ord k = O at *
      generalize Gf.unsub X = Y at *
      have x0 : (k : Int) < 16 := by omega
      have x1 : (O : Int) < 16 := by omega
      have x2 : (X : Int) < 256 := by omega
      go_wp2
      go_region
      go_wp2
      go_roundw
      case rel =>
        refine ⟨k + 1, by omega, by go_num, (H0.out.other (by show w.heap.size ≠ w.heap.size + 1 + 1; omega) _).drewN 1, (H1.out.other (by show w.heap.size + 1 ≠ w.heap.size + 1 + 1; omega) _).drewN 1, ?_, ?_, (HB.out.setCell (by show w.heap.size ≤ w.heap.size + 1 + 1; omega) _).drew⟩
        · exact ((H2.out.set O Y).congr (fun j hj => by
            by_cases e : j = O
            · subst e; rw [if_pos rfl, if_pos (by have := (IY.out j hj).2 rfl; omega), E.out]
            · rw [if_neg e]
              have ne : Gf.iord j ≠ k := fun h => e ((IY.out j hj).1 h)
              by_cases h1 : Gf.iord j < k
              · rw [if_pos h1, if_pos (by omega)]
              · rw [if_neg h1, if_neg (by omega)])).drewN 1
        · intro q hq
          show (wr.setCell ⟨w.heap.size + 1 + 1, O, none⟩ (.int .u8 (Y : Nat))).cell? ⟨C, q, none⟩ = _
          rw [World.cell?_setCell_other _ _ _ _ (by intro h; cases h; omega)]
          exact HCC.out q hq
      case measure => simp [intOf]; omega
    · have H2' : Hid (Row8 wr (w.heap.size + 1 + 1) 39 16 (Gf.unTurn f)) := h2.congr (fun j hj => by rw [if_pos (by have := Gf.iord_lt j; omega)])
      have hk' : ¬ (k : Int) < 16 := by omega
      clear h0 h1 h2 hcc hb H0 H2 HCC IX
      generalize (k : Int) = kk at *
      generalize hG : Gf.unTurn f = G at *
      have HG : Hid (Gf.unTurn f = G) := hG
      clear hG
      go_upto_region 7 with fail
      refine wp_region_lit ?_
      refine wpList_load_mid rfl 39 (.tmp 5) rfl (w.heap.size + 1 + 1) 0 rfl (bv 16 G) _ H2'.out.range Try.underlying39 rfl (by rw [bv_length]; exact Try.sizeSt) ?_
      refine wpList_store_mid rfl 39 (.tmp 4) (.tmp 27) rfl (w.heap.size + 1) 0 (bA 16 G) rfl rfl (by rw [bA_size]; exact H1.out.there) (by rw [bA_size]; exact Try.sizeSt) (bA_one _ _) ?_
      rw [bA_toList]
      have L : Hid ((loadVar 39 ⟨(w.heap.size + 1), 0, none⟩).run Try.prog (wr.setCells ((w.heap.size + 1)) 0 (bv 16 G)) = .ok (.agg (bA 16 G)) (wr.setCells ((w.heap.size + 1)) 0 (bv 16 G))) := (H1.out.stored _).load Try.underlying39 rfl Try.sizeSt
      have B : Hid (Below w.heap.size w (wr.setCells ((w.heap.size + 1)) 0 (bv 16 G))) := below_setCells (by omega) _ _ _ HB.out
      have eA : (bv 16 G).toArray = bA 16 G := rfl
      rw [eA]
      generalize wr.setCells ((w.heap.size + 1)) 0 (bv 16 G) = wf at *
      generalize hA : bA 16 G = AA at *
      have HA : Hid (bA 16 G = AA) := hA
      clear hA eA
      go_wp2
      rw [HG.out, HA.out]
      exact bodyPost_ret (v := .agg AA) (results_cell_one (b := (w.heap.size + 1)) (o := 0) Try.results83 _ _ _ rfl L.out) rfl ⟨rfl, B.out⟩
set_option maxRecDepth 100000 in
/-- impl.unmixed mixes three times. -/
theorem unmixed_any (f : Nat → Nat) (hf : ∀ i, i < 16 → f i < 256) (w : World) :
    Calls Try.prog 84 #[.agg (bA 16 f)] w fun e w' => e = .returned (.agg (bA 16 (Gf.mix3 f))) ∧ Below w.heap.size w w' := by
  have l1 : ∀ i, i < 16 → Gf.mixS f i < 256 := Gf.mixS_lt hf
  have l2 : ∀ i, i < 16 → Gf.mixS (Gf.mixS f) i < 256 := Gf.mixS_lt l1
  have C1 : Hid (∀ w : World, Calls Try.prog 53 #[.agg (bv 16 f).toArray] w fun e w' => e = .returned (.agg (bA 16 (Gf.mixS f))) ∧ Below w.heap.size w w') := mixed_any f hf
  have C2 : Hid (∀ w : World, Calls Try.prog 53 #[.agg (bA 16 (Gf.mixS f))] w fun e w' => e = .returned (.agg (bA 16 (Gf.mixS (Gf.mixS f)))) ∧ Below w.heap.size w w') := mixed_any _ l1
  have C3 : Hid (∀ w : World, Calls Try.prog 53 #[.agg (bA 16 (Gf.mixS (Gf.mixS f)))] w fun e w' => e = .returned (.agg (bA 16 (Gf.mix3 f))) ∧ Below w.heap.size w w') := mixed_any _ l2
  have R0 : Hid (Row8 ((w.alloc (.cells (bA 16 f) 39)).alloc (.cells z16 39)) w.heap.size 39 16 f) := (Row8.boxedAt rfl _ _ _).alloc _
  have Z1 : Hid (Row8 ((w.alloc (.cells (bA 16 f) 39)).alloc (.cells z16 39)) (w.heap.size + 1) 39 16 (fun _ => 0)) := Row8.z16At (by simp) _
  have B0 : Hid (Below w.heap.size w ((w.alloc (.cells (bA 16 f) 39)).alloc (.cells z16 39))) := ((Below.refl _ _).alloc (Nat.le_refl _) _).alloc (by simp) _
  have SL : Hid ((Try.prog.info? 39).map (·.size) = some (bv 16 f).length) := by rw [bv_length]; exact Try.sizeSt
  clear l1 l2 hf
  generalize bA 16 (Gf.mixS (Gf.mixS f)) = A2 at *
  generalize bA 16 (Gf.mixS f) = A1 at *
  generalize Gf.mix3 f = G at *
  unfold z16 at R0 Z1 B0
  go_enter Try.func84, Try.ntmps84
  go_upto_region 1 with fail
  generalize (w.alloc (.cells (bA 16 f) 39)).alloc (.cells #[.int .u8 0, .int .u8 0, .int .u8 0, .int .u8 0, .int .u8 0, .int .u8 0, .int .u8 0, .int .u8 0, .int .u8 0, .int .u8 0, .int .u8 0, .int .u8 0, .int .u8 0, .int .u8 0, .int .u8 0, .int .u8 0] 39) = wz at *
  have RR : Hid (wz.rangeAt w.heap.size 0 (bv 16 f)) := R0.out.range
  generalize bv 16 f = FL at *
  go_wp2_with (refine wpList_load_mid rfl 39 (.tmp 1) rfl w.heap.size 0 rfl FL _ RR.out Try.underlying39 rfl SL.out ?_)
  refine (C1.out _).mono ?_
  rintro e w1 ⟨rfl, hb1⟩
  have Z2 : Hid (Row8 w1 (w.heap.size + 1) 39 16 (fun _ => 0)) := Z1.out.below hb1
  have B1 : Hid (Below w.heap.size w w1) := B0.out.trans (hb1.mono B0.out.size)
  clear hb1 Z1 B0 R0 RR C1
  go_wp2_with fail
  refine (C2.out _).mono ?_
  rintro e w2 ⟨rfl, hb2⟩
  have Z3 : Hid (Row8 w2 (w.heap.size + 1) 39 16 (fun _ => 0)) := Z2.out.below hb2
  have B2 : Hid (Below w.heap.size w w2) := B1.out.trans (hb2.mono B1.out.size)
  clear hb2 Z2 B1 C2
  go_wp2_with fail
  refine (C3.out _).mono ?_
  rintro e w3 ⟨rfl, hb3⟩
  have Z4 : Hid (Row8 w3 (w.heap.size + 1) 39 16 (fun _ => 0)) := Z3.out.below hb3
  have B3 : Hid (Below w.heap.size w w3) := B2.out.trans (hb3.mono B2.out.size)
  clear hb3 Z3 B2 C3
  have SA : Hid ((Try.prog.info? 39).map (·.size) = some (bA 16 G).size) := by rw [bA_size]; exact Try.sizeSt
  have OA : Hid ((bA 16 G).all (·.oneCell') = true) := bA_one _ _
  have TA : Hid (w3.there (w.heap.size + 1) 0 (bA 16 G).size) := by rw [bA_size]; exact Z4.out.there
  have L : Hid ((loadVar 39 ⟨w.heap.size + 1, 0, none⟩).run Try.prog (w3.setCells (w.heap.size + 1) 0 (bA 16 G).toList) = .ok (.agg (bA 16 G)) (w3.setCells (w.heap.size + 1) 0 (bA 16 G).toList)) := by rw [bA_toList]; exact (Z4.out.stored _).load Try.underlying39 rfl Try.sizeSt
  have B4 : Hid (Below w.heap.size w (w3.setCells (w.heap.size + 1) 0 (bA 16 G).toList)) := below_setCells (by omega) _ _ _ B3.out
  generalize hA : bA 16 G = AA at *
  have HA : Hid (bA 16 G = AA) := hA
  clear hA
  go_wp2_with (refine wpList_store_mid rfl 39 (.tmp 2) (.tmp 6) rfl (w.heap.size + 1) 0 AA rfl rfl TA.out SA.out OA.out ?_)
  rw [HA.out]
  exact bodyPost_ret (v := .agg AA) (results_cell_one (b := w.heap.size + 1) (o := 0) Try.results84 _ _ _ rfl L.out) rfl ⟨rfl, B4.out⟩
end Go.Proofs.Ytbhlgcenfanicaa
