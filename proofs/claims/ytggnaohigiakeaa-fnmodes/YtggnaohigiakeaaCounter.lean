/-
  The contract of impl.counterBlock: a nonce and a counter as a state.
-/
import Derived.Test.YtggnaohigiakeaaStateOf2
import Derived.Test.YtggnaohigiakeaaModes
namespace Go.Proofs.Ytggnaohigiakeaa
open Go.ChangeShapes Go.WideShapes Go.ChangeAt Go.RowKit
set_option maxRecDepth 100000 in
set_option maxHeartbeats 2000000 in
theorem counterBlock_any (s : ByteArray) (hs : s.size = 12) (k : Nat) (hk : k < 4294967296) (w : World) :
    Calls Try.prog 38 #[.string s, .int .u32 (k : Int)] w fun e w' => e = .returned (.agg (bA 16 (ctrBlk (strB s) k))) ∧ Below w.heap.size w w' := by
  have SO : Hid (∀ w : World, Calls Try.prog 41 #[.string s] w fun e w' => e = .returned (.agg (bA 16 (strB s))) ∧ Below w.heap.size w w') := stateOf_le s (by omega)
  have Z1 : Hid (Row8 (w.alloc (.cells z16 44)) w.heap.size 44 16 (fun _ => 0)) := Row8.z16At rfl _
  have B1 : Hid (Below w.heap.size w (w.alloc (.cells z16 44))) := (Below.refl _ _).alloc (Nat.le_refl _) _
  have hz1 : (w.alloc (.cells z16 44)).heap.size = w.heap.size + 1 := by simp
  unfold z16 at Z1 B1 hz1
  clear hs
  obtain ⟨N, hN⟩ : ∃ N, N = strB s := ⟨_, rfl⟩
  rw [← hN] at SO ⊢
  clear hN
  have SA : Hid ((Try.prog.info? 44).map (·.size) = some (bA 16 N).size) := by rw [bA_size]; exact Try.sizeSt
  have OA : Hid ((bA 16 N).all (·.oneCell') = true) := bA_one _ _
  have TL : Hid ((bA 16 N).toList = bv 16 N) := bA_toList _ _
  have BS : Hid ((bA 16 N).size = 16) := bA_size _ _
  generalize bA 16 N = NA at *
  go_enter Try.func38, Try.ntmps38
  go_wp2_with fail
  generalize w.alloc (.cells #[.int .u8 0, .int .u8 0, .int .u8 0, .int .u8 0, .int .u8 0, .int .u8 0, .int .u8 0, .int .u8 0, .int .u8 0, .int .u8 0, .int .u8 0, .int .u8 0, .int .u8 0, .int .u8 0, .int .u8 0, .int .u8 0] 44) = wa at *
  refine (SO.out _).mono ?_
  rintro e w1 ⟨rfl, hb⟩
  have Z2 : Hid (Row8 w1 w.heap.size 44 16 (fun _ => 0)) := Z1.out.below hb
  have B2 : Hid (Below w.heap.size w w1) := B1.out.trans (hb.mono B1.out.size)
  have hsz := hb.size
  rw [hz1] at hsz
  have Z3 : Hid (Row8 (w1.alloc (.cells z16 44)) w1.heap.size 44 16 (fun _ => 0)) := Row8.z16At rfl _
  have Z4 : Hid (Row8 (w1.alloc (.cells z16 44)) w.heap.size 44 16 (fun _ => 0)) := Z2.out.alloc _
  have B3 : Hid (Below w.heap.size w (w1.alloc (.cells z16 44))) := B2.out.alloc (by omega) _
  clear hb Z1 B1 Z2 B2 hz1 SO
  unfold z16 at Z3 Z4 B3
  go_upto_region 2 with (refine wpList_store_mid rfl 44 (.tmp 5) (.tmp 8) rfl w1.heap.size 0 NA rfl rfl (by rw [BS.out]; exact Z3.out.there) SA.out OA.out ?_)
  rw [TL.out]
  generalize w1.alloc (.cells #[.int .u8 0, .int .u8 0, .int .u8 0, .int .u8 0, .int .u8 0, .int .u8 0, .int .u8 0, .int .u8 0, .int .u8 0, .int .u8 0, .int .u8 0, .int .u8 0, .int .u8 0, .int .u8 0, .int .u8 0, .int .u8 0] 44) = wb at *
  have R5 : Hid (Row8 (wb.setCells w1.heap.size 0 (bv 16 N)) w1.heap.size 44 16 N) := Z3.out.stored _
  have R4 : Hid (Row8 (wb.setCells w1.heap.size 0 (bv 16 N)) w.heap.size 44 16 (fun _ => 0)) := Z4.out.storedOther (by omega) _ _
  have B4 : Hid (Below w.heap.size w (wb.setCells w1.heap.size 0 (bv 16 N))) := below_setCells (by omega) _ _ _ B3.out
  clear Z3 Z4 B3 SA OA TL BS
  generalize wb.setCells w1.heap.size 0 (bv 16 N) = wc at *
  generalize w1.heap.size = sb at *
  go_wp2_with fail
  go_loopw [1, 6] (fun x i wr => ∃ j : Nat, j ≤ 4 ∧ i = .int .i64 (15 - (j : Int)) ∧ x = .int .u32 ((k / 256 ^ j : Nat) : Int) ∧ Row8 wr sb 44 16 (fun y => if 15 < y + j then ctrBlk N k y else N y) ∧ Row8 wr w.heap.size 44 16 (fun _ => 0) ∧ Below w.heap.size w wr) (fun _ i _ => (intOf i).toNat)
  case atStart => exact ⟨0, by omega, rfl, numEq8 (by simp), R5.out.congr (fun y hy => by rw [if_neg (by omega)]), R4.out, B4.out⟩
  case round =>
    clear R5 R4 B4
    obtain ⟨j, hj, rfl, rfl, hr, hz, hb⟩ := hrel
    have HZ : Hid (Row8 wr w.heap.size 44 16 (fun _ => 0)) := hz
    have HB : Hid (Below w.heap.size w wr) := hb
    by_cases hlt : j < 4
    · have HR : Hid (Row8 wr sb 44 16 (fun y => if 15 < y + j then ctrBlk N k y else N y)) := hr
      obtain ⟨p, hp⟩ : ∃ p, p = 15 - j := ⟨_, rfl⟩
      have hp12 : 12 ≤ p := by omega
      have hp16 : p < 16 := by omega
      have ep : (15 - (j : Int)) = (p : Int) := by omega
      have c1 := World.rowIs.cell hr (i := p) hp16
      have f1 := World.rowIs.frozen hr p
      have hq : k / 256 ^ j < 4294967296 := Nat.lt_of_le_of_lt (Nat.div_le_self _ _) hk
      have eb : ((k / 256 ^ j : Nat) : Int) % 256 = ((ctrBlk N k p : Nat) : Int) := by
        unfold ctrBlk
        rw [if_neg (by omega), show 15 - p = j from by omega]
        omega
      have es : ((k / 256 ^ j : Nat) : Int) / 256 = ((k / 256 ^ (j + 1) : Nat) : Int) := by
        rw [Nat.pow_succ, ← Nat.div_div_eq_div_mul]
        omega
      have HV : Hid (∀ v, v = ctrBlk N k p → ∀ y, y < 16 → (if y = p then v else if 15 < y + j then ctrBlk N k y else N y) = if 15 < y + (j + 1) then ctrBlk N k y else N y) := fun v hv y hy => by
        by_cases e : y = p
        · subst e
          rw [if_pos rfl, if_pos (by omega), hv]
        · rw [if_neg e]
          by_cases e2 : 15 < y + j
          · rw [if_pos e2, if_pos (by omega)]
          · rw [if_neg e2, if_neg (by omega)]
      have HE : Hid ((p : Int) - 1 = 15 - ((j + 1 : Nat) : Int)) := by show (p : Int) - 1 = _; omega
      obtain ⟨V, hV⟩ : ∃ V, V = ctrBlk N k p := ⟨_, rfl⟩
      have HVe : Hid (V = ctrBlk N k p) := hV
      rw [← hV] at eb
      rw [ep]
      generalize hk2 : k / 256 ^ (j + 1) = k2 at *
      have HK2 : Hid (k / 256 ^ (j + 1) = k2) := hk2
      generalize k / 256 ^ j = k1 at *
      have x12 : (12 : Int) ≤ (p : Int) := by omega
      have x16 : (p : Int) < 16 := by omega
      have hsbne : w.heap.size ≠ sb := by omega
      clear hV hr hz hb ep hp hk2
      go_wp2
      go_roundw
      case rel =>
        refine ⟨j + 1, by omega, numEq8 HE.out, by rw [HK2.out], ?_, ?_, ?_⟩
        · exact (HR.out.set p V).congr (HV.out V HVe.out)
        · exact HZ.out.other hsbne _
        · exact HB.out.setCell (by show w.heap.size ≤ sb; omega) _
      case measure => simp [intOf]; omega
    · have HR2 : Hid (Row8 wr sb 44 16 (ctrBlk N k)) := hr.congr (fun y hy => by
        by_cases e : 15 < y + j
        · rw [if_pos e]
        · rw [if_neg e]
          unfold ctrBlk
          rw [if_pos (by omega)])
      have ej : j = 4 := by omega
      clear hr hz hb
      subst ej
      generalize hG : ctrBlk N k = G at *
      have HG : Hid (ctrBlk N k = G) := hG
      clear hG
      go_upto_region 7 with fail
      refine wp_region_lit ?_
      refine wpList_load_mid rfl 44 (.tmp 5) rfl sb 0 rfl (bv 16 G) _ HR2.out.range Try.underlying44 rfl (by rw [bv_length]; exact Try.sizeSt) ?_
      refine wpList_store_mid rfl 44 (.tmp 4) (.tmp 19) rfl w.heap.size 0 (bA 16 G) rfl rfl (by rw [bA_size]; exact HZ.out.there) (by rw [bA_size]; exact Try.sizeSt) (bA_one _ _) ?_
      rw [bA_toList]
      have L : Hid ((loadVar 44 ⟨w.heap.size, 0, none⟩).run Try.prog (wr.setCells (w.heap.size) 0 (bv 16 G)) = .ok (.agg (bA 16 G)) (wr.setCells (w.heap.size) 0 (bv 16 G))) := (HZ.out.stored _).load Try.underlying44 rfl Try.sizeSt
      have B : Hid (Below w.heap.size w (wr.setCells (w.heap.size) 0 (bv 16 G))) := below_setCells (Nat.le_refl _) _ _ _ HB.out
      have eA : (bv 16 G).toArray = bA 16 G := rfl
      rw [eA]
      generalize wr.setCells (w.heap.size) 0 (bv 16 G) = wf at *
      generalize hA : bA 16 G = AA at *
      have HA : Hid (bA 16 G = AA) := hA
      clear hA eA
      go_wp2
      rw [HG.out, HA.out]
      exact bodyPost_ret (v := .agg AA) (results_cell_one (b := w.heap.size) (o := 0) Try.results38 _ _ _ rfl L.out) rfl ⟨rfl, B.out⟩
end Go.Proofs.Ytggnaohigiakeaa
