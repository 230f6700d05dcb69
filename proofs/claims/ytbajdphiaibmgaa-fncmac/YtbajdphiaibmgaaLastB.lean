/-
  The contract of impl.lastBlock.
-/
import Derived.Test.YtbajdphiaibmgaaDoubled
import Derived.Test.YtbajdphiaibmgaaCbc
namespace Go.Proofs.Ytbajdphiaibmgaa
open Go.ChangeShapes Go.WideShapes Go.ChangeAt Go.RowKit
/-- r bytes filled up to a block. -/
def fillB (r : Nat) (f : Nat → Nat) (j : Nat) : Nat := if j < r then f j else if j = r then 128 else 0
theorem fillB_lt {r : Nat} {f : Nat → Nat} (hf : ∀ i, f i < 256) (j : Nat) : fillB r f j < 256 := by
  unfold fillB
  split
  · exact hf j
  · split <;> omega
set_option maxRecDepth 100000 in
set_option maxHeartbeats 2000000 in
/-- The end of lastBlock: both states summed into the result. -/
theorem lastBlock_any (b o r c : Nat) (f g : Nat → Nat) (hf : ∀ i, f i < 256) (hg : ∀ i, i < 16 → g i < 256) (hr : r ≤ 16) (w : World) (h : Code8 w (some ⟨b, o, none⟩) r f) :
    Calls Try.prog 20 #[.slice (some ⟨b, o, none⟩) r c, .agg (bA 16 g)] w fun e w' => e = .returned (.agg (bA 16 (fun j => fillB r f j ^^^ (if r < 16 then dblB g else g) j))) ∧ Below w.heap.size w w' := by
  have DB : Hid (∀ w : World, Calls Try.prog 19 #[.agg (bA 16 g)] w fun e w' => e = .returned (.agg (bA 16 (dblB g))) ∧ Below w.heap.size w w') := doubled_any g hg
  have AD : Hid (∀ w : World, Calls Try.prog 17 #[.agg (bA 16 (fillB r f)), .agg (bA 16 (if r < 16 then dblB g else g))] w fun e w' => e = .returned (.agg (bA 16 (fun j => fillB r f j ^^^ (if r < 16 then dblB g else g) j))) ∧ Below w.heap.size w w') := added_any _ _ (fun j _ => fillB_lt hf j) (fun j hj => by
    split
    · exact dblB_lt hg j hj
    · exact hg j hj)
  have W0 : ((w.alloc (.cells (bA 16 g) 37)).alloc (.cells z16 37)).alloc (.cells z16 37) = ((w.alloc (.cells (bA 16 g) 37)).alloc (.cells z16 37)).alloc (.cells z16 37) := rfl
  clear W0
  have M0 : Hid (Row8 (((w.alloc (.cells (bA 16 g) 37)).alloc (.cells z16 37)).alloc (.cells z16 37)) w.heap.size 37 16 g) := ((Row8.boxedAt rfl _ _ _).alloc _).alloc _
  have E0 : Hid (Row8 (((w.alloc (.cells (bA 16 g) 37)).alloc (.cells z16 37)).alloc (.cells z16 37)) (w.heap.size + 1) 37 16 (fun _ => 0)) := (Row8.z16At (by simp) _).alloc _
  have S0 : Hid (Row8 (((w.alloc (.cells (bA 16 g) 37)).alloc (.cells z16 37)).alloc (.cells z16 37)) (w.heap.size + 1 + 1) 37 16 (fun _ => 0)) := Row8.z16At (by simp) _
  have B0 : Hid (Below w.heap.size w (((w.alloc (.cells (bA 16 g) 37)).alloc (.cells z16 37)).alloc (.cells z16 37))) := (((Below.refl _ _).alloc (Nat.le_refl _) _).alloc (by simp) _).alloc (by simp; omega) _
  have HC0 : Hid (Code8 (((w.alloc (.cells (bA 16 g) 37)).alloc (.cells z16 37)).alloc (.cells z16 37)) (some ⟨b, o, none⟩) r f) := h.below (Below.mono B0.out (Nat.le_refl _))
  clear h hf hg
  unfold z16 at M0 E0 S0 B0 HC0
  go_enter Try.func20, Try.ntmps20
  go_upto_region 2 with fail
  generalize ((w.alloc (.cells (bA 16 g) 37)).alloc (.cells #[.int .u8 0, .int .u8 0, .int .u8 0, .int .u8 0, .int .u8 0, .int .u8 0, .int .u8 0, .int .u8 0, .int .u8 0, .int .u8 0, .int .u8 0, .int .u8 0, .int .u8 0, .int .u8 0, .int .u8 0, .int .u8 0] 37)).alloc (.cells #[.int .u8 0, .int .u8 0, .int .u8 0, .int .u8 0, .int .u8 0, .int .u8 0, .int .u8 0, .int .u8 0, .int .u8 0, .int .u8 0, .int .u8 0, .int .u8 0, .int .u8 0, .int .u8 0, .int .u8 0, .int .u8 0] 37) = wz at *
  have CP : ∀ ty, (Builtin.copy_ #[22, 22] ty #[.slice (some ⟨w.heap.size + 1 + 1, 0, none⟩) 16 16, .slice (some ⟨b, o, none⟩) r c]).run Try.prog wz = .ok (goInt r) (wz.setCells (w.heap.size + 1 + 1) 0 (bv r f)) := fun ty => by
    have := run_copy_cells (P := Try.prog) wz 22 22 ty 5 (w.heap.size + 1 + 1) 0 16 16 ⟨b, o, none⟩ r c (bv r f) Try.underlying22 size8 (by rw [bv_length]; show r = min r 16; omega) (bv_news HC0.out) (fun j hj => by rw [bv_length] at hj; exact (S0.out.there j (by omega)).1) (fun j hj => by rw [bv_length] at hj; exact (S0.out.there j (by omega)).2) (bv_one _ _)
    rw [bv_length] at this
    exact this
  have X1 : OnlyB (w.heap.size + 1 + 1) wz (wz.setCells (w.heap.size + 1 + 1) 0 (bv r f)) := onlyB_setCells _ _ _ (OnlyB.refl _ _)
  have M1 : Hid (Row8 (wz.setCells (w.heap.size + 1 + 1) 0 (bv r f)) w.heap.size 37 16 g) := M0.out.onlyB X1 (by omega)
  have E1 : Hid (Row8 (wz.setCells (w.heap.size + 1 + 1) 0 (bv r f)) (w.heap.size + 1) 37 16 (fun _ => 0)) := E0.out.onlyB X1 (by omega)
  have S1 : Hid (Row8 (wz.setCells (w.heap.size + 1 + 1) 0 (bv r f)) (w.heap.size + 1 + 1) 37 16 (fun j => if j < r then f j else 0)) := (rowIs_setCells (bv r f) 0 wz _ S0.out).congr (fun i hi => by
    rw [bv_length]
    show _ = Value.int .u8 ((if i < r then f i else 0 : Nat) : Int)
    by_cases h : i < r
    · rw [if_pos (by omega), Nat.sub_zero, List.getD_eq_getElem?_getD, bv_at h, if_pos h]; rfl
    · rw [if_neg (by omega), if_neg h])
  have B1 : Hid (Below w.heap.size w (wz.setCells (w.heap.size + 1 + 1) 0 (bv r f))) := B0.out.trans (X1.toBelow (by omega) B0.out.size)
  generalize wz.setCells (w.heap.size + 1 + 1) 0 (bv r f) = w1 at *
  clear X1 M0 E0 S0 B0 HC0
  generalize hG : bA 16 g = GA at *
  have HG : Hid (bA 16 g = GA) := hG
  clear hG
  go_upto_region 3 with fail
  clear CP
  generalize hLF : fillB r f = LF at *
  have HLF : Hid (fillB r f = LF) := hLF
  by_cases h16 : r < 16
  · have xr : (r : Int) < 16 := by omega
    have x0 : (0 : Int) ≤ (r : Int) := by omega
    have c1 := World.rowIs.cell S1.out (i := r) h16
    have f1 := World.rowIs.frozen S1.out r
    have S2 : Hid (Row8 (w1.setCell ⟨w.heap.size + 1 + 1, r, none⟩ (.int .u8 128)) (w.heap.size + 1 + 1) 37 16 LF) := (Row8.set S1.out r 128).congr (fun j hj => by
      rw [← hLF]; unfold fillB
      by_cases e : j = r
      · subst e; rw [if_pos rfl, if_neg (by omega), if_pos rfl]
      · rw [if_neg e]
        by_cases e2 : j < r
        · rw [if_pos e2, if_pos e2]
        · rw [if_neg e2, if_neg e2, if_neg e])
    have M2 : Hid (Row8 (w1.setCell ⟨w.heap.size + 1 + 1, r, none⟩ (.int .u8 128)) w.heap.size 37 16 g) := M1.out.other (by show w.heap.size ≠ w.heap.size + 1 + 1; omega) _
    have E2 : Hid (Row8 (w1.setCell ⟨w.heap.size + 1 + 1, r, none⟩ (.int .u8 128)) (w.heap.size + 1) 37 16 (fun _ => 0)) := E1.out.other (by show w.heap.size + 1 ≠ w.heap.size + 1 + 1; omega) _
    have B2 : Hid (Below w.heap.size w (w1.setCell ⟨w.heap.size + 1 + 1, r, none⟩ (.int .u8 128))) := B1.out.setCell (by show w.heap.size ≤ w.heap.size + 1 + 1; omega) _
    rw [show (if r < 16 then dblB g else g) = dblB g from if_pos h16] at AD
    generalize hMF : dblB g = MF at *
    have HMF : Hid (dblB g = MF) := hMF
    clear hMF
    clear hLF S1 M1 E1 B1
    go_upto_region 5 with fail
    generalize w1.setCell ⟨w.heap.size + 1 + 1, r, none⟩ (.int .u8 128) = w2 at *
    clear c1 f1
    have eG : (bv 16 g).toArray = GA := HG.out
    have SA : Hid ((Try.prog.info? 37).map (·.size) = some (bA 16 MF).size) := by rw [bA_size]; exact Try.sizeSt
    have OA : Hid ((bA 16 MF).all (·.oneCell') = true) := bA_one _ _
    have TL : Hid ((bA 16 MF).toList = bv 16 MF) := bA_toList _ _
    have BS : Hid ((bA 16 MF).size = 16) := bA_size _ _
    generalize hMA : bA 16 MF = MA at *
    have HMA : Hid (bA 16 MF = MA) := hMA
    clear hMA
    go_wp2_with (refine wpList_load_mid rfl 37 (.tmp 3) rfl w.heap.size 0 rfl (bv 16 g) _ M2.out.range Try.underlying37 rfl (by rw [bv_length]; exact Try.sizeSt) ?_)
    clear eG
    refine (DB.out _).mono ?_
    rintro e w3 ⟨rfl, hb3⟩
    have S3 : Hid (Row8 w3 (w.heap.size + 1 + 1) 37 16 LF) := S2.out.below hb3
    have M3 : Hid (Row8 w3 w.heap.size 37 16 g) := M2.out.below hb3
    have E3 : Hid (Row8 w3 (w.heap.size + 1) 37 16 (fun _ => 0)) := E2.out.below hb3
    have B3 : Hid (Below w.heap.size w w3) := B2.out.trans (hb3.mono B2.out.size)
    have X4 : OnlyB w.heap.size w3 (w3.setCells w.heap.size 0 (bv 16 MF)) := onlyB_setCells _ _ _ (OnlyB.refl _ _)
    have SF : Hid (Row8 (w3.setCells w.heap.size 0 (bv 16 MF)) (w.heap.size + 1 + 1) 37 16 LF) := S3.out.onlyB X4 (by omega)
    have EF : Hid (Row8 (w3.setCells w.heap.size 0 (bv 16 MF)) (w.heap.size + 1) 37 16 (fun _ => 0)) := E3.out.onlyB X4 (by omega)
    have MFr : Hid (Row8 (w3.setCells w.heap.size 0 (bv 16 MF)) w.heap.size 37 16 MF) := M3.out.stored _
    have BF : Hid (Below w.heap.size w (w3.setCells w.heap.size 0 (bv 16 MF))) := B3.out.trans (X4.toBelow (Nat.le_refl _) B3.out.size)
    clear hb3 S2 M2 E2 B2 DB
    go_upto_region 6 with (refine wpList_store_mid rfl 37 (.tmp 3) (.tmp 16) rfl w.heap.size 0 MA rfl rfl (by rw [BS.out]; exact M3.out.there) SA.out OA.out ?_)
    rw [TL.out]
    generalize w3.setCells w.heap.size 0 (bv 16 MF) = w4 at *
    clear S3 M3 E3 B3 X4 SA OA TL BS
    generalize hLA : bA 16 LF = LA at *
    have HLA : Hid (bA 16 LF = LA) := hLA
    clear hLA
    have SAf : Hid ((Try.prog.info? 37).map (·.size) = some (bA 16 (fun j => LF j ^^^ MF j)).size) := by rw [bA_size]; exact Try.sizeSt
    have OAf : Hid ((bA 16 (fun j => LF j ^^^ MF j)).all (·.oneCell') = true) := bA_one _ _
    have TLf : Hid ((bA 16 (fun j => LF j ^^^ MF j)).toList = bv 16 (fun j => LF j ^^^ MF j)) := bA_toList _ _
    have BSf : Hid ((bA 16 (fun j => LF j ^^^ MF j)).size = 16) := bA_size _ _
    have eL : (bv 16 LF).toArray = LA := HLA.out
    have eM : (bv 16 MF).toArray = MA := HMA.out
    generalize hQ : bA 16 (fun j => LF j ^^^ MF j) = Q at *
    have HQ : Hid (bA 16 (fun j => LF j ^^^ MF j) = Q) := hQ
    clear hQ
    go_wp2_with (first
      | (refine wpList_load_mid rfl 37 (.tmp 5) rfl (w.heap.size + 1 + 1) 0 rfl (bv 16 LF) _ SF.out.range Try.underlying37 rfl (by rw [bv_length]; exact Try.sizeSt) ?_)
      | (refine wpList_load_mid rfl 37 (.tmp 3) rfl w.heap.size 0 rfl (bv 16 MF) _ MFr.out.range Try.underlying37 rfl (by rw [bv_length]; exact Try.sizeSt) ?_))
    clear eL eM
    refine (AD.out _).mono ?_
    rintro e w9 ⟨rfl, hb9⟩
    have E9 : Hid (Row8 w9 (w.heap.size + 1) 37 16 (fun _ => 0)) := EF.out.below hb9
    have B9 : Hid (Below w.heap.size w w9) := BF.out.trans (hb9.mono BF.out.size)
    have L9 : Hid ((loadVar 37 ⟨w.heap.size + 1, 0, none⟩).run Try.prog (w9.setCells (w.heap.size + 1) 0 (bv 16 (fun j => LF j ^^^ MF j))) = .ok (.agg Q) (w9.setCells (w.heap.size + 1) 0 (bv 16 (fun j => LF j ^^^ MF j)))) := by
      have := (E9.out.stored (fun j => LF j ^^^ MF j)).load Try.underlying37 rfl Try.sizeSt
      rwa [HQ.out] at this
    have Bf : Hid (Below w.heap.size w (w9.setCells (w.heap.size + 1) 0 (bv 16 (fun j => LF j ^^^ MF j)))) := below_setCells (by omega) _ _ _ B9.out
    clear hb9 BF EF SF MFr
    go_wp2_with (refine wpList_store_mid rfl 37 (.tmp 4) (.tmp 19) rfl (w.heap.size + 1) 0 Q rfl rfl (by rw [BSf.out]; exact E9.out.there) SAf.out OAf.out ?_; rw [TLf.out]; generalize w9.setCells (w.heap.size + 1) 0 (bv 16 (fun j => LF j ^^^ MF j)) = wf at *)
    rw [HMF.out, HLF.out, HQ.out]
    exact bodyPost_ret (v := .agg Q) (results_cell_one (b := w.heap.size + 1) (o := 0) Try.results20 _ _ _ rfl L9.out) rfl ⟨rfl, Bf.out⟩
  · have xr : ¬ (r : Int) < 16 := by omega
    have SF : Hid (Row8 w1 (w.heap.size + 1 + 1) 37 16 LF) := S1.out.congr (fun j hj => by rw [← hLF]; unfold fillB; rw [if_pos (by omega), if_pos (by omega)])
    rw [show (if r < 16 then dblB g else g) = g from if_neg h16] at AD
    obtain ⟨MF, hMF⟩ : ∃ MF, MF = g := ⟨_, rfl⟩
    have HMF : Hid (g = MF) := hMF.symm
    have EF : Hid (Row8 w1 (w.heap.size + 1) 37 16 (fun _ => 0)) := E1.out
    have MFr : Hid (Row8 w1 w.heap.size 37 16 MF) := by show Row8 w1 _ _ 16 MF; rw [hMF]; exact M1.out
    have BF : Hid (Below w.heap.size w w1) := B1.out
    rw [← hMF] at AD
    clear hLF S1 M1 E1 B1 DB HG hMF
    generalize hMA : bA 16 MF = MA at *
    have HMA : Hid (bA 16 MF = MA) := hMA
    clear hMA
    generalize hLA : bA 16 LF = LA at *
    have HLA : Hid (bA 16 LF = LA) := hLA
    clear hLA
    have SAf : Hid ((Try.prog.info? 37).map (·.size) = some (bA 16 (fun j => LF j ^^^ MF j)).size) := by rw [bA_size]; exact Try.sizeSt
    have OAf : Hid ((bA 16 (fun j => LF j ^^^ MF j)).all (·.oneCell') = true) := bA_one _ _
    have TLf : Hid ((bA 16 (fun j => LF j ^^^ MF j)).toList = bv 16 (fun j => LF j ^^^ MF j)) := bA_toList _ _
    have BSf : Hid ((bA 16 (fun j => LF j ^^^ MF j)).size = 16) := bA_size _ _
    have eL : (bv 16 LF).toArray = LA := HLA.out
    have eM : (bv 16 MF).toArray = MA := HMA.out
    generalize hQ : bA 16 (fun j => LF j ^^^ MF j) = Q at *
    have HQ : Hid (bA 16 (fun j => LF j ^^^ MF j) = Q) := hQ
    clear hQ
    go_wp2_with (first
      | (refine wpList_load_mid rfl 37 (.tmp 5) rfl (w.heap.size + 1 + 1) 0 rfl (bv 16 LF) _ SF.out.range Try.underlying37 rfl (by rw [bv_length]; exact Try.sizeSt) ?_)
      | (refine wpList_load_mid rfl 37 (.tmp 3) rfl w.heap.size 0 rfl (bv 16 MF) _ MFr.out.range Try.underlying37 rfl (by rw [bv_length]; exact Try.sizeSt) ?_))
    clear eL eM
    refine (AD.out _).mono ?_
    rintro e w9 ⟨rfl, hb9⟩
    have E9 : Hid (Row8 w9 (w.heap.size + 1) 37 16 (fun _ => 0)) := EF.out.below hb9
    have B9 : Hid (Below w.heap.size w w9) := BF.out.trans (hb9.mono BF.out.size)
    have L9 : Hid ((loadVar 37 ⟨w.heap.size + 1, 0, none⟩).run Try.prog (w9.setCells (w.heap.size + 1) 0 (bv 16 (fun j => LF j ^^^ MF j))) = .ok (.agg Q) (w9.setCells (w.heap.size + 1) 0 (bv 16 (fun j => LF j ^^^ MF j)))) := by
      have := (E9.out.stored (fun j => LF j ^^^ MF j)).load Try.underlying37 rfl Try.sizeSt
      rwa [HQ.out] at this
    have Bf : Hid (Below w.heap.size w (w9.setCells (w.heap.size + 1) 0 (bv 16 (fun j => LF j ^^^ MF j)))) := below_setCells (by omega) _ _ _ B9.out
    clear hb9 BF EF SF MFr
    go_wp2_with (refine wpList_store_mid rfl 37 (.tmp 4) (.tmp 19) rfl (w.heap.size + 1) 0 Q rfl rfl (by rw [BSf.out]; exact E9.out.there) SAf.out OAf.out ?_; rw [TLf.out]; generalize w9.setCells (w.heap.size + 1) 0 (bv 16 (fun j => LF j ^^^ MF j)) = wf at *)
    rw [HMF.out, HLF.out, HQ.out]
    exact bodyPost_ret (v := .agg Q) (results_cell_one (b := w.heap.size + 1) (o := 0) Try.results20 _ _ _ rfl L9.out) rfl ⟨rfl, Bf.out⟩
end Go.Proofs.Ytbajdphiaibmgaa
