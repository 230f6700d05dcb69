/-
  Contracts of what the program's modes lean on: modeFault, addInto.
-/
import Derived.Test.YtonccbgolbcjfabDoorJ05
import Derived.Test.YtonccbgolbcjfabDoorJ07
import Derived.Test.YtonccbgolbcjfabDoorJ08
import Derived.Test.YtonccbgolbcjfabDoorJ04
import Derived.Deep.RegionWith
namespace Go.Proofs.YtonccbgolbcjfabDoor
open Go.ChangeShapes Go.WideShapes Go.ChangeAt Go.RowKit
theorem mf_long (k s : ByteArray) (size count most : Int) (h : 65536 < k.size ∨ 65536 < s.size ∨ most < count) (w : World) :
    Calls Tryd.prog 48 #[.string k, .string s, .int .i64 size, .int .i64 count, .int .i64 most] w fun e w' => e = .returned (.int .i64 2) ∧ w = w' := by
  by_cases h1 : 65536 < k.size
  · have e1 : (65536 : Int) < k.size := by omega
    go_enter Tryd.func48, Tryd.ntmps48
    go_wp2
    go_ret
    exact ⟨rfl, rfl⟩
  · have e1 : ¬ (65536 : Int) < k.size := by omega
    by_cases h2 : 65536 < s.size
    · have e2 : (65536 : Int) < s.size := by omega
      go_enter Tryd.func48, Tryd.ntmps48
      go_wp2
      go_ret
      exact ⟨rfl, rfl⟩
    · have e2 : ¬ (65536 : Int) < s.size := by omega
      have e3 : most < count := by omega
      go_enter Tryd.func48, Tryd.ntmps48
      go_wp2
      go_ret
      exact ⟨rfl, rfl⟩
theorem mf_bad (k s : ByteArray) (size count most : Int) (h1 : k.size ≤ 65536) (h2 : s.size ≤ 65536) (h3 : count ≤ most) (h : ¬ ((k.size = 16 ∨ k.size = 32) ∧ (s.size : Int) = size)) (w : World) :
    Calls Tryd.prog 48 #[.string k, .string s, .int .i64 size, .int .i64 count, .int .i64 most] w fun e w' => e = .returned (.int .i64 1) ∧ w = w' := by
  have e1 : ¬ (65536 : Int) < k.size := by omega
  have e2 : ¬ (65536 : Int) < s.size := by omega
  have e3 : ¬ most < count := by omega
  by_cases hk : k.size = 16 ∨ k.size = 32
  · have e4 : ((s.size : Int) != size) = true := by rw [bne_iff_ne]; omega
    have KO : Hid (∀ w : World, Calls Tryd.prog 68 #[.string k] w fun e w' => e = .returned (.bool true) ∧ w = w') := fun w => (keyOK_yes k hk w).mono fun e w' h => ⟨h.1, h.2.symm⟩
    clear h hk
    go_enter Tryd.func48, Tryd.ntmps48
    go_wp2_with (go_at_call 68; refine (KO.out _).mono ?_; rintro e w' ⟨rfl, rfl⟩)
    go_ret
    exact ⟨rfl, rfl⟩
  · have KO : Hid (∀ w : World, Calls Tryd.prog 68 #[.string k] w fun e w' => e = .returned (.bool false) ∧ w = w') := fun w => (keyOK_no k (by omega) (by omega) w).mono fun e w' h => ⟨h.1, h.2.symm⟩
    clear h hk
    go_enter Tryd.func48, Tryd.ntmps48
    go_wp2_with (go_at_call 68; refine (KO.out _).mono ?_; rintro e w' ⟨rfl, rfl⟩)
    go_ret
    exact ⟨rfl, rfl⟩
theorem mf_ok (k s : ByteArray) (size count most : Int) (h3 : count ≤ most) (hk : k.size = 16 ∨ k.size = 32) (hs : (s.size : Int) = size) (hs' : size ≤ 65536) (w : World) :
    Calls Tryd.prog 48 #[.string k, .string s, .int .i64 size, .int .i64 count, .int .i64 most] w fun e w' => e = .returned (.int .i64 0) ∧ w = w' := by
  have e1 : ¬ (65536 : Int) < k.size := by omega
  have e2 : ¬ (65536 : Int) < s.size := by omega
  have e3 : ¬ most < count := by omega
  have e4 : ((s.size : Int) != size) = false := by rw [bne_eq_false_iff_eq]; omega
  have KO : Hid (∀ w : World, Calls Tryd.prog 68 #[.string k] w fun e w' => e = .returned (.bool true) ∧ w = w') := fun w => (keyOK_yes k hk w).mono fun e w' h => ⟨h.1, h.2.symm⟩
  clear hk hs
  go_enter Tryd.func48, Tryd.ntmps48
  go_wp2_with (go_at_call 68; refine (KO.out _).mono ?_; rintro e w' ⟨rfl, rfl⟩)
  go_ret
  exact ⟨rfl, rfl⟩
theorem OnlyB.drew8 {b : Nat} {w w' : World} (h : OnlyB b w w') : OnlyB b w w'.drew := ⟨h.os, h.tape, h.output, h.size, h.block⟩
set_option maxRecDepth 100000 in
set_option maxHeartbeats 2000000 in
/-- impl.addInto: over a part of a row of the caller's own. -/
theorem addInto_any (b o n c M : Nat) (F g : Nat → Nat) (hF : ∀ i, F i < 256) (hg : ∀ i, i < 16 → g i < 256) (hn : n ≤ 16) (hM : o + n ≤ M) (w : World) (h : Own8 w b M F) :
    Calls Tryd.prog 51 #[.slice (some ⟨b, o, none⟩) n c, .agg (bA 16 g)] w fun e w' => e = .returned (.tuple #[]) ∧ Own8 w' b M (fun i => if o ≤ i ∧ i < o + n then F i ^^^ g (i - o) else F i) ∧ OnlyB b w w' := by
  have hbl := h.lt
  have HO : Hid (Own8 (w.alloc (.cells (bA 16 g) 77)) b M F) := h.alloc _
  have HS : Hid (Row8 (w.alloc (.cells (bA 16 g) 77)) w.heap.size 77 16 g) := Row8.boxedAt rfl _ _ _
  have HB : Hid (OnlyB b w (w.alloc (.cells (bA 16 g) 77))) := (OnlyB.refl _ _).below ((Below.refl _ _).alloc (Nat.le_refl _) _)
  have HF : Hid (∀ i, F i < 256) := hF
  have HG : Hid (∀ i, i < 16 → g i < 256) := hg
  clear h hF hg
  go_enter Tryd.func51, Tryd.ntmps51
  go_wp2_with fail
  generalize w.alloc (.cells (bA 16 g) 77) = wz at *
  generalize bA 16 g = GA at *
  go_loopw [4, 7] (fun _ i wr => ∃ k : Nat, k ≤ n ∧ i = .int .i64 k ∧ Own8 wr b M (fun x => if o ≤ x ∧ x < o + k then F x ^^^ g (x - o) else F x) ∧ Row8 wr w.heap.size 77 16 g ∧ OnlyB b w wr) (fun _ i _ => n - (intOf i).toNat)
  case atStart => exact ⟨0, by omega, rfl, HO.out.congr (fun j hj => by rw [if_neg (by omega)]), HS.out, HB.out⟩
  case round =>
    clear HO HS HB
    obtain ⟨k, hk, rfl, ho, hs, hb⟩ := hrel
    have HO : Hid (Own8 wr b M (fun x => if o ≤ x ∧ x < o + k then F x ^^^ g (x - o) else F x)) := ho
    have HS : Hid (Row8 wr w.heap.size 77 16 g) := hs
    have HB : Hid (OnlyB b w wr) := hb
    by_cases hlt : k < n
    · have c1 := ho.cell (i := o + k) (by omega)
      simp only [Nat.lt_irrefl, and_false, if_false] at c1
      have f1 := ho.frozen (o + k)
      have c2 := World.rowIs.cell hs (i := k) (by omega)
      have l1 := HF.out (o + k)
      have l2 := HG.out k (by omega)
      have ex : bits .xor .u8 (F (o + k) : Int) (g k : Int) = ((F (o + k) ^^^ g k : Nat) : Int) := u8_xor_nat _ _ l1 l2
      have x0 : (0 : Int) ≤ (k : Int) := by omega
      have x1 : (k : Int) < (n : Int) := by omega
      have x2 : (k : Int) < 16 := by omega
      have HV : Hid (∀ v, v = F (o + k) ^^^ g k → ∀ x, x < M → (if x = o + k then v else if o ≤ x ∧ x < o + k then F x ^^^ g (x - o) else F x) = if o ≤ x ∧ x < o + (k + 1) then F x ^^^ g (x - o) else F x) := fun v hv x hx => by
        by_cases e : x = o + k
        · subst e
          rw [if_pos rfl, if_pos (by omega), hv, show o + k - o = k from by omega]
        · rw [if_neg e]
          by_cases e2 : o ≤ x ∧ x < o + k
          · rw [if_pos e2, if_pos (by omega)]
          · rw [if_neg e2, if_neg (by omega)]
      obtain ⟨V, hV⟩ : ∃ V, V = F (o + k) ^^^ g k := ⟨_, rfl⟩
      have HE : Hid (V = F (o + k) ^^^ g k) := hV
      rw [← hV] at ex
      clear hV ho hs hb
      generalize F (o + k) = A1 at *
      generalize g k = A2 at *
      go_wp2_with fail
      go_region
      go_wp2
      go_roundw
      case rel =>
        refine ⟨k + 1, by omega, by go_num, ?_, ?_, ?_⟩
        · exact (HO.out.set (o + k) V).congr (HV.out V HE.out)
        · exact HS.out.other (by show w.heap.size ≠ b; omega) _
        · exact (HB.out.setCell _ _).drew8
      case measure => simp [intOf]; omega
    · have x1 : ¬ (k : Int) < (n : Int) := by omega
      have HO2 : Hid (Own8 wr b M (fun x => if o ≤ x ∧ x < o + n then F x ^^^ g (x - o) else F x)) := ho.congr (fun x hx => by rw [show k = n from by omega])
      clear ho hs hb HO
      go_wp2
      exact bodyPost_end (results_none Tryd.results51 _ _ _) rfl ⟨rfl, HO2.out, HB.out⟩
end Go.Proofs.YtonccbgolbcjfabDoor

/-
  The contract of impl.counterBlock: a nonce and a counter as a state.
-/
namespace Go.Proofs.YtonccbgolbcjfabDoor
open Go.ChangeShapes Go.WideShapes Go.ChangeAt Go.RowKit
set_option maxRecDepth 100000 in
set_option maxHeartbeats 2000000 in
theorem counterBlock_any (s : ByteArray) (hs : s.size = 12) (k : Nat) (hk : k < 4294967296) (w : World) :
    Calls Tryd.prog 53 #[.string s, .int .u32 (k : Int)] w fun e w' => e = .returned (.agg (bA 16 (ctrBlk (strB s) k))) ∧ Below w.heap.size w w' := by
  have SO : Hid (∀ w : World, Calls Tryd.prog 76 #[.string s] w fun e w' => e = .returned (.agg (bA 16 (strB s))) ∧ Below w.heap.size w w') := stateOf_le s (by omega)
  have Z1 : Hid (Row8 (w.alloc (.cells z16 77)) w.heap.size 77 16 (fun _ => 0)) := Row8.z16At rfl _
  have B1 : Hid (Below w.heap.size w (w.alloc (.cells z16 77))) := (Below.refl _ _).alloc (Nat.le_refl _) _
  have hz1 : (w.alloc (.cells z16 77)).heap.size = w.heap.size + 1 := by simp
  unfold z16 at Z1 B1 hz1
  clear hs
  obtain ⟨N, hN⟩ : ∃ N, N = strB s := ⟨_, rfl⟩
  rw [← hN] at SO ⊢
  clear hN
  have SA : Hid ((Tryd.prog.info? 77).map (·.size) = some (bA 16 N).size) := by rw [bA_size]; exact Tryd.sizeSt
  have OA : Hid ((bA 16 N).all (·.oneCell') = true) := bA_one _ _
  have TL : Hid ((bA 16 N).toList = bv 16 N) := bA_toList _ _
  have BS : Hid ((bA 16 N).size = 16) := bA_size _ _
  generalize bA 16 N = NA at *
  go_enter Tryd.func53, Tryd.ntmps53
  go_wp2_with fail
  generalize w.alloc (.cells #[.int .u8 0, .int .u8 0, .int .u8 0, .int .u8 0, .int .u8 0, .int .u8 0, .int .u8 0, .int .u8 0, .int .u8 0, .int .u8 0, .int .u8 0, .int .u8 0, .int .u8 0, .int .u8 0, .int .u8 0, .int .u8 0] 77) = wa at *
  refine (SO.out _).mono ?_
  rintro e w1 ⟨rfl, hb⟩
  have Z2 : Hid (Row8 w1 w.heap.size 77 16 (fun _ => 0)) := Z1.out.below hb
  have B2 : Hid (Below w.heap.size w w1) := B1.out.trans (hb.mono B1.out.size)
  have hsz := hb.size
  rw [hz1] at hsz
  have Z3 : Hid (Row8 (w1.alloc (.cells z16 77)) w1.heap.size 77 16 (fun _ => 0)) := Row8.z16At rfl _
  have Z4 : Hid (Row8 (w1.alloc (.cells z16 77)) w.heap.size 77 16 (fun _ => 0)) := Z2.out.alloc _
  have B3 : Hid (Below w.heap.size w (w1.alloc (.cells z16 77))) := B2.out.alloc (by omega) _
  clear hb Z1 B1 Z2 B2 hz1 SO
  unfold z16 at Z3 Z4 B3
  go_upto_region 2 with (refine wpList_store_mid rfl 77 (.tmp 5) (.tmp 8) rfl w1.heap.size 0 NA rfl rfl (by rw [BS.out]; exact Z3.out.there) SA.out OA.out ?_)
  rw [TL.out]
  generalize w1.alloc (.cells #[.int .u8 0, .int .u8 0, .int .u8 0, .int .u8 0, .int .u8 0, .int .u8 0, .int .u8 0, .int .u8 0, .int .u8 0, .int .u8 0, .int .u8 0, .int .u8 0, .int .u8 0, .int .u8 0, .int .u8 0, .int .u8 0] 77) = wb at *
  have R5 : Hid (Row8 (wb.setCells w1.heap.size 0 (bv 16 N)) w1.heap.size 77 16 N) := Z3.out.stored _
  have R4 : Hid (Row8 (wb.setCells w1.heap.size 0 (bv 16 N)) w.heap.size 77 16 (fun _ => 0)) := Z4.out.storedOther (by omega) _ _
  have B4 : Hid (Below w.heap.size w (wb.setCells w1.heap.size 0 (bv 16 N))) := below_setCells (by omega) _ _ _ B3.out
  clear Z3 Z4 B3 SA OA TL BS
  generalize wb.setCells w1.heap.size 0 (bv 16 N) = wc at *
  generalize w1.heap.size = sb at *
  go_wp2_with fail
  go_loopw [1, 6] (fun x i wr => ∃ j : Nat, j ≤ 4 ∧ i = .int .i64 (15 - (j : Int)) ∧ x = .int .u32 ((k / 256 ^ j : Nat) : Int) ∧ Row8 wr sb 77 16 (fun y => if 15 < y + j then ctrBlk N k y else N y) ∧ Row8 wr w.heap.size 77 16 (fun _ => 0) ∧ Below w.heap.size w wr) (fun _ i _ => (intOf i).toNat)
  case atStart => exact ⟨0, by omega, rfl, numEq8 (by simp), R5.out.congr (fun y hy => by rw [if_neg (by omega)]), R4.out, B4.out⟩
  case round =>
    clear R5 R4 B4
    obtain ⟨j, hj, rfl, rfl, hr, hz, hb⟩ := hrel
    have HZ : Hid (Row8 wr w.heap.size 77 16 (fun _ => 0)) := hz
    have HB : Hid (Below w.heap.size w wr) := hb
    by_cases hlt : j < 4
    · have HR : Hid (Row8 wr sb 77 16 (fun y => if 15 < y + j then ctrBlk N k y else N y)) := hr
      obtain ⟨p, hp⟩ : ∃ p, p = 15 - j := ⟨_, rfl⟩
      have hp12 : 12 ≤ p := by omega
      have hp16 : p < 16 := by omega
      have ep : (15 - (j : Int)) = (p : Int) := by omega
      have c1 := World.rowIs.cell hr (i := p) hp16
      have f1 := World.rowIs.frozen hr p
      have hq : k / 256 ^ j < 4294967296 := Nat.lt_of_le_of_lt (Nat.div_le_self _ _) hk
      have eb : ((k / 256 ^ j : Nat) : Int) % 256 = ((ctrBlk N k p : Nat) : Int) := by
        unfold ctrBlk
        rw [if_neg (by omega), show 15 - p = j from by omega]
        omega
      have es : ((k / 256 ^ j : Nat) : Int) / 256 = ((k / 256 ^ (j + 1) : Nat) : Int) := by
        rw [Nat.pow_succ, ← Nat.div_div_eq_div_mul]
        omega
      have HV : Hid (∀ v, v = ctrBlk N k p → ∀ y, y < 16 → (if y = p then v else if 15 < y + j then ctrBlk N k y else N y) = if 15 < y + (j + 1) then ctrBlk N k y else N y) := fun v hv y hy => by
        by_cases e : y = p
        · subst e
          rw [if_pos rfl, if_pos (by omega), hv]
        · rw [if_neg e]
          by_cases e2 : 15 < y + j
          · rw [if_pos e2, if_pos (by omega)]
          · rw [if_neg e2, if_neg (by omega)]
      have HE : Hid ((p : Int) - 1 = 15 - ((j + 1 : Nat) : Int)) := by show (p : Int) - 1 = _; omega
      obtain ⟨V, hV⟩ : ∃ V, V = ctrBlk N k p := ⟨_, rfl⟩
      have HVe : Hid (V = ctrBlk N k p) := hV
      rw [← hV] at eb
      rw [ep]
      generalize hk2 : k / 256 ^ (j + 1) = k2 at *
      have HK2 : Hid (k / 256 ^ (j + 1) = k2) := hk2
      generalize k / 256 ^ j = k1 at *
      have x12 : (12 : Int) ≤ (p : Int) := by omega
      have x16 : (p : Int) < 16 := by omega
      have hsbne : w.heap.size ≠ sb := by omega
      clear hV hr hz hb ep hp hk2
      go_wp2
      go_roundw
      case rel =>
        refine ⟨j + 1, by omega, numEq8 HE.out, by rw [HK2.out], ?_, ?_, ?_⟩
        · exact (HR.out.set p V).congr (HV.out V HVe.out)
        · exact HZ.out.other hsbne _
        · exact HB.out.setCell (by show w.heap.size ≤ sb; omega) _
      case measure => simp [intOf]; omega
    · have HR2 : Hid (Row8 wr sb 77 16 (ctrBlk N k)) := hr.congr (fun y hy => by
        by_cases e : 15 < y + j
        · rw [if_pos e]
        · rw [if_neg e]
          unfold ctrBlk
          rw [if_pos (by omega)])
      have ej : j = 4 := by omega
      clear hr hz hb
      subst ej
      generalize hG : ctrBlk N k = G at *
      have HG : Hid (ctrBlk N k = G) := hG
      clear hG
      go_upto_region 7 with fail
      refine wp_region_lit ?_
      refine wpList_load_mid rfl 77 (.tmp 5) rfl sb 0 rfl (bv 16 G) _ HR2.out.range Tryd.underlying77 rfl (by rw [bv_length]; exact Tryd.sizeSt) ?_
      refine wpList_store_mid rfl 77 (.tmp 4) (.tmp 19) rfl w.heap.size 0 (bA 16 G) rfl rfl (by rw [bA_size]; exact HZ.out.there) (by rw [bA_size]; exact Tryd.sizeSt) (bA_one _ _) ?_
      rw [bA_toList]
      have L : Hid ((loadVar 77 ⟨w.heap.size, 0, none⟩).run Tryd.prog (wr.setCells (w.heap.size) 0 (bv 16 G)) = .ok (.agg (bA 16 G)) (wr.setCells (w.heap.size) 0 (bv 16 G))) := (HZ.out.stored _).load Tryd.underlying77 rfl Tryd.sizeSt
      have B : Hid (Below w.heap.size w (wr.setCells (w.heap.size) 0 (bv 16 G))) := below_setCells (Nat.le_refl _) _ _ _ HB.out
      have eA : (bv 16 G).toArray = bA 16 G := rfl
      rw [eA]
      generalize wr.setCells (w.heap.size) 0 (bv 16 G) = wf at *
      generalize hA : bA 16 G = AA at *
      have HA : Hid (bA 16 G = AA) := hA
      clear hA eA
      go_wp2
      rw [HG.out, HA.out]
      exact bodyPost_ret (v := .agg AA) (results_cell_one (b := w.heap.size) (o := 0) Tryd.results53 _ _ _ rfl L.out) rfl ⟨rfl, B.out⟩
end Go.Proofs.YtonccbgolbcjfabDoor

/-
  The contract of impl.CtrXor.
-/
namespace Go.Proofs.YtonccbgolbcjfabDoor
open Go.ChangeShapes Go.WideShapes Go.ChangeAt Go.RowKit
theorem implCtr_no (k s : ByteArray) (a : Option Addr) (n c : Nat) (code : Int) (hc : code ≠ 0) (hf : ∀ w : World, Calls Tryd.prog 48 #[.string k, .string s, .int .i64 12, .int .i64 (n : Int), .int .i64 65536] w fun e w' => e = .returned (.int .i64 code) ∧ w = w') (w : World) :
    Calls Tryd.prog 37 #[.string k, .string s, .slice a n c] w fun e w' => e = .returned (.tuple #[.slice none 0 0, .int .i64 code]) ∧ w = w' := by
  have HF : Hid (∀ w : World, Calls Tryd.prog 48 #[.string k, .string s, .int .i64 12, .int .i64 (n : Int), .int .i64 65536] w fun e w' => e = .returned (.int .i64 code) ∧ w = w') := hf
  have e1 : (code != 0) = true := by rw [bne_iff_ne]; exact hc
  clear hf
  go_enter Tryd.func37, Tryd.ntmps37
  go_wp2
  go_step3
  go_wp2_with (go_at_call 48; refine (HF.out _).mono ?_; rintro e w' ⟨rfl, rfl⟩)
  rw [Exit.noGoto_ret]
  go_ret2
  exact ⟨rfl, rfl⟩
theorem CiphAt.onlyB8 {w w' : World} {C m b : Nat} {K : Nat → Nat} (h : CiphAt w C m K) (ho : OnlyB b w w') (hne : C ≠ b) : CiphAt w' C m K := fun k hk => by
  rw [World.cell?_of_block (w := w) (ho.block C h.lt hne)]; exact h k hk
/-- What holds where a block more begins: i blocks are done. -/
def CtrJ (s : ByteArray) (w0 : World) (Cb m ob n C : Nat) (K f : Nat → Nat) (a' : Act) (w' : World) : Prop := ∃ (i : Nat) (ra : Option Addr) (L cr : Nat) (x12 : Int) (u0 u2 u3 u4 u5 u6 u7 u8 u13 u14 u15 u16 u17 u18 u19 u20 u21 u22 u23 u24 u25 u26 u27 u28 u29 u30 u31 u32 u33 u34 u35 u36 u37 u38 u39 u40 u41 u42 u43 u44 u45 u46 u47 : Value), a' = { tmps := #[u0, .string s, u2, u3, u4, u5, u6, u7, u8, .pointer (some ⟨Cb, 0, none⟩), .slice (some ⟨ob, 0, none⟩) n C, .slice ra L cr, .int .u32 x12, u13, u14, u15, u16, u17, u18, u19, u20, u21, u22, u23, u24, u25, u26, u27, u28, u29, u30, u31, u32, u33, u34, u35, u36, u37, u38, u39, u40, u41, u42, u43, u44, u45, u46, u47], defers := [] } ∧
  (L = n - 16 * i ∧ x12 = (i : Int) + 1) ∧ i ≤ 4096 ∧ (16 * i < n → ra = some ⟨ob, 16 * i, none⟩) ∧ L ≤ cr ∧ Own8 w' ob n (fun x => if x < 16 * i then ctrF K m (strB s) f x else f x) ∧ CiphAt w' Cb m K ∧ Below w0.heap.size w0 w'
set_option maxRecDepth 100000 in
set_option maxHeartbeats 4000000 in
theorem implCtr_yes (k s : ByteArray) (kn b o n c : Nat) (f : Nat → Nat) (hkn : kn = 4 ∨ kn = 8) (hk : k.size = kn * 4) (hs : s.size = 12) (hn : n ≤ 65536) (hf : ∀ i, f i < 256) (w : World) (h : Code8 w (some ⟨b, o, none⟩) n f) :
    Calls Tryd.prog 37 #[.string k, .string s, .slice (some ⟨b, o, none⟩) n c] w fun e w' => RetB2 w w' e n (ctrF (Gf.ws (strB k) kn (3 * kn + 28)) (kn + 6) (strB s) f) (.int .i64 0) ∧ Below w.heap.size w w' := by
  have MF : Hid (∀ w : World, Calls Tryd.prog 48 #[.string k, .string s, .int .i64 12, .int .i64 (n : Int), .int .i64 65536] w fun e w' => e = .returned (.int .i64 0) ∧ w = w') := mf_ok k s 12 n 65536 (by omega) (by omega) (by omega) (by omega)
  have NC : Hid (∀ w : World, Calls Tryd.prog 49 #[.string k] w fun e w' => e = .returned (.agg (cA (kn + 6) (Gf.ws (strB k) kn (3 * kn + 28)))) ∧ Below w.heap.size w w') := newCipher_any k kn hkn hk
  have LW : Hid (∀ j, Gf.ws (strB k) kn (3 * kn + 28) j < 256) := Gf.ws_lt (strB_lt k) _
  generalize Gf.ws (strB k) kn (3 * kn + 28) = W at *
  obtain ⟨m, hm⟩ : ∃ m, m = kn + 6 := ⟨_, rfl⟩
  have hm1 : 1 ≤ m := by omega
  have hm2 : m ≤ 14 := by omega
  rw [← hm] at NC ⊢
  have CB : Hid (∀ (i : Nat) (w : World), i < 4294967296 → Calls Tryd.prog 53 #[.string s, .int .u32 (i : Int)] w fun e w' => e = .returned (.agg (bA 16 (ctrBlk (strB s) i))) ∧ Below w.heap.size w w') := fun i w hi => counterBlock_any s hs i hi w
  have EN : Hid (∀ (C i : Nat) (w : World), CiphAt w C m W → Calls Tryd.prog 52 #[.pointer (some ⟨C, 0, none⟩), .agg (bA 16 (ctrBlk (strB s) i))] w fun e w' => e = .returned (.agg (bA 16 (Gf.enc W m (ctrBlk (strB s) i)))) ∧ Below w.heap.size w w') := fun C i w h => encrypt_any C m W _ (fun j _ => ctrBlk_lt (strB_lt s) i j) LW.out hm1 hm2 w h
  have CL : Hid (∀ w : World, Code8 w (some ⟨b, o, none⟩) n f → Calls Tryd.prog 50 #[.slice (some ⟨b, o, none⟩) n c] w fun e w' => RetB w w' e n f ∧ Below w.heap.size w w') := fun w h => clone_any b o n c f (by omega) w h
  obtain ⟨Z, z0, hZ, -⟩ := Tryd.zeroC
  have S2 : Hid ((Tryd.prog.info? 82).map (·.size) = some (cA m W).size) := by rw [cA_size]; exact Tryd.sizeC
  have O2 : Hid ((cA m W).all (·.oneCell') = true) := cA_one _ _
  have hLen : (cA m W).toList.length = 769 := cA_len _ _
  have hAt : Hid (∀ k, k < 769 → (cA m W).toList[k]? = some (cf m W k)) := fun k hk => by
    have := cA_at (n := m) (K := W) hk
    rwa [← Array.getElem?_toList] at this
  have HSZ : Hid ((cA m W).size = 769) := cA_size _ _
  generalize cA m W = CA at *
  have HC : Hid (Code8 w (some ⟨b, o, none⟩) n f) := h
  have HF : Hid (∀ i, f i < 256) := hf
  clear h hf hkn hk hs hm
  go_enter Tryd.func37, Tryd.ntmps37
  go_wp2
  refine wp_scope_label 0 (fun a' w' => ∃ Cb ob C, (w.heap.size ≤ ob ∧ Cb < ob) ∧ n ≤ C ∧ CtrJ s w Cb m ob n C W f a' w') (fun a' _ => lenOf (a'.tmps.getD 11 undef)) rfl ?_ ?_
  · rintro a' wr ⟨Cb, ob, C, ⟨hob, hCo⟩, hnC, i, ra, L, cr, x12, u0, u2, u3, u4, u5, u6, u7, u8, u13, u14, u15, u16, u17, u18, u19, u20, u21, u22, u23, u24, u25, u26, u27, u28, u29, u30, u31, u32, u33, u34, u35, u36, u37, u38, u39, u40, u41, u42, u43, u44, u45, u46, u47, rfl, ⟨hL, rfl⟩, hi, hra, hcr, ho, hC, hB⟩
    have HO : Hid (Own8 wr ob n (fun x => if x < 16 * i then ctrF W m (strB s) f x else f x)) := ho
    have CC : Hid (CiphAt wr Cb m W) := hC
    have HB : Hid (Below w.heap.size w wr) := hB
    clear ho hC hB
    by_cases hlt : 16 * i < n
    · have era := hra hlt
      subst era
      obtain ⟨q, hq⟩ : ∃ q, q = min L 16 := ⟨_, rfl⟩
      have hq1 : 1 ≤ q := by omega
      have hq2 : q ≤ 16 := by omega
      have hq3 : q ≤ L := by omega
      have eL : ((L : Int) == 0) = false := by rw [beq_eq_false_iff_ne]; omega
      have eq1 : min (L : Int) 16 = (q : Int) := by omega
      have xq0 : (0 : Int) ≤ (q : Int) := by omega
      have xq1 : (q : Int) ≤ (cr : Int) := by omega
      have xq2 : (q : Int) ≤ (L : Int) := by omega
      have HLQ : Hid (n - 16 * (i + 1) = L - q) := by show n - 16 * (i + 1) = L - q; omega
      have hMq : 16 * i + q ≤ n := by omega
      have CBi : Hid (∀ w : World, Calls Tryd.prog 53 #[.string s, .int .u32 ((i : Int) + 1)] w fun e w' => e = .returned (.agg (bA 16 (ctrBlk (strB s) (i + 1)))) ∧ Below w.heap.size w w') := fun w => CB.out (i + 1) w (by omega)
      have ENi : Hid (∀ w : World, CiphAt w Cb m W → Calls Tryd.prog 52 #[.pointer (some ⟨Cb, 0, none⟩), .agg (bA 16 (ctrBlk (strB s) (i + 1)))] w fun e w' => e = .returned (.agg (bA 16 (Gf.enc W m (ctrBlk (strB s) (i + 1))))) ∧ Below w.heap.size w w') := fun w h => EN.out Cb (i + 1) w h
      have HF2 : Hid (∀ x, (if x < 16 * i then ctrF W m (strB s) f x else f x) < 256) := fun x => by
        show (if x < 16 * i then ctrF W m (strB s) f x else f x) < 256
        split
        · exact ctrF_lt LW.out (strB_lt s) HF.out x
        · exact HF.out x
      have AI : Hid (∀ w : World, Own8 w ob n (fun x => if x < 16 * i then ctrF W m (strB s) f x else f x) → Calls Tryd.prog 51 #[.slice (some ⟨ob, 16 * i, none⟩) q q, .agg (bA 16 (Gf.enc W m (ctrBlk (strB s) (i + 1))))] w fun e w' => e = .returned (.tuple #[]) ∧ Own8 w' ob n (fun x => if x < 16 * (i + 1) then ctrF W m (strB s) f x else f x) ∧ OnlyB ob w w') := fun w h =>
        (addInto_any ob (16 * i) q q n _ _ HF2.out (fun j _ => Gf.enc_lt LW.out (fun j _ => ctrBlk_lt (strB_lt s) _ j) j) hq2 hMq w h).mono fun e w' hh => ⟨hh.1, hh.2.1.congr (fun x hx => by
          by_cases e : 16 * i ≤ x ∧ x < 16 * i + q
          · rw [if_pos e, if_neg (by omega), if_pos (by omega)]
            unfold ctrF ctrK
            rw [show x / 16 + 1 = i + 1 from by omega, show x % 16 = x - 16 * i from by omega]
          · rw [if_neg e]
            by_cases e2 : x < 16 * i
            · rw [if_pos e2, if_pos (by omega)]
            · rw [if_neg e2, if_neg (by omega)]), hh.2.2⟩
      have HOd : Hid (Own8 wr.drew ob n (fun x => if x < 16 * i then ctrF W m (strB s) f x else f x)) := HO.out
      have CCd : Hid (CiphAt wr.drew Cb m W) := CC.out
      have HBd : Hid (Below w.heap.size w wr.drew) := HB.out.drew
      have hi2 : i + 1 ≤ 4096 := by omega
      have xw : IntKind.u32.wrap ((i : Int) + 1 + 1) = (i : Int) + 1 + 1 := IntWalk.u32_in _ ⟨by omega, by omega⟩
      generalize bA 16 (Gf.enc W m (ctrBlk (strB s) (i + 1))) = EA at *
      generalize bA 16 (ctrBlk (strB s) (i + 1)) = BA at *
      have hqq : (L ≤ 16 ∧ q = L) ∨ (¬ L ≤ 16 ∧ q = 16) := by omega
      have HR : Hid (∀ (ra : Option Addr), (ra = some ⟨ob, 16 * i + q, none⟩ ∨ L - q = 0) → (16 * (i + 1) < n → ra = some ⟨ob, 16 * (i + 1), none⟩)) := fun ra hra2 hlt2 => by
        have e1 : q = 16 := by omega
        rcases hra2 with h | h
        · rw [h, e1, Nat.mul_add]
        · omega
      have hcrq : L - q ≤ cr - q := by omega
      clear hra hq hL CL EN CB LW HF HF2 HO CC HB HC NC MF S2 O2 hLen hAt HSZ z0 hZ eq1
      go_upto_region 9 with fail
      go_cut [13] (fun v wx => v = .int .i64 (q : Int) ∧ wx = wr)
      case first =>
        rcases hqq with ⟨h16, rfl⟩ | ⟨h16, rfl⟩
        · have x16 : (q : Int) ≤ 16 := by omega
          go_wp2_with fail
          go_meet
          exact ⟨rfl, rfl⟩
        · have x16 : ¬ (L : Int) ≤ 16 := by omega
          go_wp2_with fail
          go_meet
          exact ⟨rfl, rfl⟩
      case rest =>
      obtain ⟨rfl, rfl⟩ := hcut
      clear hqq
      go_wp2_with fail
      go_region_with (first
        | (go_at_call 53; refine (CBi.out _).mono ?_; rintro e w1 ⟨rfl, hb1⟩)
        | (go_at_call 52; refine (ENi.out _ ?_).mono ?_; exact CCd.out.below hb1; rintro e w2 ⟨rfl, hb2⟩)
        | (go_at_call 51; refine (AI.out _ ?_).mono ?_; exact (HOd.out.below hb1).below hb2; rintro e w3 ⟨rfl, ho3, hb3⟩))
      have CC3 : Hid (CiphAt w3 Cb m W) := ((CCd.out.below hb1).below hb2).onlyB8 hb3 (by omega)
      have B2' : Below w.heap.size w w2 := (HBd.out.trans (hb1.mono HBd.out.size)).trans (hb2.mono (HBd.out.trans (hb1.mono HBd.out.size)).size)
      have HB3 : Hid (Below w.heap.size w w3) := B2'.trans (hb3.toBelow hob B2'.size)
      have HO3 : Hid (Own8 w3 ob n (fun x => if x < 16 * (i + 1) then ctrF W m (strB s) f x else f x)) := ho3
      clear hb1 hb2 hb3 ho3 B2' CCd HBd HOd CBi ENi AI
      go_wp2
      all_goals
        go_step3
        refine ⟨rfl, ⟨Cb, ob, C, ⟨hob, hCo⟩, hnC, i + 1, _, _, _, _, _, _, _, _, _, _, _, _, _, _, _, _, _, _, _, _, _, _, _, _, _, _, _, _, _, _, _, _, _, _, _, _, _, _, _, _, _, _, _, _, _, _, _, rfl, ⟨?_, ?_⟩, hi2, HR.out _ ?_, ?_, HO3.out, CC3.out, HB3.out⟩, ?_⟩
        · have := HLQ.out; omega
        · omega
        · first | exact .inl rfl | (right; omega)
        · omega
        · show _ < L; simp [lenOf]; omega
    · have HO2 : Hid (Own8 wr ob n (ctrF W m (strB s) f)) := HO.out.congr (fun x hx => by rw [if_pos (by omega)])
      obtain rfl : L = 0 := by omega
      clear HO CL EN CB HC NC MF S2 O2 hLen hAt HSZ z0 hZ hra hL
      go_wp2
      rw [jump_ret]
      exact bodyPost_ret (results_tmp2 Tryd.results37 _ _ _) rfl ⟨⟨ob, C, ⟨hob, hnC⟩, rfl, HO2.out⟩, HB.out⟩
  · intro hp
    go_upto_region 5 with (first
      | (go_at_call 48; refine (MF.out _).mono ?_; rintro e w' ⟨rfl, rfl⟩)
      | (go_at_call 49; refine (NC.out _).mono ?_; rintro e w1 ⟨rfl, hb⟩)
      | (refine wpList_store_mid rfl 82 (.tmp 9) (.tmp 23) rfl _ 0 CA rfl rfl ?_ S2.out O2.out ?_))
    · rw [HSZ.out]; exact there_big w1 Z _ hZ
    · have R1 : ((w1.alloc (.cells Z 82)).setCells w1.heap.size 0 CA.toList).rangeAt w1.heap.size 0 CA.toList := World.rangeAt_setCells_same _ _ _ _ (by rw [hLen]; exact there_big w1 Z _ hZ)
      have CC : Hid (CiphAt ((w1.alloc (.cells Z 82)).setCells w1.heap.size 0 CA.toList) w1.heap.size m W) := fun k hk => by
        have := R1 k _ (hAt.out k hk)
        rwa [Nat.zero_add] at this
      have hsz := hb.size
      have B1 : Hid (Below w.heap.size w ((w1.alloc (.cells Z 82)).setCells w1.heap.size 0 CA.toList)) := below_setCells hsz _ _ _ (hb.alloc hsz _)
      have HC1 : Hid (Code8 ((w1.alloc (.cells Z 82)).setCells w1.heap.size 0 CA.toList) (some ⟨b, o, none⟩) n f) := HC.out.below B1.out
      clear R1 hb NC MF S2 O2 hLen hAt HSZ z0 hZ HC
      generalize (w1.alloc (.cells Z 82)).setCells w1.heap.size 0 CA.toList = wz at *
      generalize w1.heap.size = Cb at *
      go_wp2_with fail
      refine (CL.out _ HC1.out).mono ?_
      rintro e w2 ⟨⟨ob, C, ⟨hob, hnC⟩, rfl, ho⟩, hb2⟩
      have CC2 : Hid (CiphAt w2 Cb m W) := CC.out.below hb2
      have hCz := CC.out.lt
      have B2 : Hid (Below w.heap.size w w2) := B1.out.trans (hb2.mono B1.out.size)
      have HO2 : Hid (Own8 w2 ob n f) := ho
      have hob' : w.heap.size ≤ ob := Nat.le_trans B1.out.size hob
      clear hb2 CC B1 ho HC1
      go_wp2_with fail
      go_step3
      rename_i hKx
      refine hKx _ _ (hp _ _ ⟨Cb, ob, C, ⟨hob', Nat.lt_of_lt_of_le hCz hob⟩, hnC, 0, _, _, C, _, _, _, _, _, _, _, _, _, _, _, _, _, _, _, _, _, _, _, _, _, _, _, _, _, _, _, _, _, _, _, _, _, _, _, _, _, _, _, _, _, _, _, _, rfl, ⟨by omega, by omega⟩, by omega, fun _ => rfl, by omega, HO2.out.congr (fun x hx => by rw [if_neg (by omega)]), CC2.out, B2.out⟩)
end Go.Proofs.YtonccbgolbcjfabDoor
