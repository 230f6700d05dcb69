/-
  The contract of impl.counterBlock: a nonce and a counter as a state.
-/
import Derived.Test.YtbhlgcenfanicaaStateOf2
import Derived.Test.YtbhlgcenfanicaaModes
import Derived.Deep.RegionWith
import Derived.Test.YtbhlgcenfanicaaModelK
import Derived.Lib.AppendStr
import Derived.Laws.IdiomStrings
import Derived.Test.YtbhlgcenfanicaaDecrypt
import Derived.Test.YtbhlgcenfanicaaSrc
import Derived.Test.YtbhlgcenfanicaaSlices
import Derived.Test.YtbhlgcenfanicaaPadS
import Derived.Test.YtbhlgcenfanicaaZeros
import Derived.Test.YtbhlgcenfanicaaPad
namespace Go.Proofs.Ytbhlgcenfanicaa
open Go.ChangeShapes Go.WideShapes Go.ChangeAt Go.RowKit
set_option maxRecDepth 100000 in
set_option maxHeartbeats 2000000 in
theorem counterBlock_any (s : ByteArray) (hs : s.size = 12) (k : Nat) (hk : k < 4294967296) (w : World) :
    Calls Try.prog 29 #[.string s, .int .u32 (k : Int)] w fun e w' => e = .returned (.agg (bA 16 (ctrBlk (strB s) k))) ∧ Below w.heap.size w w' := by
  have SO : Hid (∀ w : World, Calls Try.prog 33 #[.string s] w fun e w' => e = .returned (.agg (bA 16 (strB s))) ∧ Below w.heap.size w w') := stateOf_le s (by omega)
  have Z1 : Hid (Row8 (w.alloc (.cells z16 39)) w.heap.size 39 16 (fun _ => 0)) := Row8.z16At rfl _
  have B1 : Hid (Below w.heap.size w (w.alloc (.cells z16 39))) := (Below.refl _ _).alloc (Nat.le_refl _) _
  have hz1 : (w.alloc (.cells z16 39)).heap.size = w.heap.size + 1 := by simp
  unfold z16 at Z1 B1 hz1
  clear hs
  obtain ⟨N, hN⟩ : ∃ N, N = strB s := ⟨_, rfl⟩
  rw [← hN] at SO ⊢
  clear hN
  have SA : Hid ((Try.prog.info? 39).map (·.size) = some (bA 16 N).size) := by rw [bA_size]; exact Try.sizeSt
  have OA : Hid ((bA 16 N).all (·.oneCell') = true) := bA_one _ _
  have TL : Hid ((bA 16 N).toList = bv 16 N) := bA_toList _ _
  have BS : Hid ((bA 16 N).size = 16) := bA_size _ _
  generalize bA 16 N = NA at *
  go_enter Try.func29, Try.ntmps29
  go_wp2_with fail
  generalize w.alloc (.cells #[.int .u8 0, .int .u8 0, .int .u8 0, .int .u8 0, .int .u8 0, .int .u8 0, .int .u8 0, .int .u8 0, .int .u8 0, .int .u8 0, .int .u8 0, .int .u8 0, .int .u8 0, .int .u8 0, .int .u8 0, .int .u8 0] 39) = wa at *
  refine (SO.out _).mono ?_
  rintro e w1 ⟨rfl, hb⟩
  have Z2 : Hid (Row8 w1 w.heap.size 39 16 (fun _ => 0)) := Z1.out.below hb
  have B2 : Hid (Below w.heap.size w w1) := B1.out.trans (hb.mono B1.out.size)
  have hsz := hb.size
  rw [hz1] at hsz
  have Z3 : Hid (Row8 (w1.alloc (.cells z16 39)) w1.heap.size 39 16 (fun _ => 0)) := Row8.z16At rfl _
  have Z4 : Hid (Row8 (w1.alloc (.cells z16 39)) w.heap.size 39 16 (fun _ => 0)) := Z2.out.alloc _
  have B3 : Hid (Below w.heap.size w (w1.alloc (.cells z16 39))) := B2.out.alloc (by omega) _
  clear hb Z1 B1 Z2 B2 hz1 SO
  unfold z16 at Z3 Z4 B3
  go_upto_region 2 with (refine wpList_store_mid rfl 39 (.tmp 5) (.tmp 8) rfl w1.heap.size 0 NA rfl rfl (by rw [BS.out]; exact Z3.out.there) SA.out OA.out ?_)
  rw [TL.out]
  generalize w1.alloc (.cells #[.int .u8 0, .int .u8 0, .int .u8 0, .int .u8 0, .int .u8 0, .int .u8 0, .int .u8 0, .int .u8 0, .int .u8 0, .int .u8 0, .int .u8 0, .int .u8 0, .int .u8 0, .int .u8 0, .int .u8 0, .int .u8 0] 39) = wb at *
  have R5 : Hid (Row8 (wb.setCells w1.heap.size 0 (bv 16 N)) w1.heap.size 39 16 N) := Z3.out.stored _
  have R4 : Hid (Row8 (wb.setCells w1.heap.size 0 (bv 16 N)) w.heap.size 39 16 (fun _ => 0)) := Z4.out.storedOther (by omega) _ _
  have B4 : Hid (Below w.heap.size w (wb.setCells w1.heap.size 0 (bv 16 N))) := below_setCells (by omega) _ _ _ B3.out
  clear Z3 Z4 B3 SA OA TL BS
  generalize wb.setCells w1.heap.size 0 (bv 16 N) = wc at *
  generalize w1.heap.size = sb at *
  go_wp2_with fail
  go_loopw [1, 6] (fun x i wr => ∃ j : Nat, j ≤ 4 ∧ i = .int .i64 (15 - (j : Int)) ∧ x = .int .u32 ((k / 256 ^ j : Nat) : Int) ∧ Row8 wr sb 39 16 (fun y => if 15 < y + j then ctrBlk N k y else N y) ∧ Row8 wr w.heap.size 39 16 (fun _ => 0) ∧ Below w.heap.size w wr) (fun _ i _ => (intOf i).toNat)
  case atStart => exact ⟨0, by omega, rfl, numEq8 (by simp), R5.out.congr (fun y hy => by rw [if_neg (by omega)]), R4.out, B4.out⟩
  case round =>
    clear R5 R4 B4
    obtain ⟨j, hj, rfl, rfl, hr, hz, hb⟩ := hrel
    have HZ : Hid (Row8 wr w.heap.size 39 16 (fun _ => 0)) := hz
    have HB : Hid (Below w.heap.size w wr) := hb
    by_cases hlt : j < 4
    · have HR : Hid (Row8 wr sb 39 16 (fun y => if 15 < y + j then ctrBlk N k y else N y)) := hr
      obtain ⟨p, hp⟩ : ∃ p, p = 15 - j := ⟨_, rfl⟩
      have hp12 : 12 ≤ p := by omega
      have hp16 : p < 16 := by omega
      have ep : (15 - (j : Int)) = (p : Int) := by omega
      have c1 := World.rowIs.cell hr (i := p) hp16
      have f1 := World.rowIs.frozen hr p
      have hq : k / 256 ^ j < 4294967296 := Nat.lt_of_le_of_lt (Nat.div_le_self _ _) hk
      have eb : ((k / 256 ^ j : Nat) : Int) % 256 = ((ctrBlk N k p : Nat) : Int) := by
        unfold ctrBlk
        rw [if_neg (by omega), show 15 - p = j from by omega]
        omega
      have es : ((k / 256 ^ j : Nat) : Int) / 256 = ((k / 256 ^ (j + 1) : Nat) : Int) := by
        rw [Nat.pow_succ, ← Nat.div_div_eq_div_mul]
        omega
      have HV : Hid (∀ v, v = ctrBlk N k p → ∀ y, y < 16 → (if y = p then v else if 15 < y + j then ctrBlk N k y else N y) = if 15 < y + (j + 1) then ctrBlk N k y else N y) := fun v hv y hy => by
        by_cases e : y = p
        · subst e
          rw [if_pos rfl, if_pos (by omega), hv]
        · rw [if_neg e]
          by_cases e2 : 15 < y + j
          · rw [if_pos e2, if_pos (by omega)]
          · rw [if_neg e2, if_neg (by omega)]
      have HE : Hid ((p : Int) - 1 = 15 - ((j + 1 : Nat) : Int)) := by show (p : Int) - 1 = _; omega
      obtain ⟨V, hV⟩ : ∃ V, V = ctrBlk N k p := ⟨_, rfl⟩
      have HVe : Hid (V = ctrBlk N k p) := hV
      rw [← hV] at eb
      rw [ep]
      generalize hk2 : k / 256 ^ (j + 1) = k2 at *
      have HK2 : Hid (k / 256 ^ (j + 1) = k2) := hk2
      generalize k / 256 ^ j = k1 at *
      have x12 : (12 : Int) ≤ (p : Int) := by omega
      have x16 : (p : Int) < 16 := by omega
      have hsbne : w.heap.size ≠ sb := by omega
      clear hV hr hz hb ep hp hk2
      go_wp2
      go_roundw
      case rel =>
        refine ⟨j + 1, by omega, numEq8 HE.out, by rw [HK2.out], ?_, ?_, ?_⟩
        · exact (HR.out.set p V).congr (HV.out V HVe.out)
        · exact HZ.out.other hsbne _
        · exact HB.out.setCell (by show w.heap.size ≤ sb; omega) _
      case measure => simp [intOf]; omega
    · have HR2 : Hid (Row8 wr sb 39 16 (ctrBlk N k)) := hr.congr (fun y hy => by
        by_cases e : 15 < y + j
        · rw [if_pos e]
        · rw [if_neg e]
          unfold ctrBlk
          rw [if_pos (by omega)])
      have ej : j = 4 := by omega
      clear hr hz hb
      subst ej
      generalize hG : ctrBlk N k = G at *
      have HG : Hid (ctrBlk N k = G) := hG
      clear hG
      go_upto_region 7 with fail
      refine wp_region_lit ?_
      refine wpList_load_mid rfl 39 (.tmp 5) rfl sb 0 rfl (bv 16 G) _ HR2.out.range Try.underlying39 rfl (by rw [bv_length]; exact Try.sizeSt) ?_
      refine wpList_store_mid rfl 39 (.tmp 4) (.tmp 19) rfl w.heap.size 0 (bA 16 G) rfl rfl (by rw [bA_size]; exact HZ.out.there) (by rw [bA_size]; exact Try.sizeSt) (bA_one _ _) ?_
      rw [bA_toList]
      have L : Hid ((loadVar 39 ⟨w.heap.size, 0, none⟩).run Try.prog (wr.setCells (w.heap.size) 0 (bv 16 G)) = .ok (.agg (bA 16 G)) (wr.setCells (w.heap.size) 0 (bv 16 G))) := (HZ.out.stored _).load Try.underlying39 rfl Try.sizeSt
      have B : Hid (Below w.heap.size w (wr.setCells (w.heap.size) 0 (bv 16 G))) := below_setCells (Nat.le_refl _) _ _ _ HB.out
      have eA : (bv 16 G).toArray = bA 16 G := rfl
      rw [eA]
      generalize wr.setCells (w.heap.size) 0 (bv 16 G) = wf at *
      generalize hA : bA 16 G = AA at *
      have HA : Hid (bA 16 G = AA) := hA
      clear hA eA
      go_wp2
      rw [HG.out, HA.out]
      exact bodyPost_ret (v := .agg AA) (results_cell_one (b := w.heap.size) (o := 0) Try.results29 _ _ _ rfl L.out) rfl ⟨rfl, B.out⟩
end Go.Proofs.Ytbhlgcenfanicaa

/-
  The contract of impl.CtrXor.
-/
namespace Go.Proofs.Ytbhlgcenfanicaa
open Go.ChangeShapes Go.WideShapes Go.ChangeAt Go.RowKit
theorem implCtr_no (k s : ByteArray) (a : Option Addr) (n c : Nat) (code : Int) (hc : code ≠ 0) (hf : ∀ w : World, Calls Try.prog 24 #[.string k, .string s, .int .i64 12, .int .i64 (n : Int), .int .i64 65536] w fun e w' => e = .returned (.int .i64 code) ∧ w = w') (w : World) :
    Calls Try.prog 9 #[.string k, .string s, .slice a n c] w fun e w' => e = .returned (.tuple #[.slice none 0 0, .int .i64 code]) ∧ w = w' := by
  have HF : Hid (∀ w : World, Calls Try.prog 24 #[.string k, .string s, .int .i64 12, .int .i64 (n : Int), .int .i64 65536] w fun e w' => e = .returned (.int .i64 code) ∧ w = w') := hf
  have e1 : (code != 0) = true := by rw [bne_iff_ne]; exact hc
  clear hf
  go_enter Try.func9, Try.ntmps9
  go_wp2
  go_step3
  go_wp2_with (go_at_call 24; refine (HF.out _).mono ?_; rintro e w' ⟨rfl, rfl⟩)
  rw [Exit.noGoto_ret]
  go_ret2
  exact ⟨rfl, rfl⟩
theorem CiphAt.onlyB8 {w w' : World} {C m b : Nat} {K : Nat → Nat} (h : CiphAt w C m K) (ho : OnlyB b w w') (hne : C ≠ b) : CiphAt w' C m K := fun k hk => by
  rw [World.cell?_of_block (w := w) (ho.block C h.lt hne)]; exact h k hk
/-- What holds where a block more begins: i blocks are done. -/
def CtrJ (s : ByteArray) (w0 : World) (Cb m ob n C : Nat) (K f : Nat → Nat) (a' : Act) (w' : World) : Prop := ∃ (i : Nat) (ra : Option Addr) (L cr : Nat) (x12 : Int) (u0 u2 u3 u4 u5 u6 u7 u8 u13 u14 u15 u16 u17 u18 u19 u20 u21 u22 u23 u24 u25 u26 u27 u28 u29 u30 u31 u32 u33 u34 u35 u36 u37 u38 u39 u40 u41 u42 u43 u44 u45 u46 u47 : Value), a' = { tmps := #[u0, .string s, u2, u3, u4, u5, u6, u7, u8, .pointer (some ⟨Cb, 0, none⟩), .slice (some ⟨ob, 0, none⟩) n C, .slice ra L cr, .int .u32 x12, u13, u14, u15, u16, u17, u18, u19, u20, u21, u22, u23, u24, u25, u26, u27, u28, u29, u30, u31, u32, u33, u34, u35, u36, u37, u38, u39, u40, u41, u42, u43, u44, u45, u46, u47], defers := [] } ∧
  (L = n - 16 * i ∧ x12 = (i : Int) + 1) ∧ i ≤ 4096 ∧ (16 * i < n → ra = some ⟨ob, 16 * i, none⟩) ∧ L ≤ cr ∧ Own8 w' ob n (fun x => if x < 16 * i then ctrF K m (strB s) f x else f x) ∧ CiphAt w' Cb m K ∧ Below w0.heap.size w0 w'
set_option maxRecDepth 100000 in
set_option maxHeartbeats 4000000 in
theorem implCtr_yes (k s : ByteArray) (kn b o n c : Nat) (f : Nat → Nat) (hkn : kn = 4 ∨ kn = 8) (hk : k.size = kn * 4) (hs : s.size = 12) (hn : n ≤ 65536) (hf : ∀ i, f i < 256) (w : World) (h : Code8 w (some ⟨b, o, none⟩) n f) :
    Calls Try.prog 9 #[.string k, .string s, .slice (some ⟨b, o, none⟩) n c] w fun e w' => RetB2 w w' e n (ctrF (Gf.ws (strB k) kn (3 * kn + 28)) (kn + 6) (strB s) f) (.int .i64 0) ∧ Below w.heap.size w w' := by
  have MF : Hid (∀ w : World, Calls Try.prog 24 #[.string k, .string s, .int .i64 12, .int .i64 (n : Int), .int .i64 65536] w fun e w' => e = .returned (.int .i64 0) ∧ w = w') := mf_ok k s 12 n 65536 (by omega) (by omega) (by omega) (by omega)
  have NC : Hid (∀ w : World, Calls Try.prog 25 #[.string k] w fun e w' => e = .returned (.agg (cA (kn + 6) (Gf.ws (strB k) kn (3 * kn + 28)))) ∧ Below w.heap.size w w') := newCipher_any k kn hkn hk
  have LW : Hid (∀ j, Gf.ws (strB k) kn (3 * kn + 28) j < 256) := Gf.ws_lt (strB_lt k) _
  generalize Gf.ws (strB k) kn (3 * kn + 28) = W at *
  obtain ⟨m, hm⟩ : ∃ m, m = kn + 6 := ⟨_, rfl⟩
  have hm1 : 1 ≤ m := by omega
  have hm2 : m ≤ 14 := by omega
  rw [← hm] at NC ⊢
  have CB : Hid (∀ (i : Nat) (w : World), i < 4294967296 → Calls Try.prog 29 #[.string s, .int .u32 (i : Int)] w fun e w' => e = .returned (.agg (bA 16 (ctrBlk (strB s) i))) ∧ Below w.heap.size w w') := fun i w hi => counterBlock_any s hs i hi w
  have EN : Hid (∀ (C i : Nat) (w : World), CiphAt w C m W → Calls Try.prog 28 #[.pointer (some ⟨C, 0, none⟩), .agg (bA 16 (ctrBlk (strB s) i))] w fun e w' => e = .returned (.agg (bA 16 (Gf.enc W m (ctrBlk (strB s) i)))) ∧ Below w.heap.size w w') := fun C i w h => encrypt_any C m W _ (fun j _ => ctrBlk_lt (strB_lt s) i j) LW.out hm1 hm2 w h
  have CL : Hid (∀ w : World, Code8 w (some ⟨b, o, none⟩) n f → Calls Try.prog 26 #[.slice (some ⟨b, o, none⟩) n c] w fun e w' => RetB w w' e n f ∧ Below w.heap.size w w') := fun w h => clone_any b o n c f (by omega) w h
  obtain ⟨Z, z0, hZ, -⟩ := Try.zeroC
  have S2 : Hid ((Try.prog.info? 44).map (·.size) = some (cA m W).size) := by rw [cA_size]; exact Try.sizeC
  have O2 : Hid ((cA m W).all (·.oneCell') = true) := cA_one _ _
  have hLen : (cA m W).toList.length = 769 := cA_len _ _
  have hAt : Hid (∀ k, k < 769 → (cA m W).toList[k]? = some (cf m W k)) := fun k hk => by
    have := cA_at (n := m) (K := W) hk
    rwa [← Array.getElem?_toList] at this
  have HSZ : Hid ((cA m W).size = 769) := cA_size _ _
  generalize cA m W = CA at *
  have HC : Hid (Code8 w (some ⟨b, o, none⟩) n f) := h
  have HF : Hid (∀ i, f i < 256) := hf
  clear h hf hkn hk hs hm
  go_enter Try.func9, Try.ntmps9
  go_wp2
  refine wp_scope_label 0 (fun a' w' => ∃ Cb ob C, (w.heap.size ≤ ob ∧ Cb < ob) ∧ n ≤ C ∧ CtrJ s w Cb m ob n C W f a' w') (fun a' _ => lenOf (a'.tmps.getD 11 undef)) rfl ?_ ?_
  · rintro a' wr ⟨Cb, ob, C, ⟨hob, hCo⟩, hnC, i, ra, L, cr, x12, u0, u2, u3, u4, u5, u6, u7, u8, u13, u14, u15, u16, u17, u18, u19, u20, u21, u22, u23, u24, u25, u26, u27, u28, u29, u30, u31, u32, u33, u34, u35, u36, u37, u38, u39, u40, u41, u42, u43, u44, u45, u46, u47, rfl, ⟨hL, rfl⟩, hi, hra, hcr, ho, hC, hB⟩
    have HO : Hid (Own8 wr ob n (fun x => if x < 16 * i then ctrF W m (strB s) f x else f x)) := ho
    have CC : Hid (CiphAt wr Cb m W) := hC
    have HB : Hid (Below w.heap.size w wr) := hB
    clear ho hC hB
    by_cases hlt : 16 * i < n
    · have era := hra hlt
      subst era
      obtain ⟨q, hq⟩ : ∃ q, q = min L 16 := ⟨_, rfl⟩
      have hq1 : 1 ≤ q := by omega
      have hq2 : q ≤ 16 := by omega
      have hq3 : q ≤ L := by omega
      have eL : ((L : Int) == 0) = false := by rw [beq_eq_false_iff_ne]; omega
      have eq1 : min (L : Int) 16 = (q : Int) := by omega
      have xq0 : (0 : Int) ≤ (q : Int) := by omega
      have xq1 : (q : Int) ≤ (cr : Int) := by omega
      have xq2 : (q : Int) ≤ (L : Int) := by omega
      have HLQ : Hid (n - 16 * (i + 1) = L - q) := by show n - 16 * (i + 1) = L - q; omega
      have hMq : 16 * i + q ≤ n := by omega
      have CBi : Hid (∀ w : World, Calls Try.prog 29 #[.string s, .int .u32 ((i : Int) + 1)] w fun e w' => e = .returned (.agg (bA 16 (ctrBlk (strB s) (i + 1)))) ∧ Below w.heap.size w w') := fun w => CB.out (i + 1) w (by omega)
      have ENi : Hid (∀ w : World, CiphAt w Cb m W → Calls Try.prog 28 #[.pointer (some ⟨Cb, 0, none⟩), .agg (bA 16 (ctrBlk (strB s) (i + 1)))] w fun e w' => e = .returned (.agg (bA 16 (Gf.enc W m (ctrBlk (strB s) (i + 1))))) ∧ Below w.heap.size w w') := fun w h => EN.out Cb (i + 1) w h
      have HF2 : Hid (∀ x, (if x < 16 * i then ctrF W m (strB s) f x else f x) < 256) := fun x => by
        show (if x < 16 * i then ctrF W m (strB s) f x else f x) < 256
        split
        · exact ctrF_lt LW.out (strB_lt s) HF.out x
        · exact HF.out x
      have AI : Hid (∀ w : World, Own8 w ob n (fun x => if x < 16 * i then ctrF W m (strB s) f x else f x) → Calls Try.prog 27 #[.slice (some ⟨ob, 16 * i, none⟩) q q, .agg (bA 16 (Gf.enc W m (ctrBlk (strB s) (i + 1))))] w fun e w' => e = .returned (.tuple #[]) ∧ Own8 w' ob n (fun x => if x < 16 * (i + 1) then ctrF W m (strB s) f x else f x) ∧ OnlyB ob w w') := fun w h =>
        (addInto_any ob (16 * i) q q n _ _ HF2.out (fun j _ => Gf.enc_lt LW.out (fun j _ => ctrBlk_lt (strB_lt s) _ j) j) hq2 hMq w h).mono fun e w' hh => ⟨hh.1, hh.2.1.congr (fun x hx => by
          by_cases e : 16 * i ≤ x ∧ x < 16 * i + q
          · rw [if_pos e, if_neg (by omega), if_pos (by omega)]
            unfold ctrF ctrK
            rw [show x / 16 + 1 = i + 1 from by omega, show x % 16 = x - 16 * i from by omega]
          · rw [if_neg e]
            by_cases e2 : x < 16 * i
            · rw [if_pos e2, if_pos (by omega)]
            · rw [if_neg e2, if_neg (by omega)]), hh.2.2⟩
      have HOd : Hid (Own8 wr.drew ob n (fun x => if x < 16 * i then ctrF W m (strB s) f x else f x)) := HO.out
      have CCd : Hid (CiphAt wr.drew Cb m W) := CC.out
      have HBd : Hid (Below w.heap.size w wr.drew) := HB.out.drew
      have hi2 : i + 1 ≤ 4096 := by omega
      have xw : IntKind.u32.wrap ((i : Int) + 1 + 1) = (i : Int) + 1 + 1 := IntWalk.u32_in _ ⟨by omega, by omega⟩
      generalize bA 16 (Gf.enc W m (ctrBlk (strB s) (i + 1))) = EA at *
      generalize bA 16 (ctrBlk (strB s) (i + 1)) = BA at *
      have hqq : (L ≤ 16 ∧ q = L) ∨ (¬ L ≤ 16 ∧ q = 16) := by omega
      have HR : Hid (∀ (ra : Option Addr), (ra = some ⟨ob, 16 * i + q, none⟩ ∨ L - q = 0) → (16 * (i + 1) < n → ra = some ⟨ob, 16 * (i + 1), none⟩)) := fun ra hra2 hlt2 => by
        have e1 : q = 16 := by omega
        rcases hra2 with h | h
        · rw [h, e1, Nat.mul_add]
        · omega
      have hcrq : L - q ≤ cr - q := by omega
      clear hra hq hL CL EN CB LW HF HF2 HO CC HB HC NC MF S2 O2 hLen hAt HSZ z0 hZ eq1
      go_upto_region 9 with fail
      go_cut [13] (fun v wx => v = .int .i64 (q : Int) ∧ wx = wr)
      case first =>
        rcases hqq with ⟨h16, rfl⟩ | ⟨h16, rfl⟩
        · have x16 : (q : Int) ≤ 16 := by omega
          go_wp2_with fail
          go_meet
          exact ⟨rfl, rfl⟩
        · have x16 : ¬ (L : Int) ≤ 16 := by omega
          go_wp2_with fail
          go_meet
          exact ⟨rfl, rfl⟩
      case rest =>
      obtain ⟨rfl, rfl⟩ := hcut
      clear hqq
      go_wp2_with fail
      go_region_with (first
        | (go_at_call 29; refine (CBi.out _).mono ?_; rintro e w1 ⟨rfl, hb1⟩)
        | (go_at_call 28; refine (ENi.out _ ?_).mono ?_; exact CCd.out.below hb1; rintro e w2 ⟨rfl, hb2⟩)
        | (go_at_call 27; refine (AI.out _ ?_).mono ?_; exact (HOd.out.below hb1).below hb2; rintro e w3 ⟨rfl, ho3, hb3⟩))
      have CC3 : Hid (CiphAt w3 Cb m W) := ((CCd.out.below hb1).below hb2).onlyB8 hb3 (by omega)
      have B2' : Below w.heap.size w w2 := (HBd.out.trans (hb1.mono HBd.out.size)).trans (hb2.mono (HBd.out.trans (hb1.mono HBd.out.size)).size)
      have HB3 : Hid (Below w.heap.size w w3) := B2'.trans (hb3.toBelow hob B2'.size)
      have HO3 : Hid (Own8 w3 ob n (fun x => if x < 16 * (i + 1) then ctrF W m (strB s) f x else f x)) := ho3
      clear hb1 hb2 hb3 ho3 B2' CCd HBd HOd CBi ENi AI
      go_wp2
      all_goals
        go_step3
        refine ⟨rfl, ⟨Cb, ob, C, ⟨hob, hCo⟩, hnC, i + 1, _, _, _, _, _, _, _, _, _, _, _, _, _, _, _, _, _, _, _, _, _, _, _, _, _, _, _, _, _, _, _, _, _, _, _, _, _, _, _, _, _, _, _, _, _, _, _, rfl, ⟨?_, ?_⟩, hi2, HR.out _ ?_, ?_, HO3.out, CC3.out, HB3.out⟩, ?_⟩
        · have := HLQ.out; omega
        · omega
        · first | exact .inl rfl | (right; omega)
        · omega
        · show _ < L; simp [lenOf]; omega
    · have HO2 : Hid (Own8 wr ob n (ctrF W m (strB s) f)) := HO.out.congr (fun x hx => by rw [if_pos (by omega)])
      obtain rfl : L = 0 := by omega
      clear HO CL EN CB HC NC MF S2 O2 hLen hAt HSZ z0 hZ hra hL
      go_wp2
      rw [jump_ret]
      exact bodyPost_ret (results_tmp2 Try.results9 _ _ _) rfl ⟨⟨ob, C, ⟨hob, hnC⟩, rfl, HO2.out⟩, HB.out⟩
  · intro hp
    go_upto_region 5 with (first
      | (go_at_call 24; refine (MF.out _).mono ?_; rintro e w' ⟨rfl, rfl⟩)
      | (go_at_call 25; refine (NC.out _).mono ?_; rintro e w1 ⟨rfl, hb⟩)
      | (refine wpList_store_mid rfl 44 (.tmp 9) (.tmp 23) rfl _ 0 CA rfl rfl ?_ S2.out O2.out ?_))
    · rw [HSZ.out]; exact there_big w1 Z _ hZ
    · have R1 : ((w1.alloc (.cells Z 44)).setCells w1.heap.size 0 CA.toList).rangeAt w1.heap.size 0 CA.toList := World.rangeAt_setCells_same _ _ _ _ (by rw [hLen]; exact there_big w1 Z _ hZ)
      have CC : Hid (CiphAt ((w1.alloc (.cells Z 44)).setCells w1.heap.size 0 CA.toList) w1.heap.size m W) := fun k hk => by
        have := R1 k _ (hAt.out k hk)
        rwa [Nat.zero_add] at this
      have hsz := hb.size
      have B1 : Hid (Below w.heap.size w ((w1.alloc (.cells Z 44)).setCells w1.heap.size 0 CA.toList)) := below_setCells hsz _ _ _ (hb.alloc hsz _)
      have HC1 : Hid (Code8 ((w1.alloc (.cells Z 44)).setCells w1.heap.size 0 CA.toList) (some ⟨b, o, none⟩) n f) := HC.out.below B1.out
      clear R1 hb NC MF S2 O2 hLen hAt HSZ z0 hZ HC
      generalize (w1.alloc (.cells Z 44)).setCells w1.heap.size 0 CA.toList = wz at *
      generalize w1.heap.size = Cb at *
      go_wp2_with fail
      refine (CL.out _ HC1.out).mono ?_
      rintro e w2 ⟨⟨ob, C, ⟨hob, hnC⟩, rfl, ho⟩, hb2⟩
      have CC2 : Hid (CiphAt w2 Cb m W) := CC.out.below hb2
      have hCz := CC.out.lt
      have B2 : Hid (Below w.heap.size w w2) := B1.out.trans (hb2.mono B1.out.size)
      have HO2 : Hid (Own8 w2 ob n f) := ho
      have hob' : w.heap.size ≤ ob := Nat.le_trans B1.out.size hob
      clear hb2 CC B1 ho HC1
      go_wp2_with fail
      go_step3
      rename_i hKx
      refine hKx _ _ (hp _ _ ⟨Cb, ob, C, ⟨hob', Nat.lt_of_lt_of_le hCz hob⟩, hnC, 0, _, _, C, _, _, _, _, _, _, _, _, _, _, _, _, _, _, _, _, _, _, _, _, _, _, _, _, _, _, _, _, _, _, _, _, _, _, _, _, _, _, _, _, _, _, _, _, rfl, ⟨by omega, by omega⟩, by omega, fun _ => rfl, by omega, HO2.out.congr (fun x hx => by rw [if_neg (by omega)]), CC2.out, B2.out⟩)
end Go.Proofs.Ytbhlgcenfanicaa

/-
  The model's stream: l02Four, l02Ctr, CtrXor.
-/
namespace Go.Proofs.Ytbhlgcenfanicaa
open Go.ChangeShapes Go.WideShapes Go.ChangeAt Go.RowKit
theorem l02Four_any (k : Nat) (hk : k ≤ 100000) (w : World) :
    Calls Try.prog 56 #[.int .i64 (k : Int)] w fun e w' => e = .returned (.slice (some ⟨w.heap.size, 0, none⟩) 4 4) ∧ Own8 w' w.heap.size 4 (fun j => k / 256 ^ (3 - j) % 256) ∧ Below w.heap.size w w' := by
  go_enter Try.func56, Try.ntmps56
  go_wp2
  go_ret
  refine ⟨rfl, Own8.ofRow (World.rowIs_alloc w #[.int .u8 ((k : Int) / 16777216), .int .u8 ((k : Int) / 65536), .int .u8 ((k : Int) / 256 % 256), .int .u8 ((k : Int) % 256)] 5 _ (fun i hi => ?_)), (Below.refl _ _).alloc (Nat.le_refl _) _⟩
  have hi' : i < 4 := by simpa using hi
  rcases (show i = 0 ∨ i = 1 ∨ i = 2 ∨ i = 3 by omega) with rfl | rfl | rfl | rfl
  · exact congrArg some (numEq8 (by show (k : Int) / 16777216 = ((k / 16777216 % 256 : Nat) : Int); omega))
  · exact congrArg some (numEq8 (by show (k : Int) / 65536 = ((k / 65536 % 256 : Nat) : Int); omega))
  · exact congrArg some (numEq8 (by show (k : Int) / 256 % 256 = ((k / 256 % 256 : Nat) : Int); omega))
  · exact congrArg some (numEq8 (by show (k : Int) % 256 = ((k / 1 % 256 : Nat) : Int); omega))
theorem ctr_text (s : ByteArray) (hs : s.size = 12) (k : Nat) : Gf.Same (strB (s ++ kstr (fun j => k / 256 ^ (3 - j) % 256) 0 4)) (ctrBlk (strB s) k) := fun j hj => by
  rw [strB_append, hs]
  unfold ctrBlk
  by_cases h : j < 12
  · rw [if_pos h, if_pos h]
  · rw [if_neg h, if_neg h, strB_kstr _ 0 4 _ (by rw [Nat.zero_add]; exact Nat.mod_lt _ (by omega)) (by omega), Nat.zero_add, show 3 - (j - 12) = 15 - j from by omega]
set_option maxRecDepth 100000 in
set_option maxHeartbeats 4000000 in
/-- spec.l02Ctr -/
theorem l02Ctr_any (k s : ByteArray) (kn b o n c : Nat) (f : Nat → Nat) (hkn : kn = 4 ∨ kn = 8) (hk : k.size = kn * 4) (hs : s.size = 12) (hn : n ≤ 65536) (hf : ∀ i, f i < 256) (w : World) (h : Code8 w (some ⟨b, o, none⟩) n f) :
    Calls Try.prog 31 #[.string k, .string s, .slice (some ⟨b, o, none⟩) n c] w fun e w' => RetB w w' e n (ctrF (Gf.ws (strB k) kn (3 * kn + 28)) (kn + 6) (strB s) f) ∧ Below w.heap.size w w' := by
  obtain ⟨i0, hi⟩ := info_parts Try.info8
  have HI : Hid (Try.prog.info? 5 = some i0 ∧ i0.zero = some (.int .u8 0) ∧ i0.size = 1 ∧ i0.bytes = 1) := hi
  have TA : Hid (∀ w : World, Calls Try.prog 41 #[] w fun e w' => (∃ b, w.heap.size ≤ b ∧ e = .returned (.slice (some ⟨b, 0, none⟩) 256 256) ∧ w'.rowIs b 3 256 (fun j => .int .i64 (Gf.sub j : Nat))) ∧ Below w.heap.size w w') := table_any
  have KE : Hid (∀ (tb : Nat) (w : World), w.rowIs tb 3 256 (fun j => .int .i64 (Gf.sub j : Nat)) → Calls Try.prog 42 #[.string k, .slice (some ⟨tb, 0, none⟩) 256 256] w fun e w' => (∃ pb po ck, e = .returned (.slice (some ⟨pb, po, none⟩) (kn + 6 + 1) ck) ∧ MK w' pb po tb (kn + 6) (Gf.ws (strB k) kn (3 * kn + 28))) ∧ Below w.heap.size w w') := fun tb w h => mKeys k kn hkn hk tb w h
  have LW : Hid (∀ j, Gf.ws (strB k) kn (3 * kn + 28) j < 256) := Gf.ws_lt (strB_lt k) _
  generalize Gf.ws (strB k) kn (3 * kn + 28) = W at *
  obtain ⟨m, hm⟩ : ∃ m, m = kn + 6 := ⟨_, rfl⟩
  have hm1 : 1 ≤ m := by omega
  have hm2 : m ≤ 14 := by omega
  rw [← hm] at KE ⊢
  have FO : Hid (∀ (k : Nat) (w : World), k ≤ 100000 → Calls Try.prog 56 #[.int .i64 (k : Int)] w fun e w' => e = .returned (.slice (some ⟨w.heap.size, 0, none⟩) 4 4) ∧ Own8 w' w.heap.size 4 (fun j => k / 256 ^ (3 - j) % 256) ∧ Below w.heap.size w w') := fun k w h => l02Four_any k h w
  have EN : Hid (∀ (pb po ck tb k : Nat) (w : World), MK w pb po tb m W → Calls Try.prog 55 #[.slice (some ⟨pb, po, none⟩) (m + 1) ck, .slice (some ⟨tb, 0, none⟩) 256 256, .string (s ++ kstr (fun j => k / 256 ^ (3 - j) % 256) 0 4)] w fun e w' => e = .returned (.string (kstr (Gf.enc W m (ctrBlk (strB s) k)) 0 16)) ∧ Below w.heap.size w w') := fun pb po ck tb k w h =>
    (mEnc pb po ck tb m W LW.out hm1 hm2 _ (by rw [ByteArray.size_append, kstr_size, hs]) w h).mono fun e w' hh => ⟨by rw [hh.1, kstr_same (Gf.same_enc (ctr_text s hs k))], hh.2⟩
  have HC : Hid (Code8 w (some ⟨b, o, none⟩) n f) := h
  have HF : Hid (∀ i, f i < 256) := hf
  clear h hf hkn hk hm hi
  go_enter Try.func31, Try.ntmps31
  go_wp2_with fail
  refine (TA.out _).mono ?_
  rintro e w1 ⟨⟨tb, htb, rfl, hrow⟩, hB1⟩
  have HR : Hid (w1.rowIs tb 3 256 (fun j => .int .i64 (Gf.sub j : Nat))) := hrow
  have HB1 : Hid (Below w.heap.size w w1) := hB1
  clear hrow hB1
  go_wp2_with fail
  refine (KE.out tb w1 HR.out).mono ?_
  rintro e w2 ⟨⟨pb, po, ck, rfl, hmk⟩, hB2⟩
  have HM : Hid (MK w2 pb po tb m W) := hmk
  have HB2 : Hid (Below w.heap.size w w2) := HB1.out.trans (hB2.mono HB1.out.size)
  have HC2 : Hid (Code8 w2 (some ⟨b, o, none⟩) n f) := HC.out.below HB2.out
  have hpt := hmk.lt
  clear hmk hB2 HR HB1 HC TA KE
  go_wp2_with (at_builtin; refine wpList_append_own _ rfl _ _ 22 rfl w2.heap.size 5 i0 (.int .u8 0) 1 1 Try.underlying22 HI.out.1 HI.out.2.1 HI.out.2.2.1 HI.out.2.2.2 rfl (by decide) _ _ _ rfl (World.ownsRow_made w2 #[] 0 (Nat.le_refl _) (Nat.zero_le _) (by simp)) ⟨b, o, none⟩ n c (bv n f) rfl (by rw [bv_length, Nat.mul_one]) ?qc2 (bv_one n f) (by unfold maxLen; omega) (by omega) (by simp) ?_)
  case qc2 =>
    intro j u hj
    exact Lib.cell?_alloc_some _ (bv_news HC2.out j u hj)
  intro v' w3 hown hgrow hnil
  have BG : Below w2.heap.size w2 w3 := ((Below.refl _ w2).alloc (Nat.le_refl _) _).grown hgrow (by simp) (by intro k hk; simp [Value.ownBlock] at hk; omega)
  obtain ⟨ob, C, ⟨hob, hnC⟩, rfl, ho⟩ := own8_of_own hown hnil
  have HO : Hid (Own8 w3 ob n f) := ho
  have HM3 : Hid (MK w3 pb po tb m W) := HM.out.below BG
  have HB3 : Hid (Below w.heap.size w w3) := HB2.out.trans (BG.mono HB2.out.size)
  have hw2 := HB2.out.size
  have hp1 : pb ≠ ob := by have := hpt.1; omega
  have hp2 : tb ≠ ob := by have := hpt.2; omega
  have hwo : w.heap.size ≤ ob := Nat.le_trans hw2 hob
  clear hown hgrow hnil ho BG HM HB2 HC2
  go_wp2_with fail
  go_loopw [10, 11, 12] (fun i _ _ wr => ∃ q : Nat, 16 * q ≤ n + 15 ∧ i = .int .i64 (16 * (q : Int)) ∧ Own8 wr ob n (fun x => if x < 16 * q then ctrF W m (strB s) f x else f x) ∧ MK wr pb po tb m W ∧ Below w.heap.size w wr) (fun i _ _ _ => n + 16 - (intOf i).toNat)
  case atStart => exact ⟨0, by omega, rfl, HO.out.congr (fun x hx => by rw [if_neg (by omega)]), HM3.out, HB3.out⟩
  case round =>
    clear HO HM3 HB3
    obtain ⟨q, hq, rfl, ho, hmk, hb⟩ := hrel
    have HO : Hid (Own8 wr ob n (fun x => if x < 16 * q then ctrF W m (strB s) f x else f x)) := ho
    have HM : Hid (MK wr pb po tb m W) := hmk
    have HB : Hid (Below w.heap.size w wr) := hb
    clear ho hmk hb
    by_cases hlt : 16 * q < n
    · have g1 : 16 * (q : Int) < (n : Int) := by omega
      have g2 : 16 * (q : Int) / 16 = (q : Int) := by omega
      have g3 : (16 * (q : Int)).tdiv 16 = (q : Int) := by rw [Int.tdiv_eq_ediv_of_nonneg (by omega)]; omega
      have ENq : Hid (∀ w : World, MK w pb po tb m W → Calls Try.prog 55 #[.slice (some ⟨pb, po, none⟩) (m + 1) ck, .slice (some ⟨tb, 0, none⟩) 256 256, .string (s ++ kstr (fun j => (1 + q) / 256 ^ (3 - j) % 256) 0 4)] w fun e w' => e = .returned (.string (kstr (Gf.enc W m (ctrBlk (strB s) (1 + q))) 0 16)) ∧ Below w.heap.size w w') := fun w h => EN.out pb po ck tb (1 + q) w h
      have FOq : Hid (∀ w : World, Calls Try.prog 56 #[.int .i64 (1 + (q : Int))] w fun e w' => e = .returned (.slice (some ⟨w.heap.size, 0, none⟩) 4 4) ∧ Own8 w' w.heap.size 4 (fun j => (1 + q) / 256 ^ (3 - j) % 256) ∧ Below w.heap.size w w') := fun w => FO.out (1 + q) w (by omega)
      have sz4 : ((kstr (fun j => (1 + q) / 256 ^ (3 - j) % 256) 0 4).size : Int) = 4 := by rw [kstr_size]; rfl
      have szs : (s.size : Int) = 12 := by omega
      go_wp2_with fail
      refine (FOq.out _).mono ?_
      rintro e w4 ⟨rfl, hf4, hb4⟩
      have hcv := kstr_of_code (c := 4) hf4.code
      have HO4 : Hid (Own8 w4 ob n (fun x => if x < 16 * q then ctrF W m (strB s) f x else f x)) := HO.out.below hb4
      have HM4 : Hid (MK w4 pb po tb m W) := HM.out.below hb4
      have HB4 : Hid (Below w.heap.size w w4) := HB.out.trans (hb4.mono HB.out.size)
      clear hf4 hb4 HO HM HB FOq
      generalize kstr (fun j => (1 + q) / 256 ^ (3 - j) % 256) 0 4 = T4 at *
      generalize wr.heap.size = fb at *
      go_wp2_with fail
      refine (ENq.out _ HM4.out).mono ?_
      rintro e w5 ⟨rfl, hb5⟩
      have HO5 : Hid (Own8 w5 ob n (fun x => if x < 16 * q then ctrF W m (strB s) f x else f x)) := HO4.out.below hb5
      have HM5 : Hid (MK w5 pb po tb m W) := HM4.out.below hb5
      have HB5 : Hid (Below w.heap.size w w5) := HB4.out.trans (hb5.mono HB4.out.size)
      clear hb5 HO4 HM4 HB4 ENq hcv sz4 szs
      obtain ⟨E, hE⟩ : ∃ E, E = Gf.enc W m (ctrBlk (strB s) (1 + q)) := ⟨_, rfl⟩
      have HE : Hid (E = Gf.enc W m (ctrBlk (strB s) (1 + q))) := hE
      have lE : Hid (∀ j, E j < 256) := by show ∀ j, E j < 256; rw [hE]; exact fun j => Gf.enc_lt LW.out (fun j _ => ctrBlk_lt (strB_lt s) _ j) j
      rw [← hE]
      clear hE
      have EG : Hid (∀ j (h : j < (kstr E 0 16).size), ((kstr E 0 16)[j].toNat : Int) = (E j : Nat)) := fun j h => by
        have := kstr_get E 0 16 j (by rw [Nat.zero_add]; exact lE.out j) h
        rwa [Nat.zero_add] at this
      have sz16 : Hid ((kstr E 0 16).size = 16) := kstr_size _ _ _
      generalize kstr E 0 16 = ES at *
      go_wp2_with fail
      go_loopw [12] (fun j wx => ∃ r : Nat, r ≤ 16 ∧ 16 * q + r ≤ n ∧ j = .int .i64 (16 * (q : Int) + (r : Int)) ∧ Own8 wx ob n (fun x => if x < 16 * q + r then ctrF W m (strB s) f x else f x) ∧ OnlyB ob w5 wx) (fun j _ => n + 16 - (intOf j).toNat)
      case atStart => exact ⟨0, by omega, by omega, numEq8 (by omega), HO5.out.congr (fun x hx => by rw [Nat.add_zero]), OnlyB.refl _ _⟩
      case round =>
        clear HO5
        obtain ⟨r, hr, hrn, rfl, ho, hoB⟩ := hrel
        have HO : Hid (Own8 wr ob n (fun x => if x < 16 * q + r then ctrF W m (strB s) f x else f x)) := ho
        have HOB : Hid (OnlyB ob w5 wr) := hoB
        by_cases hin : 16 * q + r < n ∧ r < 16
        · obtain ⟨hin1, hin2⟩ := hin
          have t1 : 16 * (q : Int) + (r : Int) < (n : Int) := by omega
          have t2 : 16 * (q : Int) + (r : Int) < 16 * (q : Int) + 16 := by omega
          have t0 : (0 : Int) ≤ 16 * (q : Int) + (r : Int) := by omega
          have er : 16 * (q : Int) + (r : Int) - 16 * (q : Int) = (r : Int) := by omega
          have et : (16 * (q : Int) + (r : Int)).toNat = 16 * q + r := by omega
          have c1 := ho.cell hin1
          simp only [Nat.lt_irrefl, if_false] at c1
          have f1 := ho.frozen (16 * q + r)
          have hES : r < ES.size := by rw [sz16.out]; exact hin2
          have t3 : (0 : Int) ≤ (r : Int) := by omega
          have t4 : (r : Int) < (ES.size : Int) := by omega
          have eg := EG.out r hES
          have l1 := HF.out (16 * q + r)
          have l2 := lE.out r
          have ex : bits .xor .u8 (f (16 * q + r) : Int) (E r : Int) = ((f (16 * q + r) ^^^ E r : Nat) : Int) := u8_xor_nat _ _ l1 l2
          have HV : Hid (∀ x, x < n → (if x = 16 * q + r then f (16 * q + r) ^^^ E r else if x < 16 * q + r then ctrF W m (strB s) f x else f x) = if x < 16 * q + (r + 1) then ctrF W m (strB s) f x else f x) := fun x hx => by
            by_cases e : x = 16 * q + r
            · subst e
              rw [if_pos rfl, if_pos (by omega), HE.out]
              unfold ctrF ctrK
              rw [show (16 * q + r) / 16 + 1 = 1 + q from by omega, show (16 * q + r) % 16 = r from by omega]
            · rw [if_neg e]
              by_cases e2 : x < 16 * q + r
              · rw [if_pos e2, if_pos (by omega)]
              · rw [if_neg e2, if_neg (by omega)]
          obtain ⟨V, hV⟩ : ∃ V, V = f (16 * q + r) ^^^ E r := ⟨_, rfl⟩
          rw [← hV] at ex HV
          have HER : Hid (16 * (q : Int) + (r : Int) + 1 = 16 * (q : Int) + ((r + 1 : Nat) : Int)) := by show 16 * (q : Int) + (r : Int) + 1 = _; omega
          clear hV ho hoB HE EN FO LW
          generalize f (16 * q + r) = A1 at *
          generalize E r = A2 at *
          go_wp2_with fail
          go_region
          go_wp2
          go_roundw
          case rel =>
            refine ⟨r + 1, by omega, by omega, numEq8 HER.out, ?_, ?_⟩
            · exact (HO.out.set (16 * q + r) V).congr HV.out
            · exact (HOB.out.setCell _ _).drewS
          case measure => simp [intOf]; omega
        · have HO2 : Hid (Own8 wr ob n (fun x => if x < 16 * (q + 1) then ctrF W m (strB s) f x else f x)) := ho.congr (fun x hx => by
            by_cases e : x < 16 * q + r
            · rw [if_pos e, if_pos (by omega)]
            · rw [if_neg e, if_neg (by omega)])
          have HM2 : Hid (MK wr pb po tb m W) := HM5.out.onlyB hoB hp1 hp2
          have HB2 : Hid (Below w.heap.size w wr) := HB5.out.trans (hoB.toBelow hwo HB5.out.size)
          have HQ : Hid (16 * (q : Int) + 16 = 16 * ((q + 1 : Nat) : Int)) := by show 16 * (q : Int) + 16 = _; omega
          clear ho hoB HO HOB HM5 HB5 EG lE HE EN FO
          by_cases hn1 : 16 * q + r < n
          · have t1 : 16 * (q : Int) + (r : Int) < (n : Int) := by omega
            have t2 : ¬ 16 * (q : Int) + (r : Int) < 16 * (q : Int) + 16 := by omega
            go_wp2
            go_roundw
            case rel => exact ⟨q + 1, by omega, numEq8 HQ.out, HO2.out, HM2.out, HB2.out⟩
            case measure => simp [intOf]; omega
          · have t1 : ¬ 16 * (q : Int) + (r : Int) < (n : Int) := by omega
            go_wp2
            go_roundw
            case rel => exact ⟨q + 1, by omega, numEq8 HQ.out, HO2.out, HM2.out, HB2.out⟩
            case measure => simp [intOf]; omega
    · have g1 : ¬ 16 * (q : Int) < (n : Int) := by omega
      have HO2 : Hid (Own8 wr ob n (ctrF W m (strB s) f)) := HO.out.congr (fun x hx => by rw [if_pos (by omega)])
      clear HO HM EN FO
      go_wp2
      go_ret
      exact ⟨⟨ob, C, ⟨hwo, hnC⟩, rfl, HO2.out⟩, HB.out⟩
theorem specCtr_long (k s : ByteArray) (a : Option Addr) (n c : Nat) (f : Nat → Nat) (h : 65536 < k.size ∨ 65536 < s.size ∨ 65536 < n) (w : World) :
    Calls Try.prog 10 #[.string k, .string s, .slice a n c] w fun e w' => RetB2 w w' e 0 f (.int .i64 2) ∧ Below w.heap.size w w' := by
  by_cases h1 : 65536 < k.size
  · have e1 : (65536 : Int) < k.size := by omega
    go_enter Try.func10, Try.ntmps10
    go_wp2
    go_ret2
    exact ⟨RetB2.made w f _, (Below.refl _ _).alloc (Nat.le_refl _) _⟩
  · have e1 : ¬ (65536 : Int) < k.size := by omega
    by_cases h2 : 65536 < s.size
    · have e2 : (65536 : Int) < s.size := by omega
      go_enter Try.func10, Try.ntmps10
      go_wp2
      go_ret2
      exact ⟨RetB2.made w f _, (Below.refl _ _).alloc (Nat.le_refl _) _⟩
    · have e2 : ¬ (65536 : Int) < s.size := by omega
      have e3 : (65536 : Int) < n := by omega
      go_enter Try.func10, Try.ntmps10
      go_wp2
      go_ret2
      exact ⟨RetB2.made w f _, (Below.refl _ _).alloc (Nat.le_refl _) _⟩
theorem specCtr_bad (k s : ByteArray) (a : Option Addr) (n c : Nat) (f : Nat → Nat) (h1 : k.size ≤ 65536) (h2 : s.size ≤ 65536) (h3 : n ≤ 65536) (h : ¬ ((k.size = 16 ∨ k.size = 32) ∧ s.size = 12)) (w : World) :
    Calls Try.prog 10 #[.string k, .string s, .slice a n c] w fun e w' => RetB2 w w' e 0 f (.int .i64 1) ∧ Below w.heap.size w w' := by
  have e1 : ¬ (65536 : Int) < k.size := by omega
  have e2 : ¬ (65536 : Int) < s.size := by omega
  have e3 : ¬ (65536 : Int) < n := by omega
  by_cases hk : k.size = 16 ∨ k.size = 32
  · have e4 : ((s.size : Int) != 12) = true := by rw [bne_iff_ne]; omega
    have KO : Hid (∀ w : World, Calls Try.prog 30 #[.string k] w fun e w' => e = .returned (.bool true) ∧ w = w') := l01Key_yes k hk
    clear h hk
    go_enter Try.func10, Try.ntmps10
    go_wp2_with (go_at_call 30; refine (KO.out _).mono ?_; rintro e w' ⟨rfl, rfl⟩)
    go_ret2
    exact ⟨RetB2.made w f _, (Below.refl _ _).alloc (Nat.le_refl _) _⟩
  · have KO : Hid (∀ w : World, Calls Try.prog 30 #[.string k] w fun e w' => e = .returned (.bool false) ∧ w = w') := l01Key_no k (by omega) (by omega)
    clear h hk
    go_enter Try.func10, Try.ntmps10
    go_wp2_with (go_at_call 30; refine (KO.out _).mono ?_; rintro e w' ⟨rfl, rfl⟩)
    go_ret2
    exact ⟨RetB2.made w f _, (Below.refl _ _).alloc (Nat.le_refl _) _⟩
theorem specCtr_yes (k s : ByteArray) (kn b o n c : Nat) (f : Nat → Nat) (hkn : kn = 4 ∨ kn = 8) (hk : k.size = kn * 4) (hs : s.size = 12) (hn : n ≤ 65536) (hf : ∀ i, f i < 256) (w : World) (h : Code8 w (some ⟨b, o, none⟩) n f) :
    Calls Try.prog 10 #[.string k, .string s, .slice (some ⟨b, o, none⟩) n c] w fun e w' => RetB2 w w' e n (ctrF (Gf.ws (strB k) kn (3 * kn + 28)) (kn + 6) (strB s) f) (.int .i64 0) ∧ Below w.heap.size w w' := by
  have e1 : ¬ (65536 : Int) < k.size := by omega
  have e2 : ¬ (65536 : Int) < s.size := by omega
  have e3 : ¬ (65536 : Int) < n := by omega
  have e4 : ((s.size : Int) != 12) = false := by rw [bne_eq_false_iff_eq]; omega
  have KO : Hid (∀ w : World, Calls Try.prog 30 #[.string k] w fun e w' => e = .returned (.bool true) ∧ w = w') := l01Key_yes k (by omega)
  have LC : Hid (Calls Try.prog 31 #[.string k, .string s, .slice (some ⟨b, o, none⟩) n c] w fun e w' => RetB w w' e n (ctrF (Gf.ws (strB k) kn (3 * kn + 28)) (kn + 6) (strB s) f) ∧ Below w.heap.size w w') := l02Ctr_any k s kn b o n c f hkn hk hs hn hf w h
  generalize ctrF (Gf.ws (strB k) kn (3 * kn + 28)) (kn + 6) (strB s) f = g at *
  clear h hf hkn hk hs
  go_enter Try.func10, Try.ntmps10
  go_wp2_with (go_at_call 30; refine (KO.out _).mono ?_; rintro e w' ⟨rfl, rfl⟩)
  refine LC.out.mono ?_
  rintro e w1 ⟨⟨b2, c2, hb2, rfl, ho⟩, hB⟩
  have B1 : Hid (Below w.heap.size w w1) := hB
  have HO : Hid (Own8 w1 b2 n g) := ho
  clear ho hB
  go_wp2
  go_ret2
  exact ⟨⟨_, _, hb2, rfl, HO.out⟩, B1.out⟩
end Go.Proofs.Ytbhlgcenfanicaa

/-
  The contract of impl.CbcEncrypt.
-/
namespace Go.Proofs.Ytbhlgcenfanicaa
open Go.ChangeShapes Go.WideShapes Go.ChangeAt Go.RowKit
theorem Own8.stored {w : World} {b M : Nat} {F : Nat → Nat} (h : Own8 w b M F) (o n : Nat) (g : Nat → Nat) : Own8 (w.setCells b o (bv n g)) b M (fun x => if o ≤ x ∧ x < o + n then g (x - o) else F x) := by
  obtain ⟨m, G, hm, hr, hG⟩ := h
  refine ⟨m, _, hm, rowIs_setCells (bv n g) o w G hr, fun i hi => ?_⟩
  rw [bv_length]
  show _ = Value.int .u8 ((if o ≤ i ∧ i < o + n then g (i - o) else F i : Nat) : Int)
  by_cases e : o ≤ i ∧ i < o + n
  · rw [if_pos e, if_pos e, List.getD_eq_getElem?_getD, bv_at (by omega)]; rfl
  · rw [if_neg e, if_neg e]; exact hG i hi
theorem onlyB_setCells {b : Nat} {a : World} (vs : List Value) : ∀ (o : Nat) (w : World), OnlyB b a w → OnlyB b a (w.setCells b o vs) := by
  induction vs with
  | nil => intro o w h; exact h
  | cons v vs ih => intro o w h; exact ih (o + 1) _ (h.setCell o v)
theorem CiphAt.onlyBe {w w' : World} {C m b : Nat} {K : Nat → Nat} (h : CiphAt w C m K) (ho : OnlyB b w w') (hne : C ≠ b) : CiphAt w' C m K := fun k hk => by
  rw [World.cell?_of_block (w := w) (ho.block C h.lt hne)]; exact h k hk
theorem Row8.onlyB {w w' : World} {b c n : Nat} {t : TypeId} {f : Nat → Nat} (h : Row8 w b t n f) (ho : OnlyB c w w') (hne : b ≠ c) : Row8 w' b t n f := World.rowIs.of_block h (ho.block b h.lt hne)
theorem bA_same {f g : Nat → Nat} (h : Gf.Same f g) : bA 16 f = bA 16 g := bA_congr h
theorem implCbc_no (k s : ByteArray) (a : Option Addr) (n c : Nat) (code : Int) (hc : code ≠ 0) (hf : ∀ w : World, Calls Try.prog 24 #[.string k, .string s, .int .i64 16, .int .i64 (n : Int), .int .i64 65520] w fun e w' => e = .returned (.int .i64 code) ∧ w = w') (w : World) :
    Calls Try.prog 11 #[.string k, .string s, .slice a n c] w fun e w' => e = .returned (.tuple #[.slice none 0 0, .int .i64 code]) ∧ w = w' := by
  have HF : Hid (∀ w : World, Calls Try.prog 24 #[.string k, .string s, .int .i64 16, .int .i64 (n : Int), .int .i64 65520] w fun e w' => e = .returned (.int .i64 code) ∧ w = w') := hf
  have e1 : (code != 0) = true := by rw [bne_iff_ne]; exact hc
  clear hf
  go_enter Try.func11, Try.ntmps11
  go_wp2
  go_step3
  go_wp2_with (go_at_call 24; refine (HF.out _).mono ?_; rintro e w' ⟨rfl, rfl⟩)
  rw [Exit.noGoto_ret]
  go_ret2
  exact ⟨rfl, rfl⟩
/-- What holds where a block more begins: i blocks are done. -/
def CbcJ (w0 : World) (Cb m ob M C ab : Nat) (K iv P : Nat → Nat) (a' : Act) (w' : World) : Prop := ∃ (i : Nat) (ra : Option Addr) (L cr : Nat) (u0 u1 u2 u3 u4 u5 u6 u7 u8 u13 u14 u15 u16 u17 u18 u19 u20 u21 u22 u23 u24 u25 u26 u27 u28 u29 u30 u31 u32 u33 u34 u35 u36 u37 u38 u39 u40 u41 u42 u43 u44 u45 u46 : Value), a' = { tmps := #[u0, u1, u2, u3, u4, u5, u6, u7, u8, .pointer (some ⟨Cb, 0, none⟩), .slice (some ⟨ob, 0, none⟩) M C, .pointer (some ⟨ab, 0, none⟩), .slice ra L cr, u13, u14, u15, u16, u17, u18, u19, u20, u21, u22, u23, u24, u25, u26, u27, u28, u29, u30, u31, u32, u33, u34, u35, u36, u37, u38, u39, u40, u41, u42, u43, u44, u45, u46], defers := [] } ∧
  L = M - 16 * i ∧ 16 * i ≤ M ∧ (16 * i < M → ra = some ⟨ob, 16 * i, none⟩) ∧ L ≤ cr ∧ Own8 w' ob M (cbcTo K m iv P i) ∧ Row8 w' ab 39 16 (cbcB K m iv P i) ∧ CiphAt w' Cb m K ∧ Below w0.heap.size w0 w'
set_option maxRecDepth 100000 in
set_option maxHeartbeats 4000000 in
theorem implCbc_yes (k s : ByteArray) (kn b o n c : Nat) (f : Nat → Nat) (hkn : kn = 4 ∨ kn = 8) (hk : k.size = kn * 4) (hs : s.size = 16) (hn : n ≤ 65520) (hf : ∀ i, f i < 256) (w : World) (h : Code8 w (some ⟨b, o, none⟩) n f) :
    Calls Try.prog 11 #[.string k, .string s, .slice (some ⟨b, o, none⟩) n c] w fun e w' => RetB2 w w' e (n + fillN n) (cbcO (Gf.ws (strB k) kn (3 * kn + 28)) (kn + 6) (strB s) (padF n f)) (.int .i64 0) ∧ Below w.heap.size w w' := by
  have MF : Hid (∀ w : World, Calls Try.prog 24 #[.string k, .string s, .int .i64 16, .int .i64 (n : Int), .int .i64 65520] w fun e w' => e = .returned (.int .i64 0) ∧ w = w') := mf_ok k s 16 n 65520 (by omega) (by omega) (by omega) (by omega)
  have NC : Hid (∀ w : World, Calls Try.prog 25 #[.string k] w fun e w' => e = .returned (.agg (cA (kn + 6) (Gf.ws (strB k) kn (3 * kn + 28)))) ∧ Below w.heap.size w w') := newCipher_any k kn hkn hk
  have LW : Hid (∀ j, Gf.ws (strB k) kn (3 * kn + 28) j < 256) := Gf.ws_lt (strB_lt k) _
  generalize Gf.ws (strB k) kn (3 * kn + 28) = W at *
  obtain ⟨m, hm⟩ : ∃ m, m = kn + 6 := ⟨_, rfl⟩
  have hm1 : 1 ≤ m := by omega
  have hm2 : m ≤ 14 := by omega
  rw [← hm] at NC ⊢
  have PD : Hid (∀ w : World, Code8 w (some ⟨b, o, none⟩) n f → Calls Try.prog 32 #[.slice (some ⟨b, o, none⟩) n c] w fun e w' => RetB w w' e (n + fillN n) (padF n f) ∧ Below w.heap.size w w') := fun w h => padded_any b o n c f (by omega) w h
  have SO : Hid (∀ w : World, Calls Try.prog 33 #[.string s] w fun e w' => e = .returned (.agg (bA 16 (strB s))) ∧ Below w.heap.size w w') := stateOf_le s (by omega)
  have LI : Hid (∀ j, strB s j < 256) := strB_lt s
  have LP : Hid (∀ j, padF n f j < 256) := fun j => padF_lt hf j
  have hMm : (n + fillN n) % 16 = 0 := padN_mod n
  have hM2 : n + fillN n ≤ 65536 := by have := (fillN_bd n).2; omega
  generalize padF n f = P at *
  generalize n + fillN n = M at *
  generalize strB s = iv at *
  obtain ⟨Z, z0, hZ, -⟩ := Try.zeroC
  have S2 : Hid ((Try.prog.info? 44).map (·.size) = some (cA m W).size) := by rw [cA_size]; exact Try.sizeC
  have O2 : Hid ((cA m W).all (·.oneCell') = true) := cA_one _ _
  have hLen : (cA m W).toList.length = 769 := cA_len _ _
  have hAt : Hid (∀ k, k < 769 → (cA m W).toList[k]? = some (cf m W k)) := fun k hk => by
    have := cA_at (n := m) (K := W) hk
    rwa [← Array.getElem?_toList] at this
  have HSZ : Hid ((cA m W).size = 769) := cA_size _ _
  generalize cA m W = CA at *
  have HC : Hid (Code8 w (some ⟨b, o, none⟩) n f) := h
  have LB : Hid (∀ i j, cbcB W m iv P i j < 256) := fun i j => cbcB_lt LW.out LI.out LP.out i j
  clear h hf hkn hk hs hm
  go_enter Try.func11, Try.ntmps11
  go_wp2
  refine wp_scope_label 0 (fun a' w' => ∃ Cb ob C ab, (w.heap.size ≤ ob ∧ Cb < ob ∧ ob < ab) ∧ M ≤ C ∧ CbcJ w Cb m ob M C ab W iv P a' w') (fun a' _ => lenOf (a'.tmps.getD 12 undef)) rfl ?_ ?_
  · rintro a' wr ⟨Cb, ob, C, ab, ⟨hob, hCo, hoa⟩, hMC, i, ra, L, cr, u0, u1, u2, u3, u4, u5, u6, u7, u8, u13, u14, u15, u16, u17, u18, u19, u20, u21, u22, u23, u24, u25, u26, u27, u28, u29, u30, u31, u32, u33, u34, u35, u36, u37, u38, u39, u40, u41, u42, u43, u44, u45, u46, rfl, hL, hi, hra, hcr, ho, hr, hC, hB⟩
    have HO : Hid (Own8 wr ob M (cbcTo W m iv P i)) := ho
    have HR : Hid (Row8 wr ab 39 16 (cbcB W m iv P i)) := hr
    have CC : Hid (CiphAt wr Cb m W) := hC
    have HB : Hid (Below w.heap.size w wr) := hB
    clear ho hr hC hB
    clear SO PD HC NC MF S2 O2 hLen hAt HSZ z0 hZ
    by_cases hlt : 16 * i < M
    · have era := hra hlt
      subst era
      have hMi : 16 * i + 16 ≤ M := by omega
      have eL : ((L : Int) == 0) = false := by rw [beq_eq_false_iff_ne]; omega
      have xc : (16 : Int) ≤ (cr : Int) := by omega
      have xL : (16 : Int) ≤ (L : Int) := by omega
      have LF : Hid (∀ x, cbcTo W m iv P i x < 256) := fun x => by
        show cbcTo W m iv P i x < 256
        unfold cbcTo
        split
        · exact LB.out _ _
        · exact LP.out x
      obtain ⟨F2, hF2⟩ : ∃ F2 : Nat → Nat, F2 = fun x => if 16 * i ≤ x ∧ x < 16 * i + 16 then cbcTo W m iv P i x ^^^ cbcB W m iv P i (x - 16 * i) else cbcTo W m iv P i x := ⟨_, rfl⟩
      have AI : Hid (∀ w : World, Own8 w ob M (cbcTo W m iv P i) → Calls Try.prog 27 #[.slice (some ⟨ob, 16 * i, none⟩) 16 16, .agg (bA 16 (cbcB W m iv P i))] w fun e w' => e = .returned (.tuple #[]) ∧ Own8 w' ob M F2 ∧ OnlyB ob w w') := fun w h => by
        rw [hF2]
        exact addInto_any ob (16 * i) 16 16 M _ _ LF.out (fun j _ => LB.out i j) (Nat.le_refl _) hMi w h
      obtain ⟨X, hX⟩ : ∃ X : Nat → Nat, X = fun j => cbcB W m iv P i j ^^^ P (16 * i + j) := ⟨_, rfl⟩
      have hlX : ∀ j, X j < 256 := fun j => by rw [hX]; exact Gf.xor_lt (LB.out i j) (LP.out _)
      have hXS : ∀ j, j < 16 → F2 (16 * i + j) = X j := fun j hj => by
        rw [hF2, hX]
        show (if 16 * i ≤ 16 * i + j ∧ 16 * i + j < 16 * i + 16 then cbcTo W m iv P i (16 * i + j) ^^^ cbcB W m iv P i (16 * i + j - 16 * i) else cbcTo W m iv P i (16 * i + j)) = cbcB W m iv P i j ^^^ P (16 * i + j)
        rw [if_pos (by omega), show 16 * i + j - 16 * i = j from by omega, Nat.xor_comm]
        unfold cbcTo
        rw [if_neg (by omega)]
      obtain ⟨S, hS⟩ : ∃ S, S = kstr (fun j => F2 (16 * i + j)) 0 16 := ⟨_, rfl⟩
      have hSS : Gf.Same (strB S) X := fun j hj => by
        rw [hS, strB_kstr _ 0 16 j (by rw [Nat.zero_add, hXS j hj]; exact hlX j) hj, Nat.zero_add, hXS j hj]
      have SO2 : Hid (∀ w : World, Calls Try.prog 33 #[.string S] w fun e w' => e = .returned (.agg (bA 16 X)) ∧ Below w.heap.size w w') := fun w => by
        have := stateOf_le S (by rw [hS, kstr_size]; exact Nat.le_refl _) w
        rwa [bA_same hSS] at this
      have EX : Hid (Gf.enc W m X = cbcB W m iv P (i + 1)) := by show Gf.enc W m X = _; rw [hX]; rfl
      have EN : Hid (∀ w : World, CiphAt w Cb m W → Calls Try.prog 28 #[.pointer (some ⟨Cb, 0, none⟩), .agg (bA 16 X)] w fun e w' => e = .returned (.agg (bA 16 (cbcB W m iv P (i + 1)))) ∧ Below w.heap.size w w') := fun w h => by
        have := encrypt_any Cb m W X (fun j _ => hlX j) LW.out hm1 hm2 w h
        rwa [EX.out] at this
      have HFin : Hid (∀ x, x < M → (if 16 * i ≤ x ∧ x < 16 * i + 16 then cbcB W m iv P (i + 1) (x - 16 * i) else F2 x) = cbcTo W m iv P (i + 1) x) := fun x hx => by
        unfold cbcTo
        by_cases e : 16 * i ≤ x ∧ x < 16 * i + 16
        · rw [if_pos e, if_pos (by omega)]
          have := cbcO_at W m iv P i (x - 16 * i) (by omega)
          rw [show 16 * i + (x - 16 * i) = x from by omega] at this
          exact this.symm
        · rw [if_neg e, hF2]
          show (if 16 * i ≤ x ∧ x < 16 * i + 16 then _ else cbcTo W m iv P i x) = _
          rw [if_neg e]
          unfold cbcTo
          by_cases e2 : x < 16 * i
          · rw [if_pos e2, if_pos (by omega)]
          · rw [if_neg e2, if_neg (by omega)]
      have HS : Hid (S = kstr (fun j => F2 (16 * i + j)) 0 16) := hS
      have HL : Hid (L - 16 = M - 16 * (i + 1)) := by show L - 16 = _; omega
      generalize hG1 : cbcB W m iv P (i + 1) = G1 at *
      have HG1 : Hid (cbcB W m iv P (i + 1) = G1) := hG1
      clear hG1
      generalize cbcB W m iv P i = G0 at *
      clear hF2 hX hlX hXS hS hSS EX hra hL LF LB LP LI LW
      have eA0 : (bv 16 G0).toArray = bA 16 G0 := rfl
      have SA : Hid ((Try.prog.info? 39).map (·.size) = some (bA 16 G1).size) := by rw [bA_size]; exact Try.sizeSt
      have OA : Hid ((bA 16 G1).all (·.oneCell') = true) := bA_one _ _
      have TL : Hid ((bA 16 G1).toList = bv 16 G1) := bA_toList _ _
      have BS : Hid ((bA 16 G1).size = 16) := bA_size _ _
      generalize bA 16 G1 = GA at *
      go_wp2_with (refine wpList_load_mid rfl 39 (.tmp 11) rfl ab 0 rfl (bv 16 G0) _ HR.out.range Try.underlying39 rfl (by rw [bv_length]; exact Try.sizeSt) ?_)
      clear eA0
      refine (AI.out _ HO.out).mono ?_
      rintro e w1 ⟨rfl, ho1, hb1⟩
      have HO1 : Hid (Own8 w1 ob M F2) := ho1
      have HR1 : Hid (Row8 w1 ab 39 16 G0) := HR.out.onlyB hb1 (by omega)
      have CC1 : Hid (CiphAt w1 Cb m W) := CC.out.onlyBe hb1 (by omega)
      have HB1 : Hid (Below w.heap.size w w1) := HB.out.trans (hb1.toBelow hob HB.out.size)
      have hcv : (convert 22 9 (.slice (some ⟨ob, 16 * i, none⟩) 16 16)).run Try.prog w1 = .ok (.string S) w1 := by
        rw [HS.out]
        exact kstr_of_code (code8_of (fun j hj => ho1.cell (by omega)))
      clear ho1 hb1 HO HR CC HB AI HS
      generalize bA 16 G0 = GA0 at *
      generalize bA 16 X = XA at *
      go_wp2_with fail
      refine (SO2.out _).mono ?_
      rintro e w2 ⟨rfl, hb2⟩
      have HO2 : Hid (Own8 w2 ob M F2) := HO1.out.below hb2
      have HR2 : Hid (Row8 w2 ab 39 16 G0) := HR1.out.below hb2
      have CC2 : Hid (CiphAt w2 Cb m W) := CC1.out.below hb2
      have HB2 : Hid (Below w.heap.size w w2) := HB1.out.trans (hb2.mono HB1.out.size)
      clear hb2 HO1 HR1 CC1 HB1 SO2 hcv
      go_wp2_with fail
      refine (EN.out _ CC2.out).mono ?_
      rintro e w3 ⟨rfl, hb3⟩
      have HO3 : Hid (Own8 w3 ob M F2) := HO2.out.below hb3
      have HR3 : Hid (Row8 w3 ab 39 16 G0) := HR2.out.below hb3
      have CC3 : Hid (CiphAt w3 Cb m W) := CC2.out.below hb3
      have HB3 : Hid (Below w.heap.size w w3) := HB2.out.trans (hb3.mono HB2.out.size)
      clear hb3 HO2 HR2 CC2 HB2 EN
      have X3 : OnlyB ab w3 (w3.setCells ab 0 (bv 16 G1)) := onlyB_setCells _ _ _ (OnlyB.refl _ _)
      have HO4 : Hid (Own8 (w3.setCells ab 0 (bv 16 G1)) ob M F2) := HO3.out.onlyB X3 (by omega)
      have HR4 : Hid (Row8 (w3.setCells ab 0 (bv 16 G1)) ab 39 16 G1) := HR3.out.stored _
      have CC4 : Hid (CiphAt (w3.setCells ab 0 (bv 16 G1)) Cb m W) := CC3.out.onlyBe X3 (by omega)
      have HB4 : Hid (Below w.heap.size w (w3.setCells ab 0 (bv 16 G1))) := HB3.out.trans (X3.toBelow (by omega) HB3.out.size)
      go_upto_region 12 with (refine wpList_store_mid rfl 39 (.tmp 11) (.tmp 41) rfl ab 0 GA rfl rfl (by rw [BS.out]; exact HR3.out.there) SA.out OA.out ?_)
      rw [TL.out]
      clear HO3 HR3 CC3 HB3 X3 SA OA TL BS
      generalize w3.setCells ab 0 (bv 16 G1) = w4 at *
      have X5 : OnlyB ob w4 (w4.setCells ob (16 * i) (bv 16 G1)) := onlyB_setCells _ _ _ (OnlyB.refl _ _)
      have CP : ∀ ty, (Builtin.copy_ #[22, 22] ty #[.slice (some ⟨ob, 16 * i, none⟩) 16 16, .slice (some ⟨ab, 0, none⟩) 16 16]).run Try.prog w4 = .ok (.int .i64 16) (w4.setCells ob (16 * i) (bv 16 G1)) := fun ty => by
        have := run_copy_cells (P := Try.prog) w4 22 22 ty 5 ob (16 * i) 16 16 ⟨ab, 0, none⟩ 16 16 (bv 16 G1) Try.underlying22 size8 (by rw [bv_length]; rfl) (bv_news (code8_of (fun j hj => by rw [Nat.zero_add]; exact HR4.out.cell hj))) (fun j hj => by rw [bv_length] at hj; rw [HO4.out.cell (by omega)]; rfl) (fun j hj => HO4.out.frozen _) (bv_one _ _)
        rw [bv_length] at this
        exact this
      have HO5 : Hid (Own8 (w4.setCells ob (16 * i) (bv 16 G1)) ob M (cbcTo W m iv P (i + 1))) := (HO4.out.stored (16 * i) 16 G1).congr HFin.out
      have HR5 : Hid (Row8 (w4.setCells ob (16 * i) (bv 16 G1)) ab 39 16 G1) := HR4.out.onlyB X5 (by omega)
      have CC5 : Hid (CiphAt (w4.setCells ob (16 * i) (bv 16 G1)) Cb m W) := CC4.out.onlyBe X5 (by omega)
      have HB5 : Hid (Below w.heap.size w (w4.setCells ob (16 * i) (bv 16 G1))) := HB4.out.trans (X5.toBelow hob HB4.out.size)
      generalize w4.setCells ob (16 * i) (bv 16 G1) = w5 at *
      clear X5 HO4 HR4 CC4 HB4 HFin
      have HRa : Hid (∀ (ra : Option Addr), (ra = some ⟨ob, 16 * i + 16, none⟩ ∨ L - 16 = 0) → (16 * (i + 1) < M → ra = some ⟨ob, 16 * (i + 1), none⟩)) := fun ra hra2 hlt2 => by
        rcases hra2 with h | h
        · rw [h, Nat.mul_add]
        · have := HL.out; omega
      go_wp2
      all_goals
        go_step3
        refine ⟨rfl, ⟨Cb, ob, C, ab, ⟨hob, hCo, hoa⟩, hMC, i + 1, _, _, _, _, _, _, _, _, _, _, _, _, _, _, _, _, _, _, _, _, _, _, _, _, _, _, _, _, _, _, _, _, _, _, _, _, _, _, _, _, _, _, _, _, _, _, rfl, HL.out, by omega, HRa.out _ ?_, ?_, HO5.out, ?_, CC5.out, HB5.out⟩, ?_⟩
        · first | exact .inl rfl | (right; omega)
        · omega
        · rw [HG1.out]; exact HR5.out
        · show _ < L; simp [lenOf]; omega
    · have HO2 : Hid (Own8 wr ob M (cbcO W m iv P)) := HO.out.congr (fun x hx => by unfold cbcTo; rw [if_pos (by omega)])
      obtain rfl : L = 0 := by omega
      clear HO HR CC hra hL LB LP LI LW
      go_wp2
      rw [jump_ret]
      exact bodyPost_ret (results_tmp2 Try.results11 _ _ _) rfl ⟨⟨ob, C, ⟨hob, hMC⟩, rfl, HO2.out⟩, HB.out⟩
  · intro hp
    have SAi : Hid ((Try.prog.info? 39).map (·.size) = some (bA 16 iv).size) := by rw [bA_size]; exact Try.sizeSt
    have OAi : Hid ((bA 16 iv).all (·.oneCell') = true) := bA_one _ _
    have TLi : Hid ((bA 16 iv).toList = bv 16 iv) := bA_toList _ _
    have BSi : Hid ((bA 16 iv).size = 16) := bA_size _ _
    generalize bA 16 iv = IA at *
    go_upto_region 5 with (first
      | (go_at_call 24; refine (MF.out _).mono ?_; rintro e w' ⟨rfl, rfl⟩)
      | (go_at_call 25; refine (NC.out _).mono ?_; rintro e w1 ⟨rfl, hb⟩)
      | (refine wpList_store_mid rfl 44 (.tmp 9) (.tmp 23) rfl _ 0 CA rfl rfl ?_ S2.out O2.out ?_))
    · rw [HSZ.out]; exact there_big w1 Z _ hZ
    · have R1 : ((w1.alloc (.cells Z 44)).setCells w1.heap.size 0 CA.toList).rangeAt w1.heap.size 0 CA.toList := World.rangeAt_setCells_same _ _ _ _ (by rw [hLen]; exact there_big w1 Z _ hZ)
      have CC : Hid (CiphAt ((w1.alloc (.cells Z 44)).setCells w1.heap.size 0 CA.toList) w1.heap.size m W) := fun k hk => by
        have := R1 k _ (hAt.out k hk)
        rwa [Nat.zero_add] at this
      have hsz := hb.size
      have B1 : Hid (Below w.heap.size w ((w1.alloc (.cells Z 44)).setCells w1.heap.size 0 CA.toList)) := below_setCells hsz _ _ _ (hb.alloc hsz _)
      have HC1 : Hid (Code8 ((w1.alloc (.cells Z 44)).setCells w1.heap.size 0 CA.toList) (some ⟨b, o, none⟩) n f) := HC.out.below B1.out
      clear R1 hb NC MF S2 O2 hLen hAt HSZ z0 hZ HC
      generalize (w1.alloc (.cells Z 44)).setCells w1.heap.size 0 CA.toList = wz at *
      generalize w1.heap.size = Cb at *
      go_wp2_with fail
      refine (PD.out _ HC1.out).mono ?_
      rintro e w2 ⟨⟨ob, C, ⟨hob, hMC⟩, rfl, ho⟩, hb2⟩
      have CC2 : Hid (CiphAt w2 Cb m W) := CC.out.below hb2
      have hCz := CC.out.lt
      have B2 : Hid (Below w.heap.size w w2) := B1.out.trans (hb2.mono B1.out.size)
      have HO2 : Hid (Own8 w2 ob M P) := ho
      have hob' : w.heap.size ≤ ob := Nat.le_trans B1.out.size hob
      clear hb2 CC B1 ho HC1 PD
      go_wp2_with fail
      refine (SO.out _).mono ?_
      rintro e w3 ⟨rfl, hb3⟩
      have CC3 : Hid (CiphAt w3 Cb m W) := CC2.out.below hb3
      have B3 : Hid (Below w.heap.size w w3) := B2.out.trans (hb3.mono B2.out.size)
      have HO3 : Hid (Own8 w3 ob M P) := HO2.out.below hb3
      have hoa := HO3.out.lt
      clear hb3 CC2 B2 HO2 SO
      have Z3 : Hid (Row8 (w3.alloc (.cells z16 39)) w3.heap.size 39 16 (fun _ => 0)) := Row8.z16At rfl _
      have HO4 : Hid (Own8 (w3.alloc (.cells z16 39)) ob M P) := HO3.out.alloc _
      have B4 : Hid (Below w.heap.size w (w3.alloc (.cells z16 39))) := B3.out.alloc B3.out.size _
      have CC4 : Hid (CiphAt (w3.alloc (.cells z16 39)) Cb m W) := CC3.out.below ((Below.refl _ _).alloc (Nat.le_refl _) _)
      have hw3 := B3.out.size
      clear CC3 HO3 B3
      unfold z16 at Z3 HO4 B4 CC4
      go_wp2_with (refine wpList_store_mid rfl 39 (.tmp 11) (.tmp 27) rfl w3.heap.size 0 IA rfl rfl (by rw [BSi.out]; exact Z3.out.there) SAi.out OAi.out ?_)
      rw [TLi.out]
      generalize w3.alloc (.cells #[.int .u8 0, .int .u8 0, .int .u8 0, .int .u8 0, .int .u8 0, .int .u8 0, .int .u8 0, .int .u8 0, .int .u8 0, .int .u8 0, .int .u8 0, .int .u8 0, .int .u8 0, .int .u8 0, .int .u8 0, .int .u8 0] 39) = w4 at *
      generalize w3.heap.size = ab at *
      have X5 : OnlyB ab w4 (w4.setCells ab 0 (bv 16 iv)) := onlyB_setCells _ _ _ (OnlyB.refl _ _)
      have HO5 : Hid (Own8 (w4.setCells ab 0 (bv 16 iv)) ob M P) := HO4.out.onlyB X5 (by omega)
      have HR5 : Hid (Row8 (w4.setCells ab 0 (bv 16 iv)) ab 39 16 iv) := Z3.out.stored _
      have CC5 : Hid (CiphAt (w4.setCells ab 0 (bv 16 iv)) Cb m W) := CC4.out.onlyBe X5 (by omega)
      have HB5 : Hid (Below w.heap.size w (w4.setCells ab 0 (bv 16 iv))) := B4.out.trans (X5.toBelow (by omega) B4.out.size)
      generalize w4.setCells ab 0 (bv 16 iv) = w5 at *
      go_step3
      rename_i hKx
      refine hKx _ _ (hp _ _ ⟨Cb, ob, C, ab, ⟨hob', Nat.lt_of_lt_of_le hCz hob, hoa⟩, hMC, 0, _, _, C, _, _, _, _, _, _, _, _, _, _, _, _, _, _, _, _, _, _, _, _, _, _, _, _, _, _, _, _, _, _, _, _, _, _, _, _, _, _, _, _, _, _, _, rfl, by omega, by omega, fun _ => rfl, by omega, HO5.out.congr (fun x hx => by unfold cbcTo; rw [if_neg (by omega)]), HR5.out, CC5.out, HB5.out⟩)
end Go.Proofs.Ytbhlgcenfanicaa

/-
  The model's chains: l02Both, l02CbcEncrypt, CbcEncrypt.
-/
namespace Go.Proofs.Ytbhlgcenfanicaa
open Go.ChangeShapes Go.WideShapes Go.ChangeAt Go.RowKit
/-- n bytes from block b's head on, that may be written. -/
def WB (w : World) (b n : Nat) (f : Nat → Nat) : Prop := ∀ r, r < n → w.cell? ⟨b, r, none⟩ = some (.int .u8 (f r : Nat)) ∧ w.frozen? ⟨b, r, none⟩ = false
theorem WB.set {w : World} {b n : Nat} {f : Nat → Nat} (h : WB w b n f) (i v : Nat) : WB (w.setCell ⟨b, i, none⟩ (.int .u8 (v : Nat))) b n (fun r => if r = i then v else f r) := fun r hr => by
  have hr' := h r hr
  refine ⟨?_, by rw [World.frozen?_setCell]; exact hr'.2⟩
  by_cases e : r = i
  · subst e
    simp only [if_true]
    exact World.cell?_setCell_same _ _ _ hr'.1
  · simp only [if_neg e]
    rw [← hr'.1]
    exact World.cell?_setCell_other _ _ _ _ (by intro h; cases h; exact e rfl)
theorem WB.congr {w : World} {b n : Nat} {f g : Nat → Nat} (h : WB w b n f) (e : ∀ r, r < n → f r = g r) : WB w b n g := fun r hr => by rw [← e r hr]; exact h r hr
theorem WB.code {w : World} {b n : Nat} {f : Nat → Nat} (h : WB w b n f) : Code8 w (some ⟨b, 0, none⟩) n f := code8_of (fun i hi => by rw [Nat.zero_add]; exact (h i hi).1)
/-- A text as bytes of its own. -/
theorem bytesOf (s : ByteArray) (w : World) : ∃ wz gc, (convert 9 22 (.string s)).run Try.prog w = .ok (.slice (some ⟨w.heap.size, 0, none⟩) s.size gc) wz ∧ WB wz w.heap.size s.size (strB s) ∧ Below w.heap.size w wz ∧ s.size ≤ gc := by
  refine ⟨_, _, run_bytes_of_string w 9 22 5 s Try.underlying9 Try.underlying22 Try.underlying5, fun r hr => ?_, (Below.refl _ _).drew.alloc (Nat.le_refl _) _, grownCap_ge _ _ _ _⟩
  have hd : r < s.data.size := hr
  have hrow := bytesRow_at s (grownCap w s.size 0 5) r hd
  have hlt : r < (bytesRow s (grownCap w s.size 0 5)).size := by
    rcases Nat.lt_or_ge r (bytesRow s (grownCap w s.size 0 5)).size with h | h
    · exact h
    · rw [Array.getElem?_eq_none h] at hrow; cases hrow
  refine ⟨?_, ?_⟩
  · have e := World.cell?_alloc_mark w.drew (bytesRow s (grownCap w s.size 0 5)) 5 ((bytesRow s (grownCap w s.size 0 5)).size, (bytesRow s (grownCap w s.size 0 5)).size + 1) r
    refine e.trans ?_
    rw [hrow]
    simp [strB, hr, ByteArray.getElem_eq_getElem_data]
  · show (w.drew.alloc (.cells (bytesRow s (grownCap w s.size 0 5)) 5 ((bytesRow s (grownCap w s.size 0 5)).size, (bytesRow s (grownCap w s.size 0 5)).size + 1))).frozen? ⟨w.drew.heap.size, r, none⟩ = false
    rw [World.frozen?_alloc_mark]
    simp
    intro h
    omega
set_option maxRecDepth 100000 in
set_option maxHeartbeats 1000000 in
/-- spec.l02Both: a text of sixteen bytes, and sixteen bytes, summed. -/
theorem l02Both_any (s : ByteArray) (hs : s.size = 16) (b o c : Nat) (f : Nat → Nat) (hf : ∀ i, i < 16 → f i < 256) (w : World) (h : Code8 w (some ⟨b, o, none⟩) 16 f) :
    Calls Try.prog 43 #[.string s, .slice (some ⟨b, o, none⟩) 16 c] w fun e w' => e = .returned (.string (kstr (fun j => strB s j ^^^ f j) 0 16)) ∧ Below w.heap.size w w' := by
  obtain ⟨wz, gc, hcv, hWB, hBz, hgc⟩ := bytesOf s w
  rw [hs] at hcv hWB
  have hb : b < w.heap.size := h.lt _ (by omega) rfl
  have HC : Hid (Code8 w (some ⟨b, o, none⟩) 16 f) := h
  have HW : Hid (WB wz w.heap.size 16 (strB s)) := hWB
  have HBz : Hid (Below w.heap.size w wz) := hBz
  have HF : Hid (∀ i, i < 16 → f i < 256) := hf
  have LS : Hid (∀ j, strB s j < 256) := strB_lt s
  obtain ⟨A, hA⟩ : ∃ A, A = strB s := ⟨_, rfl⟩
  rw [← hA] at HW LS ⊢
  clear h hWB hBz hf hs hA hgc
  go_enter Try.func43, Try.ntmps43
  go_wp2
  go_loopw [6] (fun i wr => ∃ k : Nat, k ≤ 16 ∧ i = .int .i64 k ∧ WB wr w.heap.size 16 (fun j => if j < k then A j ^^^ f j else A j) ∧ Below w.heap.size w wr) (fun i _ => 16 - (intOf i).toNat)
  case atStart => exact ⟨0, by omega, rfl, HW.out.congr (fun j hj => by rw [if_neg (by omega)]), HBz.out⟩
  case round =>
    clear HW HBz hcv
    obtain ⟨k, hk, rfl, hw, hb2⟩ := hrel
    have HW : Hid (WB wr w.heap.size 16 (fun j => if j < k then A j ^^^ f j else A j)) := hw
    have HB : Hid (Below w.heap.size w wr) := hb2
    by_cases hlt : k < 16
    · have c1 := (hw k hlt).1
      simp only [Nat.lt_irrefl, if_false] at c1
      have f1 := (hw k hlt).2
      have c2 : wr.cell? ⟨b, o + k, none⟩ = some (.int .u8 (f k : Nat)) := by rw [hb2.cell (p := ⟨b, o + k, none⟩) hb]; exact HC.out.at hlt
      have ex : bits .xor .u8 (A k : Int) (f k : Int) = ((A k ^^^ f k : Nat) : Int) := u8_xor_nat _ _ (LS.out k) (HF.out k hlt)
      have x0 : (0 : Int) ≤ (k : Int) := by omega
      have x1 : (k : Int) < 16 := by omega
      have HV : Hid (∀ j, j < 16 → (if j = k then A k ^^^ f k else if j < k then A j ^^^ f j else A j) = if j < k + 1 then A j ^^^ f j else A j) := fun j hj => by
        by_cases e : j = k
        · subst e; rw [if_pos rfl, if_pos (by omega)]
        · rw [if_neg e]
          by_cases e2 : j < k
          · rw [if_pos e2, if_pos (by omega)]
          · rw [if_neg e2, if_neg (by omega)]
      have la := LS.out k
      have lf := HF.out k hlt
      obtain ⟨V, hV⟩ : ∃ V, V = A k ^^^ f k := ⟨_, rfl⟩
      rw [← hV] at ex HV
      clear hV hw hb2
      generalize A k = A1 at *
      generalize f k = A2 at *
      go_wp2_with fail
      go_region
      go_wp2
      go_roundw
      case rel =>
        refine ⟨k + 1, by omega, by go_num, (HW.out.set k V).congr HV.out, ?_⟩
        exact (HB.out.setCell (by exact Nat.le_refl _) _).drew
      case measure => simp [intOf]; omega
    · have hcv : (convert 22 9 (.slice (some ⟨w.heap.size, 0, none⟩) 16 gc)).run Try.prog wr = .ok (.string (kstr (fun j => A j ^^^ f j) 0 16)) wr := kstr_of_code (hw.congr (fun j hj => by rw [if_pos (by omega)])).code
      have x1 : ¬ (k : Int) < 16 := by omega
      clear hw hb2 HW
      go_wp2
      go_ret
      exact ⟨rfl, HB.out⟩
theorem strCells_bv (s : ByteArray) : Lib.strCells s = bv s.size (strB s) := (bv_text s s.size rfl).symm
end Go.Proofs.Ytbhlgcenfanicaa

/-
  The model's chains: l02CbcEncrypt, CbcEncrypt.
-/
namespace Go.Proofs.Ytbhlgcenfanicaa
open Go.ChangeShapes Go.WideShapes Go.ChangeAt Go.RowKit
set_option maxRecDepth 100000 in
set_option maxHeartbeats 4000000 in
/-- spec.l02CbcEncrypt -/
theorem l02Cbc_any (k s : ByteArray) (kn b o n c : Nat) (f : Nat → Nat) (hkn : kn = 4 ∨ kn = 8) (hk : k.size = kn * 4) (hs : s.size = 16) (hn : n ≤ 65520) (hf : ∀ i, f i < 256) (w : World) (h : Code8 w (some ⟨b, o, none⟩) n f) :
    Calls Try.prog 34 #[.string k, .string s, .slice (some ⟨b, o, none⟩) n c] w fun e w' => RetB w w' e (n + fillN n) (cbcO (Gf.ws (strB k) kn (3 * kn + 28)) (kn + 6) (strB s) (padF n f)) ∧ Below w.heap.size w w' := by
  obtain ⟨i0, hi⟩ := info_parts Try.info8
  have HI : Hid (Try.prog.info? 5 = some i0 ∧ i0.zero = some (.int .u8 0) ∧ i0.size = 1 ∧ i0.bytes = 1) := hi
  have TA : Hid (∀ w : World, Calls Try.prog 41 #[] w fun e w' => (∃ b, w.heap.size ≤ b ∧ e = .returned (.slice (some ⟨b, 0, none⟩) 256 256) ∧ w'.rowIs b 3 256 (fun j => .int .i64 (Gf.sub j : Nat))) ∧ Below w.heap.size w w') := table_any
  have KE : Hid (∀ (tb : Nat) (w : World), w.rowIs tb 3 256 (fun j => .int .i64 (Gf.sub j : Nat)) → Calls Try.prog 42 #[.string k, .slice (some ⟨tb, 0, none⟩) 256 256] w fun e w' => (∃ pb po ck, e = .returned (.slice (some ⟨pb, po, none⟩) (kn + 6 + 1) ck) ∧ MK w' pb po tb (kn + 6) (Gf.ws (strB k) kn (3 * kn + 28))) ∧ Below w.heap.size w w') := fun tb w h => mKeys k kn hkn hk tb w h
  have LW : Hid (∀ j, Gf.ws (strB k) kn (3 * kn + 28) j < 256) := Gf.ws_lt (strB_lt k) _
  generalize Gf.ws (strB k) kn (3 * kn + 28) = W at *
  obtain ⟨m, hm⟩ : ∃ m, m = kn + 6 := ⟨_, rfl⟩
  have hm1 : 1 ≤ m := by omega
  have hm2 : m ≤ 14 := by omega
  rw [← hm] at KE ⊢
  have PD : Hid (∀ w : World, Code8 w (some ⟨b, o, none⟩) n f → Calls Try.prog 59 #[.slice (some ⟨b, o, none⟩) n c] w fun e w' => RetB w w' e (n + fillN n) (padF n f) ∧ Below w.heap.size w w') := fun w h => l02Pad_any b o n c f (by omega) w h
  have LI : Hid (∀ j, strB s j < 256) := strB_lt s
  have LP : Hid (∀ j, padF n f j < 256) := fun j => padF_lt hf j
  have hMm : (n + fillN n) % 16 = 0 := padN_mod n
  have hM2 : n + fillN n ≤ 65536 := by have := (fillN_bd n).2; omega
  generalize padF n f = P at *
  generalize n + fillN n = M at *
  have HC : Hid (Code8 w (some ⟨b, o, none⟩) n f) := h
  obtain ⟨iv, hiv⟩ : ∃ iv, iv = strB s := ⟨_, rfl⟩
  have HIV : Hid (Gf.Same (strB s) (cbcB W m iv P 0)) := fun j _ => by rw [← hiv]; rfl
  rw [← hiv] at LI ⊢
  have LB : Hid (∀ i j, cbcB W m iv P i j < 256) := fun i j => cbcB_lt LW.out LI.out LP.out i j
  have HSs : Hid (s.size = 16) := hs
  clear h hf hkn hk hs hm hi hiv
  go_enter Try.func34, Try.ntmps34
  go_wp2_with fail
  refine (TA.out _).mono ?_
  rintro e w1 ⟨⟨tb, htb, rfl, hrow⟩, hB1⟩
  have HR : Hid (w1.rowIs tb 3 256 (fun j => .int .i64 (Gf.sub j : Nat))) := hrow
  have HB1 : Hid (Below w.heap.size w w1) := hB1
  clear hrow hB1
  go_wp2_with fail
  refine (KE.out tb w1 HR.out).mono ?_
  rintro e w2 ⟨⟨pb, po, ck, rfl, hmk⟩, hB2⟩
  have HM : Hid (MK w2 pb po tb m W) := hmk
  have HB2 : Hid (Below w.heap.size w w2) := HB1.out.trans (hB2.mono HB1.out.size)
  have HC2 : Hid (Code8 w2 (some ⟨b, o, none⟩) n f) := HC.out.below HB2.out
  clear hmk hB2 HR HB1 HC TA KE
  go_wp2_with fail
  refine (PD.out _ HC2.out).mono ?_
  rintro e w3 ⟨⟨pk, Cp, ⟨hpk, hMC⟩, rfl, ho⟩, hB3⟩
  have HP3 : Hid (Own8 w3 pk M P) := ho
  have HM3 : Hid (MK w3 pb po tb m W) := HM.out.below hB3
  have HB3 : Hid (Below w.heap.size w w3) := HB2.out.trans (hB3.mono HB2.out.size)
  have hpt := HM3.out.lt
  have hpl := ho.lt
  have hw3 := HB3.out.size
  clear ho hB3 HM HB2 HC2 PD
  have HO4 : Hid ((w3.alloc (.cells #[] 5)).ownsRow w3.heap.size 5 1 (.slice (some ⟨w3.heap.size, 0, none⟩) 0 0) 0 (bv 0 (cbcO W m iv P))) := World.ownsRow_made w3 #[] 0 (Nat.le_refl _) (Nat.zero_le _) (by simp)
  have HP4 : Hid (Own8 (w3.alloc (.cells #[] 5)) pk M P) := HP3.out.alloc _
  have HM4 : Hid (MK (w3.alloc (.cells #[] 5)) pb po tb m W) := HM3.out.alloc _
  have HB4 : Hid (Below w.heap.size w (w3.alloc (.cells #[] 5))) := HB3.out.alloc hw3 _
  have hw4 : w3.heap.size ≤ (w3.alloc (.cells #[] 5)).heap.size := by simp
  clear HP3 HM3 HB3
  go_wp2_with fail
  generalize w3.alloc (.cells #[] 5) = w4 at *
  generalize w3.heap.size = B0 at *
  go_loopw [10, 11, 12] (fun x l i wr => ∃ (q gb gc : Nat) (T : ByteArray), 16 * q ≤ M ∧ i = .int .i64 (16 * (q : Int)) ∧ l = .string T ∧ T.size = 16 ∧ Gf.Same (strB T) (cbcB W m iv P q) ∧ x = .slice (some ⟨gb, 0, none⟩) (16 * q) gc ∧ wr.ownsRow B0 5 1 (.slice (some ⟨gb, 0, none⟩) (16 * q) gc) (16 * q) (bv (16 * q) (cbcO W m iv P)) ∧ (Own8 wr pk M P ∧ MK wr pb po tb m W ∧ Below w.heap.size w wr ∧ B0 ≤ wr.heap.size)) (fun _ _ i _ => M - (intOf i).toNat)
  case atStart => exact ⟨0, B0, 0, s, by omega, rfl, rfl, HSs.out, HIV.out, rfl, HO4.out, HP4.out, HM4.out, HB4.out, hw4⟩
  case round =>
    clear HO4 HP4 HM4 HB4 hw4 HIV HSs
    obtain ⟨q, gb, gc, T, hq, rfl, rfl, hT, hTS, rfl, hown, hp, hmk, hb, hsz⟩ := hrel
    have HO : Hid (wr.ownsRow B0 5 1 (.slice (some ⟨gb, 0, none⟩) (16 * q) gc) (16 * q) (bv (16 * q) (cbcO W m iv P))) := hown
    have HP : Hid (Own8 wr pk M P) := hp
    have HM : Hid (MK wr pb po tb m W) := hmk
    have HB : Hid (Below w.heap.size w wr) := hb
    clear hown hp hmk hb
    by_cases hlt : 16 * q < M
    · have g1 : 16 * (q : Int) < (M : Int) := by omega
      have g0 : (0 : Int) ≤ 16 * (q : Int) := by omega
      have g2 : 16 * (q : Int) + 16 ≤ (Cp : Int) := by omega
      have g3 : 16 * (q : Int) ≤ 16 * (q : Int) + 16 := by omega
      have g4 : (16 * (q : Int)).toNat = 16 * q := by omega
      have g5 : (16 * (q : Int) + 16).toNat = 16 * q + 16 := by omega
      have g6 : ¬ Cp = 16 * q := by omega
      have g7 : 16 * q + 16 - 16 * q = 16 := by omega
      obtain ⟨S2, hS2⟩ : ∃ S2, S2 = kstr (fun j => strB T j ^^^ P (16 * q + j)) 0 16 := ⟨_, rfl⟩
      have BO : Hid (∀ w : World, Code8 w (some ⟨pk, 16 * q, none⟩) 16 (fun j => P (16 * q + j)) → Calls Try.prog 43 #[.string T, .slice (some ⟨pk, 16 * q, none⟩) 16 (Cp - 16 * q)] w fun e w' => e = .returned (.string S2) ∧ Below w.heap.size w w') := fun w h => by
        rw [hS2]
        exact l02Both_any T hT pk (16 * q) (Cp - 16 * q) (fun j => P (16 * q + j)) (fun j _ => LP.out _) w h
      have EN : Hid (∀ w : World, MK w pb po tb m W → Calls Try.prog 55 #[.slice (some ⟨pb, po, none⟩) (m + 1) ck, .slice (some ⟨tb, 0, none⟩) 256 256, .string S2] w fun e w' => e = .returned (.string (kstr (cbcB W m iv P (q + 1)) 0 16)) ∧ Below w.heap.size w w') := fun w h =>
        (mEnc pb po ck tb m W LW.out hm1 hm2 S2 (by rw [hS2, kstr_size]) w h).mono fun e w' hh => ⟨by
          rw [hh.1]
          refine congrArg (fun x => Ending.returned (.string x)) (kstr_same (Gf.same_enc (fun j hj => ?_)))
          rw [hS2, strB_kstr _ 0 16 j (by rw [Nat.zero_add]; exact Gf.xor_lt (strB_lt T j) (LP.out _)) hj, Nat.zero_add, hTS j hj], hh.2⟩
      have HG : Hid (bv (16 * q) (cbcO W m iv P) ++ Lib.strCells (kstr (cbcB W m iv P (q + 1)) 0 16) = bv (16 * (q + 1)) (cbcO W m iv P)) := by
        show bv (16 * q) (cbcO W m iv P) ++ Lib.strCells (kstr (cbcB W m iv P (q + 1)) 0 16) = _
        rw [strCells_bv, kstr_size, bv_append, Nat.mul_add]
        refine bv_congr (fun i hi => ?_)
        by_cases e : i < 16 * q
        · rw [if_pos e]
        · rw [if_neg e, strB_kstr _ 0 16 _ (by rw [Nat.zero_add]; exact LB.out _ _) (by omega), Nat.zero_add]
          have := cbcO_at W m iv P q (i - 16 * q) (by omega)
          rw [show 16 * q + (i - 16 * q) = i from by omega] at this
          exact this.symm
      have HS16 : Hid ((kstr (cbcB W m iv P (q + 1)) 0 16).size = 16) := kstr_size _ _ _
      have HTS : Hid (Gf.Same (strB (kstr (cbcB W m iv P (q + 1)) 0 16)) (cbcB W m iv P (q + 1))) := same_strB (fun j _ => LB.out _ _)
      have HCd : Hid (Code8 wr (some ⟨pk, 16 * q, none⟩) 16 (fun j => P (16 * q + j))) := code8_of (fun j hj => HP.out.cell (by omega))
      have HQ : Hid (16 * (q : Int) + 16 = 16 * ((q + 1 : Nat) : Int)) := by show 16 * (q : Int) + 16 = _; omega
      generalize kstr (cbcB W m iv P (q + 1)) 0 16 = E1 at *
      clear hS2 hT hTS
      go_wp2_with fail
      refine (BO.out _ HCd.out).mono ?_
      rintro e w5 ⟨rfl, hb5⟩
      have HO5 : Hid (w5.ownsRow B0 5 1 (.slice (some ⟨gb, 0, none⟩) (16 * q) gc) (16 * q) (bv (16 * q) (cbcO W m iv P))) := ownsRow_below8 HO.out hb5
      have HP5 : Hid (Own8 w5 pk M P) := HP.out.below hb5
      have HM5 : Hid (MK w5 pb po tb m W) := HM.out.below hb5
      have HB5 : Hid (Below w.heap.size w w5) := HB.out.trans (hb5.mono HB.out.size)
      have hsz5 := Nat.le_trans hsz hb5.size
      clear hb5 HO HP HM HB BO HCd hsz
      go_wp2_with fail
      refine (EN.out _ HM5.out).mono ?_
      rintro e w6 ⟨rfl, hb6⟩
      have HO6 : Hid (w6.ownsRow B0 5 1 (.slice (some ⟨gb, 0, none⟩) (16 * q) gc) (16 * q) (bv (16 * q) (cbcO W m iv P))) := ownsRow_below8 HO5.out hb6
      have HP6 : Hid (Own8 w6 pk M P) := HP5.out.below hb6
      have HM6 : Hid (MK w6 pb po tb m W) := HM5.out.below hb6
      have HB6 : Hid (Below w.heap.size w w6) := HB5.out.trans (hb6.mono HB5.out.size)
      have hsz6 := Nat.le_trans hsz5 hb6.size
      clear hb6 HO5 HP5 HM5 HB5 EN hsz5
      go_wp2_with (at_builtin; refine Lib.wpList_append_own_string _ rfl _ _ 22 9 rfl B0 5 i0 Try.underlying22 Try.underlying9 HI.out.1 HI.out.2.1 HI.out.2.2.1 HI.out.2.2.2 (.slice (some ⟨gb, 0, none⟩) (16 * q) gc) (16 * q) _ rfl HO6.out E1 rfl (by rw [HS16.out]; unfold maxLen; omega) (by rw [HS16.out]; omega) hsz6 ?_)
      intro v7 w7 hown7 hgrow7 hnil7
      rw [HS16.out, HG.out] at hown7
      have BG := grown_below HO6.out hgrow7 hsz6
      have HP7 : Hid (Own8 w7 pk M P) := HP6.out.of_block (BG.block pk hpl)
      have HM7 : Hid (MK w7 pb po tb m W) := HM6.out.belowAt BG hpt.1 hpt.2
      have HB7 : Hid (Below w.heap.size w w7) := HB6.out.trans (BG.mono hw3)
      have hsz7 := Nat.le_trans hsz6 BG.size
      obtain ⟨gb7, gc7, ⟨hgb7, hgc7⟩, rfl, -⟩ := own8_of_own (n := 16 * (q + 1)) hown7 hnil7
      have HO7 : Hid (w7.ownsRow B0 5 1 (.slice (some ⟨gb7, 0, none⟩) (16 * (q + 1)) gc7) (16 * (q + 1)) (bv (16 * (q + 1)) (cbcO W m iv P))) := hown7
      clear hown7 hgrow7 hnil7 BG HO6 HP6 HM6 HB6 HG
      go_wp2
      go_roundw
      case rel => exact ⟨q + 1, gb7, gc7, E1, by omega, numEq8 HQ.out, rfl, HS16.out, HTS.out, rfl, HO7.out, HP7.out, HM7.out, HB7.out, hsz7⟩
      case measure => simp [intOf]; omega
    · have g1 : ¬ 16 * (q : Int) < (M : Int) := by omega
      obtain rfl : M = 16 * q := by omega
      obtain ⟨gb7, gc7, ⟨hgb7, hgc7⟩, e7, ho7⟩ := own8_of_own (n := 16 * q) HO.out (by intro e; cases e)
      cases e7
      have HO7 : Hid (Own8 wr gb (16 * q) (cbcO W m iv P)) := ho7
      clear ho7 HO HP HM LB LP LI LW hTS
      go_wp2
      go_ret
      exact ⟨⟨gb, gc, ⟨Nat.le_trans hw3 hgb7, hgc7⟩, rfl, HO7.out⟩, HB.out⟩
theorem specCbc_long (k s : ByteArray) (a : Option Addr) (n c : Nat) (f : Nat → Nat) (h : 65536 < k.size ∨ 65536 < s.size ∨ 65520 < n) (w : World) :
    Calls Try.prog 12 #[.string k, .string s, .slice a n c] w fun e w' => RetB2 w w' e 0 f (.int .i64 2) ∧ Below w.heap.size w w' := by
  by_cases h1 : 65536 < k.size
  · have e1 : (65536 : Int) < k.size := by omega
    go_enter Try.func12, Try.ntmps12
    go_wp2
    go_ret2
    exact ⟨RetB2.made w f _, (Below.refl _ _).alloc (Nat.le_refl _) _⟩
  · have e1 : ¬ (65536 : Int) < k.size := by omega
    by_cases h2 : 65536 < s.size
    · have e2 : (65536 : Int) < s.size := by omega
      go_enter Try.func12, Try.ntmps12
      go_wp2
      go_ret2
      exact ⟨RetB2.made w f _, (Below.refl _ _).alloc (Nat.le_refl _) _⟩
    · have e2 : ¬ (65536 : Int) < s.size := by omega
      have e3 : (65520 : Int) < n := by omega
      go_enter Try.func12, Try.ntmps12
      go_wp2
      go_ret2
      exact ⟨RetB2.made w f _, (Below.refl _ _).alloc (Nat.le_refl _) _⟩
theorem specCbc_bad (k s : ByteArray) (a : Option Addr) (n c : Nat) (f : Nat → Nat) (h1 : k.size ≤ 65536) (h2 : s.size ≤ 65536) (h3 : n ≤ 65520) (h : ¬ ((k.size = 16 ∨ k.size = 32) ∧ s.size = 16)) (w : World) :
    Calls Try.prog 12 #[.string k, .string s, .slice a n c] w fun e w' => RetB2 w w' e 0 f (.int .i64 1) ∧ Below w.heap.size w w' := by
  have e1 : ¬ (65536 : Int) < k.size := by omega
  have e2 : ¬ (65536 : Int) < s.size := by omega
  have e3 : ¬ (65520 : Int) < n := by omega
  by_cases hk : k.size = 16 ∨ k.size = 32
  · have e4 : ((s.size : Int) != 16) = true := by rw [bne_iff_ne]; omega
    have KO : Hid (∀ w : World, Calls Try.prog 30 #[.string k] w fun e w' => e = .returned (.bool true) ∧ w = w') := l01Key_yes k hk
    clear h hk
    go_enter Try.func12, Try.ntmps12
    go_wp2_with (go_at_call 30; refine (KO.out _).mono ?_; rintro e w' ⟨rfl, rfl⟩)
    go_ret2
    exact ⟨RetB2.made w f _, (Below.refl _ _).alloc (Nat.le_refl _) _⟩
  · have KO : Hid (∀ w : World, Calls Try.prog 30 #[.string k] w fun e w' => e = .returned (.bool false) ∧ w = w') := l01Key_no k (by omega) (by omega)
    clear h hk
    go_enter Try.func12, Try.ntmps12
    go_wp2_with (go_at_call 30; refine (KO.out _).mono ?_; rintro e w' ⟨rfl, rfl⟩)
    go_ret2
    exact ⟨RetB2.made w f _, (Below.refl _ _).alloc (Nat.le_refl _) _⟩
theorem specCbc_yes (k s : ByteArray) (kn b o n c : Nat) (f : Nat → Nat) (hkn : kn = 4 ∨ kn = 8) (hk : k.size = kn * 4) (hs : s.size = 16) (hn : n ≤ 65520) (hf : ∀ i, f i < 256) (w : World) (h : Code8 w (some ⟨b, o, none⟩) n f) :
    Calls Try.prog 12 #[.string k, .string s, .slice (some ⟨b, o, none⟩) n c] w fun e w' => RetB2 w w' e (n + fillN n) (cbcO (Gf.ws (strB k) kn (3 * kn + 28)) (kn + 6) (strB s) (padF n f)) (.int .i64 0) ∧ Below w.heap.size w w' := by
  have e1 : ¬ (65536 : Int) < k.size := by omega
  have e2 : ¬ (65536 : Int) < s.size := by omega
  have e3 : ¬ (65520 : Int) < n := by omega
  have e4 : ((s.size : Int) != 16) = false := by rw [bne_eq_false_iff_eq]; omega
  have KO : Hid (∀ w : World, Calls Try.prog 30 #[.string k] w fun e w' => e = .returned (.bool true) ∧ w = w') := l01Key_yes k (by omega)
  have LC : Hid (Calls Try.prog 34 #[.string k, .string s, .slice (some ⟨b, o, none⟩) n c] w fun e w' => RetB w w' e (n + fillN n) (cbcO (Gf.ws (strB k) kn (3 * kn + 28)) (kn + 6) (strB s) (padF n f)) ∧ Below w.heap.size w w') := l02Cbc_any k s kn b o n c f hkn hk hs hn hf w h
  generalize cbcO (Gf.ws (strB k) kn (3 * kn + 28)) (kn + 6) (strB s) (padF n f) = g at *
  generalize n + fillN n = M at *
  clear h hf hkn hk hs
  go_enter Try.func12, Try.ntmps12
  go_wp2_with (go_at_call 30; refine (KO.out _).mono ?_; rintro e w' ⟨rfl, rfl⟩)
  refine LC.out.mono ?_
  rintro e w1 ⟨⟨b2, c2, hb2, rfl, ho⟩, hB⟩
  have B1 : Hid (Below w.heap.size w w1) := hB
  have HO : Hid (Own8 w1 b2 M g) := ho
  clear ho hB
  go_wp2
  go_ret2
  exact ⟨⟨_, _, hb2, rfl, HO.out⟩, B1.out⟩
end Go.Proofs.Ytbhlgcenfanicaa

/-
  The contract of impl.unchained.
-/
namespace Go.Proofs.Ytbhlgcenfanicaa
open Go.ChangeShapes Go.WideShapes Go.ChangeAt Go.RowKit
/-- The block ahead of block i. -/
def prevB (iv c : Nat → Nat) (i j : Nat) : Nat := if i = 0 then iv j else c (16 * (i - 1) + j)
theorem mkRoom (n : Nat) (hn : n ≤ 10000000) (w : World) : ∃ w', (Instr.makeSlice 22 (.int .i64 0) (.int .i64 (n : Int))).run Try.prog w = .ok (.slice (some ⟨w.heap.size, 0, none⟩) 0 n) w' ∧ w'.ownsRow w.heap.size 5 1 (.slice (some ⟨w.heap.size, 0, none⟩) 0 n) 0 [] ∧ Below w.heap.size w w' := by
  obtain ⟨i0, hi, hz, hs, hb⟩ := info_parts Try.info8
  have hr := run_make (P := Try.prog) w 22 5 i0 (.int .u8 0) Try.underlying22 hi hz .i64 .i64 0 (n : Int) (Int.le_refl _) (by omega) (by rw [hb]; omega) (by omega)
  simp only [Int.toNat_natCast, hs, Nat.mul_one] at hr
  refine ⟨_, hr, World.ownsRow_made w _ n (Nat.le_refl _) (by unfold maxLen; omega) ?_, (Below.refl _ _).alloc (Nat.le_refl _) _⟩
  rw [size_madeCells]
  omega
/-- What unchained's steps keep. -/
def UNC (w0 : World) (Cb m bb ab B0 : Nat) (K X Y : Nat → Nat) (v : Value) (q : Nat) (xs : List Value) (w' : World) : Prop := Row8 w' bb 39 16 X ∧ Row8 w' ab 39 16 Y ∧ CiphAt w' Cb m K ∧ w'.ownsRow B0 5 1 v q xs ∧ Below w0.heap.size w0 w'
theorem UNC.below {w0 w' w'' : World} {Cb m bb ab B0 : Nat} {K X Y : Nat → Nat} {v : Value} {q : Nat} {xs : List Value} (h : UNC w0 Cb m bb ab B0 K X Y v q xs w') (hb : Below w'.heap.size w' w'') : UNC w0 Cb m bb ab B0 K X Y v q xs w'' :=
  ⟨h.1.below hb, h.2.1.below hb, h.2.2.1.below hb, ownsRow_below8 h.2.2.2.1 hb, h.2.2.2.2.trans (hb.mono h.2.2.2.2.size)⟩
theorem UNC.drew {w0 w' : World} {Cb m bb ab B0 : Nat} {K X Y : Nat → Nat} {v : Value} {q : Nat} {xs : List Value} (h : UNC w0 Cb m bb ab B0 K X Y v q xs w') : UNC w0 Cb m bb ab B0 K X Y v q xs w'.drew := ⟨h.1, h.2.1, h.2.2.1, h.2.2.2.1, h.2.2.2.2.drew⟩
theorem ownsRow_ne {w w' : World} {c base : Nat} {e : TypeId} {size : Nat} {v : Value} {n : Nat} {xs : List Value} (h : w.ownsRow base e size v n xs) (ho : OnlyB c w w') (hne : ∀ k, v.ownBlock = some k → k ≠ c) : w'.ownsRow base e size v n xs := by
  obtain ⟨hl, h0 | ⟨g, cap, cur, hv, h1, hh, h2⟩⟩ := h
  · exact ⟨hl, .inl h0⟩
  · refine ⟨hl, .inr ⟨g, cap, cur, hv, h1, ?_, h2⟩⟩
    rw [ho.block g ?_ (hne g (by rw [hv]; rfl))]
    · exact hh
    · rcases Nat.lt_or_ge g w.heap.size with k | k
      · exact k
      · rw [Array.getElem?_eq_none k] at hh; cases hh
theorem unc_store {w0 w' : World} {Cb m bb ab B0 pb : Nat} {K X Y : Nat → Nat} {v : Value} {q : Nat} {xs : List Value} (h : UNC w0 Cb m bb ab B0 K X Y v q xs w') (hz : Row8 w' pb 39 16 (fun _ => 0)) (h1 : bb < pb) (h2 : ab < pb) (h3 : Cb < pb) (h4 : w0.heap.size ≤ pb) (h5 : ∀ k, v.ownBlock = some k → k ≠ pb) (G : Nat → Nat) :
    UNC w0 Cb m bb ab B0 K X Y v q xs (w'.setCells pb 0 (bv 16 G)) ∧ Row8 (w'.setCells pb 0 (bv 16 G)) pb 39 16 G ∧ w'.heap.size ≤ (w'.setCells pb 0 (bv 16 G)).heap.size := by
  have X1 : OnlyB pb w' (w'.setCells pb 0 (bv 16 G)) := onlyB_setCells _ _ _ (OnlyB.refl _ _)
  exact ⟨⟨h.1.onlyB X1 (by omega), h.2.1.onlyB X1 (by omega), h.2.2.1.onlyBe X1 (by omega), ownsRow_ne h.2.2.2.1 X1 h5, h.2.2.2.2.trans (X1.toBelow h4 h.2.2.2.2.size)⟩, hz.stored G, X1.size⟩
/-- What holds where a block more begins: i blocks are done. -/
def UnJ (w0 : World) (Cb m ab B0 n : Nat) (K iv c : Nat → Nat) (b o : Nat) (a' : Act) (w' : World) : Prop := ∃ (i gb gc : Nat) (ra : Option Addr) (L cr : Nat) (u0 u1 u2 u3 u5 u6 u10 u11 u12 u13 u14 u15 u16 u17 u18 u19 u20 u21 u22 u23 u24 u25 u26 u27 u28 u29 u30 u31 u32 u33 u34 u35 : Value), a' = { tmps := #[u0, u1, u2, u3, .pointer (some ⟨ab, 0, none⟩), u5, u6, .pointer (some ⟨Cb, 0, none⟩), .slice (some ⟨gb, 0, none⟩) (16 * i) gc, .slice ra L cr, u10, u11, u12, u13, u14, u15, u16, u17, u18, u19, u20, u21, u22, u23, u24, u25, u26, u27, u28, u29, u30, u31, u32, u33, u34, u35], defers := [] } ∧
  L = n - 16 * i ∧ 16 * i ≤ n ∧ (16 * i < n → ra = some ⟨b, o + 16 * i, none⟩) ∧ L ≤ cr ∧ w'.ownsRow B0 5 1 (.slice (some ⟨gb, 0, none⟩) (16 * i) gc) (16 * i) (bv (16 * i) (cbcD K m iv c)) ∧ Row8 w' ab 39 16 (prevB iv c i) ∧ CiphAt w' Cb m K ∧ Below w0.heap.size w0 w' ∧ B0 ≤ w'.heap.size
set_option maxRecDepth 100000 in
set_option maxHeartbeats 4000000 in
theorem unchained_any (k : ByteArray) (kn b o n cp : Nat) (iv c : Nat → Nat) (hkn : kn = 4 ∨ kn = 8) (hk : k.size = kn * 4) (hn : n ≤ 65536) (hn16 : n % 16 = 0) (hncp : n ≤ cp) (hi : ∀ j, iv j < 256) (hc : ∀ i, c i < 256) (w : World) (h : Code8 w (some ⟨b, o, none⟩) n c) :
    Calls Try.prog 35 #[.string k, .agg (bA 16 iv), .slice (some ⟨b, o, none⟩) n cp] w fun e w' => RetB w w' e n (cbcD (Gf.ws (strB k) kn (3 * kn + 28)) (kn + 6) iv c) ∧ Below w.heap.size w w' := by
  obtain ⟨i0, hi0⟩ := info_parts Try.info8
  have HI : Hid (Try.prog.info? 5 = some i0 ∧ i0.zero = some (.int .u8 0) ∧ i0.size = 1 ∧ i0.bytes = 1) := hi0
  have NC : Hid (∀ w : World, Calls Try.prog 25 #[.string k] w fun e w' => e = .returned (.agg (cA (kn + 6) (Gf.ws (strB k) kn (3 * kn + 28)))) ∧ Below w.heap.size w w') := newCipher_any k kn hkn hk
  have LW : Hid (∀ j, Gf.ws (strB k) kn (3 * kn + 28) j < 256) := Gf.ws_lt (strB_lt k) _
  generalize Gf.ws (strB k) kn (3 * kn + 28) = W at *
  obtain ⟨m, hm⟩ : ∃ m, m = kn + 6 := ⟨_, rfl⟩
  have hm1 : 1 ≤ m := by omega
  have hm2 : m ≤ 14 := by omega
  rw [← hm] at NC ⊢
  have LI : Hid (∀ j, iv j < 256) := hi
  have LC : Hid (∀ j, c j < 256) := hc
  have LV : Hid (∀ i j, prevB iv c i j < 256) := fun i j => by
    show (if i = 0 then iv j else c (16 * (i - 1) + j)) < 256
    split
    · exact hi j
    · exact hc _
  obtain ⟨Z, z0, hZ, -⟩ := Try.zeroC
  have S2 : Hid ((Try.prog.info? 44).map (·.size) = some (cA m W).size) := by rw [cA_size]; exact Try.sizeC
  have O2 : Hid ((cA m W).all (·.oneCell') = true) := cA_one _ _
  have hLen : (cA m W).toList.length = 769 := cA_len _ _
  have hAt : Hid (∀ k, k < 769 → (cA m W).toList[k]? = some (cf m W k)) := fun k hk => by
    have := cA_at (n := m) (K := W) hk
    rwa [← Array.getElem?_toList] at this
  have HSZ : Hid ((cA m W).size = 769) := cA_size _ _
  generalize cA m W = CA at *
  have HC : Hid (Code8 w (some ⟨b, o, none⟩) n c) := h
  clear h hc hi hkn hk hm hi0
  go_enter Try.func35, Try.ntmps35
  go_wp2
  refine wp_scope_label 0 (fun a' w' => ∃ Cb ab B0, (Cb < B0 ∧ ab < B0 ∧ w.heap.size ≤ ab ∧ w.heap.size ≤ Cb ∧ Cb ≠ ab) ∧ UnJ w Cb m ab B0 n W iv c b o a' w') (fun a' _ => lenOf (a'.tmps.getD 9 undef)) rfl ?_ ?_
  · rintro a' wr ⟨Cb, ab, B0, ⟨hCB, haB, hwa, hwC, hCa⟩, i, gb, gc, ra, L, cr, u0, u1, u2, u3, u5, u6, u10, u11, u12, u13, u14, u15, u16, u17, u18, u19, u20, u21, u22, u23, u24, u25, u26, u27, u28, u29, u30, u31, u32, u33, u34, u35, rfl, hL, hi, hra, hcr, hown, hr, hC, hB, hB0⟩
    have HO : Hid (wr.ownsRow B0 5 1 (.slice (some ⟨gb, 0, none⟩) (16 * i) gc) (16 * i) (bv (16 * i) (cbcD W m iv c))) := hown
    have HR : Hid (Row8 wr ab 39 16 (prevB iv c i)) := hr
    have CC : Hid (CiphAt wr Cb m W) := hC
    have HB : Hid (Below w.heap.size w wr) := hB
    clear hown hr hC hB
    clear NC S2 O2 hLen hAt HSZ z0 hZ
    by_cases hlt : 16 * i < n
    · have era := hra hlt
      subst era
      have hMi : 16 * i + 16 ≤ n := by omega
      have hb : b < w.heap.size := HC.out.lt _ (by omega) rfl
      have eL : ((L : Int) == 0) = false := by rw [beq_eq_false_iff_ne]; omega
      have xc : (16 : Int) ≤ (cr : Int) := by omega
      have xL : (16 : Int) ≤ (L : Int) := by omega
      obtain ⟨X, hX⟩ : ∃ X : Nat → Nat, X = fun j => c (16 * i + j) := ⟨_, rfl⟩
      have lX : Hid (∀ j, X j < 256) := fun j => by rw [hX]; exact LC.out _
      obtain ⟨S, hS⟩ : ∃ S, S = kstr X 0 16 := ⟨_, rfl⟩
      have hcv : ∀ cap, (convert 22 9 (.slice (some ⟨b, o + 16 * i, none⟩) 16 cap)).run Try.prog wr = .ok (.string S) wr := fun cap => by
        rw [hS]
        refine kstr_of_code (code8_of (fun j hj => ?_))
        rw [HB.out.cell (p := ⟨b, o + 16 * i + j, none⟩) hb, hX, Nat.add_assoc]
        exact HC.out.at (by omega)
      have SO : Hid (∀ w : World, Calls Try.prog 33 #[.string S] w fun e w' => e = .returned (.agg (bA 16 X)) ∧ Below w.heap.size w w') := fun w => by
        have := stateOf_le S (by rw [hS, kstr_size]; exact Nat.le_refl _) w
        rwa [hS, bA_same (same_strB (fun j _ => lX.out j)), ← hS] at this
      have DE : Hid (∀ w : World, CiphAt w Cb m W → Calls Try.prog 60 #[.pointer (some ⟨Cb, 0, none⟩), .agg (bv 16 X).toArray] w fun e w' => e = .returned (.agg (bA 16 (Gf.dec W m X))) ∧ Below w.heap.size w w') := fun w h => decrypt_any Cb m W X (fun j _ => lX.out j) LW.out hm1 hm2 w h
      have AD : Hid (∀ w : World, Calls Try.prog 37 #[.agg (bA 16 (Gf.dec W m X)), .agg (bv 16 (prevB iv c i)).toArray] w fun e w' => e = .returned (.agg (bA 16 (fun j => Gf.dec W m X j ^^^ prevB iv c i j))) ∧ Below w.heap.size w w') := added_any _ _ (fun j hj => Gf.dec_lt LW.out (fun j _ => lX.out j) j hj) (fun j _ => LV.out i j)
      have HPl : Hid (∀ j, j < 16 → Gf.dec W m X j ^^^ prevB iv c i j = cbcD W m iv c (16 * i + j)) := fun j hj => by
        unfold cbcD
        rw [show (16 * i + j) / 16 = i from by omega, show (16 * i + j) % 16 = j from by omega, hX]
        congr 1
        unfold prevB
        by_cases e : i = 0
        · subst e
          rw [if_pos rfl, if_pos (by omega), show 16 * 0 + j = j from by omega]
        · rw [if_neg e, if_neg (by omega), show 16 * (i - 1) + j = 16 * i + j - 16 from by omega]
      have HPv : Hid (prevB iv c (i + 1) = X) := by
        show prevB iv c (i + 1) = X
        rw [hX]
        funext j
        unfold prevB
        rw [if_neg (by omega)]
        rfl
      have HL : Hid (L - 16 = n - 16 * (i + 1)) := by show L - 16 = _; omega
      have SA : Hid ((Try.prog.info? 39).map (·.size) = some (bA 16 X).size) := by rw [bA_size]; exact Try.sizeSt
      have OA : Hid ((bA 16 X).all (·.oneCell') = true) := bA_one _ _
      have TL : Hid ((bA 16 X).toList = bv 16 X) := bA_toList _ _
      have BS : Hid ((bA 16 X).size = 16) := bA_size _ _
      generalize bA 16 X = XA at *
      generalize prevB iv c i = Y at *
      clear hX hS hra hL LC LI LV
      go_wp2_with fail
      refine (SO.out _).mono ?_
      rintro e w1 ⟨rfl, hb1⟩
      have Z1 : Hid (Row8 (w1.alloc (.cells z16 39)) w1.heap.size 39 16 (fun _ => 0)) := Row8.z16At rfl _
      have hw1 : wr.heap.size ≤ w1.heap.size := hb1.size
      have hab1 := HR.out.lt
      have hgbr := (HO.out.lt gb rfl).2
      have U0 : UNC w Cb m w1.heap.size ab B0 W X Y (.slice (some ⟨gb, 0, none⟩) (16 * i) gc) (16 * i) (bv (16 * i) (cbcD W m iv c)) ((w1.alloc (.cells z16 39)).setCells w1.heap.size 0 (bv 16 X)) := by
        have X1 : OnlyB w1.heap.size (w1.alloc (.cells z16 39)) ((w1.alloc (.cells z16 39)).setCells w1.heap.size 0 (bv 16 X)) := onlyB_setCells _ _ _ (OnlyB.refl _ _)
        have Bz : Below wr.heap.size wr (w1.alloc (.cells z16 39)) := hb1.alloc hw1 _
        have Bx : Below wr.heap.size wr ((w1.alloc (.cells z16 39)).setCells w1.heap.size 0 (bv 16 X)) := Bz.trans (X1.toBelow hw1 (by simp; omega))
        exact ⟨Z1.out.stored _, HR.out.below Bx, CC.out.below Bx, ownsRow_below8 HO.out Bx, HB.out.trans (Bx.mono HB.out.size)⟩
      have hB01 : B0 ≤ ((w1.alloc (.cells z16 39)).setCells w1.heap.size 0 (bv 16 X)).heap.size := by
        have X1 : OnlyB w1.heap.size (w1.alloc (.cells z16 39)) ((w1.alloc (.cells z16 39)).setCells w1.heap.size 0 (bv 16 X)) := onlyB_setCells _ _ _ (OnlyB.refl _ _)
        have := X1.size
        simp at this
        omega
      have hB0bb : B0 ≤ w1.heap.size := Nat.le_trans hB0 hw1
      have HU0 : Hid (UNC w Cb m w1.heap.size ab B0 W X Y (.slice (some ⟨gb, 0, none⟩) (16 * i) gc) (16 * i) (bv (16 * i) (cbcD W m iv c)) ((w1.alloc (.cells z16 39)).setCells w1.heap.size 0 (bv 16 X))) := U0
      clear U0 hb1 HO HR CC HB SO hcv
      unfold z16 at Z1 HU0 hB01
      go_upto_region 7 with (refine wpList_store_mid rfl 39 (.tmp 10) (.tmp 25) rfl w1.heap.size 0 XA rfl rfl (by rw [BS.out]; exact Z1.out.there) SA.out OA.out ?_)
      rw [TL.out]
      generalize (w1.alloc (.cells #[.int .u8 0, .int .u8 0, .int .u8 0, .int .u8 0, .int .u8 0, .int .u8 0, .int .u8 0, .int .u8 0, .int .u8 0, .int .u8 0, .int .u8 0, .int .u8 0, .int .u8 0, .int .u8 0, .int .u8 0, .int .u8 0] 39)).setCells w1.heap.size 0 (bv 16 X) = w2 at *
      generalize hbb : w1.heap.size = bb at *
      clear SA OA TL BS Z1
      have H : UNC w Cb m bb ab B0 W X Y (.slice (some ⟨gb, 0, none⟩) (16 * i) gc) (16 * i) (bv (16 * i) (cbcD W m iv c)) w2.drew := HU0.out.drew
      generalize hOUT : bv (16 * i) (cbcD W m iv c) = OUT at *
      have HOUT : Hid (bv (16 * i) (cbcD W m iv c) = OUT) := hOUT
      clear hOUT
      dsimp only [Act.put]
      go_cut [11] (fun v wx => ∃ pb, v = .pointer (some ⟨pb, 0, none⟩) ∧ Row8 wx pb 39 16 (fun j => Gf.dec W m X j ^^^ Y j) ∧ bb < pb ∧ UNC w Cb m bb ab B0 W X Y (.slice (some ⟨gb, 0, none⟩) (16 * i) gc) (16 * i) OUT wx ∧ B0 ≤ wx.heap.size)
      case first =>
        have hbase : max B0 (bb + 1) ≤ w2.drew.heap.size := by have h1 := H.1.lt; have h2 : B0 ≤ w2.drew.heap.size := hB01; omega
        refine wp_region_noPanic ?_
        refine wp_region_held_drew (S := fun w' => UNC w Cb m bb ab B0 W X Y (.slice (some ⟨gb, 0, none⟩) (16 * i) gc) (16 * i) OUT w') (by kernel_rfl) H (fun _ => ?_)
        refine wpAnyH_take (i := 0) (v := .agg (bv 16 X).toArray) rfl (by kernel_rfl) (by kernel_rfl) (by kernel_rfl) (fun _ _ _ h => h) (yieldsIf_load_mid (by rfl) 39 (.tmp 10) rfl bb 0 rfl (bv 16 X) _ (fun w h => h.1.range) Try.underlying39 rfl (by rw [bv_length]; exact Try.sizeSt)) H ?_
        change wpAnyH _ _ _ _ _ _ _ { tmps := #[_, _, _, _, _, _, _, _, _, _, _, _, _, _, _, _, _, _, _, _, _, _, _, _, _, _, _, _, _, _, _, _, _, _, _, _], defers := [] } _
        refine wpAnyH_take (i := 2) (v := .agg (bv 16 Y).toArray) rfl (by kernel_rfl) (by kernel_rfl) (by kernel_rfl) (fun _ _ _ h => h) (yieldsIf_load_mid (by rfl) 39 (.tmp 4) rfl ab 0 rfl (bv 16 Y) _ (fun w h => h.2.1.range) Try.underlying39 rfl (by rw [bv_length]; exact Try.sizeSt)) H ?_
        change wpAnyH _ _ _ _ _ _ _ { tmps := #[_, _, _, _, _, _, _, _, _, _, _, _, _, _, _, _, _, _, _, _, _, _, _, _, _, _, _, _, _, _, _, _, _, _, _, _], defers := [] } _
        refine wpAnyH_ready (rs := [1, 4]) (by kernel_rfl) (by simp) ?_
        refine AllReadyH.cons rfl (fun KK hK => ?_) (AllReadyH.cons rfl (fun KK hK => ?_) AllReadyH.nil)
        · have HSb := hbase
          go_simp
          refine (DE.out _ H.2.2.1).mono ?_
          rintro e w3 ⟨rfl, hb3⟩
          replace H := UNC.below H hb3
          have hs3 := Nat.le_trans HSb hb3.size
          refine hK.out _ _ H (fun _ => ?_)
          clear hK KK hb3
          change wpAnyH _ _ _ _ _ _ _ { tmps := #[_, _, _, _, _, _, _, _, _, _, _, _, _, _, _, _, _, _, _, _, _, _, _, _, _, _, _, _, _, _, _, _, _, _, _, _], defers := [] } _
          refine wpAnyH_ready (rs := [3, 4]) (by kernel_rfl) (by simp) ?_
          refine AllReadyH.cons rfl (fun KK hK => ?_) (AllReadyH.cons rfl (fun KK hK => ?_) AllReadyH.nil)
          · go_simp
            refine (AD.out _).mono ?_
            rintro e w4 ⟨rfl, hb4⟩
            replace H := UNC.below H hb4
            have hs4 := Nat.le_trans hs3 hb4.size
            refine hK.out _ _ H (fun _ => ?_)
            clear hK KK hb4
            change wpAnyH _ _ _ _ _ _ _ { tmps := #[_, _, _, _, _, _, _, _, _, _, _, _, _, _, _, _, _, _, _, _, _, _, _, _, _, _, _, _, _, _, _, _, _, _, _, _], defers := [] } _
            refine wpAnyH_ready (rs := [4]) (by kernel_rfl) (by simp) ?_
            refine AllReadyH.cons rfl (fun KK hK => ?_) AllReadyH.nil
            go_simp
            have hgp : gb < w4.heap.size := (H.2.2.2.1.lt gb rfl).2
            have hpB : B0 ≤ w4.heap.size := by have h9 : max B0 (bb + 1) ≤ w4.heap.size := hs4; omega
            replace H : UNC w Cb m bb ab B0 W X Y (.slice (some ⟨gb, 0, none⟩) (16 * i) gc) (16 * i) OUT ((w4.alloc (.cells #[.int .u8 0, .int .u8 0, .int .u8 0, .int .u8 0, .int .u8 0, .int .u8 0, .int .u8 0, .int .u8 0, .int .u8 0, .int .u8 0, .int .u8 0, .int .u8 0, .int .u8 0, .int .u8 0, .int .u8 0, .int .u8 0] 39))) := UNC.below H ((Below.refl _ _).alloc (Nat.le_refl _) _)
            have HZ : Row8 ((w4.alloc (.cells #[.int .u8 0, .int .u8 0, .int .u8 0, .int .u8 0, .int .u8 0, .int .u8 0, .int .u8 0, .int .u8 0, .int .u8 0, .int .u8 0, .int .u8 0, .int .u8 0, .int .u8 0, .int .u8 0, .int .u8 0, .int .u8 0] 39))) w4.heap.size 39 16 (fun _ => 0) := Row8.z16At (w := w4) rfl _
            have hsA : w4.heap.size < ((w4.alloc (.cells #[.int .u8 0, .int .u8 0, .int .u8 0, .int .u8 0, .int .u8 0, .int .u8 0, .int .u8 0, .int .u8 0, .int .u8 0, .int .u8 0, .int .u8 0, .int .u8 0, .int .u8 0, .int .u8 0, .int .u8 0, .int .u8 0] 39))).heap.size := by simp
            have hbp : bb < w4.heap.size := by have h9 : max B0 (bb + 1) ≤ w4.heap.size := hs4; omega
            have hB0A : B0 ≤ ((w4.alloc (.cells #[.int .u8 0, .int .u8 0, .int .u8 0, .int .u8 0, .int .u8 0, .int .u8 0, .int .u8 0, .int .u8 0, .int .u8 0, .int .u8 0, .int .u8 0, .int .u8 0, .int .u8 0, .int .u8 0, .int .u8 0, .int .u8 0] 39))).heap.size := Nat.le_trans hpB (Nat.le_of_lt hsA)
            refine hK.out _ _ H (fun _ => ?_)
            clear hK KK
            change wpAnyH _ _ _ _ _ _ _ { tmps := #[_, _, _, _, _, _, _, _, _, _, _, _, _, _, _, _, _, _, _, _, _, _, _, _, _, _, _, _, _, _, _, _, _, _, _, _], defers := [] } _
            generalize (w4.alloc (.cells #[.int .u8 0, .int .u8 0, .int .u8 0, .int .u8 0, .int .u8 0, .int .u8 0, .int .u8 0, .int .u8 0, .int .u8 0, .int .u8 0, .int .u8 0, .int .u8 0, .int .u8 0, .int .u8 0, .int .u8 0, .int .u8 0] 39)) = wA at *
            generalize w4.heap.size = pb at *
            have hBw := hB0A
            refine wpAnyH_ready (rs := [5]) (by kernel_rfl) (by simp) ?_
            refine AllReadyH.cons rfl (fun KK hK => ?_) AllReadyH.nil
            rw [if_pos (by rfl)]
            refine wp_store_mid 39 (.tmp 11) (.tmp 29) rfl pb 0 (bA 16 (fun j => Gf.dec W m X j ^^^ Y j)) rfl rfl (by rw [bA_size]; exact HZ.there) (by rw [bA_size]; exact Try.sizeSt) (bA_one _ _) ?_
            rw [bA_toList]
            obtain ⟨H', HZ', hz'⟩ := unc_store H HZ hbp (by omega) (by omega) (by omega) (fun k hk => by simp [Value.ownBlock] at hk; omega) (fun j => Gf.dec W m X j ^^^ Y j)
            refine hK.out _ _ H' (fun _ => ?_)
            clear hK KK
            refine wpAnyH_done (by kernel_rfl) ?_ _
            refine NoPanic.normal ?_
            change Exit.then _ _ Exit.normal { tmps := #[_, _, _, _, _, _, _, _, _, _, _, _, _, _, _, _, _, _, _, _, _, _, _, _, _, _, _, _, _, _, _, _, _, _, _, _], defers := [] } _
            generalize (wA.setCells pb 0 (bv 16 (fun j => Gf.dec W m X j ^^^ Y j))) = wF at *
            generalize (bv 16 X).toArray = q1
            generalize (bv 16 Y).toArray = q2
            generalize bA 16 (Gf.dec W m X) = q3
            generalize bA 16 (fun j => Gf.dec W m X j ^^^ Y j) = q4
            go_wp2_with fail
            go_meet
            exact ⟨pb, rfl, HZ', hbp, H', Nat.le_trans hBw hz'⟩
          · go_simp
            have hgp : gb < w3.heap.size := (H.2.2.2.1.lt gb rfl).2
            have hpB : B0 ≤ w3.heap.size := by have h9 : max B0 (bb + 1) ≤ w3.heap.size := hs3; omega
            replace H : UNC w Cb m bb ab B0 W X Y (.slice (some ⟨gb, 0, none⟩) (16 * i) gc) (16 * i) OUT ((w3.alloc (.cells #[.int .u8 0, .int .u8 0, .int .u8 0, .int .u8 0, .int .u8 0, .int .u8 0, .int .u8 0, .int .u8 0, .int .u8 0, .int .u8 0, .int .u8 0, .int .u8 0, .int .u8 0, .int .u8 0, .int .u8 0, .int .u8 0] 39))) := UNC.below H ((Below.refl _ _).alloc (Nat.le_refl _) _)
            have HZ : Row8 ((w3.alloc (.cells #[.int .u8 0, .int .u8 0, .int .u8 0, .int .u8 0, .int .u8 0, .int .u8 0, .int .u8 0, .int .u8 0, .int .u8 0, .int .u8 0, .int .u8 0, .int .u8 0, .int .u8 0, .int .u8 0, .int .u8 0, .int .u8 0] 39))) w3.heap.size 39 16 (fun _ => 0) := Row8.z16At (w := w3) rfl _
            have hsA : w3.heap.size < ((w3.alloc (.cells #[.int .u8 0, .int .u8 0, .int .u8 0, .int .u8 0, .int .u8 0, .int .u8 0, .int .u8 0, .int .u8 0, .int .u8 0, .int .u8 0, .int .u8 0, .int .u8 0, .int .u8 0, .int .u8 0, .int .u8 0, .int .u8 0] 39))).heap.size := by simp
            have hbp : bb < w3.heap.size := by have h9 : max B0 (bb + 1) ≤ w3.heap.size := hs3; omega
            have hB0A : B0 ≤ ((w3.alloc (.cells #[.int .u8 0, .int .u8 0, .int .u8 0, .int .u8 0, .int .u8 0, .int .u8 0, .int .u8 0, .int .u8 0, .int .u8 0, .int .u8 0, .int .u8 0, .int .u8 0, .int .u8 0, .int .u8 0, .int .u8 0, .int .u8 0] 39))).heap.size := Nat.le_trans hpB (Nat.le_of_lt hsA)
            refine hK.out _ _ H (fun _ => ?_)
            clear hK KK
            change wpAnyH _ _ _ _ _ _ _ { tmps := #[_, _, _, _, _, _, _, _, _, _, _, _, _, _, _, _, _, _, _, _, _, _, _, _, _, _, _, _, _, _, _, _, _, _, _, _], defers := [] } _
            generalize (w3.alloc (.cells #[.int .u8 0, .int .u8 0, .int .u8 0, .int .u8 0, .int .u8 0, .int .u8 0, .int .u8 0, .int .u8 0, .int .u8 0, .int .u8 0, .int .u8 0, .int .u8 0, .int .u8 0, .int .u8 0, .int .u8 0, .int .u8 0] 39)) = wA at *
            generalize w3.heap.size = pb at *
            have hBw0 := hB0A
            refine wpAnyH_ready (rs := [3]) (by kernel_rfl) (by simp) ?_
            refine AllReadyH.cons rfl (fun KK hK => ?_) AllReadyH.nil
            go_simp
            refine (AD.out _).mono ?_
            rintro e w4 ⟨rfl, hb4⟩
            replace H := UNC.below H hb4
            replace HZ := Row8.below HZ hb4
            have hs4 := Nat.le_trans hBw0 hb4.size
            refine hK.out _ _ H (fun _ => ?_)
            clear hK KK hb4
            change wpAnyH _ _ _ _ _ _ _ { tmps := #[_, _, _, _, _, _, _, _, _, _, _, _, _, _, _, _, _, _, _, _, _, _, _, _, _, _, _, _, _, _, _, _, _, _, _, _], defers := [] } _
            have hBw := hs4
            refine wpAnyH_ready (rs := [5]) (by kernel_rfl) (by simp) ?_
            refine AllReadyH.cons rfl (fun KK hK => ?_) AllReadyH.nil
            rw [if_pos (by rfl)]
            refine wp_store_mid 39 (.tmp 11) (.tmp 29) rfl pb 0 (bA 16 (fun j => Gf.dec W m X j ^^^ Y j)) rfl rfl (by rw [bA_size]; exact HZ.there) (by rw [bA_size]; exact Try.sizeSt) (bA_one _ _) ?_
            rw [bA_toList]
            obtain ⟨H', HZ', hz'⟩ := unc_store H HZ hbp (by omega) (by omega) (by omega) (fun k hk => by simp [Value.ownBlock] at hk; omega) (fun j => Gf.dec W m X j ^^^ Y j)
            refine hK.out _ _ H' (fun _ => ?_)
            clear hK KK
            refine wpAnyH_done (by kernel_rfl) ?_ _
            refine NoPanic.normal ?_
            change Exit.then _ _ Exit.normal { tmps := #[_, _, _, _, _, _, _, _, _, _, _, _, _, _, _, _, _, _, _, _, _, _, _, _, _, _, _, _, _, _, _, _, _, _, _, _], defers := [] } _
            generalize (wA.setCells pb 0 (bv 16 (fun j => Gf.dec W m X j ^^^ Y j))) = wF at *
            generalize (bv 16 X).toArray = q1
            generalize (bv 16 Y).toArray = q2
            generalize bA 16 (Gf.dec W m X) = q3
            generalize bA 16 (fun j => Gf.dec W m X j ^^^ Y j) = q4
            go_wp2_with fail
            go_meet
            exact ⟨pb, rfl, HZ', hbp, H', Nat.le_trans hBw hz'⟩
        · have HSb := hbase
          go_simp
          have hgp : gb < w2.heap.size := (H.2.2.2.1.lt gb rfl).2
          have hpB : B0 ≤ w2.heap.size := by have h9 : max B0 (bb + 1) ≤ w2.heap.size := HSb; omega
          replace H : UNC w Cb m bb ab B0 W X Y (.slice (some ⟨gb, 0, none⟩) (16 * i) gc) (16 * i) OUT ((w2.alloc (.cells #[.int .u8 0, .int .u8 0, .int .u8 0, .int .u8 0, .int .u8 0, .int .u8 0, .int .u8 0, .int .u8 0, .int .u8 0, .int .u8 0, .int .u8 0, .int .u8 0, .int .u8 0, .int .u8 0, .int .u8 0, .int .u8 0] 39)).drew) := UNC.below H ((Below.refl _ _).alloc (Nat.le_refl _) _)
          have HZ : Row8 ((w2.alloc (.cells #[.int .u8 0, .int .u8 0, .int .u8 0, .int .u8 0, .int .u8 0, .int .u8 0, .int .u8 0, .int .u8 0, .int .u8 0, .int .u8 0, .int .u8 0, .int .u8 0, .int .u8 0, .int .u8 0, .int .u8 0, .int .u8 0] 39)).drew) w2.heap.size 39 16 (fun _ => 0) := Row8.z16At (w := w2) rfl _
          have hsA : w2.heap.size < ((w2.alloc (.cells #[.int .u8 0, .int .u8 0, .int .u8 0, .int .u8 0, .int .u8 0, .int .u8 0, .int .u8 0, .int .u8 0, .int .u8 0, .int .u8 0, .int .u8 0, .int .u8 0, .int .u8 0, .int .u8 0, .int .u8 0, .int .u8 0] 39)).drew).heap.size := by simp
          have hbp : bb < w2.heap.size := by have h9 : max B0 (bb + 1) ≤ w2.heap.size := HSb; omega
          have hB0A : B0 ≤ ((w2.alloc (.cells #[.int .u8 0, .int .u8 0, .int .u8 0, .int .u8 0, .int .u8 0, .int .u8 0, .int .u8 0, .int .u8 0, .int .u8 0, .int .u8 0, .int .u8 0, .int .u8 0, .int .u8 0, .int .u8 0, .int .u8 0, .int .u8 0] 39)).drew).heap.size := Nat.le_trans hpB (Nat.le_of_lt hsA)
          refine hK.out _ _ H (fun _ => ?_)
          clear hK KK
          change wpAnyH _ _ _ _ _ _ _ { tmps := #[_, _, _, _, _, _, _, _, _, _, _, _, _, _, _, _, _, _, _, _, _, _, _, _, _, _, _, _, _, _, _, _, _, _, _, _], defers := [] } _
          generalize (w2.alloc (.cells #[.int .u8 0, .int .u8 0, .int .u8 0, .int .u8 0, .int .u8 0, .int .u8 0, .int .u8 0, .int .u8 0, .int .u8 0, .int .u8 0, .int .u8 0, .int .u8 0, .int .u8 0, .int .u8 0, .int .u8 0, .int .u8 0] 39)).drew = wA at *
          generalize w2.heap.size = pb at *
          have hBw0 := hB0A
          refine wpAnyH_ready (rs := [1]) (by kernel_rfl) (by simp) ?_
          refine AllReadyH.cons rfl (fun KK hK => ?_) AllReadyH.nil
          go_simp
          refine (DE.out _ H.2.2.1).mono ?_
          rintro e w3 ⟨rfl, hb3⟩
          replace H := UNC.below H hb3
          replace HZ := Row8.below HZ hb3
          have hs3 := Nat.le_trans hBw0 hb3.size
          refine hK.out _ _ H (fun _ => ?_)
          clear hK KK hb3
          change wpAnyH _ _ _ _ _ _ _ { tmps := #[_, _, _, _, _, _, _, _, _, _, _, _, _, _, _, _, _, _, _, _, _, _, _, _, _, _, _, _, _, _, _, _, _, _, _, _], defers := [] } _
          refine wpAnyH_ready (rs := [3]) (by kernel_rfl) (by simp) ?_
          refine AllReadyH.cons rfl (fun KK hK => ?_) AllReadyH.nil
          go_simp
          refine (AD.out _).mono ?_
          rintro e w4 ⟨rfl, hb4⟩
          replace H := UNC.below H hb4
          replace HZ := Row8.below HZ hb4
          have hs4 := Nat.le_trans hs3 hb4.size
          refine hK.out _ _ H (fun _ => ?_)
          clear hK KK hb4
          change wpAnyH _ _ _ _ _ _ _ { tmps := #[_, _, _, _, _, _, _, _, _, _, _, _, _, _, _, _, _, _, _, _, _, _, _, _, _, _, _, _, _, _, _, _, _, _, _, _], defers := [] } _
          have hBw := hs4
          refine wpAnyH_ready (rs := [5]) (by kernel_rfl) (by simp) ?_
          refine AllReadyH.cons rfl (fun KK hK => ?_) AllReadyH.nil
          rw [if_pos (by rfl)]
          refine wp_store_mid 39 (.tmp 11) (.tmp 29) rfl pb 0 (bA 16 (fun j => Gf.dec W m X j ^^^ Y j)) rfl rfl (by rw [bA_size]; exact HZ.there) (by rw [bA_size]; exact Try.sizeSt) (bA_one _ _) ?_
          rw [bA_toList]
          obtain ⟨H', HZ', hz'⟩ := unc_store H HZ hbp (by omega) (by omega) (by omega) (fun k hk => by simp [Value.ownBlock] at hk; omega) (fun j => Gf.dec W m X j ^^^ Y j)
          refine hK.out _ _ H' (fun _ => ?_)
          clear hK KK
          refine wpAnyH_done (by kernel_rfl) ?_ _
          refine NoPanic.normal ?_
          change Exit.then _ _ Exit.normal { tmps := #[_, _, _, _, _, _, _, _, _, _, _, _, _, _, _, _, _, _, _, _, _, _, _, _, _, _, _, _, _, _, _, _, _, _, _, _], defers := [] } _
          generalize (wA.setCells pb 0 (bv 16 (fun j => Gf.dec W m X j ^^^ Y j))) = wF at *
          generalize (bv 16 X).toArray = q1
          generalize (bv 16 Y).toArray = q2
          generalize bA 16 (Gf.dec W m X) = q3
          generalize bA 16 (fun j => Gf.dec W m X j ^^^ Y j) = q4
          go_wp2_with fail
          go_meet
          exact ⟨pb, rfl, HZ', hbp, H', Nat.le_trans hBw hz'⟩
      case rest =>
        obtain ⟨pb, rfl, hrow, hbp, hU, hB07⟩ := hcut
        clear H HU0 hB01 DE AD
        obtain ⟨hX7, hY7, hC7, hO7, hB7⟩ := hU
        have HX7 : Hid (Row8 wc bb 39 16 X) := hX7
        have HY7 : Hid (Row8 wc ab 39 16 Y) := hY7
        have CC7 : Hid (CiphAt wc Cb m W) := hC7
        have HO7 : Hid (wc.ownsRow B0 5 1 (.slice (some ⟨gb, 0, none⟩) (16 * i) gc) (16 * i) OUT) := hO7
        have HB7 : Hid (Below w.heap.size w wc) := hB7
        have HP7 : Hid (Row8 wc pb 39 16 (fun j => Gf.dec W m X j ^^^ Y j)) := hrow
        have HNW : Hid (Code8 wc (some ⟨pb, 0, none⟩) 16 (fun j => Gf.dec W m X j ^^^ Y j)) := code8_of (fun j hj => by rw [Nat.zero_add]; exact World.rowIs.cell hrow hj)
        have hgb7 := hO7.lt gb rfl
        have hbbB : B0 ≤ bb := hB0bb
        clear hX7 hY7 hC7 hO7 hB7 hrow
        go_upto_region 9 with (at_builtin; refine wpList_append_own _ rfl _ _ 22 rfl B0 5 i0 (.int .u8 0) 1 1 Try.underlying22 HI.out.1 HI.out.2.1 HI.out.2.2.1 HI.out.2.2.2 rfl (by decide) (.slice (some ⟨gb, 0, none⟩) (16 * i) gc) (16 * i) OUT rfl HO7.out ⟨pb, 0, none⟩ 16 16 (bv 16 (fun j => Gf.dec W m X j ^^^ Y j)) rfl (by rw [bv_length]) (bv_news HNW.out) (bv_one _ _) (by unfold maxLen; omega) (by omega) hB07 ?_)
        intro v8 w8 hown8 hgrow8 hnil8
        have X8 : OnlyB gb wc w8 := ⟨hgrow8.os, hgrow8.tape, hgrow8.output, hgrow8.size, fun k hk hn => hgrow8.block k hk (by simp [Value.ownBlock]; exact hn)⟩
        have hgbb : gb < bb := Nat.lt_of_lt_of_le hgbr hw1
        have HX8 : Hid (Row8 w8 bb 39 16 X) := HX7.out.onlyB X8 (by omega)
        have HY8 : Hid (Row8 w8 ab 39 16 Y) := HY7.out.onlyB X8 (by omega)
        have CC8 : Hid (CiphAt w8 Cb m W) := CC7.out.onlyBe X8 (by omega)
        have HB8 : Hid (Below w.heap.size w w8) := HB7.out.trans (X8.toBelow (by omega) HB7.out.size)
        have hB8 : B0 ≤ w8.heap.size := Nat.le_trans hB07 X8.size
        have hown8' : w8.ownsRow B0 5 1 v8 (16 * (i + 1)) (bv (16 * (i + 1)) (cbcD W m iv c)) := by
          have e : OUT ++ bv 16 (fun j => Gf.dec W m X j ^^^ Y j) = bv (16 * (i + 1)) (cbcD W m iv c) := by
            rw [← HOUT.out, bv_append, Nat.mul_add]
            refine bv_congr (fun x hx => ?_)
            by_cases e : x < 16 * i
            · rw [if_pos e]
            · rw [if_neg e]
              have := HPl.out (x - 16 * i) (by omega)
              rwa [show 16 * i + (x - 16 * i) = x from by omega] at this
          rw [← e, Nat.mul_add]; exact hown8
        obtain ⟨gb8, gc8, ⟨hgb8, hgc8⟩, rfl, -⟩ := own8_of_own (n := 16 * (i + 1)) hown8' hnil8
        have X9 : OnlyB ab w8.drew (w8.drew.setCells ab 0 (bv 16 X)) := onlyB_setCells _ _ _ (OnlyB.refl _ _)
        have HX9 : Row8 w8.drew bb 39 16 X := HX8.out
        have HY9 : Row8 w8.drew ab 39 16 Y := HY8.out
        have HX10 : Row8 (w8.drew.setCells ab 0 (bv 16 X)) bb 39 16 X := HX9.onlyB X9 (by omega)
        have HY10 : Hid (Row8 (w8.drew.setCells ab 0 (bv 16 X)) ab 39 16 X) := HY9.stored _
        have CC9 : Hid (CiphAt (w8.drew.setCells ab 0 (bv 16 X)) Cb m W) := CiphAt.onlyBe (w := w8.drew) CC8.out X9 hCa
        have HO9 : Hid ((w8.drew.setCells ab 0 (bv 16 X)).ownsRow B0 5 1 (.slice (some ⟨gb8, 0, none⟩) (16 * (i + 1)) gc8) (16 * (i + 1)) (bv (16 * (i + 1)) (cbcD W m iv c))) := ownsRow_ne (w := w8.drew) hown8' X9 (fun k hk => by simp [Value.ownBlock] at hk; omega)
        have HB9 : Hid (Below w.heap.size w (w8.drew.setCells ab 0 (bv 16 X))) := HB8.out.drew.trans (X9.toBelow hwa HB8.out.drew.size)
        have hB9 : B0 ≤ (w8.drew.setCells ab 0 (bv 16 X)).heap.size := Nat.le_trans hB8 X9.size
        clear hown8 hown8' hgrow8 hnil8 X8 X9 HX7 HY7 CC7 HO7 HB7 HP7 HNW HOUT HPl
        by_cases hc16 : cr = 16
        · have hL16 : L - 16 = 0 := by omega
          go_upto_region 9 with fail
          refine wp_region_noPanic ?_
          refine wp_region_held_drew (S := fun w' => Row8 w' bb 39 16 X) (by kernel_rfl) HX9 (fun _ => ?_)
          refine wpAnyH_take (i := 0) (v := .agg (bv 16 X).toArray) rfl (by kernel_rfl) (by kernel_rfl) (by kernel_rfl) (fun _ _ _ h => h) (yieldsIf_load_mid (by rfl) 39 (.tmp 10) rfl bb 0 rfl (bv 16 X) _ (fun w h => h.range) Try.underlying39 rfl (by rw [bv_length]; exact Try.sizeSt)) HX9 ?_
          change wpAnyH _ _ _ _ _ _ _ { tmps := #[_, _, _, _, _, _, _, _, _, _, _, _, _, _, _, _, _, _, _, _, _, _, _, _, _, _, _, _, _, _, _, _, _, _, _, _], defers := [] } _
          refine wpAnyH_take (i := 1) (v := .slice (some ⟨b, o + 16 * i, none⟩) L cr) rfl (by kernel_rfl) (by kernel_rfl) (by kernel_rfl) (fun _ _ _ h => h) (Or.inl ⟨by rfl, ?_⟩) HX9 ?_
          · intro w hSw; go_simp
          change wpAnyH _ _ _ _ _ _ _ { tmps := #[_, _, _, _, _, _, _, _, _, _, _, _, _, _, _, _, _, _, _, _, _, _, _, _, _, _, _, _, _, _, _, _, _, _, _, _], defers := [] } _
          refine wpAnyH_take (i := 2) (v := .slice (some ⟨b, o + 16 * i, none⟩) (L - 16) (cr - 16)) rfl (by kernel_rfl) (by kernel_rfl) (by kernel_rfl) (fun _ _ _ h => h) (Or.inl ⟨by rfl, ?_⟩) HX9 ?_
          · intro w hSw; go_simp
          change wpAnyH _ _ _ _ _ _ _ { tmps := #[_, _, _, _, _, _, _, _, _, _, _, _, _, _, _, _, _, _, _, _, _, _, _, _, _, _, _, _, _, _, _, _, _, _, _, _], defers := [] } _
          refine wpAnyH_ready (rs := [3]) (by kernel_rfl) (by simp) ?_
          refine AllReadyH.cons rfl (fun KK hK => ?_) AllReadyH.nil
          rw [if_pos (by rfl)]
          refine wp_store_mid 39 (.tmp 4) (.tmp 33) rfl ab 0 (bA 16 X) rfl rfl (by rw [bA_size]; exact HY9.there) (by rw [bA_size]; exact Try.sizeSt) (bA_one _ _) ?_
          rw [bA_toList]
          refine hK.out _ _ HX10 (fun _ => ?_)
          clear hK KK
          change wpAnyH _ _ _ _ _ _ _ { tmps := #[_, _, _, _, _, _, _, _, _, _, _, _, _, _, _, _, _, _, _, _, _, _, _, _, _, _, _, _, _, _, _, _, _, _, _, _], defers := [] } _
          refine wpAnyH_ready (rs := [4]) (by kernel_rfl) (by simp) ?_
          refine AllReadyH.cons rfl (fun KK hK => ?_) AllReadyH.nil
          go_simp
          refine hK.out _ _ HX10 (fun _ => ?_)
          clear hK KK
          refine wpAnyH_done (by kernel_rfl) ?_ _
          refine NoPanic.normal ?_
          change Exit.then _ _ Exit.normal { tmps := #[_, _, _, _, _, _, _, _, _, _, _, _, _, _, _, _, _, _, _, _, _, _, _, _, _, _, _, _, _, _, _, _, _, _, _, _], defers := [] } _
          generalize w8.drew.setCells ab 0 (bv 16 X) = w9 at *
          generalize (bv 16 X).toArray = q1
          go_wp2_with fail
          go_step3
          refine ⟨rfl, ⟨Cb, ab, B0, ⟨hCB, haB, hwa, hwC, hCa⟩, i + 1, gb8, gc8, _, _, _, _, _, _, _, _, _, _, _, _, _, _, _, _, _, _, _, _, _, _, _, _, _, _, _, _, _, _, _, _, _, _, _, rfl, by have := HL.out; omega, by omega, ?_, by omega, HO9.out, ?_, CC9.out, HB9.out, hB9⟩, ?_⟩
          · intro h9; have := HL.out; omega
          · rw [HPv.out]; exact HY10.out
          · show _ < L; simp [lenOf]; omega
        · go_upto_region 9 with fail
          refine wp_region_noPanic ?_
          refine wp_region_held_drew (S := fun w' => Row8 w' bb 39 16 X) (by kernel_rfl) HX9 (fun _ => ?_)
          refine wpAnyH_take (i := 0) (v := .agg (bv 16 X).toArray) rfl (by kernel_rfl) (by kernel_rfl) (by kernel_rfl) (fun _ _ _ h => h) (yieldsIf_load_mid (by rfl) 39 (.tmp 10) rfl bb 0 rfl (bv 16 X) _ (fun w h => h.range) Try.underlying39 rfl (by rw [bv_length]; exact Try.sizeSt)) HX9 ?_
          change wpAnyH _ _ _ _ _ _ _ { tmps := #[_, _, _, _, _, _, _, _, _, _, _, _, _, _, _, _, _, _, _, _, _, _, _, _, _, _, _, _, _, _, _, _, _, _, _, _], defers := [] } _
          refine wpAnyH_take (i := 1) (v := .slice (some ⟨b, o + 16 * i, none⟩) L cr) rfl (by kernel_rfl) (by kernel_rfl) (by kernel_rfl) (fun _ _ _ h => h) (Or.inl ⟨by rfl, ?_⟩) HX9 ?_
          · intro w hSw; go_simp
          change wpAnyH _ _ _ _ _ _ _ { tmps := #[_, _, _, _, _, _, _, _, _, _, _, _, _, _, _, _, _, _, _, _, _, _, _, _, _, _, _, _, _, _, _, _, _, _, _, _], defers := [] } _
          refine wpAnyH_take (i := 2) (v := .slice (some ⟨b, o + 16 * i + 16, none⟩) (L - 16) (cr - 16)) rfl (by kernel_rfl) (by kernel_rfl) (by kernel_rfl) (fun _ _ _ h => h) (Or.inl ⟨by rfl, ?_⟩) HX9 ?_
          · intro w hSw; go_simp
          change wpAnyH _ _ _ _ _ _ _ { tmps := #[_, _, _, _, _, _, _, _, _, _, _, _, _, _, _, _, _, _, _, _, _, _, _, _, _, _, _, _, _, _, _, _, _, _, _, _], defers := [] } _
          refine wpAnyH_ready (rs := [3]) (by kernel_rfl) (by simp) ?_
          refine AllReadyH.cons rfl (fun KK hK => ?_) AllReadyH.nil
          rw [if_pos (by rfl)]
          refine wp_store_mid 39 (.tmp 4) (.tmp 33) rfl ab 0 (bA 16 X) rfl rfl (by rw [bA_size]; exact HY9.there) (by rw [bA_size]; exact Try.sizeSt) (bA_one _ _) ?_
          rw [bA_toList]
          refine hK.out _ _ HX10 (fun _ => ?_)
          clear hK KK
          change wpAnyH _ _ _ _ _ _ _ { tmps := #[_, _, _, _, _, _, _, _, _, _, _, _, _, _, _, _, _, _, _, _, _, _, _, _, _, _, _, _, _, _, _, _, _, _, _, _], defers := [] } _
          refine wpAnyH_ready (rs := [4]) (by kernel_rfl) (by simp) ?_
          refine AllReadyH.cons rfl (fun KK hK => ?_) AllReadyH.nil
          go_simp
          refine hK.out _ _ HX10 (fun _ => ?_)
          clear hK KK
          refine wpAnyH_done (by kernel_rfl) ?_ _
          refine NoPanic.normal ?_
          change Exit.then _ _ Exit.normal { tmps := #[_, _, _, _, _, _, _, _, _, _, _, _, _, _, _, _, _, _, _, _, _, _, _, _, _, _, _, _, _, _, _, _, _, _, _, _], defers := [] } _
          generalize w8.drew.setCells ab 0 (bv 16 X) = w9 at *
          generalize (bv 16 X).toArray = q1
          go_wp2_with fail
          go_step3
          refine ⟨rfl, ⟨Cb, ab, B0, ⟨hCB, haB, hwa, hwC, hCa⟩, i + 1, gb8, gc8, _, _, _, _, _, _, _, _, _, _, _, _, _, _, _, _, _, _, _, _, _, _, _, _, _, _, _, _, _, _, _, _, _, _, _, rfl, by have := HL.out; omega, by omega, ?_, by omega, HO9.out, ?_, CC9.out, HB9.out, hB9⟩, ?_⟩
          · intro _; rw [Nat.mul_add, Nat.add_assoc]
          · rw [HPv.out]; exact HY10.out
          · show _ < L; simp [lenOf]; omega
    · obtain rfl : L = 0 := by omega
      have en : 16 * i = n := by omega
      obtain ⟨gb8, gc8, ⟨hgb8, hgc8⟩, e8, ho8⟩ := own8_of_own (n := 16 * i) HO.out (by intro e; cases e)
      cases e8
      have HO2 : Hid (Own8 wr gb n (cbcD W m iv c)) := by show Own8 wr gb n _; rw [← en]; exact ho8
      have HGC : Hid (n ≤ gc) := by show n ≤ gc; omega
      have hgw : w.heap.size ≤ gb := by omega
      have EN : Hid (16 * i = n) := en
      clear HO HR CC hra hL LI LC LV ho8 en hgc8
      go_wp2
      rw [jump_ret]
      refine bodyPost_ret (v := .slice (some ⟨gb, 0, none⟩) n gc) ?_ rfl ⟨⟨gb, gc, ⟨hgw, HGC.out⟩, rfl, HO2.out⟩, HB.out⟩
      rw [← EN.out]
      exact results_tmp Try.results35 _ _ _
  · intro hp
    have Z1 : Hid (Row8 (w.alloc (.cells (bA 16 iv) 39)) w.heap.size 39 16 iv) := Row8.boxedAt rfl _ _ _
    have Bz : Hid (Below w.heap.size w (w.alloc (.cells (bA 16 iv) 39))) := (Below.refl _ _).alloc (Nat.le_refl _) _
    have hsz0 : (w.alloc (.cells (bA 16 iv) 39)).heap.size = w.heap.size + 1 := by simp
    go_upto_region 1 with fail
    generalize w.alloc (.cells (bA 16 iv) 39) = w0 at *
    generalize bA 16 iv = IA at *
    go_upto_region 2 with (first
      | (go_at_call 25; refine (NC.out _).mono ?_; rintro e w1 ⟨rfl, hb⟩)
      | (refine wpList_store_mid rfl 44 (.tmp 7) (.tmp 13) rfl _ 0 CA rfl rfl ?_ S2.out O2.out ?_))
    · rw [HSZ.out]; exact there_big w1 Z _ hZ
    · have R1 : ((w1.alloc (.cells Z 44)).setCells w1.heap.size 0 CA.toList).rangeAt w1.heap.size 0 CA.toList := World.rangeAt_setCells_same _ _ _ _ (by rw [hLen]; exact there_big w1 Z _ hZ)
      have CC : Hid (CiphAt ((w1.alloc (.cells Z 44)).setCells w1.heap.size 0 CA.toList) w1.heap.size m W) := fun k hk => by
        have := R1 k _ (hAt.out k hk)
        rwa [Nat.zero_add] at this
      have hsz := hb.size
      have B01 : Below w0.heap.size w0 ((w1.alloc (.cells Z 44)).setCells w1.heap.size 0 CA.toList) := below_setCells hsz _ _ _ (hb.alloc hsz _)
      have B1 : Hid (Below w.heap.size w ((w1.alloc (.cells Z 44)).setCells w1.heap.size 0 CA.toList)) := Bz.out.trans (B01.mono Bz.out.size)
      have HR1 : Hid (Row8 ((w1.alloc (.cells Z 44)).setCells w1.heap.size 0 CA.toList) w.heap.size 39 16 iv) := Z1.out.below B01
      rw [hsz0] at hsz
      clear R1 hb NC S2 O2 hLen hAt HSZ z0 hZ HC B01 Z1 Bz hsz0
      generalize (w1.alloc (.cells Z 44)).setCells w1.heap.size 0 CA.toList = wz at *
      generalize w1.heap.size = Cb at *
      obtain ⟨wm, hmk, hom, hbm⟩ := mkRoom n (by omega) wz
      have HOm : Hid (wm.ownsRow wz.heap.size 5 1 (.slice (some ⟨wz.heap.size, 0, none⟩) 0 n) 0 []) := hom
      have CCm : Hid (CiphAt wm Cb m W) := CC.out.below hbm
      have HRm : Hid (Row8 wm w.heap.size 39 16 iv) := HR1.out.below hbm
      have HBm : Hid (Below w.heap.size w wm) := B1.out.trans (hbm.mono B1.out.size)
      have hsm := hbm.size
      have hCz := CC.out.lt
      have haz := HR1.out.lt
      clear hom hbm CC HR1 B1
      go_upto_region 3 with fail
      clear hmk
      generalize wz.heap.size = B0 at *
      go_wp2_with fail
      go_step3
      rename_i hKx
      refine hKx _ _ (hp _ _ ⟨Cb, w.heap.size, B0, ⟨hCz, haz, Nat.le_refl _, by omega, by omega⟩, 0, B0, n, _, _, cp, _, _, _, _, _, _, _, _, _, _, _, _, _, _, _, _, _, _, _, _, _, _, _, _, _, _, _, _, _, _, _, _, rfl, by omega, by omega, fun _ => rfl, by omega, HOm.out, HRm.out.congr (fun j _ => rfl), CCm.out, HBm.out, hsm⟩)
end Go.Proofs.Ytbhlgcenfanicaa

/-
  The contract of impl.CbcDecrypt.
-/
namespace Go.Proofs.Ytbhlgcenfanicaa
open Go.ChangeShapes Go.WideShapes Go.ChangeAt Go.RowKit
theorem implDcb_no (k s : ByteArray) (a : Option Addr) (n c : Nat) (code : Int) (hc : code ≠ 0) (hf : ∀ w : World, Calls Try.prog 24 #[.string k, .string s, .int .i64 16, .int .i64 (n : Int), .int .i64 65536] w fun e w' => e = .returned (.int .i64 code) ∧ w = w') (w : World) :
    Calls Try.prog 13 #[.string k, .string s, .slice a n c] w fun e w' => e = .returned (.tuple #[.slice none 0 0, .int .i64 code]) ∧ w = w' := by
  have HF : Hid (∀ w : World, Calls Try.prog 24 #[.string k, .string s, .int .i64 16, .int .i64 (n : Int), .int .i64 65536] w fun e w' => e = .returned (.int .i64 code) ∧ w = w') := hf
  have e1 : (code != 0) = true := by rw [bne_iff_ne]; exact hc
  clear hf
  go_enter Try.func13, Try.ntmps13
  go_wp2_with (go_at_call 24; refine (HF.out _).mono ?_; rintro e w' ⟨rfl, rfl⟩)
  go_ret2
  exact ⟨rfl, rfl⟩
theorem implDcb_part (k s : ByteArray) (a : Option Addr) (n c : Nat) (hk : k.size = 16 ∨ k.size = 32) (hs : s.size = 16) (hn : n ≤ 65536) (h16 : n % 16 ≠ 0) (w : World) :
    Calls Try.prog 13 #[.string k, .string s, .slice a n c] w fun e w' => e = .returned (.tuple #[.slice none 0 0, .int .i64 3]) ∧ w = w' := by
  have HF : Hid (∀ w : World, Calls Try.prog 24 #[.string k, .string s, .int .i64 16, .int .i64 (n : Int), .int .i64 65536] w fun e w' => e = .returned (.int .i64 0) ∧ w = w') := mf_ok k s 16 n 65536 (by omega) hk (by omega) (by omega)
  have e1 : ((n : Int) % 16 != 0) = true := by rw [bne_iff_ne]; omega
  clear hk hs
  go_enter Try.func13, Try.ntmps13
  go_wp2_with (go_at_call 24; refine (HF.out _).mono ?_; rintro e w' ⟨rfl, rfl⟩)
  go_ret2
  exact ⟨rfl, rfl⟩
set_option maxRecDepth 100000 in
set_option maxHeartbeats 2000000 in
theorem implDcb_form (k s : ByteArray) (kn b o n cp : Nat) (c : Nat → Nat) (hkn : kn = 4 ∨ kn = 8) (hk : k.size = kn * 4) (hs : s.size = 16) (hn : n ≤ 65536) (h16 : n % 16 = 0) (hncp : n ≤ cp) (hc : ∀ i, c i < 256) (hu : ¬ UnOK n (cbcD (Gf.ws (strB k) kn (3 * kn + 28)) (kn + 6) (strB s) c)) (w : World) (h : Code8 w (some ⟨b, o, none⟩) n c) :
    Calls Try.prog 13 #[.string k, .string s, .slice (some ⟨b, o, none⟩) n cp] w fun e w' => e = .returned (.tuple #[.slice none 0 0, .int .i64 3]) ∧ Below w.heap.size w w' := by
  have HF : Hid (∀ w : World, Calls Try.prog 24 #[.string k, .string s, .int .i64 16, .int .i64 (n : Int), .int .i64 65536] w fun e w' => e = .returned (.int .i64 0) ∧ w = w') := mf_ok k s 16 n 65536 (by omega) (by omega) (by omega) (by omega)
  have SO : Hid (∀ w : World, Calls Try.prog 33 #[.string s] w fun e w' => e = .returned (.agg (bA 16 (strB s))) ∧ Below w.heap.size w w') := stateOf_le s (by omega)
  have UN : Hid (∀ w : World, Code8 w (some ⟨b, o, none⟩) n c → Calls Try.prog 35 #[.string k, .agg (bA 16 (strB s)), .slice (some ⟨b, o, none⟩) n cp] w fun e w' => RetB w w' e n (cbcD (Gf.ws (strB k) kn (3 * kn + 28)) (kn + 6) (strB s) c) ∧ Below w.heap.size w w') := fun w h => unchained_any k kn b o n cp (strB s) c hkn hk hn h16 hncp (strB_lt s) hc w h
  have lD : ∀ x, cbcD (Gf.ws (strB k) kn (3 * kn + 28)) (kn + 6) (strB s) c x < 256 := cbcD_lt (Gf.ws_lt (strB_lt k) _) (strB_lt s) hc
  generalize cbcD (Gf.ws (strB k) kn (3 * kn + 28)) (kn + 6) (strB s) c = D at *
  generalize bA 16 (strB s) = SA at *
  have US : Hid (∀ (g gc : Nat) (w : World), n ≤ gc → Code8 w (some ⟨g, 0, none⟩) n D → Calls Try.prog 36 #[.slice (some ⟨g, 0, none⟩) n gc] w fun e w' => e = .returned (.tuple #[.int .i64 0, .int .i64 3]) ∧ w = w') := fun g gc w hg h => unsz_any _ n gc D lD hn hg w h 0 3 (.inr ⟨hu, rfl, rfl⟩)
  have e1 : ((n : Int) % 16 != 0) = false := by rw [bne_eq_false_iff_eq]; omega
  have HC : Hid (Code8 w (some ⟨b, o, none⟩) n c) := h
  clear h hc hkn hk hs lD hu
  go_enter Try.func13, Try.ntmps13
  go_wp2_with (go_at_call 24; refine (HF.out _).mono ?_; rintro e w' ⟨rfl, rfl⟩)
  refine (SO.out _).mono ?_
  rintro e w1 ⟨rfl, hb1⟩
  have HB1 : Hid (Below w.heap.size w w1) := hb1
  have HC1 : Hid (Code8 w1 (some ⟨b, o, none⟩) n c) := HC.out.below hb1
  clear hb1 HC SO
  go_wp2_with fail
  refine (UN.out _ HC1.out).mono ?_
  rintro e w2 ⟨⟨g, gc, ⟨hg, hgc⟩, rfl, ho⟩, hb2⟩
  have HB2 : Hid (Below w.heap.size w w2) := HB1.out.trans (hb2.mono HB1.out.size)
  have HO2 : Hid (Own8 w2 g n D) := ho
  clear ho hb2 HB1 HC1 UN
  go_wp2_with fail
  refine (US.out _ _ _ hgc HO2.out.code).mono ?_
  rintro e w3 ⟨rfl, rfl⟩
  go_wp2
  go_ret2
  exact ⟨rfl, HB2.out⟩
set_option maxRecDepth 100000 in
set_option maxHeartbeats 2000000 in
theorem implDcb_yes (k s : ByteArray) (kn b o n cp : Nat) (c : Nat → Nat) (hkn : kn = 4 ∨ kn = 8) (hk : k.size = kn * 4) (hs : s.size = 16) (hn : n ≤ 65536) (h16 : n % 16 = 0) (hncp : n ≤ cp) (hc : ∀ i, c i < 256) (D : Nat → Nat) (hD : D = cbcD (Gf.ws (strB k) kn (3 * kn + 28)) (kn + 6) (strB s) c) (hu : UnOK n D) (w : World) (h : Code8 w (some ⟨b, o, none⟩) n c) :
    Calls Try.prog 13 #[.string k, .string s, .slice (some ⟨b, o, none⟩) n cp] w fun e w' => RetB2 w w' e (n - D (n - 1)) D (.int .i64 0) ∧ Below w.heap.size w w' := by
  have HF : Hid (∀ w : World, Calls Try.prog 24 #[.string k, .string s, .int .i64 16, .int .i64 (n : Int), .int .i64 65536] w fun e w' => e = .returned (.int .i64 0) ∧ w = w') := mf_ok k s 16 n 65536 (by omega) (by omega) (by omega) (by omega)
  have SO : Hid (∀ w : World, Calls Try.prog 33 #[.string s] w fun e w' => e = .returned (.agg (bA 16 (strB s))) ∧ Below w.heap.size w w') := stateOf_le s (by omega)
  have lD : ∀ x, D x < 256 := fun x => by rw [hD]; exact cbcD_lt (Gf.ws_lt (strB_lt k) _) (strB_lt s) hc x
  have UN : Hid (∀ w : World, Code8 w (some ⟨b, o, none⟩) n c → Calls Try.prog 35 #[.string k, .agg (bA 16 (strB s)), .slice (some ⟨b, o, none⟩) n cp] w fun e w' => RetB w w' e n D ∧ Below w.heap.size w w') := fun w h => by rw [hD]; exact unchained_any k kn b o n cp (strB s) c hkn hk hn h16 hncp (strB_lt s) hc w h
  generalize bA 16 (strB s) = SA at *
  have US : Hid (∀ (g gc : Nat) (w : World), n ≤ gc → Code8 w (some ⟨g, 0, none⟩) n D → Calls Try.prog 36 #[.slice (some ⟨g, 0, none⟩) n gc] w fun e w' => e = .returned (.tuple #[.int .i64 ((n - D (n - 1) : Nat) : Int), .int .i64 0]) ∧ w = w') := fun g gc w hg h => unsz_any _ n gc D lD hn hg w h _ 0 (.inl ⟨hu, rfl, rfl⟩)
  have e1 : ((n : Int) % 16 != 0) = false := by rw [bne_eq_false_iff_eq]; omega
  have HC : Hid (Code8 w (some ⟨b, o, none⟩) n c) := h
  have hq : n - D (n - 1) ≤ n := Nat.sub_le _ _
  generalize n - D (n - 1) = q at *
  clear h hc hkn hk hs lD hu hD
  go_enter Try.func13, Try.ntmps13
  go_wp2_with (go_at_call 24; refine (HF.out _).mono ?_; rintro e w' ⟨rfl, rfl⟩)
  refine (SO.out _).mono ?_
  rintro e w1 ⟨rfl, hb1⟩
  have HB1 : Hid (Below w.heap.size w w1) := hb1
  have HC1 : Hid (Code8 w1 (some ⟨b, o, none⟩) n c) := HC.out.below hb1
  have hw1 := hb1.size
  clear hb1 HC SO
  go_wp2_with fail
  refine (UN.out _ HC1.out).mono ?_
  rintro e w2 ⟨⟨g, gc, ⟨hg, hgc⟩, rfl, ho⟩, hb2⟩
  have HB2 : Hid (Below w.heap.size w w2) := HB1.out.trans (hb2.mono HB1.out.size)
  have HO2 : Hid (Own8 w2 g n D) := ho
  clear ho hb2 HB1 HC1 UN
  go_wp2_with fail
  refine (US.out _ _ _ hgc HO2.out.code).mono ?_
  rintro e w3 ⟨rfl, rfl⟩
  have x0 : (0 : Int) ≤ (q : Int) := by omega
  have x1 : (q : Int) ≤ (gc : Int) := by omega
  have HQ : Hid (Own8 w2 g q D) := HO2.out.part hq
  have hgw := Nat.le_trans hw1 hg
  go_wp2
  go_ret2
  exact ⟨⟨g, q, ⟨hgw, Nat.le_refl _⟩, rfl, HQ.out⟩, HB2.out⟩
end Go.Proofs.Ytbhlgcenfanicaa

/-
  The model's draw of a text: what PlainOf answers, as far as the laws need it: some bytes, few, of the call's own.
-/
namespace Go.Proofs.Ytbhlgcenfanicaa
open Go.ChangeShapes Go.WideShapes Go.ChangeAt Go.RowKit
/-- A source that has drawn at most A times. -/
def SrcA (w : World) (b : Nat) (a : Option Addr) (len cap A : Nat) : Prop := ∃ at_ seed, at_ ≤ A ∧ seed < 2147483648 ∧ Src w b a len cap at_ seed
theorem SrcA.lt {w : World} {b : Nat} {a : Option Addr} {len cap A : Nat} (h : SrcA w b a len cap A) : b < w.heap.size := by
  obtain ⟨_, _, _, _, h⟩ := h
  exact h.lt
theorem SrcA.mono {w : World} {b : Nat} {a : Option Addr} {len cap A A' : Nat} (h : SrcA w b a len cap A) (hA : A ≤ A') : SrcA w b a len cap A' := by
  obtain ⟨x, y, h1, h2, h3⟩ := h
  exact ⟨x, y, Nat.le_trans h1 hA, h2, h3⟩
theorem SrcA.below {w w' : World} {b : Nat} {a : Option Addr} {len cap A : Nat} (h : SrcA w b a len cap A) (hb : Below w.heap.size w w') : SrcA w' b a len cap A := by
  obtain ⟨x, y, h1, h2, h3⟩ := h
  exact ⟨x, y, h1, h2, h3.below hb⟩
theorem SrcA.belowAt {w w' : World} {B b : Nat} {a : Option Addr} {len cap A : Nat} (h : SrcA w b a len cap A) (hb : Below B w w') (hB : b < B) : SrcA w' b a len cap A := by
  obtain ⟨x, y, h1, h2, hs⟩ := h
  have hk := hb.block b hB
  exact ⟨x, y, h1, h2, by rw [World.cell?_of_block (w := w) hk]; exact hs.code, by rw [World.cell?_of_block (w := w) hk]; exact hs.at1, by rw [World.cell?_of_block (w := w) hk]; exact hs.seed2, by rw [World.frozen?_of_block (w := w) hk]; exact hs.free1, by rw [World.frozen?_of_block (w := w) hk]; exact hs.free2⟩
theorem next_ex (n : Nat) (hn : 2 ≤ n) (hn' : n ≤ 256) (b : Nat) (a : Option Addr) (len cap A : Nat) (z : Nat → Nat) (hz : ∀ i, z i < 256) (hA : A ≤ 100000) (hl : len ≤ maxLen) (hsep : ∀ x, 0 < len → a = some x → x.block ≠ b) (w : World) (h : SrcA w b a len cap A) (hc : Code8 w a len z) :
    Calls Try.prog 46 #[.pointer (some ⟨b, 0, none⟩), .int .i64 (n : Int)] w fun e w' => (∃ r : Nat, r < n ∧ e = .returned (.int .i64 (r : Int))) ∧ SrcA w' b a len cap (A + 1) ∧ OnlyB b w w' := by
  obtain ⟨x, y, h1, h2, h3⟩ := h
  refine (next_any n hn hn' b a len cap x y z hz (by omega) h2 hl hsep w h3 hc).mono ?_
  rintro e w' ⟨he, hs, ho⟩
  exact ⟨⟨_, Nat.mod_lt _ (by omega), he⟩, ⟨x + 1, _, by omega, (drawB_lt hz h2).2, hs⟩, ho⟩
theorem bv_ext (k r : Nat) (f : Nat → Nat) : bv k f ++ [.int .u8 (r : Nat)] = bv (k + 1) (fun j => if j = k then r else f j) := by
  have e := bv_snoc k (fun j => if j = k then r else f j)
  rw [if_pos rfl, bv_congr (g := f) (fun i hi => if_neg (by omega))] at e
  exact e
theorem OnlyB.belowS {b : Nat} {w w' w'' : World} {B : Nat} (h : OnlyB b w w') (hb : Below B w' w'') (hB : w.heap.size ≤ B) : OnlyB b w w'' :=
  ⟨hb.os.trans h.os, hb.tape.trans h.tape, hb.output.trans h.output, Nat.le_trans h.size hb.size, fun k hk hn => (hb.block k (by omega)).trans (h.block k hk hn)⟩
/-- Some bytes, at most so many, at a row of the call's own. -/
def SomeOwn (B : Nat) (w' : World) (e : Ending) (most : Nat) : Prop := ∃ (m : Nat) (f : Nat → Nat) (g c : Nat), m ≤ most ∧ (∀ i, f i < 256) ∧ e = .returned (.slice (some ⟨g, 0, none⟩) m c) ∧ w'.ownsRow B 5 1 (.slice (some ⟨g, 0, none⟩) m c) m (bv m f)
set_option maxRecDepth 100000 in
set_option maxHeartbeats 1000000 in
theorem bytes_ex (b : Nat) (a : Option Addr) (len cap A : Nat) (z : Nat → Nat) (hz : ∀ i, z i < 256) (hA : A ≤ 1000) (hl : len ≤ maxLen) (hsep : ∀ x, 0 < len → a = some x → x.block ≠ b) (w : World) (h : SrcA w b a len cap A) (hc : Code8 w a len z) :
    Calls Try.prog 47 #[.pointer (some ⟨b, 0, none⟩), .int .i64 30] w fun e w' => SomeOwn w.heap.size w' e 30 ∧ SrcA w' b a len cap (A + 40) ∧ OnlyB b w w' := by
  obtain ⟨i0, hi⟩ := info_parts Try.info8
  have HI : Hid (Try.prog.info? 5 = some i0 ∧ i0.zero = some (.int .u8 0) ∧ i0.size = 1 ∧ i0.bytes = 1) := hi
  have NX : Hid (∀ (n A : Nat) (w : World), 2 ≤ n → n ≤ 256 → A ≤ 100000 → SrcA w b a len cap A → Code8 w a len z → Calls Try.prog 46 #[.pointer (some ⟨b, 0, none⟩), .int .i64 (n : Int)] w fun e w' => (∃ r : Nat, r < n ∧ e = .returned (.int .i64 (r : Int))) ∧ SrcA w' b a len cap (A + 1) ∧ OnlyB b w w') := fun n A w h1 h2 h3 h4 h5 => next_ex n h1 h2 b a len cap A z hz h3 hl hsep w h4 h5
  have HC : Hid (Code8 w a len z) := hc
  have HSEP : Hid (∀ x, 0 < len → a = some x → x.block ≠ b) := hsep
  have hbl : b < w.heap.size := h.lt
  have H0 : Hid (SrcA (w.alloc (.cells #[] 5)) b a len cap A) := h.below ((Below.refl _ _).alloc (Nat.le_refl _) _)
  have HC0 : Hid (Code8 (w.alloc (.cells #[] 5)) a len z) := hc.below ((Below.refl _ _).alloc (Nat.le_refl _) _)
  have HO0 : Hid ((w.alloc (.cells #[] 5)).ownsRow w.heap.size 5 1 (.slice (some ⟨w.heap.size, 0, none⟩) 0 0) 0 (bv 0 (fun _ => 0))) := World.ownsRow_made w #[] 0 (Nat.le_refl _) (Nat.zero_le _) (by simp)
  have HB0 : Hid (OnlyB b w (w.alloc (.cells #[] 5))) := (OnlyB.refl b w).below ((Below.refl _ _).alloc (Nat.le_refl _) _)
  have NX31 : Hid (∀ w : World, SrcA w b a len cap A → Code8 w a len z → Calls Try.prog 46 #[.pointer (some ⟨b, 0, none⟩), .int .i64 31] w fun e w' => (∃ r : Nat, r < 31 ∧ e = .returned (.int .i64 (r : Int))) ∧ SrcA w' b a len cap (A + 1) ∧ OnlyB b w w') := fun w h1 h2 => NX.out 31 A w (by omega) (by omega) (by omega) h1 h2
  clear h hc hsep hz hi
  go_enter Try.func47, Try.ntmps47
  go_wp2_with fail
  refine (NX31.out _ H0.out HC0.out).mono ?_
  rintro e w1 ⟨⟨m, hm, rfl⟩, hs1, ho1⟩
  have HO1 : Hid (w1.ownsRow w.heap.size 5 1 (.slice (some ⟨w.heap.size, 0, none⟩) 0 0) 0 (bv 0 (fun _ => 0))) := ownsRow_onlyB HO0.out ho1 hbl
  have HS1 : Hid (SrcA w1 b a len cap (A + 1)) := hs1
  have HB1 : Hid (OnlyB b w w1) := HB0.out.trans ho1
  clear hs1 ho1 HO0 HB0 H0 HC0 NX31
  go_wp2_with fail
  go_loopw [5, 6] (fun v i wr => ∃ (k g c : Nat) (f : Nat → Nat), k ≤ m ∧ i = .int .i64 ((m : Int) - (k : Int)) ∧ v = .slice (some ⟨g, 0, none⟩) k c ∧ (∀ i, f i < 256) ∧ wr.ownsRow w.heap.size 5 1 (.slice (some ⟨g, 0, none⟩) k c) k (bv k f) ∧ SrcA wr b a len cap (A + 1 + k) ∧ OnlyB b w wr) (fun _ i _ => (intOf i).toNat)
  case atStart => exact ⟨0, w.heap.size, 0, fun _ => 0, by omega, numEq8 (by omega), rfl, fun _ => by show (0 : Nat) < 256; omega, HO1.out, HS1.out, HB1.out⟩
  case round =>
    clear HO1 HS1 HB1
    obtain ⟨k, g, c, f, hk, rfl, rfl, hf, hown, hsr, ho⟩ := hrel
    have HF : Hid (∀ i, f i < 256) := hf
    have HO : Hid (wr.ownsRow w.heap.size 5 1 (.slice (some ⟨g, 0, none⟩) k c) k (bv k f)) := hown
    have HS : Hid (SrcA wr b a len cap (A + 1 + k)) := hsr
    have HW : Hid (OnlyB b w wr) := ho
    have HCr : Hid (Code8 wr a len z) := HC.out.onlyB ho HSEP.out
    clear hown hsr ho hf
    by_cases hlt : k < m
    · have x1 : (0 : Int) < (m : Int) - (k : Int) := by omega
      have NXk : Hid (∀ w : World, SrcA w b a len cap (A + 1 + k) → Code8 w a len z → Calls Try.prog 46 #[.pointer (some ⟨b, 0, none⟩), .int .i64 256] w fun e w' => (∃ r : Nat, r < 256 ∧ e = .returned (.int .i64 (r : Int))) ∧ SrcA w' b a len cap (A + 1 + k + 1) ∧ OnlyB b w w') := fun w h1 h2 => NX.out 256 (A + 1 + k) w (by omega) (by omega) (by omega) h1 h2
      go_wp2_with fail
      refine (NXk.out _ HS.out HCr.out).mono ?_
      rintro e w1 ⟨⟨X, hX, rfl⟩, hs1, ho1⟩
      have HO1 : Hid (w1.ownsRow w.heap.size 5 1 (.slice (some ⟨g, 0, none⟩) k c) k (bv k f)) := ownsRow_onlyB HO.out ho1 hbl
      have HS1 : Hid (SrcA w1 b a len cap (A + 1 + k + 1)) := hs1
      have HW1 : Hid (OnlyB b w w1) := HW.out.trans ho1
      have hsz := HW1.out.size
      have y0 : (X : Int) % 256 = (X : Int) := by omega
      clear hs1 ho1 HO HS HW HCr NXk
      go_wp2_with (at_builtin; refine wpList_append_own _ rfl _ _ 22 rfl w.heap.size 5 i0 (.int .u8 0) 1 1 Try.underlying22 HI.out.1 HI.out.2.1 HI.out.2.2.1 HI.out.2.2.2 rfl (by decide) (.slice (some ⟨g, 0, none⟩) k c) k _ rfl (HO1.out.alloc _) ⟨w1.heap.size, 0, none⟩ 1 1 [.int .u8 (X : Nat)] rfl rfl (one_new8 _ _ _) (one_one8 _) (by unfold maxLen; omega) (by omega) (by simp; omega) ?_)
      intro v' w2 hown' hgrow hnil
      have BG : Below w.heap.size w1 w2 := ((Below.refl w.heap.size w1).alloc hsz _).grown hgrow (by simp; omega) (fun b hb => (HO1.out.lt b hb).1)
      rw [bv_ext] at hown'
      obtain ⟨g2, c2, ⟨hg2, hc2⟩, rfl, -⟩ := own8_of_own hown' hnil
      have HO2 : Hid (w2.ownsRow w.heap.size 5 1 (.slice (some ⟨g2, 0, none⟩) (k + 1) c2) (k + 1) (bv (k + 1) (fun j => if j = k then X else f j))) := hown'
      have HF2 : Hid (∀ i, (fun j => if j = k then X else f j) i < 256) := fun i => by
        show (if i = k then X else f i) < 256
        split
        · exact hX
        · exact HF.out i
      have HW2 : Hid (OnlyB b w w2) := HW1.out.belowS BG (Nat.le_refl _)
      have HS2 : Hid (SrcA w2 b a len cap (A + 1 + (k + 1))) := HS1.out.belowAt BG hbl
      have HK : Hid ((m : Int) - (k : Int) - 1 = (m : Int) - ((k + 1 : Nat) : Int)) := by show (m : Int) - (k : Int) - 1 = _; omega
      clear hown' hgrow hnil HO1 HS1 HW1 BG
      generalize (fun j => if j = k then X else f j) = f2 at *
      go_wp2
      go_roundw
      case rel => exact ⟨k + 1, g2, c2, f2, by omega, numEq8 HK.out, rfl, HF2.out, HO2.out, HS2.out, HW2.out⟩
      case measure => simp [intOf]; omega
    · have x1 : ¬ (0 : Int) < (m : Int) - (k : Int) := by omega
      have HS2 : Hid (SrcA wr b a len cap (A + 40)) := HS.out.mono (by omega)
      go_wp2
      go_ret
      exact ⟨⟨k, f, g, c, by omega, HF.out, rfl, HO.out⟩, HS2.out, HW.out⟩
set_option maxRecDepth 100000 in
set_option maxHeartbeats 1000000 in
theorem plain_ex (b : Nat) (a : Option Addr) (len cap A : Nat) (z : Nat → Nat) (hz : ∀ i, z i < 256) (hA : A ≤ 1000) (hl : len ≤ maxLen) (hsep : ∀ x, 0 < len → a = some x → x.block ≠ b) (w : World) (h : SrcA w b a len cap A) (hc : Code8 w a len z) :
    Calls Try.prog 23 #[.pointer (some ⟨b, 0, none⟩)] w fun e w' => SomeOwn w.heap.size w' e 80 ∧ OnlyB b w w' := by
  obtain ⟨i0, hi⟩ := info_parts Try.info8
  have BY : Hid (∀ w : World, SrcA w b a len cap A → Code8 w a len z → Calls Try.prog 47 #[.pointer (some ⟨b, 0, none⟩), .int .i64 30] w fun e w' => SomeOwn w.heap.size w' e 30 ∧ SrcA w' b a len cap (A + 40) ∧ OnlyB b w w') := fun w h1 h2 => bytes_ex b a len cap A z hz hA hl hsep w h1 h2
  have NX : Hid (∀ w : World, SrcA w b a len cap (A + 40) → Code8 w a len z → Calls Try.prog 46 #[.pointer (some ⟨b, 0, none⟩), .int .i64 5] w fun e w' => (∃ r : Nat, r < 5 ∧ e = .returned (.int .i64 (r : Int))) ∧ SrcA w' b a len cap (A + 40 + 1) ∧ OnlyB b w w') := fun w h1 h2 => next_ex 5 (by omega) (by omega) b a len cap (A + 40) z hz (by omega) hl hsep w h1 h2
  have HI : Hid (Try.prog.info? 5 = some i0 ∧ i0.zero = some (.int .u8 0) ∧ i0.size = 1 ∧ i0.bytes = 1) := hi
  have H : Hid (SrcA w b a len cap A) := h
  have HC : Hid (Code8 w a len z) := hc
  have HSEP : Hid (∀ x, 0 < len → a = some x → x.block ≠ b) := hsep
  have hbl : b < w.heap.size := h.lt
  clear h hc hsep hz hi
  go_enter Try.func23, Try.ntmps23
  go_wp2_with fail
  refine (BY.out _ H.out HC.out).mono ?_
  rintro e w1 ⟨⟨m, f, g, c, hm, hf, rfl, hown⟩, hs1, ho1⟩
  have hg : w.heap.size ≤ g := (hown.lt g rfl).1
  have hgl : g < w1.heap.size := (hown.lt g rfl).2
  have L5 : Below w1.heap.size w1 (w1.alloc (.cells #[.int .i64 0, .int .i64 0, .int .i64 16, .int .i64 32, .int .i64 50] 3)) := (Below.refl _ _).alloc (Nat.le_refl _) _
  have HO2 : Hid ((w1.alloc (.cells #[.int .i64 0, .int .i64 0, .int .i64 16, .int .i64 32, .int .i64 50] 3)).ownsRow w.heap.size 5 1 (.slice (some ⟨g, 0, none⟩) m c) m (bv m f)) := ownsRow_below8 hown L5
  have HS2 : Hid (SrcA (w1.alloc (.cells #[.int .i64 0, .int .i64 0, .int .i64 16, .int .i64 32, .int .i64 50] 3)) b a len cap (A + 40)) := hs1.below L5
  have HB2 : Hid (OnlyB b w (w1.alloc (.cells #[.int .i64 0, .int .i64 0, .int .i64 16, .int .i64 32, .int .i64 50] 3))) := ho1.below L5
  have HC2 : Hid (Code8 (w1.alloc (.cells #[.int .i64 0, .int .i64 0, .int .i64 16, .int .i64 32, .int .i64 50] 3)) a len z) := HC.out.onlyB HB2.out HSEP.out
  have HK2 : Hid ((w1.alloc (.cells #[.int .i64 0, .int .i64 0, .int .i64 16, .int .i64 32, .int .i64 50] 3)).heap[w1.heap.size]? = some (.cells #[.int .i64 0, .int .i64 0, .int .i64 16, .int .i64 32, .int .i64 50] 3 (0, 0))) := Deep.blk_alloc_new _ _
  have hs12 : w1.heap.size < (w1.alloc (.cells #[.int .i64 0, .int .i64 0, .int .i64 16, .int .i64 32, .int .i64 50] 3)).heap.size := by simp
  have hbw1 : b < w1.heap.size := Nat.lt_of_lt_of_le hbl ho1.size
  have HF : Hid (∀ i, f i < 256) := hf
  clear hown hs1 ho1 L5 hf BY H
  go_wp2_with fail
  generalize w1.alloc (.cells #[.int .i64 0, .int .i64 0, .int .i64 16, .int .i64 32, .int .i64 50] 3) = w2 at *
  generalize w1.heap.size = lb at *
  refine (NX.out _ HS2.out HC2.out).mono ?_
  rintro e w3 ⟨⟨r, hr, rfl⟩, hs3, ho3⟩
  have HO3 : Hid (w3.ownsRow w.heap.size 5 1 (.slice (some ⟨g, 0, none⟩) m c) m (bv m f)) := ownsRow_onlyB HO2.out ho3 hbl
  have HB3 : Hid (OnlyB b w w3) := HB2.out.trans ho3
  have hK3 : w3.heap[lb]? = some (.cells #[.int .i64 0, .int .i64 0, .int .i64 16, .int .i64 32, .int .i64 50] 3 (0, 0)) := (ho3.block lb hs12 (by omega)).trans HK2.out
  have c0 : w3.cell? ⟨lb, 0, none⟩ = some (.int .i64 0) := by simp [World.cell?, hK3]
  have c1 : w3.cell? ⟨lb, 1, none⟩ = some (.int .i64 0) := by simp [World.cell?, hK3]
  have c2 : w3.cell? ⟨lb, 2, none⟩ = some (.int .i64 16) := by simp [World.cell?, hK3]
  have c3 : w3.cell? ⟨lb, 3, none⟩ = some (.int .i64 32) := by simp [World.cell?, hK3]
  have c4 : w3.cell? ⟨lb, 4, none⟩ = some (.int .i64 50) := by simp [World.cell?, hK3]
  have hw3 := HB3.out.size
  have AZ : Hid (∀ (k : Nat) (ty : TypeId), k ≤ 50 → ∃ v' w', (Builtin.append_ #[22, 3] ty #[.slice (some ⟨g, 0, none⟩) m c, .int .i64 (k : Int)]).run Try.prog w3 = .ok v' w' ∧ w'.ownsRow w.heap.size 5 1 v' (m + k) (bv m f ++ bv k (fun _ => 0)) ∧ w3.grownBy w' (some g) ∧ v' ≠ .slice none 0 0) := fun k ty hk => run_own_zeros w3 w.heap.size 22 3 ty 5 i0 Try.underlying22 Try.underlying3 HI.out.1 HI.out.2.1 HI.out.2.2.1 HI.out.2.2.2 g m c k _ HO3.out (by omega) (by omega) hw3
  have FIN : Hid (∀ (k : Nat) (v' : Value) (w' : World), k ≤ 50 → w'.ownsRow w.heap.size 5 1 v' (m + k) (bv m f ++ bv k (fun _ => 0)) → w3.grownBy w' (some g) → v' ≠ .slice none 0 0 → SomeOwn w.heap.size w' (.returned v') 80 ∧ OnlyB b w w') := fun k v' w' hk ho hgr hnil => by
    rw [bv_append] at ho
    obtain ⟨g2, c2, hg2, rfl, -⟩ := own8_of_own ho hnil
    refine ⟨⟨m + k, _, g2, c2, by omega, fun i => ?_, rfl, ho⟩, ?_⟩
    · show (if i < m then f i else 0) < 256
      split
      · exact HF.out i
      · omega
    · exact HB3.out.belowS ((Below.refl w.heap.size w3).grown hgr hw3 (fun k hk => by cases hk; exact hg)) (Nat.le_refl _)
  clear hs3 ho3 hK3 HO2 HS2 HB2 HC2 HK2 HO3 NX HC
  rcases (show r = 0 ∨ r = 1 ∨ r = 2 ∨ r = 3 ∨ r = 4 by omega) with rfl | rfl | rfl | rfl | rfl
  · obtain ⟨v', w', hrun, ho, hgr, hnil⟩ := AZ.out 0 22 (by omega)
    have R := FIN.out 0 v' w' (by omega) ho hgr hnil
    go_wp2_with (at_builtin; refine Lib.wpList_append_run _ rfl _ _ _ _ rfl _ _ rfl rfl _ _ hrun ?_)
    go_ret
    exact R
  · obtain ⟨v', w', hrun, ho, hgr, hnil⟩ := AZ.out 0 22 (by omega)
    have R := FIN.out 0 v' w' (by omega) ho hgr hnil
    go_wp2_with (at_builtin; refine Lib.wpList_append_run _ rfl _ _ _ _ rfl _ _ rfl rfl _ _ hrun ?_)
    go_ret
    exact R
  · obtain ⟨v', w', hrun, ho, hgr, hnil⟩ := AZ.out 16 22 (by omega)
    have R := FIN.out 16 v' w' (by omega) ho hgr hnil
    go_wp2_with (at_builtin; refine Lib.wpList_append_run _ rfl _ _ _ _ rfl _ _ rfl rfl _ _ hrun ?_)
    go_ret
    exact R
  · obtain ⟨v', w', hrun, ho, hgr, hnil⟩ := AZ.out 32 22 (by omega)
    have R := FIN.out 32 v' w' (by omega) ho hgr hnil
    go_wp2_with (at_builtin; refine Lib.wpList_append_run _ rfl _ _ _ _ rfl _ _ rfl rfl _ _ hrun ?_)
    go_ret
    exact R
  · obtain ⟨v', w', hrun, ho, hgr, hnil⟩ := AZ.out 50 22 (by omega)
    have R := FIN.out 50 v' w' (by omega) ho hgr hnil
    go_wp2_with (at_builtin; refine Lib.wpList_append_run _ rfl _ _ _ _ rfl _ _ rfl rfl _ _ hrun ?_)
    go_ret
    exact R
/-- spec.PlainOf -/
theorem plainOf_ex (a : Option Addr) (len cap : Nat) (z : Nat → Nat) (hz : ∀ i, z i < 256) (hl : len ≤ maxLen) (w : World) (hc : Code8 w a len z) :
    Calls Try.prog 8 #[.slice a len cap] w fun e w' => SomeOwn w.heap.size w' e 80 ∧ Below w.heap.size w w' := by
  have SO : Hid (∀ w : World, Calls Try.prog 21 #[.slice a len cap] w fun e w' => e = .returned (.pointer (some ⟨w.heap.size, 0, none⟩)) ∧ Src w' w.heap.size a len cap 0 (len % 1000) ∧ Below w.heap.size w w') := source_any a len cap hl
  have PL : Hid (∀ (b : Nat) (w : World), (∀ x, 0 < len → a = some x → x.block ≠ b) → SrcA w b a len cap 0 → Code8 w a len z → Calls Try.prog 23 #[.pointer (some ⟨b, 0, none⟩)] w fun e w' => SomeOwn w.heap.size w' e 80 ∧ OnlyB b w w') := fun b w h1 h2 h3 => plain_ex b a len cap 0 z hz (by omega) hl h1 w h2 h3
  have HC : Hid (Code8 w a len z) := hc
  have HSEP : Hid (∀ x, 0 < len → a = some x → x.block < w.heap.size) := hc.lt
  clear hc hz
  go_enter Try.func8, Try.ntmps8
  go_wp2_with fail
  refine (SO.out _).mono ?_
  rintro e w1 ⟨rfl, hs1, hb1⟩
  have HS1 : Hid (SrcA w1 w.heap.size a len cap 0) := ⟨0, _, Nat.le_refl _, by have := Nat.mod_lt len (show 0 < 1000 by omega); omega, hs1⟩
  have HB1 : Hid (Below w.heap.size w w1) := hb1
  have HC1 : Hid (Code8 w1 a len z) := HC.out.below hb1
  clear hs1 hb1
  go_wp2_with fail
  refine (PL.out _ _ (fun x h0 hx => by have := HSEP.out x h0 hx; omega) HS1.out HC1.out).mono ?_
  rintro e w2 ⟨⟨m, f, g, c, hm, hf, rfl, hown⟩, ho2⟩
  have HB2 : Hid (Below w.heap.size w w2) := HB1.out.trans (ho2.toBelow (Nat.le_refl _) HB1.out.size)
  have R : Hid (SomeOwn w.heap.size w2 (.returned (.slice (some ⟨g, 0, none⟩) m c)) 80) := ⟨m, f, g, c, hm, hf, rfl, own_mono hown HB1.out.size⟩
  clear ho2 hown hf hm
  go_wp2
  go_ret
  exact ⟨R.out, HB2.out⟩
end Go.Proofs.Ytbhlgcenfanicaa

/-
  The law FnPads: what is filled up is whole blocks, and is taken off again; blocks that are taken off are just those of what is left.
-/
namespace Go.Proofs.Ytbhlgcenfanicaa
open Go.ChangeShapes Go.WideShapes Go.ChangeAt Go.RowKit
theorem kstr_of_codeO {w : World} {a : Option Addr} {n c : Nat} {f : Nat → Nat} (h : Code8 w a n f) (hn : 0 < n) : (convert 22 9 (.slice a n c)).run Try.prog w = .ok (.string (kstr f 0 n)) w := by
  obtain ⟨b, o, rfl, _⟩ := h.opened hn
  exact kstr_of_code h
theorem isRow_cap {k : IntKind} {w : World} {a : Option Addr} {len cap : Nat} {zs : List Int} (h : IsRow k w a len cap zs) : len ≤ cap := by
  rcases h with ⟨_, h1, h2, _⟩ | ⟨x, _, hl, _⟩
  · omega
  · exact hl
end Go.Proofs.Ytbhlgcenfanicaa

/-
  The law FnModes: a stream that is put on twice is off; chained blocks are undone, and a text's first blocks do not hang on the later ones.
-/
namespace Go.Proofs.Ytbhlgcenfanicaa
open Go.ChangeShapes Go.WideShapes Go.ChangeAt Go.RowKit
theorem blob_ex (n : Nat) (hn : 1 ≤ n) (hn' : n ≤ 100000) (a : Option Addr) (len cap : Nat) (z : Nat → Nat) (hz : ∀ i, z i < 256) (hl : len ≤ maxLen) (w : World) (hc : Code8 w a len z) :
    Calls Try.prog 7 #[.slice a len cap, .int .i64 (n : Int)] w fun e w' => (∃ s : ByteArray, s.size = n ∧ e = .returned (.string s)) ∧ Below w.heap.size w w' :=
  (blobOf_any n hn hn' a len cap z hz hl w hc).mono fun _ _ hh => ⟨⟨_, kstr_size _ _ _, hh.1⟩, hh.2⟩
theorem head_text {W iv f : Nat → Nat} {R m k : Nat} (hk : k = m / 16 * 16) : kstr (cbcO W R iv (padF k f)) 0 k = kstr (cbcO W R iv (padF m f)) 0 k :=
  kstr_congr (fun x hx => by
    rw [Nat.zero_add]
    unfold cbcO
    refine cbcB_congr (x / 16 + 1) (fun y hy => ?_) (x % 16) (Nat.mod_lt _ (by omega))
    unfold padF
    rw [if_pos (by omega), if_pos (by omega)])
set_option maxRecDepth 100000 in
set_option maxHeartbeats 8000000 in
theorem law_modes (a1 a2 : Option Addr) (N1 C1 N2 C2 : Nat) (zs1 zs2 : List Int) (w : World) (h1 : IsRow .u8 w a1 N1 C1 zs1) (h2 : IsRow .u8 w a2 N2 C2 zs2) :
    Calls Try.prog 3 #[.slice a1 N1 C1, .slice a2 N2 C2] w fun e w' => e = .returned (.bool true) ∧ Below w.heap.size w w' := by
  by_cases h0 : N1 ≤ 1048576 ∧ N2 ≤ 1048576
  · obtain ⟨h01, h02⟩ := h0
    have e01 : ¬ (1048576 : Int) < (N1 : Int) := by omega
    have e02 : ¬ (1048576 : Int) < (N2 : Int) := by omega
    obtain ⟨z1, hz1, hc1⟩ := code8_of_row h1
    obtain ⟨z2, hz2, hc2⟩ := code8_of_row h2
    have B1 : Hid (∀ w : World, Code8 w a1 N1 z1 → Calls Try.prog 7 #[.slice a1 N1 C1, .int .i64 32] w fun e w' => (∃ s : ByteArray, s.size = 32 ∧ e = .returned (.string s)) ∧ Below w.heap.size w w') := fun w h => blob_ex 32 (by omega) (by omega) a1 N1 C1 z1 hz1 (IsRow.lenLe h1) w h
    have B2 : Hid (∀ w : World, Code8 w a2 N2 z2 → Calls Try.prog 7 #[.slice a2 N2 C2, .int .i64 12] w fun e w' => (∃ s : ByteArray, s.size = 12 ∧ e = .returned (.string s)) ∧ Below w.heap.size w w') := fun w h => blob_ex 12 (by omega) (by omega) a2 N2 C2 z2 hz2 (IsRow.lenLe h2) w h
    have B3 : Hid (∀ w : World, Code8 w a2 N2 z2 → Calls Try.prog 7 #[.slice a2 N2 C2, .int .i64 16] w fun e w' => (∃ s : ByteArray, s.size = 16 ∧ e = .returned (.string s)) ∧ Below w.heap.size w w') := fun w h => blob_ex 16 (by omega) (by omega) a2 N2 C2 z2 hz2 (IsRow.lenLe h2) w h
    have PO : Hid (∀ w : World, Code8 w a2 N2 z2 → Calls Try.prog 8 #[.slice a2 N2 C2] w fun e w' => SomeOwn w.heap.size w' e 80 ∧ Below w.heap.size w w') := fun w h => plainOf_ex a2 N2 C2 z2 hz2 (IsRow.lenLe h2) w h
    have Z1 : Hid (Code8 w a1 N1 z1) := hc1
    have Z2 : Hid (Code8 w a2 N2 z2) := hc2
    clear h1 h2 hc1 hc2 hz1 hz2
    go_enter Try.func3, Try.ntmps3
    go_wp2_with fail
    refine (B1.out _ Z1.out).mono ?_
    rintro e w1 ⟨⟨key, hkey, rfl⟩, hb1⟩
    have HB1 : Hid (Below w.heap.size w w1) := hb1
    have Z21 : Hid (Code8 w1 a2 N2 z2) := Z2.out.below hb1
    clear hb1 Z1 Z2 B1
    go_wp2_with fail
    refine (B2.out _ Z21.out).mono ?_
    rintro e w2 ⟨⟨nonce, hnon, rfl⟩, hb2⟩
    have HB2 : Hid (Below w.heap.size w w2) := HB1.out.trans (hb2.mono HB1.out.size)
    have Z22 : Hid (Code8 w2 a2 N2 z2) := Z21.out.below hb2
    clear hb2 HB1 Z21 B2
    go_wp2_with fail
    refine (B3.out _ Z22.out).mono ?_
    rintro e w3 ⟨⟨first, hfst, rfl⟩, hb3⟩
    have HB3 : Hid (Below w.heap.size w w3) := HB2.out.trans (hb3.mono HB2.out.size)
    have Z23 : Hid (Code8 w3 a2 N2 z2) := Z22.out.below hb3
    clear hb3 HB2 Z22 B3
    go_wp2_with fail
    refine (PO.out _ Z23.out).mono ?_
    rintro e w4 ⟨⟨m, f, g, c, hm, hf, rfl, hown⟩, hb4⟩
    obtain ⟨g', c', ⟨hg, hmc⟩, e', ho⟩ := own8_of_own hown (by intro e; cases e)
    cases e'
    have HB4 : Hid (Below w.heap.size w w4) := HB3.out.trans (hb4.mono HB3.out.size)
    have HO4 : Hid (Own8 w4 g m f) := ho
    clear hown ho hb4 HB3 Z23 PO
    obtain ⟨W, hW⟩ : ∃ W, W = Gf.ws (strB key) 8 (3 * 8 + 28) := ⟨_, rfl⟩
    have lW : ∀ j, W j < 256 := by rw [hW]; exact Gf.ws_lt (strB_lt key) _
    obtain ⟨F1, hF1⟩ : ∃ F1, F1 = ctrF W 14 (strB nonce) f := ⟨_, rfl⟩
    obtain ⟨F2, hF2⟩ : ∃ F2, F2 = ctrF W 14 (strB nonce) F1 := ⟨_, rfl⟩
    have lF1 : ∀ j, F1 j < 256 := by rw [hF1]; exact ctrF_lt lW (strB_lt nonce) hf
    have hF2f : ∀ x, F2 x = f x := fun x => by rw [hF2, hF1]; exact ctrF_twice W 14 (strB nonce) f x
    obtain ⟨M, hM⟩ : ∃ M, M = m + fillN m := ⟨_, rfl⟩
    obtain ⟨P, hP⟩ : ∃ P, P = padF m f := ⟨_, rfl⟩
    have lP : ∀ j, P j < 256 := fun j => by rw [hP]; exact padF_lt hf j
    obtain ⟨O, hO⟩ : ∃ O, O = cbcO W 14 (strB first) P := ⟨_, rfl⟩
    have lO : ∀ j, O j < 256 := fun j => by rw [hO]; exact cbcB_lt lW (strB_lt first) lP _ _
    have hMb := (fillN_bd m).2
    have hD : P = cbcD (Gf.ws (strB key) 8 (3 * 8 + 28)) (8 + 6) (strB first) O := by
      rw [← hW, hO]
      funext x
      exact (cbcD_cbcO (by omega) lW (strB_lt first) lP x).symm
    have hlast : M - P (M - 1) = m := by rw [hM, hP]; exact pad_last m f
    have CX1 : Hid (∀ w : World, Code8 w (some ⟨g, 0, none⟩) m f → Calls Try.prog 9 #[.string key, .string nonce, .slice (some ⟨g, 0, none⟩) m c] w fun e w' => RetB2 w w' e m F1 (.int .i64 0) ∧ Below w.heap.size w w') := fun w h => by rw [hF1, hW]; exact implCtr_yes key nonce 8 g 0 m c f (.inr rfl) hkey hnon (by omega) hf w h
    have SX1 : Hid (∀ w : World, Code8 w (some ⟨g, 0, none⟩) m f → Calls Try.prog 10 #[.string key, .string nonce, .slice (some ⟨g, 0, none⟩) m c] w fun e w' => RetB2 w w' e m F1 (.int .i64 0) ∧ Below w.heap.size w w') := fun w h => by rw [hF1, hW]; exact specCtr_yes key nonce 8 g 0 m c f (.inr rfl) hkey hnon (by omega) hf w h
    have CX2 : Hid (∀ (b c : Nat) (w : World), Code8 w (some ⟨b, 0, none⟩) m F1 → Calls Try.prog 9 #[.string key, .string nonce, .slice (some ⟨b, 0, none⟩) m c] w fun e w' => RetB2 w w' e m F2 (.int .i64 0) ∧ Below w.heap.size w w') := fun b c w h => by rw [hF2, hW]; exact implCtr_yes key nonce 8 b 0 m c F1 (.inr rfl) hkey hnon (by omega) lF1 w h
    have CE1 : Hid (∀ w : World, Code8 w (some ⟨g, 0, none⟩) m f → Calls Try.prog 11 #[.string key, .string first, .slice (some ⟨g, 0, none⟩) m c] w fun e w' => RetB2 w w' e M O (.int .i64 0) ∧ Below w.heap.size w w') := fun w h => by rw [hO, hM, hP, hW]; exact implCbc_yes key first 8 g 0 m c f (.inr rfl) hkey hfst (by omega) hf w h
    have SE1 : Hid (∀ w : World, Code8 w (some ⟨g, 0, none⟩) m f → Calls Try.prog 12 #[.string key, .string first, .slice (some ⟨g, 0, none⟩) m c] w fun e w' => RetB2 w w' e M O (.int .i64 0) ∧ Below w.heap.size w w') := fun w h => by rw [hO, hM, hP, hW]; exact specCbc_yes key first 8 g 0 m c f (.inr rfl) hkey hfst (by omega) hf w h
    have DC1 : Hid (∀ (b c : Nat) (w : World), M ≤ c → Code8 w (some ⟨b, 0, none⟩) M O → Calls Try.prog 13 #[.string key, .string first, .slice (some ⟨b, 0, none⟩) M c] w fun e w' => RetB2 w w' e m P (.int .i64 0) ∧ Below w.heap.size w w') := fun b c w hc h => by
      have := implDcb_yes key first 8 b 0 M c O (.inr rfl) hkey hfst (by omega) (by rw [hM]; exact padN_mod m) hc lO P hD (by rw [hM, hP]; exact unOK_pad m f) w h
      rwa [hlast] at this
    obtain ⟨k, hk⟩ : ∃ k, k = m / 16 * 16 := ⟨_, rfl⟩
    have hkm : k ≤ m := by omega
    have hkf : fillN k = 16 := by unfold fillN; omega
    obtain ⟨O2, hO2⟩ : ∃ O2, O2 = cbcO W 14 (strB first) (padF k f) := ⟨_, rfl⟩
    have CE2 : Hid (∀ w : World, Code8 w (some ⟨g, 0, none⟩) k f → Calls Try.prog 11 #[.string key, .string first, .slice (some ⟨g, 0, none⟩) k c] w fun e w' => RetB2 w w' e (k + 16) O2 (.int .i64 0) ∧ Below w.heap.size w w') := fun w h => by
      have := implCbc_yes key first 8 g 0 k c f (.inr rfl) hkey hfst (by omega) hf w h
      rw [hkf] at this
      rw [hO2, hW]; exact this
    have KH : Hid (kstr O2 0 k = kstr O 0 k) := by show kstr O2 0 k = kstr O 0 k; rw [hO2, hO, hP]; exact head_text hk
    have KY : Hid (kstr F2 0 m = kstr f 0 m) := kstr_congr (fun i _ => hF2f _)
    have KQ : Hid (kstr P 0 m = kstr f 0 m) := kstr_congr (fun i hi => by rw [hP]; unfold padF; rw [if_pos (by omega)])
    have ek : (m : Int) / 16 * 16 = (k : Int) := by omega
    have ekt : (m : Int).tdiv 16 * 16 = (k : Int) := by rw [Int.tdiv_eq_ediv_of_nonneg (by omega)]; omega
    have hMk : k ≤ M := by omega
    clear hW lW hF1 hF2 lF1 hF2f hM hP lP hO lO hMb hD hlast hk hkf hO2 hkey hnon hfst hf
    go_wp2_with fail
    refine (CX1.out _ HO4.out.code).mono ?_
    rintro e w5 ⟨⟨xb, xc, ⟨hxb, hxc⟩, rfl, ho5⟩, hb5⟩
    have HX5 : Hid (Own8 w5 xb m F1) := ho5
    have HO5 : Hid (Own8 w5 g m f) := HO4.out.below hb5
    have HB5 : Hid (Below w.heap.size w w5) := HB4.out.trans (hb5.mono HB4.out.size)
    clear ho5 hb5 HO4 HB4 CX1
    go_wp2_with fail
    refine (SX1.out _ HO5.out.code).mono ?_
    rintro e w6 ⟨⟨vb, vc, ⟨hvb, hvc⟩, rfl, ho6⟩, hb6⟩
    have HV6 : Hid (Own8 w6 vb m F1) := ho6
    have HX6 : Hid (Own8 w6 xb m F1) := HX5.out.below hb6
    have HO6 : Hid (Own8 w6 g m f) := HO5.out.below hb6
    have HB6 : Hid (Below w.heap.size w w6) := HB5.out.trans (hb6.mono HB5.out.size)
    clear ho6 hb6 HX5 HO5 HB5 SX1
    go_wp2_with fail
    refine (CX2.out _ _ _ HX6.out.code).mono ?_
    rintro e w7 ⟨⟨yb, yc, ⟨hyb, hyc⟩, rfl, ho7⟩, hb7⟩
    have HY7 : Hid (Own8 w7 yb m F2) := ho7
    have HV7 : Hid (Own8 w7 vb m F1) := HV6.out.below hb7
    have HX7 : Hid (Own8 w7 xb m F1) := HX6.out.below hb7
    have HO7 : Hid (Own8 w7 g m f) := HO6.out.below hb7
    have HB7 : Hid (Below w.heap.size w w7) := HB6.out.trans (hb7.mono HB6.out.size)
    clear ho7 hb7 HV6 HX6 HO6 HB6 CX2
    go_wp2_with fail
    refine (CE1.out _ HO7.out.code).mono ?_
    rintro e w8 ⟨⟨pb, pc, ⟨hpb, hpc⟩, rfl, ho8⟩, hb8⟩
    have HP8 : Hid (Own8 w8 pb M O) := ho8
    have HY8 : Hid (Own8 w8 yb m F2) := HY7.out.below hb8
    have HV8 : Hid (Own8 w8 vb m F1) := HV7.out.below hb8
    have HX8 : Hid (Own8 w8 xb m F1) := HX7.out.below hb8
    have HO8 : Hid (Own8 w8 g m f) := HO7.out.below hb8
    have HB8 : Hid (Below w.heap.size w w8) := HB7.out.trans (hb8.mono HB7.out.size)
    clear ho8 hb8 HY7 HV7 HX7 HO7 HB7 CE1
    go_wp2_with fail
    refine (SE1.out _ HO8.out.code).mono ?_
    rintro e w9 ⟨⟨tb, tc, ⟨htb, htc⟩, rfl, ho9⟩, hb9⟩
    have HT9 : Hid (Own8 w9 tb M O) := ho9
    have HP9 : Hid (Own8 w9 pb M O) := HP8.out.below hb9
    have HY9 : Hid (Own8 w9 yb m F2) := HY8.out.below hb9
    have HV9 : Hid (Own8 w9 vb m F1) := HV8.out.below hb9
    have HX9 : Hid (Own8 w9 xb m F1) := HX8.out.below hb9
    have HO9 : Hid (Own8 w9 g m f) := HO8.out.below hb9
    have HB9 : Hid (Below w.heap.size w w9) := HB8.out.trans (hb9.mono HB8.out.size)
    clear ho9 hb9 HP8 HY8 HV8 HX8 HO8 HB8 SE1
    go_wp2_with fail
    refine (DC1.out _ _ _ hpc HP9.out.code).mono ?_
    rintro e wa ⟨⟨qb, qc, ⟨hqb, hqc⟩, rfl, hoa⟩, hba⟩
    have HPa : Hid (Own8 wa pb M O) := HP9.out.below hba
    have HOa : Hid (Own8 wa g m f) := HO9.out.below hba
    have HBa : Hid (Below w.heap.size w wa) := HB9.out.trans (hba.mono HB9.out.size)
    have cv1 := kstr_of_code (c := xc) (HX9.out.below hba).code
    have cv2 := kstr_of_code (c := vc) (HV9.out.below hba).code
    have cv3 := kstr_of_code (c := yc) (HY9.out.below hba).code
    have cv4 := kstr_of_code (c := c) HOa.out.code
    have cv5 := kstr_of_code (c := pc) HPa.out.code
    have cv6 := kstr_of_code (c := tc) (HT9.out.below hba).code
    have cv7 := kstr_of_code (c := qc) hoa.code
    rw [KY.out] at cv3
    rw [KQ.out] at cv7
    generalize kstr F1 0 m = T1 at *
    generalize kstr f 0 m = T0 at *
    generalize kstr O 0 M = T2 at *
    clear hoa hba HT9 HP9 HY9 HV9 HX9 HO9 HB9 DC1 KY KQ
    have x0 : (0 : Int) ≤ (k : Int) := by omega
    have x1 : (k : Int) ≤ (c : Int) := by omega
    have HK : Hid (Code8 wa (some ⟨g, 0, none⟩) k f) := HOa.out.code.part hkm
    go_wp2_with fail
    refine (CE2.out _ HK.out).mono ?_
    rintro e wb ⟨⟨hb, hc, ⟨hhb, hhc⟩, rfl, hob⟩, hbb⟩
    have HBb : Hid (Below w.heap.size w wb) := HBa.out.trans (hbb.mono HBa.out.size)
    have HPb : Hid (Own8 wb pb M O) := HPa.out.below hbb
    have HHb : Hid (Own8 wb hb (k + 16) O2) := hob
    have cvh : ∀ nq, (convert 22 9 (.slice (some ⟨hb, 0, none⟩) k hc)).run Try.prog (wb.drewN nq) = .ok (.string (kstr O 0 k)) (wb.drewN nq) := fun nq => by
      have := kstr_of_code (c := hc) (((HHb.out.part (n' := k) (by omega)).drewN nq).code)
      rwa [KH.out] at this
    have cvp : ∀ nq, (convert 22 9 (.slice (some ⟨pb, 0, none⟩) k pc)).run Try.prog (wb.drewN nq) = .ok (.string (kstr O 0 k)) (wb.drewN nq) := fun nq => kstr_of_code (c := pc) (((HPb.out.part (n' := k) hMk).drewN nq).code)
    have x2 : (k : Int) ≤ (hc : Int) := by omega
    have x3 : (k : Int) ≤ (pc : Int) := by omega
    have x4 : ((k : Int) + 16 == (k : Int) + 16) = true := by simp
    generalize kstr O 0 k = T3 at *
    clear hob hbb HBa HPa HOa HK HPb HHb cv1 cv2 cv3 cv4 cv5 cv6 cv7 KH CE2
    go_wp2
    go_quiet (fail)
    go_wp2
    go_ret
    exact ⟨rfl, below_drewN8 HBb.out _⟩
  · by_cases h3 : N1 ≤ 1048576
    · have e1 : ¬ (1048576 : Int) < (N1 : Int) := by omega
      have e2 : (1048576 : Int) < (N2 : Int) := by omega
      clear h0
      go_enter Try.func3, Try.ntmps3
      go_wp2
      go_ret
      exact ⟨rfl, Below.refl _ _⟩
    · have e1 : (1048576 : Int) < (N1 : Int) := by omega
      clear h0
      go_enter Try.func3, Try.ntmps3
      go_wp2
      go_ret
      exact ⟨rfl, Below.refl _ _⟩
end Go.Proofs.Ytbhlgcenfanicaa
