/-
  Texts of the proof, joined: KImpl, EImpl, Modes, Counter, Ctr, CtrC.
-/
import Derived.Test.YtiamaoihachhgaaGreatDoorE27
import Derived.Test.YtiamaoihachhgaaGreatDoorE13
import Derived.Deep.Cut
import Derived.Deep.CutRange
import Derived.Deep.DeepCutAuto
import Derived.Test.YtiamaoihachhgaaGreatDoorE10
import Derived.Deep.RegionWith
namespace Go.Proofs.YtiamaoihachhgaaGreatDoor
open Go.ChangeShapes Go.WideShapes Go.ChangeAt Go.RowKit
theorem keyOK_yes (s : ByteArray) (h : s.size = 16 ∨ s.size = 32) (w : World) : Calls Tryz.prog 190 #[.string s] w fun e w' => e = .returned (.bool true) ∧ w' = w := by
 rcases h with h | h
 ·go_enter Tryz.func190, Tryz.ntmps190
  go_wp2
  go_ret
  exact ⟨rfl, rfl⟩
 ·go_enter Tryz.func190, Tryz.ntmps190
  go_wp2
  go_ret
  exact ⟨rfl, rfl⟩
end Go.Proofs.YtiamaoihachhgaaGreatDoor
namespace Go.Proofs.YtiamaoihachhgaaGreatDoor
open Go.ChangeShapes Go.WideShapes Go.ChangeAt Go.RowKit
end Go.Proofs.YtiamaoihachhgaaGreatDoor
namespace Go.Proofs.YtiamaoihachhgaaGreatDoor
open Go.ChangeShapes Go.WideShapes Go.ChangeAt Go.RowKit
theorem mf_ok (k s : ByteArray) (size count most : Int) (h3 : count ≤ most) (hk : k.size = 16 ∨ k.size = 32) (hs : (s.size : Int) = size) (hs' : size ≤ 65536) (w : World) :
  Calls Tryz.prog 176 #[.string k, .string s, .int .i64 size, .int .i64 count, .int .i64 most] w fun e w' => e = .returned (.int .i64 0) ∧ w = w' := by
 have e1 : ¬ (65536 : Int) < k.size := by omega
 have e2 : ¬ (65536 : Int) < s.size := by omega
 have e3 : ¬ most < count := by omega
 have e4 : ((s.size : Int) != size) = false := by rw [bne_eq_false_iff_eq]; omega
 have KO : Hid (∀ w : World, Calls Tryz.prog 190 #[.string k] w fun e w' => e = .returned (.bool true) ∧ w = w') := fun w => (keyOK_yes k hk w).mono fun e w' h => ⟨h.1, h.2.symm⟩
 clear hk hs
 go_enter Tryz.func176, Tryz.ntmps176
 go_wp2_with (go_at_call 190; refine (KO.out _).mono ?_; rintro e w' ⟨rfl, rfl⟩)
 go_ret
 exact ⟨rfl, rfl⟩
theorem OnlyB.drew8 {b : Nat} {w w' : World} (h : OnlyB b w w') : OnlyB b w w'.drew := ⟨h.os, h.tape, h.output, h.size, h.block⟩
end Go.Proofs.YtiamaoihachhgaaGreatDoor
namespace Go.Proofs.YtiamaoihachhgaaGreatDoor
open Go.ChangeShapes Go.WideShapes Go.ChangeAt Go.RowKit
set_option maxRecDepth 100000 in
set_option maxHeartbeats 2000000 in
theorem counterBlock_any (s : ByteArray) (hs : s.size = 12) (k : Nat) (hk : k < 4294967296) (w : World) :
  Calls Tryz.prog 181 #[.string s, .int .u32 (k : Int)] w fun e w' => e = .returned (.agg (bA 16 (ctrBlk (strB s) k))) ∧ Below w.heap.size w w' := by
 have SO : Hid (∀ w : World, Calls Tryz.prog 198 #[.string s] w fun e w' => e = .returned (.agg (bA 16 (strB s))) ∧ Below w.heap.size w w') := stateOf_le s (by omega)
 have Z1 : Hid (Row8 (w.alloc (.cells z16 239)) w.heap.size 239 16 (fun _ => 0)) := Row8.z16At rfl _
 have B1 : Hid (Below w.heap.size w (w.alloc (.cells z16 239))) := (Below.refl _ _).alloc (Nat.le_refl _) _
 have hz1 : (w.alloc (.cells z16 239)).heap.size = w.heap.size + 1 := by simp
 unfold z16 at Z1 B1 hz1
 clear hs
 obtain ⟨N, hN⟩ : ∃ N, N = strB s := ⟨_, rfl⟩
 rw [← hN] at SO ⊢
 clear hN
 have SA : Hid ((Tryz.prog.info? 239).map (·.size) = some (bA 16 N).size) := by rw [bA_size]; exact Tryz.sizeSt
 have OA : Hid ((bA 16 N).all (·.oneCell') = true) := bA_one _ _
 have TL : Hid ((bA 16 N).toList = bv 16 N) := bA_toList _ _
 have BS : Hid ((bA 16 N).size = 16) := bA_size _ _
 generalize bA 16 N = NA at *
 go_enter Tryz.func181, Tryz.ntmps181
 go_wp2_with fail
 generalize w.alloc (.cells #[.int .u8 0, .int .u8 0, .int .u8 0, .int .u8 0, .int .u8 0, .int .u8 0, .int .u8 0, .int .u8 0, .int .u8 0, .int .u8 0, .int .u8 0, .int .u8 0, .int .u8 0, .int .u8 0, .int .u8 0, .int .u8 0] 239) = wa at *
 refine (SO.out _).mono ?_
 rintro e w1 ⟨rfl, hb⟩
 have Z2 : Hid (Row8 w1 w.heap.size 239 16 (fun _ => 0)) := Z1.out.below hb
 have B2 : Hid (Below w.heap.size w w1) := B1.out.trans (hb.mono B1.out.size)
 have hsz := hb.size
 rw [hz1] at hsz
 have Z3 : Hid (Row8 (w1.alloc (.cells z16 239)) w1.heap.size 239 16 (fun _ => 0)) := Row8.z16At rfl _
 have Z4 : Hid (Row8 (w1.alloc (.cells z16 239)) w.heap.size 239 16 (fun _ => 0)) := Z2.out.alloc _
 have B3 : Hid (Below w.heap.size w (w1.alloc (.cells z16 239))) := B2.out.alloc (by omega) _
 clear hb Z1 B1 Z2 B2 hz1 SO
 unfold z16 at Z3 Z4 B3
 go_upto_region 2 with (refine wpList_store_mid rfl 239 (.tmp 5) (.tmp 8) rfl w1.heap.size 0 NA rfl rfl (by rw [BS.out]; exact Z3.out.there) SA.out OA.out ?_)
 rw [TL.out]
 generalize w1.alloc (.cells #[.int .u8 0, .int .u8 0, .int .u8 0, .int .u8 0, .int .u8 0, .int .u8 0, .int .u8 0, .int .u8 0, .int .u8 0, .int .u8 0, .int .u8 0, .int .u8 0, .int .u8 0, .int .u8 0, .int .u8 0, .int .u8 0] 239) = wb at *
 have R5 : Hid (Row8 (wb.setCells w1.heap.size 0 (bv 16 N)) w1.heap.size 239 16 N) := Z3.out.stored _
 have R4 : Hid (Row8 (wb.setCells w1.heap.size 0 (bv 16 N)) w.heap.size 239 16 (fun _ => 0)) := Z4.out.storedOther (by omega) _ _
 have B4 : Hid (Below w.heap.size w (wb.setCells w1.heap.size 0 (bv 16 N))) := below_setCells (by omega) _ _ _ B3.out
 clear Z3 Z4 B3 SA OA TL BS
 generalize wb.setCells w1.heap.size 0 (bv 16 N) = wc at *
 generalize w1.heap.size = sb at *
 go_wp2_with fail
 go_loopw [1, 6] (fun x i wr => ∃ j : Nat, j ≤ 4 ∧ i = .int .i64 (15 - (j : Int)) ∧ x = .int .u32 ((k / 256 ^ j : Nat) : Int) ∧ Row8 wr sb 239 16 (fun y => if 15 < y + j then ctrBlk N k y else N y) ∧ Row8 wr w.heap.size 239 16 (fun _ => 0) ∧ Below w.heap.size w wr) (fun _ i _ => (intOf i).toNat)
 case atStart => exact ⟨0, by omega, rfl, numEq8 (by simp), R5.out.congr (fun y hy => by rw [if_neg (by omega)]), R4.out, B4.out⟩
 case round =>
  clear R5 R4 B4
  obtain ⟨j, hj, rfl, rfl, hr, hz, hb⟩ := hrel
  have HZ : Hid (Row8 wr w.heap.size 239 16 (fun _ => 0)) := hz
  have HB : Hid (Below w.heap.size w wr) := hb
  by_cases hlt : j < 4
  ·have HR : Hid (Row8 wr sb 239 16 (fun y => if 15 < y + j then ctrBlk N k y else N y)) := hr
   obtain ⟨p, hp⟩ : ∃ p, p = 15 - j := ⟨_, rfl⟩
   have hp12 : 12 ≤ p := by omega
   have hp16 : p < 16 := by omega
   have ep : (15 - (j : Int)) = (p : Int) := by omega
   have c1 := World.rowIs.cell hr (i := p) hp16
   have f1 := World.rowIs.frozen hr p
   have hq : k / 256 ^ j < 4294967296 := Nat.lt_of_le_of_lt (Nat.div_le_self _ _) hk
   have eb : ((k / 256 ^ j : Nat) : Int) % 256 = ((ctrBlk N k p : Nat) : Int) := by
    unfold ctrBlk
    rw [if_neg (by omega), show 15 - p = j from by omega]
    omega
   have es : ((k / 256 ^ j : Nat) : Int) / 256 = ((k / 256 ^ (j + 1) : Nat) : Int) := by
    rw [Nat.pow_succ, ← Nat.div_div_eq_div_mul]
    omega
   have HV : Hid (∀ v, v = ctrBlk N k p → ∀ y, y < 16 → (if y = p then v else if 15 < y + j then ctrBlk N k y else N y) = if 15 < y + (j + 1) then ctrBlk N k y else N y) := fun v hv y hy => by
    by_cases e : y = p
    ·subst e
     rw [if_pos rfl, if_pos (by omega), hv]
    ·rw [if_neg e]
     by_cases e2 : 15 < y + j
     ·rw [if_pos e2, if_pos (by omega)]
     ·rw [if_neg e2, if_neg (by omega)]
   have HE : Hid ((p : Int) - 1 = 15 - ((j + 1 : Nat) : Int)) := by show (p : Int) - 1 = _; omega
   obtain ⟨V, hV⟩ : ∃ V, V = ctrBlk N k p := ⟨_, rfl⟩
   have HVe : Hid (V = ctrBlk N k p) := hV
   rw [← hV] at eb
   rw [ep]
   generalize hk2 : k / 256 ^ (j + 1) = k2 at *
   have HK2 : Hid (k / 256 ^ (j + 1) = k2) := hk2
   generalize k / 256 ^ j = k1 at *
   have x12 : (12 : Int) ≤ (p : Int) := by omega
   have x16 : (p : Int) < 16 := by omega
   have hsbne : w.heap.size ≠ sb := by omega
   clear hV hr hz hb ep hp hk2
   go_wp2
   go_roundw
   case rel =>
    refine ⟨j + 1, by omega, numEq8 HE.out, by rw [HK2.out], ?_, ?_, ?_⟩
    ·exact (HR.out.set p V).congr (HV.out V HVe.out)
    ·exact HZ.out.other hsbne _
    ·exact HB.out.setCell (by show w.heap.size ≤ sb; omega) _
   case measure => simp [intOf]; omega
  ·have HR2 : Hid (Row8 wr sb 239 16 (ctrBlk N k)) := hr.congr (fun y hy => by
    by_cases e : 15 < y + j
    ·rw [if_pos e]
    ·rw [if_neg e]
     unfold ctrBlk
     rw [if_pos (by omega)])
   have ej : j = 4 := by omega
   clear hr hz hb
   subst ej
   generalize hG : ctrBlk N k = G at *
   have HG : Hid (ctrBlk N k = G) := hG
   clear hG
   go_upto_region 7 with fail
   refine wp_region_lit ?_
   refine wpList_load_mid rfl 239 (.tmp 5) rfl sb 0 rfl (bv 16 G) _ HR2.out.range Tryz.underlying239 rfl (by rw [bv_length]; exact Tryz.sizeSt) ?_
   refine wpList_store_mid rfl 239 (.tmp 4) (.tmp 19) rfl w.heap.size 0 (bA 16 G) rfl rfl (by rw [bA_size]; exact HZ.out.there) (by rw [bA_size]; exact Tryz.sizeSt) (bA_one _ _) ?_
   rw [bA_toList]
   have L : Hid ((loadVar 239 ⟨w.heap.size, 0, none⟩).run Tryz.prog (wr.setCells (w.heap.size) 0 (bv 16 G)) = .ok (.agg (bA 16 G)) (wr.setCells (w.heap.size) 0 (bv 16 G))) := (HZ.out.stored _).load Tryz.underlying239 rfl Tryz.sizeSt
   have B : Hid (Below w.heap.size w (wr.setCells (w.heap.size) 0 (bv 16 G))) := below_setCells (Nat.le_refl _) _ _ _ HB.out
   have eA : (bv 16 G).toArray = bA 16 G := rfl
   rw [eA]
   generalize wr.setCells (w.heap.size) 0 (bv 16 G) = wf at *
   generalize hA : bA 16 G = AA at *
   have HA : Hid (bA 16 G = AA) := hA
   clear hA eA
   go_wp2
   rw [HG.out, HA.out]
   exact bodyPost_ret (v := .agg AA) (results_cell_one (b := w.heap.size) (o := 0) Tryz.results181 _ _ _ rfl L.out) rfl ⟨rfl, B.out⟩
end Go.Proofs.YtiamaoihachhgaaGreatDoor
namespace Go.Proofs.YtiamaoihachhgaaGreatDoor
open Go.ChangeShapes Go.WideShapes Go.ChangeAt Go.RowKit
theorem CiphAt.onlyB8 {w w' : World} {C m b : Nat} {K : Nat → Nat} (h : CiphAt w C m K) (ho : OnlyB b w w') (hne : C ≠ b) : CiphAt w' C m K := fun k hk => by
 rw [World.cell?_of_block (w := w) (ho.block C h.lt hne)]; exact h k hk
end Go.Proofs.YtiamaoihachhgaaGreatDoor
namespace Go.Proofs.YtiamaoihachhgaaGreatDoor
open Go.ChangeShapes Go.WideShapes Go.ChangeAt Go.RowKit
def OwnC (m : Nat) (w : World) (b n : Nat) (f : Nat → Nat) : Prop := m ≤ maxLen ∧ n ≤ m ∧ ∃ g : Nat → Value, w.rowIs b 5 m g ∧ ∀ i, i < n → g i = .int .u8 (f i : Nat)
theorem OwnC.own {m : Nat} {w : World} {b n : Nat} {f : Nat → Nat} (h : OwnC m w b n f) : Own8 w b n f := by
 obtain ⟨_, hm, g, hr, hg⟩ := h
 exact ⟨m, g, hm, hr, hg⟩
theorem OwnC.cell {m : Nat} {w : World} {b n : Nat} {f : Nat → Nat} (h : OwnC m w b n f) {i : Nat} (hi : i < n) : w.cell? ⟨b, i, none⟩ = some (.int .u8 (f i : Nat)) := h.own.cell hi
theorem OwnC.frozen {m : Nat} {w : World} {b n : Nat} {f : Nat → Nat} (h : OwnC m w b n f) (i : Nat) : w.frozen? ⟨b, i, none⟩ = false := h.own.frozen i
theorem OwnC.lt {m : Nat} {w : World} {b n : Nat} {f : Nat → Nat} (h : OwnC m w b n f) : b < w.heap.size := h.own.lt
theorem OwnC.code {m : Nat} {w : World} {b n : Nat} {f : Nat → Nat} (h : OwnC m w b n f) : Code8 w (some ⟨b, 0, none⟩) n f := h.own.code
theorem OwnC.congr {m : Nat} {w : World} {b n : Nat} {f f' : Nat → Nat} (h : OwnC m w b n f) (e : ∀ i, i < n → f i = f' i) : OwnC m w b n f' := by
 obtain ⟨h0, hm, g, hr, hg⟩ := h
 exact ⟨h0, hm, g, hr, fun i hi => by rw [hg i hi, e i hi]⟩
theorem OwnC.set {m : Nat} {w : World} {b n : Nat} {f : Nat → Nat} (h : OwnC m w b n f) (i v : Nat) : OwnC m (w.setCell ⟨b, i, none⟩ (.int .u8 (v : Nat))) b n (fun j => if j = i then v else f j) := by
 obtain ⟨h0, hm, g, hr, hg⟩ := h
 refine ⟨h0, hm, _, hr.set i _, fun j hj => ?_⟩
 by_cases e : j = i
 ·simp [e]
 ·simp [e, hg j hj]
theorem OwnC.of_block {m : Nat} {w w' : World} {b n : Nat} {f : Nat → Nat} (h : OwnC m w b n f) (e : w'.heap[b]? = w.heap[b]?) : OwnC m w' b n f := by
 obtain ⟨h0, hm, g, hr, hg⟩ := h
 exact ⟨h0, hm, g, hr.of_block e, hg⟩
theorem OwnC.alloc {m : Nat} {w : World} {b n : Nat} {f : Nat → Nat} (h : OwnC m w b n f) (o : Obj) : OwnC m (w.alloc o) b n f := by
 obtain ⟨h0, hm, g, hr, hg⟩ := h
 exact ⟨h0, hm, g, hr.alloc o, hg⟩
theorem OwnC.below {m : Nat} {w w' : World} {b n : Nat} {f : Nat → Nat} (h : OwnC m w b n f) (hb : Below w.heap.size w w') : OwnC m w' b n f := h.of_block (hb.block b h.lt)
theorem ownC_of_own {w : World} {base : Nat} {v : Value} {n : Nat} {f : Nat → Nat} (h : w.ownsRow base 5 1 v n (bv n f)) (hv : v ≠ .slice none 0 0) :
  ∃ b cap, (base ≤ b ∧ n ≤ cap) ∧ v = .slice (some ⟨b, 0, none⟩) n cap ∧ OwnC cap w b n f := by
 obtain ⟨hl, ⟨rfl, rfl⟩ | ⟨g, cap, cur, rfl, hb, hh, hn', hm, hs, ht⟩⟩ := h
 ·exact absurd rfl hv
 ·refine ⟨g, cap, ⟨hb, hn'⟩, rfl, hm, hn', fun i => cur.getD i undef, ⟨cur, hh, by omega, fun i hi => ?_⟩, fun i hi => ?_⟩
  ·have : i < cur.size := by omega
   simp [Array.getD, this]
  ·have h1 : (cur.toList.take (n * 1))[i]? = some (.int .u8 (f i : Nat)) := by rw [ht]; exact bv_at hi
   rw [List.getElem?_take, if_pos (by omega), Array.getElem?_toList] at h1
   simp [Array.getD_eq_getD_getElem?, h1]
theorem own_of_ownC {w : World} {b n m base : Nat} {f : Nat → Nat} (h : OwnC m w b n f) (hb : base ≤ b) : w.ownsRow base 5 1 (.slice (some ⟨b, 0, none⟩) n m) n (bv n f) := by
 obtain ⟨h0, hm, g, ⟨cur, hh, hs, hc⟩, hg⟩ := h
 refine ⟨by rw [bv_length, Nat.mul_one], .inr ⟨b, m, cur, rfl, hb, hh, hm, h0, by omega, ?_⟩⟩
 apply List.ext_getElem?
 intro i
 rw [Nat.mul_one, List.getElem?_take]
 by_cases hi : i < n
 ·rw [if_pos hi, bv_at hi, Array.getElem?_toList, hc i (by omega), hg i hi]
 ·rw [if_neg hi, List.getElem?_eq_none (by rw [bv_length]; omega)]
def RetC (w w' : World) (e : Ending) (n : Nat) (f : Nat → Nat) : Prop := ∃ b c, (w.heap.size ≤ b ∧ n ≤ c) ∧ e = .returned (.slice (some ⟨b, 0, none⟩) n c) ∧ OwnC c w' b n f
def RetC2 (w w' : World) (e : Ending) (n : Nat) (f : Nat → Nat) (t : Value) : Prop := ∃ b c, (w.heap.size ≤ b ∧ n ≤ c) ∧ e = .returned (.tuple #[.slice (some ⟨b, 0, none⟩) n c, t]) ∧ OwnC c w' b n f
set_option maxRecDepth 100000 in
set_option maxHeartbeats 1000000 in
theorem cloneC_any (b o n c : Nat) (f : Nat → Nat) (hn : n ≤ 100000) (w : World) (h : Code8 w (some ⟨b, o, none⟩) n f) :
  Calls Tryz.prog 178 #[.slice (some ⟨b, o, none⟩) n c] w fun e w' => RetC w w' e n f ∧ Below w.heap.size w w' := by
 obtain ⟨i0, hi⟩ := info_parts Tryz.info8
 have HI : Hid (Tryz.prog.info? 5 = some i0 ∧ i0.zero = some (.int .u8 0) ∧ i0.size = 1 ∧ i0.bytes = 1) := hi
 have HC : Hid (Code8 w (some ⟨b, o, none⟩) n f) := h
 have q : ∀ (w : World) (a : Option Addr) (n c n' c' : Nat), (binOp .eql 41 (.slice a n c) (.slice none n' c')).run Tryz.prog w = .ok (.bool a.isNone) w := fun w a n c n' c' => Lib.run_eql_slice_nil w _ _ a n c n' c' Tryz.underlying41
 clear h hi
 go_enter Tryz.func178, Tryz.ntmps178
 go_wp2_with (at_builtin; refine wpList_append_own _ rfl _ _ 41 rfl w.heap.size 5 i0 (.int .u8 0) 1 1 Tryz.underlying41 HI.out.1 HI.out.2.1 HI.out.2.2.1 HI.out.2.2.2 rfl (by decide) _ _ _ rfl (World.ownsRow_made w #[] 0 (Nat.le_refl _) (Nat.zero_le _) (by simp)) ⟨b, o, none⟩ n c (bv n f) rfl (by rw [bv_length, Nat.mul_one]) ?qc2 (bv_one n f) (by unfold maxLen; omega) (by omega) (by simp) ?_)
 case qc2 =>
  intro j u hj
  exact Lib.cell?_alloc_some _ (bv_news HC.out j u hj)
 intro v' w1 hown hgrow hnil
 have hown' : w1.ownsRow w.heap.size 5 1 v' n (bv n f) := by simpa using hown
 obtain ⟨b', c', hb', rfl, ho⟩ := ownC_of_own hown' hnil
 have HB : Hid (Below w.heap.size w w1) := ((Below.refl _ w).alloc (Nat.le_refl _) _).grown hgrow (by simp) (by intro k hk; simp [Value.ownBlock] at hk; omega)
 have HO : Hid (OwnC c' w1 b' n f) := ho
 clear hown hgrow hnil hown' ho
 go_wp2
 go_ret
 exact ⟨⟨b', c', hb', rfl, HO.out⟩, HB.out⟩
set_option maxRecDepth 100000 in
set_option maxHeartbeats 2000000 in
theorem addIntoC_any (mm b o n c M : Nat) (F g : Nat → Nat) (hF : ∀ i, F i < 256) (hg : ∀ i, i < 16 → g i < 256) (hn : n ≤ 16) (hM : o + n ≤ M) (w : World) (h : OwnC mm w b M F) :
  Calls Tryz.prog 179 #[.slice (some ⟨b, o, none⟩) n c, .agg (bA 16 g)] w fun e w' => e = .returned (.tuple #[]) ∧ OwnC mm w' b M (fun i => if o ≤ i ∧ i < o + n then F i ^^^ g (i - o) else F i) ∧ OnlyB b w w' := by
 have hbl := h.lt
 have HO : Hid (OwnC mm (w.alloc (.cells (bA 16 g) 239)) b M F) := h.alloc _
 have HS : Hid (Row8 (w.alloc (.cells (bA 16 g) 239)) w.heap.size 239 16 g) := Row8.boxedAt rfl _ _ _
 have HB : Hid (OnlyB b w (w.alloc (.cells (bA 16 g) 239))) := (OnlyB.refl _ _).below ((Below.refl _ _).alloc (Nat.le_refl _) _)
 have HF : Hid (∀ i, F i < 256) := hF
 have HG : Hid (∀ i, i < 16 → g i < 256) := hg
 clear h hF hg
 go_enter Tryz.func179, Tryz.ntmps179
 go_wp2_with fail
 generalize w.alloc (.cells (bA 16 g) 239) = wz at *
 generalize bA 16 g = GA at *
 go_loopw [4, 7] (fun _ i wr => ∃ k : Nat, k ≤ n ∧ i = .int .i64 k ∧ OwnC mm wr b M (fun x => if o ≤ x ∧ x < o + k then F x ^^^ g (x - o) else F x) ∧ Row8 wr w.heap.size 239 16 g ∧ OnlyB b w wr) (fun _ i _ => n - (intOf i).toNat)
 case atStart => exact ⟨0, by omega, rfl, HO.out.congr (fun j hj => by rw [if_neg (by omega)]), HS.out, HB.out⟩
 case round =>
  clear HO HS HB
  obtain ⟨k, hk, rfl, ho, hs, hb⟩ := hrel
  have HO : Hid (OwnC mm wr b M (fun x => if o ≤ x ∧ x < o + k then F x ^^^ g (x - o) else F x)) := ho
  have HS : Hid (Row8 wr w.heap.size 239 16 g) := hs
  have HB : Hid (OnlyB b w wr) := hb
  by_cases hlt : k < n
  ·have c1 := ho.cell (i := o + k) (by omega)
   simp only [Nat.lt_irrefl, and_false, if_false] at c1
   have f1 := ho.frozen (o + k)
   have c2 := World.rowIs.cell hs (i := k) (by omega)
   have l1 := HF.out (o + k)
   have l2 := HG.out k (by omega)
   have ex : bits .xor .u8 (F (o + k) : Int) (g k : Int) = ((F (o + k) ^^^ g k : Nat) : Int) := u8_xor_nat _ _ l1 l2
   have x0 : (0 : Int) ≤ (k : Int) := by omega
   have x1 : (k : Int) < (n : Int) := by omega
   have x2 : (k : Int) < 16 := by omega
   have HV : Hid (∀ v, v = F (o + k) ^^^ g k → ∀ x, x < M → (if x = o + k then v else if o ≤ x ∧ x < o + k then F x ^^^ g (x - o) else F x) = if o ≤ x ∧ x < o + (k + 1) then F x ^^^ g (x - o) else F x) := fun v hv x hx => by
    by_cases e : x = o + k
    ·subst e
     rw [if_pos rfl, if_pos (by omega), hv, show o + k - o = k from by omega]
    ·rw [if_neg e]
     by_cases e2 : o ≤ x ∧ x < o + k
     ·rw [if_pos e2, if_pos (by omega)]
     ·rw [if_neg e2, if_neg (by omega)]
   obtain ⟨V, hV⟩ : ∃ V, V = F (o + k) ^^^ g k := ⟨_, rfl⟩
   have HE : Hid (V = F (o + k) ^^^ g k) := hV
   rw [← hV] at ex
   clear hV ho hs hb
   generalize F (o + k) = A1 at *
   generalize g k = A2 at *
   go_wp2_with fail
   go_region
   go_wp2
   go_roundw
   case rel =>
    refine ⟨k + 1, by omega, by go_num, ?_, ?_, ?_⟩
    ·exact (HO.out.set (o + k) V).congr (HV.out V HE.out)
    ·exact HS.out.other (by show w.heap.size ≠ b; omega) _
    ·exact (HB.out.setCell _ _).drew8
   case measure => simp [intOf]; omega
  ·have x1 : ¬ (k : Int) < (n : Int) := by omega
   have HO2 : Hid (OwnC mm wr b M (fun x => if o ≤ x ∧ x < o + n then F x ^^^ g (x - o) else F x)) := ho.congr (fun x hx => by rw [show k = n from by omega])
   clear ho hs hb HO
   go_wp2
   exact bodyPost_end (results_none Tryz.results179 _ _ _) rfl ⟨rfl, HO2.out, HB.out⟩
def CtrJC (s : ByteArray) (w0 : World) (Cb m ob n C : Nat) (K f : Nat → Nat) (a' : Act) (w' : World) : Prop := ∃ (i : Nat) (ra : Option Addr) (L cr : Nat) (x12 : Int) (u0 u2 u3 u4 u5 u6 u7 u8 u13 u14 u15 u16 u17 u18 u19 u20 u21 u22 u23 u24 u25 u26 u27 u28 u29 u30 u31 u32 u33 u34 u35 u36 u37 u38 u39 u40 u41 u42 u43 u44 u45 u46 u47 : Value), a' = { tmps := #[u0, .string s, u2, u3, u4, u5, u6, u7, u8, .pointer (some ⟨Cb, 0, none⟩), .slice (some ⟨ob, 0, none⟩) n C, .slice ra L cr, .int .u32 x12, u13, u14, u15, u16, u17, u18, u19, u20, u21, u22, u23, u24, u25, u26, u27, u28, u29, u30, u31, u32, u33, u34, u35, u36, u37, u38, u39, u40, u41, u42, u43, u44, u45, u46, u47], defers := [] } ∧
 (L = n - 16 * i ∧ x12 = (i : Int) + 1) ∧ i ≤ 4096 ∧ (16 * i < n → ra = some ⟨ob, 16 * i, none⟩) ∧ L ≤ cr ∧ OwnC C w' ob n (fun x => if x < 16 * i then ctrF K m (strB s) f x else f x) ∧ CiphAt w' Cb m K ∧ Below w0.heap.size w0 w'
set_option maxRecDepth 100000 in
set_option maxHeartbeats 4000000 in
theorem implCtrC_yes (k s : ByteArray) (kn b o n c : Nat) (f : Nat → Nat) (hkn : kn = 4 ∨ kn = 8) (hk : k.size = kn * 4) (hs : s.size = 12) (hn : n ≤ 65536) (hf : ∀ i, f i < 256) (w : World) (h : Code8 w (some ⟨b, o, none⟩) n f) :
  Calls Tryz.prog 151 #[.string k, .string s, .slice (some ⟨b, o, none⟩) n c] w fun e w' => RetC2 w w' e n (ctrF (Gf.ws (strB k) kn (3 * kn + 28)) (kn + 6) (strB s) f) (.int .i64 0) ∧ Below w.heap.size w w' := by
 have MF : Hid (∀ w : World, Calls Tryz.prog 176 #[.string k, .string s, .int .i64 12, .int .i64 (n : Int), .int .i64 65536] w fun e w' => e = .returned (.int .i64 0) ∧ w = w') := mf_ok k s 12 n 65536 (by omega) (by omega) (by omega) (by omega)
 have NC : Hid (∀ w : World, Calls Tryz.prog 177 #[.string k] w fun e w' => e = .returned (.agg (cA (kn + 6) (Gf.ws (strB k) kn (3 * kn + 28)))) ∧ Below w.heap.size w w') := newCipher_any k kn hkn hk
 have LW : Hid (∀ j, Gf.ws (strB k) kn (3 * kn + 28) j < 256) := Gf.ws_lt (strB_lt k) _
 generalize Gf.ws (strB k) kn (3 * kn + 28) = W at *
 obtain ⟨m, hm⟩ : ∃ m, m = kn + 6 := ⟨_, rfl⟩
 have hm1 : 1 ≤ m := by omega
 have hm2 : m ≤ 14 := by omega
 rw [← hm] at NC ⊢
 have CB : Hid (∀ (i : Nat) (w : World), i < 4294967296 → Calls Tryz.prog 181 #[.string s, .int .u32 (i : Int)] w fun e w' => e = .returned (.agg (bA 16 (ctrBlk (strB s) i))) ∧ Below w.heap.size w w') := fun i w hi => counterBlock_any s hs i hi w
 have EN : Hid (∀ (C i : Nat) (w : World), CiphAt w C m W → Calls Tryz.prog 180 #[.pointer (some ⟨C, 0, none⟩), .agg (bA 16 (ctrBlk (strB s) i))] w fun e w' => e = .returned (.agg (bA 16 (Gf.enc W m (ctrBlk (strB s) i)))) ∧ Below w.heap.size w w') := fun C i w h => encrypt_any C m W _ (fun j _ => ctrBlk_lt (strB_lt s) i j) LW.out hm1 hm2 w h
 have CL : Hid (∀ w : World, Code8 w (some ⟨b, o, none⟩) n f → Calls Tryz.prog 178 #[.slice (some ⟨b, o, none⟩) n c] w fun e w' => RetC w w' e n f ∧ Below w.heap.size w w') := fun w h => cloneC_any b o n c f (by omega) w h
 obtain ⟨Z, z0, hZ, -⟩ := Tryz.zeroC
 have S2 : Hid ((Tryz.prog.info? 244).map (·.size) = some (cA m W).size) := by rw [cA_size]; exact Tryz.sizeC
 have O2 : Hid ((cA m W).all (·.oneCell') = true) := cA_one _ _
 have hLen : (cA m W).toList.length = 769 := cA_len _ _
 have hAt : Hid (∀ k, k < 769 → (cA m W).toList[k]? = some (cf m W k)) := fun k hk => by
  have := cA_at (n := m) (K := W) hk
  rwa [← Array.getElem?_toList] at this
 have HSZ : Hid ((cA m W).size = 769) := cA_size _ _
 generalize cA m W = CA at *
 have HC : Hid (Code8 w (some ⟨b, o, none⟩) n f) := h
 have HF : Hid (∀ i, f i < 256) := hf
 clear h hf hkn hk hs hm
 go_enter Tryz.func151, Tryz.ntmps151
 go_wp2
 refine wp_scope_label 0 (fun a' w' => ∃ Cb ob C, (w.heap.size ≤ ob ∧ Cb < ob) ∧ n ≤ C ∧ CtrJC s w Cb m ob n C W f a' w') (fun a' _ => lenOf (a'.tmps.getD 11 undef)) rfl ?_ ?_
 ·rintro a' wr ⟨Cb, ob, C, ⟨hob, hCo⟩, hnC, i, ra, L, cr, x12, u0, u2, u3, u4, u5, u6, u7, u8, u13, u14, u15, u16, u17, u18, u19, u20, u21, u22, u23, u24, u25, u26, u27, u28, u29, u30, u31, u32, u33, u34, u35, u36, u37, u38, u39, u40, u41, u42, u43, u44, u45, u46, u47, rfl, ⟨hL, rfl⟩, hi, hra, hcr, ho, hC, hB⟩
  have HO : Hid (OwnC C wr ob n (fun x => if x < 16 * i then ctrF W m (strB s) f x else f x)) := ho
  have CC : Hid (CiphAt wr Cb m W) := hC
  have HB : Hid (Below w.heap.size w wr) := hB
  clear ho hC hB
  by_cases hlt : 16 * i < n
  ·have era := hra hlt
   subst era
   obtain ⟨q, hq⟩ : ∃ q, q = min L 16 := ⟨_, rfl⟩
   have hq1 : 1 ≤ q := by omega
   have hq2 : q ≤ 16 := by omega
   have hq3 : q ≤ L := by omega
   have eL : ((L : Int) == 0) = false := by rw [beq_eq_false_iff_ne]; omega
   have eq1 : min (L : Int) 16 = (q : Int) := by omega
   have xq0 : (0 : Int) ≤ (q : Int) := by omega
   have xq1 : (q : Int) ≤ (cr : Int) := by omega
   have xq2 : (q : Int) ≤ (L : Int) := by omega
   have HLQ : Hid (n - 16 * (i + 1) = L - q) := by show n - 16 * (i + 1) = L - q; omega
   have hMq : 16 * i + q ≤ n := by omega
   have CBi : Hid (∀ w : World, Calls Tryz.prog 181 #[.string s, .int .u32 ((i : Int) + 1)] w fun e w' => e = .returned (.agg (bA 16 (ctrBlk (strB s) (i + 1)))) ∧ Below w.heap.size w w') := fun w => CB.out (i + 1) w (by omega)
   have ENi : Hid (∀ w : World, CiphAt w Cb m W → Calls Tryz.prog 180 #[.pointer (some ⟨Cb, 0, none⟩), .agg (bA 16 (ctrBlk (strB s) (i + 1)))] w fun e w' => e = .returned (.agg (bA 16 (Gf.enc W m (ctrBlk (strB s) (i + 1))))) ∧ Below w.heap.size w w') := fun w h => EN.out Cb (i + 1) w h
   have HF2 : Hid (∀ x, (if x < 16 * i then ctrF W m (strB s) f x else f x) < 256) := fun x => by
    show (if x < 16 * i then ctrF W m (strB s) f x else f x) < 256
    split
    ·exact ctrF_lt LW.out (strB_lt s) HF.out x
    ·exact HF.out x
   have AI : Hid (∀ w : World, OwnC C w ob n (fun x => if x < 16 * i then ctrF W m (strB s) f x else f x) → Calls Tryz.prog 179 #[.slice (some ⟨ob, 16 * i, none⟩) q q, .agg (bA 16 (Gf.enc W m (ctrBlk (strB s) (i + 1))))] w fun e w' => e = .returned (.tuple #[]) ∧ OwnC C w' ob n (fun x => if x < 16 * (i + 1) then ctrF W m (strB s) f x else f x) ∧ OnlyB ob w w') := fun w h =>
    (addIntoC_any C ob (16 * i) q q n _ _ HF2.out (fun j _ => Gf.enc_lt LW.out (fun j _ => ctrBlk_lt (strB_lt s) _ j) j) hq2 hMq w h).mono fun e w' hh => ⟨hh.1, hh.2.1.congr (fun x hx => by
     by_cases e : 16 * i ≤ x ∧ x < 16 * i + q
     ·rw [if_pos e, if_neg (by omega), if_pos (by omega)]
      unfold ctrF ctrK
      rw [show x / 16 + 1 = i + 1 from by omega, show x % 16 = x - 16 * i from by omega]
     ·rw [if_neg e]
      by_cases e2 : x < 16 * i
      ·rw [if_pos e2, if_pos (by omega)]
      ·rw [if_neg e2, if_neg (by omega)]), hh.2.2⟩
   have HOd : Hid (OwnC C wr.drew ob n (fun x => if x < 16 * i then ctrF W m (strB s) f x else f x)) := HO.out
   have CCd : Hid (CiphAt wr.drew Cb m W) := CC.out
   have HBd : Hid (Below w.heap.size w wr.drew) := HB.out.drew
   have hi2 : i + 1 ≤ 4096 := by omega
   have xw : IntKind.u32.wrap ((i : Int) + 1 + 1) = (i : Int) + 1 + 1 := IntWalk.u32_in _ ⟨by omega, by omega⟩
   generalize bA 16 (Gf.enc W m (ctrBlk (strB s) (i + 1))) = EA at *
   generalize bA 16 (ctrBlk (strB s) (i + 1)) = BA at *
   have hqq : (L ≤ 16 ∧ q = L) ∨ (¬ L ≤ 16 ∧ q = 16) := by omega
   have HR : Hid (∀ (ra : Option Addr), (ra = some ⟨ob, 16 * i + q, none⟩ ∨ L - q = 0) → (16 * (i + 1) < n → ra = some ⟨ob, 16 * (i + 1), none⟩)) := fun ra hra2 hlt2 => by
    have e1 : q = 16 := by omega
    rcases hra2 with h | h
    ·rw [h, e1, Nat.mul_add]
    ·omega
   have hcrq : L - q ≤ cr - q := by omega
   clear hra hq hL CL EN CB LW HF HF2 HO CC HB HC NC MF S2 O2 hLen hAt HSZ z0 hZ eq1
   go_upto_region 9 with fail
   go_cut [13] (fun v wx => v = .int .i64 (q : Int) ∧ wx = wr)
   case first =>
    rcases hqq with ⟨h16, rfl⟩ | ⟨h16, rfl⟩
    ·have x16 : (q : Int) ≤ 16 := by omega
     go_wp2_with fail
     go_meet
     exact ⟨rfl, rfl⟩
    ·have x16 : ¬ (L : Int) ≤ 16 := by omega
     go_wp2_with fail
     go_meet
     exact ⟨rfl, rfl⟩
   case rest =>
   obtain ⟨rfl, rfl⟩ := hcut
   clear hqq
   go_wp2_with fail
   go_region_with (first
    | (go_at_call 181; refine (CBi.out _).mono ?_; rintro e w1 ⟨rfl, hb1⟩)
    | (go_at_call 180; refine (ENi.out _ ?_).mono ?_; exact CCd.out.below hb1; rintro e w2 ⟨rfl, hb2⟩)
    | (go_at_call 179; refine (AI.out _ ?_).mono ?_; exact (HOd.out.below hb1).below hb2; rintro e w3 ⟨rfl, ho3, hb3⟩))
   have CC3 : Hid (CiphAt w3 Cb m W) := ((CCd.out.below hb1).below hb2).onlyB8 hb3 (by omega)
   have B2' : Below w.heap.size w w2 := (HBd.out.trans (hb1.mono HBd.out.size)).trans (hb2.mono (HBd.out.trans (hb1.mono HBd.out.size)).size)
   have HB3 : Hid (Below w.heap.size w w3) := B2'.trans (hb3.toBelow hob B2'.size)
   have HO3 : Hid (OwnC C w3 ob n (fun x => if x < 16 * (i + 1) then ctrF W m (strB s) f x else f x)) := ho3
   clear hb1 hb2 hb3 ho3 B2' CCd HBd HOd CBi ENi AI
   go_wp2
   all_goals
    go_step3
    refine ⟨rfl, ⟨Cb, ob, C, ⟨hob, hCo⟩, hnC, i + 1, _, _, _, _, _, _, _, _, _, _, _, _, _, _, _, _, _, _, _, _, _, _, _, _, _, _, _, _, _, _, _, _, _, _, _, _, _, _, _, _, _, _, _, _, _, _, _, rfl, ⟨?_, ?_⟩, hi2, HR.out _ ?_, ?_, HO3.out, CC3.out, HB3.out⟩, ?_⟩
    ·have := HLQ.out; omega
    ·omega
    ·first | exact .inl rfl | (right; omega)
    ·omega
    ·show _ < L; simp [lenOf]; omega
  ·have HO2 : Hid (OwnC C wr ob n (ctrF W m (strB s) f)) := HO.out.congr (fun x hx => by rw [if_pos (by omega)])
   obtain rfl : L = 0 := by omega
   clear HO CL EN CB HC NC MF S2 O2 hLen hAt HSZ z0 hZ hra hL
   go_wp2
   rw [jump_ret]
   exact bodyPost_ret (results_tmp2 Tryz.results151 _ _ _) rfl ⟨⟨ob, C, ⟨hob, hnC⟩, rfl, HO2.out⟩, HB.out⟩
 ·intro hp
  go_upto_region 5 with (first
   | (go_at_call 176; refine (MF.out _).mono ?_; rintro e w' ⟨rfl, rfl⟩)
   | (go_at_call 177; refine (NC.out _).mono ?_; rintro e w1 ⟨rfl, hb⟩)
   | (refine wpList_store_mid rfl 244 (.tmp 9) (.tmp 23) rfl _ 0 CA rfl rfl ?_ S2.out O2.out ?_))
  ·rw [HSZ.out]; exact there_big w1 Z _ hZ
  ·have R1 : ((w1.alloc (.cells Z 244)).setCells w1.heap.size 0 CA.toList).rangeAt w1.heap.size 0 CA.toList := World.rangeAt_setCells_same _ _ _ _ (by rw [hLen]; exact there_big w1 Z _ hZ)
   have CC : Hid (CiphAt ((w1.alloc (.cells Z 244)).setCells w1.heap.size 0 CA.toList) w1.heap.size m W) := fun k hk => by
    have := R1 k _ (hAt.out k hk)
    rwa [Nat.zero_add] at this
   have hsz := hb.size
   have B1 : Hid (Below w.heap.size w ((w1.alloc (.cells Z 244)).setCells w1.heap.size 0 CA.toList)) := below_setCells hsz _ _ _ (hb.alloc hsz _)
   have HC1 : Hid (Code8 ((w1.alloc (.cells Z 244)).setCells w1.heap.size 0 CA.toList) (some ⟨b, o, none⟩) n f) := HC.out.below B1.out
   clear R1 hb NC MF S2 O2 hLen hAt HSZ z0 hZ HC
   generalize (w1.alloc (.cells Z 244)).setCells w1.heap.size 0 CA.toList = wz at *
   generalize w1.heap.size = Cb at *
   go_wp2_with fail
   refine (CL.out _ HC1.out).mono ?_
   rintro e w2 ⟨⟨ob, C, ⟨hob, hnC⟩, rfl, ho⟩, hb2⟩
   have CC2 : Hid (CiphAt w2 Cb m W) := CC.out.below hb2
   have hCz := CC.out.lt
   have B2 : Hid (Below w.heap.size w w2) := B1.out.trans (hb2.mono B1.out.size)
   have HO2 : Hid (OwnC C w2 ob n f) := ho
   have hob' : w.heap.size ≤ ob := Nat.le_trans B1.out.size hob
   clear hb2 CC B1 ho HC1
   go_wp2_with fail
   go_step3
   rename_i hKx
   refine hKx _ _ (hp _ _ ⟨Cb, ob, C, ⟨hob', Nat.lt_of_lt_of_le hCz hob⟩, hnC, 0, _, _, C, _, _, _, _, _, _, _, _, _, _, _, _, _, _, _, _, _, _, _, _, _, _, _, _, _, _, _, _, _, _, _, _, _, _, _, _, _, _, _, _, _, _, _, _, rfl, ⟨by omega, by omega⟩, by omega, fun _ => rfl, by omega, HO2.out.congr (fun x hx => by rw [if_neg (by omega)]), CC2.out, B2.out⟩)
end Go.Proofs.YtiamaoihachhgaaGreatDoor
