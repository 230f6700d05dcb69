/-
  Texts of the proof, joined: Spread.
-/
import Derived.Test.YtiamaoihachhgaaGreatDoorE06
import Derived.Test.YtiamaoihachhgaaGreatDoorE04
import Derived.Deep.RegionWith
namespace Go.Proofs.YtiamaoihachhgaaGreatDoor
open Go.ChangeShapes Go.WideShapes Go.ChangeAt Go.RowKit
theorem word_int (a b c d : Nat) : bits .or .u32 (bits .or .u32 (bits .or .u32 ((a : Int) * 16777216 % 4294967296) ((b : Int) * 65536 % 4294967296)) ((c : Int) * 256 % 4294967296)) (d : Int) = ((Sha.orr (Sha.orr (Sha.orr (Sha.sl a 24) (Sha.sl b 16)) (Sha.sl c 8)) d : Nat) : Int) := by
 rw [← u32_or_nat, ← u32_or_nat, ← u32_or_nat]
 unfold Sha.sl
 congr 1
set_option maxRecDepth 100000 in
set_option maxHeartbeats 1000000 in
theorem wordOf_any (b o n c : Nat) (f : Nat → Nat) (hf : ∀ i, f i < 256) (hn : 4 ≤ n) (w : World) (h : Code8 w (some ⟨b, o, none⟩) n f) :
  Calls Tryz.prog 139 #[.slice (some ⟨b, o, none⟩) n c] w fun e w' => e = .returned (.int .u32 ((Sha.word f 0 : Nat) : Int)) ∧ Below w.heap.size w w' := by
 have c0 : w.cell? ⟨b, o, none⟩ = some (.int .u8 (f 0 : Nat)) := h.at (i := 0) (by omega)
 have y0 : 0 < n := by omega
 have c1 := h.at (i := 1) (by omega)
 have c2 := h.at (i := 2) (by omega)
 have c3 := h.at (i := 3) (by omega)
 have q0 : IntKind.u32.wrap (f 0 : Int) = (f 0 : Int) := by show ((f 0 : Nat) : Int) % 4294967296 = _; have := hf 0; omega
 have q1 : IntKind.u32.wrap (f 1 : Int) = (f 1 : Int) := by show ((f 1 : Nat) : Int) % 4294967296 = _; have := hf 1; omega
 have q2 : IntKind.u32.wrap (f 2 : Int) = (f 2 : Int) := by show ((f 2 : Nat) : Int) % 4294967296 = _; have := hf 2; omega
 have q3 : IntKind.u32.wrap (f 3 : Int) = (f 3 : Int) := by show ((f 3 : Nat) : Int) % 4294967296 = _; have := hf 3; omega
 have E : Hid (_ = ((Sha.word f 0 : Nat) : Int)) := word_int (f 0) (f 1) (f 2) (f 3)
 have x0 : (0 : Int) < (n : Int) := by omega
 have x1 : (1 : Int) < (n : Int) := by omega
 have x2 : (2 : Int) < (n : Int) := by omega
 have x3 : (3 : Int) < (n : Int) := by omega
 clear h hf
 generalize f 0 = v0 at *
 generalize f 1 = v1 at *
 generalize f 2 = v2 at *
 generalize f 3 = v3 at *
 go_enter Tryz.func139, Tryz.ntmps139
 go_wp2
 go_region
 go_wp2
 go_ret
 exact ⟨numRet E.out, (Below.refl _ _).drew⟩
theorem s0_int (a : Nat) : bits .xor .u32 (bits .xor .u32 ((Sha.rt a 7 : Nat) : Int) ((Sha.rt a 18 : Nat) : Int)) ((a : Int) / 8) = ((Sha.s0 a : Nat) : Int) := by
 unfold Sha.s0 Sha.sr
 rw [← u32_xor_nat, ← u32_xor_nat]
 congr 1
theorem s1_int (a : Nat) : bits .xor .u32 (bits .xor .u32 ((Sha.rt a 17 : Nat) : Int) ((Sha.rt a 19 : Nat) : Int)) ((a : Int) / 1024) = ((Sha.s1 a : Nat) : Int) := by
 unfold Sha.s1 Sha.sr
 rw [← u32_xor_nat, ← u32_xor_nat]
 congr 1
theorem Tryz.info64w : (Tryz.prog.info? 220).map (fun i => (i.zero, i.size)) = some (some (.agg (Array.replicate 64 (.int .u32 0))), 64) := by kernel_rfl
theorem Tryz.zero64w : ∀ w, (zeroValue 220).run Tryz.prog w = .ok (.agg (Array.replicate 64 (.int .u32 0))) w := (zero_of_info Tryz.info64w).1
theorem Tryz.size64w : (Tryz.prog.info? 220).map (·.size) = some 64 := by kernel_rfl
theorem word_at (f : Nat → Nat) (k : Nat) : Sha.word (fun j => f (4 * k + j)) 0 = Sha.word f k := by
 unfold Sha.word
 rfl
set_option maxRecDepth 100000 in
set_option maxHeartbeats 4000000 in
theorem spread_any (b o n c : Nat) (f : Nat → Nat) (hf : ∀ i, f i < 256) (hn : 64 ≤ n) (hnc : n ≤ c) (w : World) (h : Code8 w (some ⟨b, o, none⟩) n f) :
  Calls Tryz.prog 153 #[.slice (some ⟨b, o, none⟩) n c] w fun e w' => e = .returned (.agg (wA 64 (Sha.ws f))) ∧ Below w.heap.size w w' := by
 have z1 := Tryz.zero64w
 have WO : Hid (∀ (q : Nat) (w : World), q + 4 ≤ n → Code8 w (some ⟨b, o + q, none⟩) (n - q) (fun j => f (q + j)) → Calls Tryz.prog 139 #[.slice (some ⟨b, o + q, none⟩) (n - q) (c - q)] w fun e w' => e = .returned (.int .u32 ((Sha.word (fun j => f (q + j)) 0 : Nat) : Int)) ∧ Below w.heap.size w w') := fun q w hq hw => wordOf_any b (o + q) (n - q) (c - q) _ (fun i => hf _) (by omega) w hw
 have TU : Hid (∀ (x n : Nat) (w : World), Turns n → Calls Tryz.prog 154 #[.int .u32 (x : Int), .int .i64 (n : Int)] w fun e w' => e = .returned (.int .u32 ((Sha.rt x n : Nat) : Int)) ∧ w = w') := fun x n w hn => turned_any x n hn w
 have HC : Hid (Code8 w (some ⟨b, o, none⟩) n f) := h
 have hbl : b < w.heap.size := h.lt _ (by omega) rfl
 have K0 : Hid (RowW ((w.alloc (.cells (Array.replicate 64 (.int .u32 0)) 220)).alloc (.cells (Array.replicate 64 (.int .u32 0)) 220)) w.heap.size 220 64 (fun _ => 0)) := (RowW.zerosAt rfl _ _).alloc _
 have K1 : Hid (RowW ((w.alloc (.cells (Array.replicate 64 (.int .u32 0)) 220)).alloc (.cells (Array.replicate 64 (.int .u32 0)) 220)) (w.heap.size + 1) 220 64 (fun _ => 0)) := RowW.zerosAt (by simp) _ _
 have K2 : Hid (Below w.heap.size w ((w.alloc (.cells (Array.replicate 64 (.int .u32 0)) 220)).alloc (.cells (Array.replicate 64 (.int .u32 0)) 220))) := ((Below.refl _ _).alloc (Nat.le_refl _) _).alloc (by simp) _
 clear h hf
 go_enter Tryz.func153, Tryz.ntmps153
 go_wp2
 generalize (w.alloc (.cells (Array.replicate 64 (.int .u32 0)) 220)).alloc (.cells (Array.replicate 64 (.int .u32 0)) 220) = wz at *
 go_loopw [4, 8] (fun _ i wr => ∃ k : Nat, k ≤ 16 ∧ i = .int .i64 k ∧ RowW wr (w.heap.size + 1) 220 64 (fun j => if j < k then Sha.ws f j else 0) ∧ RowW wr w.heap.size 220 64 (fun _ => 0) ∧ Below w.heap.size w wr) (fun _ i _ => 16 - (intOf i).toNat)
 case atStart => exact ⟨0, by omega, rfl, K1.out.congr (fun j hj => by simp), K0.out, K2.out⟩
 case round =>
  clear K0 K1 K2
  obtain ⟨k, hk, rfl, hr, hz, hb⟩ := hrel
  have HR : Hid (RowW wr (w.heap.size + 1) 220 64 (fun j => if j < k then Sha.ws f j else 0)) := hr
  have HZ : Hid (RowW wr w.heap.size 220 64 (fun _ => 0)) := hz
  have HB : Hid (Below w.heap.size w wr) := hb
  by_cases hlt : k < 16
  ·have hlt' : (k : Int) < 16 := by omega
   have hlt64 : (k : Int) < 64 := by omega
   obtain ⟨q, hq⟩ : ∃ q, q = 4 * k := ⟨_, rfl⟩
   have e4 : (4 : Int) * (k : Int) = (q : Int) := by omega
   have x0 : (0 : Int) ≤ (q : Int) := by omega
   have x1 : (q : Int) ≤ (n : Int) := by omega
   have x2 : ¬ c = q := by omega
   have hqn : q + 4 ≤ n := by omega
   have HV : Hid (Sha.word (fun j => f (q + j)) 0 = Sha.ws f k) := by show _ = _; rw [hq, word_at, Sha.ws_in f hlt]
   have WQ : Hid (Calls Tryz.prog 139 #[.slice (some ⟨b, o + q, none⟩) (n - q) (c - q)] wr fun e w' => e = .returned (.int .u32 ((Sha.ws f k : Nat) : Int)) ∧ Below wr.heap.size wr w') := by
    show Calls _ _ _ _ _
    rw [← HV.out]
    exact WO.out q wr hqn (by have := (HC.out.belowAt hb hbl).shift q; exact this)
   clear hr hz hb hq
   go_wp2_with fail
   refine WQ.out.mono ?_
   rintro e w1 ⟨rfl, hb1⟩
   have r1 : RowW w1 (w.heap.size + 1) 220 64 (fun j => if j < k then Sha.ws f j else 0) := HR.out.below hb1
   have c1 := World.rowIs.cell r1 (i := k) (by omega)
   have f1 := World.rowIs.frozen r1 k
   have HR1 : Hid (RowW w1 (w.heap.size + 1) 220 64 (fun j => if j < k then Sha.ws f j else 0)) := r1
   have HZ1 : Hid (RowW w1 w.heap.size 220 64 (fun _ => 0)) := HZ.out.below hb1
   have HB1 : Hid (Below w.heap.size w w1) := HB.out.trans (hb1.mono HB.out.size)
   clear r1 hb1 HR HZ HB WQ HV
   go_wp2
   go_roundw
   case rel =>
    refine ⟨k + 1, by omega, by go_num, ?_, HZ1.out.other (by show w.heap.size ≠ w.heap.size + 1; omega) _, HB1.out.setCell (by show w.heap.size ≤ w.heap.size + 1; omega) _⟩
    exact (HR1.out.set k (Sha.ws f k)).congr (fun j hj => by
     by_cases e : j = k
     ·subst e; simp
     ·simp only [if_neg e]
      by_cases h1 : j < k
      ·rw [if_pos h1, if_pos (by omega)]
      ·rw [if_neg h1, if_neg (by omega)])
   case measure => simp [intOf]; omega
  ·have HR' : Hid (RowW wr (w.heap.size + 1) 220 64 (fun j => if j < 16 then Sha.ws f j else 0)) := hr.congr (fun j hj => by rw [show k = 16 from by omega])
   have hlt' : ¬ (k : Int) < 16 := by omega
   clear hr hz hb HR WO
   go_wp2
   clear hlt hlt' hk
   go_loopw [5, 6, 7] (fun i _ _ wr => ∃ k : Nat, 16 ≤ k ∧ k ≤ 64 ∧ i = .int .i64 k ∧ RowW wr (w.heap.size + 1) 220 64 (fun j => if j < k then Sha.ws f j else 0) ∧ RowW wr w.heap.size 220 64 (fun _ => 0) ∧ Below w.heap.size w wr) (fun i _ _ _ => 64 - (intOf i).toNat)
   case atStart => exact ⟨16, by omega, by omega, rfl, HR'.out, HZ.out, HB.out⟩
   case round =>
    clear HR' HZ HB
    obtain ⟨k, hk16, hk, rfl, hr, hz, hb⟩ := hrel
    rename_i wr
    have HR : Hid (RowW wr (w.heap.size + 1) 220 64 (fun j => if j < k then Sha.ws f j else 0)) := hr
    have HZ : Hid (RowW wr w.heap.size 220 64 (fun _ => 0)) := hz
    have HB : Hid (Below w.heap.size w wr) := hb
    by_cases hlt : k < 64
    ·have hlt' : (k : Int) < 64 := by omega
     obtain ⟨k15, h15⟩ : ∃ q, q = k - 15 := ⟨_, rfl⟩
     obtain ⟨k2, h2⟩ : ∃ q, q = k - 2 := ⟨_, rfl⟩
     obtain ⟨k16, h16⟩ : ∃ q, q = k - 16 := ⟨_, rfl⟩
     obtain ⟨k7, h7⟩ : ∃ q, q = k - 7 := ⟨_, rfl⟩
     have e15 : (k : Int) - 15 = (k15 : Int) := by omega
     have e2 : (k : Int) - 2 = (k2 : Int) := by omega
     have e16 : (k : Int) - 16 = (k16 : Int) := by omega
     have e7 : (k : Int) - 7 = (k7 : Int) := by omega
     have y15 : IntKind.i64.wrap (k15 : Int) = (k15 : Int) := by rw [IntKind.wrap_i64]; omega
     have y2 : IntKind.i64.wrap (k2 : Int) = (k2 : Int) := by rw [IntKind.wrap_i64]; omega
     have y16 : IntKind.i64.wrap (k16 : Int) = (k16 : Int) := by rw [IntKind.wrap_i64]; omega
     have y7 : IntKind.i64.wrap (k7 : Int) = (k7 : Int) := by rw [IntKind.wrap_i64]; omega
     have l15 : (k15 : Int) < 64 := by omega
     have l2 : (k2 : Int) < 64 := by omega
     have l16 : (k16 : Int) < 64 := by omega
     have l7 : (k7 : Int) < 64 := by omega
     have c15 : wr.cell? ⟨w.heap.size + 1, k15, none⟩ = some (.int .u32 ((Sha.ws f k15 : Nat) : Int)) := by
      have := World.rowIs.cell hr (i := k15) (by omega)
      simp only [if_pos (show k15 < k by omega)] at this
      exact this
     have c2 : wr.cell? ⟨w.heap.size + 1, k2, none⟩ = some (.int .u32 ((Sha.ws f k2 : Nat) : Int)) := by
      have := World.rowIs.cell hr (i := k2) (by omega)
      simp only [if_pos (show k2 < k by omega)] at this
      exact this
     have c16 : wr.cell? ⟨w.heap.size + 1, k16, none⟩ = some (.int .u32 ((Sha.ws f k16 : Nat) : Int)) := by
      have := World.rowIs.cell hr (i := k16) (by omega)
      simp only [if_pos (show k16 < k by omega)] at this
      exact this
     have c7 : wr.cell? ⟨w.heap.size + 1, k7, none⟩ = some (.int .u32 ((Sha.ws f k7 : Nat) : Int)) := by
      have := World.rowIs.cell hr (i := k7) (by omega)
      simp only [if_pos (show k7 < k by omega)] at this
      exact this
     have ck : wr.cell? ⟨w.heap.size + 1, k, none⟩ = some (.int .u32 0) := by
      have := World.rowIs.cell hr (i := k) (by omega)
      simp only [Nat.lt_irrefl, if_false] at this
      exact this
     have fk := World.rowIs.frozen hr k
     have HV : Hid (Sha.ws f k = Sha.ad (Sha.ad (Sha.ad (Sha.ws f k16) (Sha.s0 (Sha.ws f k15))) (Sha.ws f k7)) (Sha.s1 (Sha.ws f k2))) := by show _ = _; rw [Sha.ws_out f (by omega), h15, h2, h16, h7]
     generalize Sha.ws f k15 = v15 at *
     generalize Sha.ws f k2 = v2 at *
     generalize Sha.ws f k16 = v16 at *
     generalize Sha.ws f k7 = v7 at *
     have E0 := s0_int v15
     have E1 := s1_int v2
     have T7 : Hid (∀ w : World, Calls Tryz.prog 154 #[.int .u32 (v15 : Int), .int .i64 7] w fun e w' => e = .returned (.int .u32 ((Sha.rt v15 7 : Nat) : Int)) ∧ w = w') := fun w => TU.out v15 7 w (by unfold Turns; omega)
     have T18 : Hid (∀ w : World, Calls Tryz.prog 154 #[.int .u32 (v15 : Int), .int .i64 18] w fun e w' => e = .returned (.int .u32 ((Sha.rt v15 18 : Nat) : Int)) ∧ w = w') := fun w => TU.out v15 18 w (by unfold Turns; omega)
     have T17 : Hid (∀ w : World, Calls Tryz.prog 154 #[.int .u32 (v2 : Int), .int .i64 17] w fun e w' => e = .returned (.int .u32 ((Sha.rt v2 17 : Nat) : Int)) ∧ w = w') := fun w => TU.out v2 17 w (by unfold Turns; omega)
     have T19 : Hid (∀ w : World, Calls Tryz.prog 154 #[.int .u32 (v2 : Int), .int .i64 19] w fun e w' => e = .returned (.int .u32 ((Sha.rt v2 19 : Nat) : Int)) ∧ w = w') := fun w => TU.out v2 19 w (by unfold Turns; omega)
     generalize Sha.rt v15 7 = r7 at *
     generalize Sha.rt v15 18 = r18 at *
     generalize Sha.rt v2 17 = r17 at *
     generalize Sha.rt v2 19 = r19 at *
     generalize Sha.s0 v15 = S0 at *
     generalize Sha.s1 v2 = S1 at *
     clear hr hz hb h15 h2 h16 h7 TU
     go_wp2_with fail
     go_quiet (first | (exact Calls.quiet_of_same ((T7.out _).mono fun _ _ h => ⟨h.1, h.2.symm⟩)) | (exact Calls.quiet_of_same ((T18.out _).mono fun _ _ h => ⟨h.1, h.2.symm⟩)))
     have HR2 : Hid (RowW (wr.drewN nq) (w.heap.size + 1) 220 64 (fun j => if j < k then Sha.ws f j else 0)) := HR.out.drewN nq
     have HZ2 : Hid (RowW (wr.drewN nq) w.heap.size 220 64 (fun _ => 0)) := HZ.out.drewN nq
     have HB2 : Hid (Below w.heap.size w (wr.drewN nq)) := below_drewN8 HB.out nq
     replace c2 : (wr.drewN nq).cell? ⟨w.heap.size + 1, k2, none⟩ = some (.int .u32 (v2 : Int)) := c2
     replace c16 : (wr.drewN nq).cell? ⟨w.heap.size + 1, k16, none⟩ = some (.int .u32 (v16 : Int)) := c16
     replace c7 : (wr.drewN nq).cell? ⟨w.heap.size + 1, k7, none⟩ = some (.int .u32 (v7 : Int)) := c7
     replace ck : (wr.drewN nq).cell? ⟨w.heap.size + 1, k, none⟩ = some (.int .u32 0) := ck
     replace fk : (wr.drewN nq).frozen? ⟨w.heap.size + 1, k, none⟩ = false := fk
     clear HR HZ HB c15 E0 T7 T18
     generalize wr.drewN nq = wr2 at *
     go_wp2_with fail
     go_quiet (first | (exact Calls.quiet_of_same ((T17.out _).mono fun _ _ h => ⟨h.1, h.2.symm⟩)) | (exact Calls.quiet_of_same ((T19.out _).mono fun _ _ h => ⟨h.1, h.2.symm⟩)))
     have HR3 : Hid (RowW (wr2.drewN nq) (w.heap.size + 1) 220 64 (fun j => if j < k then Sha.ws f j else 0)) := HR2.out.drewN nq
     have HZ3 : Hid (RowW (wr2.drewN nq) w.heap.size 220 64 (fun _ => 0)) := HZ2.out.drewN nq
     have HB3 : Hid (Below w.heap.size w (wr2.drewN nq)) := below_drewN8 HB2.out nq
     replace c16 : (wr2.drewN nq).cell? ⟨w.heap.size + 1, k16, none⟩ = some (.int .u32 (v16 : Int)) := c16
     replace c7 : (wr2.drewN nq).cell? ⟨w.heap.size + 1, k7, none⟩ = some (.int .u32 (v7 : Int)) := c7
     replace ck : (wr2.drewN nq).cell? ⟨w.heap.size + 1, k, none⟩ = some (.int .u32 0) := ck
     replace fk : (wr2.drewN nq).frozen? ⟨w.heap.size + 1, k, none⟩ = false := fk
     clear HR2 HZ2 HB2 c2 E1 T17 T19
     generalize wr2.drewN nq = wr3 at *
     have A1 := u32_add_nat v16 S0
     have A2 := u32_add_nat (Sha.ad v16 S0) v7
     have A3 := u32_add_nat (Sha.ad (Sha.ad v16 S0) v7) S1
     generalize Sha.ad (Sha.ad (Sha.ad v16 S0) v7) S1 = N3 at *
     generalize Sha.ad (Sha.ad v16 S0) v7 = N2 at *
     generalize Sha.ad v16 S0 = N1 at *
     go_wp2_with fail
     go_region
     go_wp2
     go_roundw
     case rel =>
      refine ⟨k + 1, by omega, by omega, by go_num, ?_, (show RowW wr3.drew _ _ _ _ from HZ3.out).other (by show w.heap.size ≠ w.heap.size + 1; omega) _, HB3.out.drew.setCell (by show w.heap.size ≤ w.heap.size + 1; omega) _⟩
      exact ((show RowW wr3.drew _ _ _ _ from HR3.out).set k N3).congr (fun j hj => by
       by_cases e : j = k
       ·subst e; rw [if_pos rfl, if_pos (by omega)]; exact HV.out.symm
       ·simp only [if_neg e]
        by_cases h1 : j < k
        ·rw [if_pos h1, if_pos (by omega)]
        ·rw [if_neg h1, if_neg (by omega)])
     case measure => simp [intOf]; omega
    ·have HR' : Hid (RowW wr (w.heap.size + 1) 220 64 (Sha.ws f)) := hr.congr (fun j hj => by rw [if_pos (by omega)])
     have hlt' : ¬ (k : Int) < 64 := by omega
     clear hr hz hb HR TU
     go_wp2_with (first
      | (refine wpList_load_mid rfl 220 (.tmp 3) rfl (w.heap.size + 1) 0 rfl (wv 64 (Sha.ws f)) _ HR'.out.range Tryz.underlying220 rfl (by rw [wv_length]; exact Tryz.size64w) ?_)
      | (refine wpList_store_mid rfl 220 (.tmp 2) (.tmp 72) rfl w.heap.size 0 (wA 64 (Sha.ws f)) rfl rfl (by rw [wA_size]; exact HZ.out.there) (by rw [wA_size]; exact Tryz.size64w) (wA_one _ _) ?_))
     rw [wA_toList]
     have L : (loadVar 220 ⟨w.heap.size, 0, none⟩).run Tryz.prog (wr.setCells w.heap.size 0 (wv 64 (Sha.ws f))) = .ok (.agg (wA 64 (Sha.ws f))) (wr.setCells w.heap.size 0 (wv 64 (Sha.ws f))) := (HZ.out.stored _).load Tryz.underlying220 rfl Tryz.size64w
     have B : Below w.heap.size w (wr.setCells w.heap.size 0 (wv 64 (Sha.ws f))) := below_setCells (Nat.le_refl _) _ _ _ HB.out
     exact bodyPost_ret (v := .agg (wA 64 (Sha.ws f))) (results_cell_one (b := w.heap.size) (o := 0) Tryz.results153 _ _ _ rfl L) rfl ⟨rfl, B⟩
end Go.Proofs.YtiamaoihachhgaaGreatDoor
