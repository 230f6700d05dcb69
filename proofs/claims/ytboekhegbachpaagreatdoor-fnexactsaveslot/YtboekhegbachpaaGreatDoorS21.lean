/-
  Texts of the proof, joined: Subst, States.
-/
import Derived.Test.YtboekhegbachpaaGreatDoorS09
import Derived.Test.YtboekhegbachpaaGreatDoorS04
import Derived.Test.YtboekhegbachpaaGreatDoorS11
import Derived.Handy
namespace Go.Proofs.YtboekhegbachpaaGreatDoor
open Go.ChangeShapes Go.WideShapes Go.ChangeAt Go.RowKit
theorem Tryz.info256 : (Tryz.prog.info? 153).map (fun i => (i.zero, i.size)) = some (some (.agg (Array.replicate 256 (.int .u8 0))), 256) := by kernel_rfl
theorem Tryz.zero256 : ∀ w, (zeroValue 153).run Tryz.prog w = .ok (.agg (Array.replicate 256 (.int .u8 0))) w := (zero_of_info Tryz.info256).1
theorem Tryz.size256 : (Tryz.prog.info? 153).map (·.size) = some 256 := (zero_of_info Tryz.info256).2
theorem Tryz.info255 : (Tryz.prog.info? 180).map (fun i => (i.zero, i.size)) = some (some (.agg (Array.replicate 255 (.int .u8 0))), 255) := by kernel_rfl
theorem Tryz.zero255 : ∀ w, (zeroValue 180).run Tryz.prog w = .ok (.agg (Array.replicate 255 (.int .u8 0))) w := (zero_of_info Tryz.info255).1
theorem Tryz.size255 : (Tryz.prog.info? 180).map (·.size) = some 255 := (zero_of_info Tryz.info255).2
theorem Tryz.size8 : (Tryz.prog.info? 5).map (·.size) = some 1 := by kernel_rfl
theorem idx255 {f : Nat → Nat} {k : Nat} (h : k < 255) (w : World) : (Instr.index 180 (.agg (bA 255 f)) (.int .i64 (k : Int))).run Tryz.prog w = .ok (.int .u8 (f k : Nat)) w :=
 run_index_flat Tryz.underlying180 Tryz.underlying5 rfl Tryz.size8 h (bA_at h) w
theorem idx256 {f : Nat → Nat} {k : Nat} (h : k < 256) (w : World) : (Instr.index 153 (.agg (bA 256 f)) (.int .i64 (k : Int))).run Tryz.prog w = .ok (.int .u8 (f k : Nat)) w :=
 run_index_flat Tryz.underlying153 Tryz.underlying5 rfl Tryz.size8 h (bA_at h) w
theorem spread0 : Gf.spread 0 = 99 := by decide +kernel
set_option maxRecDepth 100000 in
set_option maxHeartbeats 2000000 in
theorem substitutes_any (w : World) :
  Calls Tryz.prog 117 #[] w fun e w' => e = .returned (.agg (bA 256 Gf.sub)) ∧ Below w.heap.size w w' := by
 have z1 := Tryz.zero256
 have z2 := Tryz.zero255
 have K0 : Hid (Row8 ((w.alloc (.cells (Array.replicate 256 (.int .u8 0)) 153)).alloc (.cells (Array.replicate 255 (.int .u8 0)) 180)) w.heap.size 153 256 (fun _ => 0)) := (Row8.zerosAt rfl _ _).alloc _
 have K1 : Hid (Row8 ((w.alloc (.cells (Array.replicate 256 (.int .u8 0)) 153)).alloc (.cells (Array.replicate 255 (.int .u8 0)) 180)) (w.heap.size + 1) 180 255 (fun _ => 0)) := Row8.zerosAt (by simp) _ _
 have K2 : Hid (Below w.heap.size w ((w.alloc (.cells (Array.replicate 256 (.int .u8 0)) 153)).alloc (.cells (Array.replicate 255 (.int .u8 0)) 180))) := ((Below.refl _ _).alloc (Nat.le_refl _) _).alloc (by simp) _
 have K3 : Hid (((w.alloc (.cells (Array.replicate 256 (.int .u8 0)) 153)).alloc (.cells (Array.replicate 255 (.int .u8 0)) 180)).heap.size = w.heap.size + 2) := by show _ = _; simp
 go_enter Tryz.func117, Tryz.ntmps117
 go_wp2
 generalize (w.alloc (.cells (Array.replicate 256 (.int .u8 0)) 153)).alloc (.cells (Array.replicate 255 (.int .u8 0)) 180) = wz at *
 go_loopw [2, 3, 7] (fun x _ i wr => ∃ k : Nat, k ≤ 255 ∧ i = .int .i64 k ∧ x = .int .u8 (Gf.pw k : Nat) ∧ Row8 wr w.heap.size 153 256 (fun _ => 0) ∧ Row8 wr (w.heap.size + 1) 180 255 (fun j => if j < k then Gf.pw j else 0) ∧ Below w.heap.size w wr ∧ wr.heap.size = w.heap.size + 2) (fun _ _ i _ => 255 - (intOf i).toNat)
 case atStart => exact ⟨0, by omega, rfl, rfl, K0.out, K1.out.congr (fun j hj => by simp), K2.out, K3.out⟩
 case round =>
  obtain ⟨k, hk, rfl, rfl, h0, h1, hb, hs⟩ := hrel
  have H0 : Hid (Row8 wr w.heap.size 153 256 (fun _ => 0)) := h0
  have H1 : Hid (Row8 wr (w.heap.size + 1) 180 255 (fun j => if j < k then Gf.pw j else 0)) := h1
  have HB : Hid (Below w.heap.size w wr) := hb
  have HS : Hid (wr.heap.size = w.heap.size + 2) := hs
  have hp := Gf.pw_lt k
  have E : Hid (bits BinOp.xor IntKind.u8 (Gf.pw k : Int) (Gf.dbl (Gf.pw k) : Int) = ((Gf.pw (k + 1) : Nat) : Int)) := u8_xor_nat _ _ hp (Gf.dbl_lt _ hp)
  by_cases hlt : k < 255
  ·have c1 := World.rowIs.cell h1 hlt
   have f1 := World.rowIs.frozen h1 k
   clear h0 h1 hb hs K0 K1 K2 K3
   go_wp2_with (go_at_call 128; refine (double_any _ hp _).mono ?_; rintro e w' ⟨rfl, rfl⟩)
   go_roundw
   case rel =>
    refine ⟨k + 1, by omega, by go_num, val_int E.out, H0.out.other (by show w.heap.size ≠ w.heap.size + 1; omega) _, ?_, HB.out.setCell (by show w.heap.size ≤ w.heap.size + 1; omega) _, by simpa using HS.out⟩
    exact (H1.out.set k (Gf.pw k)).congr (fun j hj => by
     by_cases e : j = k
     ·subst e; simp
     ·simp only [if_neg e]
      by_cases h1 : j < k
      ·rw [if_pos h1, if_pos (by omega)]
      ·rw [if_neg h1, if_neg (by omega)])
   case measure => simp [intOf]; omega
  ·have H1' : Hid (Row8 wr (w.heap.size + 1) 180 255 Gf.pw) := h1.congr (fun j hj => by rw [if_pos (by omega)])
   have hk' : ¬ (k : Int) < 255 := by omega
   clear h0 h1 hb K0 K1 K2 K3 E H1 hp
   generalize Gf.pw k = V
   generalize (k : Int) = kk at *
   clear hk hlt
   have P0 : Hid (Row8 (wr.alloc (.cells ((Array.replicate 256 (.int .u8 0)).setIfInBounds 0 (.int .u8 99)) 153)) (w.heap.size + 2) 153 256 (fun j => if j = 0 then 99 else 0)) := Row8.zerosSetAt HS.out 153 256 0 99
   have P1 : Hid (Row8 (wr.alloc (.cells ((Array.replicate 256 (.int .u8 0)).setIfInBounds 0 (.int .u8 99)) 153)) (w.heap.size + 1) 180 255 Gf.pw) := H1'.out.alloc _
   have P2 : Hid (Row8 (wr.alloc (.cells ((Array.replicate 256 (.int .u8 0)).setIfInBounds 0 (.int .u8 99)) 153)) w.heap.size 153 256 (fun _ => 0)) := H0.out.alloc _
   have P3 : Hid (Below w.heap.size w (wr.alloc (.cells ((Array.replicate 256 (.int .u8 0)).setIfInBounds 0 (.int .u8 99)) 153))) := HB.out.alloc (by rw [HS.out]; omega) _
   have q0 : (Array.replicate 256 (Value.int .u8 0))[0]? = some (.int .u8 0) := by simp
   have e0 := spread0
   go_wp2_with (first | (go_at_call 129; refine (spreadBits_any 0 (by omega) _).mono ?_; rintro e w' ⟨rfl, rfl⟩) | (refine wpList_load_mid rfl 180 (.tmp 1) rfl (w.heap.size + 1) 0 rfl (bv 255 Gf.pw) _ P1.out.range Tryz.underlying180 rfl (by rw [bv_length]; exact Tryz.size255) ?_))
   clear q0 e0 H0 H1' HB HS hs
   generalize (wr.alloc (.cells ((Array.replicate 256 (.int .u8 0)).setIfInBounds 0 (.int .u8 99)) 153)) = wy at *
   have eA : (bv 255 Gf.pw).toArray = bA 255 Gf.pw := rfl
   rw [eA]
   clear eA
   go_loopw [5, 6, 21] (fun _ _ i wq => ∃ k : Nat, k ≤ 255 ∧ i = .int .i64 k ∧ Row8 wq w.heap.size 153 256 (fun _ => 0) ∧ Row8 wq (w.heap.size + 1) 180 255 Gf.pw ∧ Row8 wq (w.heap.size + 2) 153 256 (Gf.tabTo k) ∧ Below w.heap.size w wq) (fun _ _ i _ => 255 - (intOf i).toNat)
   case atStart => exact ⟨0, by omega, rfl, P2.out, P1.out, P0.out.congr (fun j hj => rfl), P3.out⟩
   case round =>
    obtain ⟨k, hk, rfl, h0, h1, h2, hb⟩ := hrel
    have H0 : Hid (Row8 wr w.heap.size 153 256 (fun _ => 0)) := h0
    have H1 : Hid (Row8 wr (w.heap.size + 1) 180 255 Gf.pw) := h1
    have H2 : Hid (Row8 wr (w.heap.size + 2) 153 256 (Gf.tabTo k)) := h2
    have HB : Hid (Below w.heap.size w wr) := hb
    by_cases hlt : k < 255
    ·have hp := Gf.pw_lt k
     have hm : (255 - k) % 255 < 255 := Nat.mod_lt _ (by omega)
     have hq := Gf.pw_lt ((255 - k) % 255)
     have c1 := World.rowIs.cell h1 hm
     have c2 := World.rowIs.cell h2 hp
     have f2 := World.rowIs.frozen h2 (Gf.pw k)
     have ix := idx255 (f := Gf.pw) hlt
     have em : (255 - (k : Int)) % 255 = (((255 - k) % 255 : Nat) : Int) := by omega
     have em' : -(k : Int) % 255 = (((255 - k) % 255 : Nat) : Int) := by omega
     have et : (255 - (k : Int)).tmod 255 = (((255 - k) % 255 : Nat) : Int) := by
      rw [show 255 - (k : Int) = ((255 - k : Nat) : Int) from by omega]
      exact (Int.ofNat_tmod (255 - k) 255).symm
     have E : Hid (∀ j, Gf.tabTo (k + 1) j = if j = Gf.pw k then Gf.spread (Gf.pw ((255 - k) % 255)) else Gf.tabTo k j) := fun j => rfl
     clear h0 h1 h2 hb P0 P1 P2 P3
     generalize (255 - k) % 255 = M at *
     generalize Gf.pw k = P at *
     generalize Gf.pw M = R at *
     go_wp2_with (go_at_call 129; refine (spreadBits_any R hq _).mono ?_; rintro e w' ⟨rfl, rfl⟩)
     go_roundw
     case rel =>
      refine ⟨k + 1, by omega, by go_num, H0.out.other (by show w.heap.size ≠ w.heap.size + 2; omega) _, H1.out.other (by show w.heap.size + 1 ≠ w.heap.size + 2; omega) _, ?_, HB.out.setCell (by show w.heap.size ≤ w.heap.size + 2; omega) _⟩
      exact (H2.out.set P (Gf.spread R)).congr (fun j hj => by rw [E.out j])
     case measure => simp [intOf]; omega
    ·have H2' : Hid (Row8 wr (w.heap.size + 2) 153 256 Gf.sub) := h2.congr (fun j hj => by rw [show k = 255 from by omega]; exact Gf.tab_last j hj)
     clear h0 h1 h2 hb P0 P1 P2 P3 H1 H2
     go_wp2_with (first
      | (refine wpList_load_mid rfl 153 (.tmp 4) rfl (w.heap.size + 2) 0 rfl (bv 256 Gf.sub) _ H2'.out.range Tryz.underlying153 rfl (by rw [bv_length]; exact Tryz.size256) ?_)
      | (refine wpList_store_mid rfl 153 (.tmp 0) (.tmp 34) rfl w.heap.size 0 (bA 256 Gf.sub) rfl rfl (by rw [bA_size]; exact H0.out.there) (by rw [bA_size]; exact Tryz.size256) (bA_one _ _) ?_))
     rw [bA_toList]
     have L : (loadVar 153 ⟨w.heap.size, 0, none⟩).run Tryz.prog (wr.setCells w.heap.size 0 (bv 256 Gf.sub)) = .ok (.agg (bA 256 Gf.sub)) (wr.setCells w.heap.size 0 (bv 256 Gf.sub)) := (H0.out.stored _).load Tryz.underlying153 rfl Tryz.size256
     have B : Below w.heap.size w (wr.setCells w.heap.size 0 (bv 256 Gf.sub)) := below_setCells (Nat.le_refl _) _ _ _ HB.out
     exact bodyPost_ret (v := .agg (bA 256 Gf.sub)) (results_cell_one (b := w.heap.size) (o := 0) Tryz.results117 _ _ _ rfl L) rfl ⟨rfl, B⟩
set_option maxRecDepth 100000 in
set_option maxHeartbeats 2000000 in
theorem backwards_any (w : World) :
  Calls Tryz.prog 119 #[.agg (bA 256 Gf.sub)] w fun e w' => e = .returned (.agg (bA 256 Gf.unsub)) ∧ Below w.heap.size w w' := by
 have z1 := Tryz.zero256
 have K0 : Hid (Row8 (((w.alloc (.cells (bA 256 Gf.sub) 153)).alloc (.cells (Array.replicate 256 (.int .u8 0)) 153)).alloc (.cells (Array.replicate 256 (.int .u8 0)) 153)) w.heap.size 153 256 Gf.sub) := ((Row8.boxedAt rfl _ _ _).alloc _).alloc _
 have K1 : Hid (Row8 (((w.alloc (.cells (bA 256 Gf.sub) 153)).alloc (.cells (Array.replicate 256 (.int .u8 0)) 153)).alloc (.cells (Array.replicate 256 (.int .u8 0)) 153)) (w.heap.size + 1) 153 256 (fun _ => 0)) := (Row8.zerosAt (by simp) _ _).alloc _
 have K2 : Hid (Row8 (((w.alloc (.cells (bA 256 Gf.sub) 153)).alloc (.cells (Array.replicate 256 (.int .u8 0)) 153)).alloc (.cells (Array.replicate 256 (.int .u8 0)) 153)) (w.heap.size + 1 + 1) 153 256 (fun _ => 0)) := Row8.zerosAt (by simp) _ _
 have K3 : Hid (Below w.heap.size w (((w.alloc (.cells (bA 256 Gf.sub) 153)).alloc (.cells (Array.replicate 256 (.int .u8 0)) 153)).alloc (.cells (Array.replicate 256 (.int .u8 0)) 153))) := (((Below.refl _ _).alloc (Nat.le_refl _) _).alloc (by simp) _).alloc (by simp; omega) _
 go_enter Tryz.func119, Tryz.ntmps119
 go_wp2_with (refine wpList_load_mid rfl 153 (.tmp 1) rfl w.heap.size 0 rfl (bv 256 Gf.sub) _ K0.out.range Tryz.underlying153 rfl (by rw [bv_length]; exact Tryz.size256) ?_)
 generalize ((w.alloc (.cells (bA 256 Gf.sub) 153)).alloc (.cells (Array.replicate 256 (.int .u8 0)) 153)).alloc (.cells (Array.replicate 256 (.int .u8 0)) 153) = wz at *
 have eA : (bv 256 Gf.sub).toArray = bA 256 Gf.sub := rfl
 rw [eA]
 clear eA K0
 go_loopw [4, 5, 7] (fun _ _ i wr => ∃ k : Nat, k ≤ 256 ∧ i = .int .i64 k ∧ Row8 wr (w.heap.size + 1) 153 256 (fun _ => 0) ∧ Row8 wr (w.heap.size + 1 + 1) 153 256 (Gf.backTo k) ∧ Below w.heap.size w wr) (fun _ _ i _ => 256 - (intOf i).toNat)
 case atStart => exact ⟨0, by omega, rfl, K1.out, K2.out.congr (fun j hj => rfl), K3.out⟩
 case round =>
  obtain ⟨k, hk, rfl, h1, h2, hb⟩ := hrel
  have H1 : Hid (Row8 wr (w.heap.size + 1) 153 256 (fun _ => 0)) := h1
  have H2 : Hid (Row8 wr (w.heap.size + 1 + 1) 153 256 (Gf.backTo k)) := h2
  have HB : Hid (Below w.heap.size w wr) := hb
  by_cases hlt : k < 256
  ·have hs := Gf.sub_lt k hlt
   have c2 := World.rowIs.cell h2 hs
   have f2 := World.rowIs.frozen h2 (Gf.sub k)
   have ix := idx256 (f := Gf.sub) hlt
   have E : Hid (∀ j, Gf.backTo (k + 1) j = if j = Gf.sub k then k else Gf.backTo k j) := fun j => rfl
   clear h1 h2 hb K1 K2 K3
   generalize Gf.sub k = P at *
   go_wp2
   go_roundw
   case rel =>
    refine ⟨k + 1, by omega, by go_num, H1.out.other (by show w.heap.size + 1 ≠ w.heap.size + 1 + 1; omega) _, ?_, HB.out.setCell (by show w.heap.size ≤ w.heap.size + 1 + 1; omega) _⟩
    exact (H2.out.set P k).congr (fun j hj => by rw [E.out j])
   case measure => simp [intOf]; omega
  ·have H2' : Hid (Row8 wr (w.heap.size + 1 + 1) 153 256 Gf.unsub) := h2.congr (fun j hj => by rw [show k = 256 from by omega]; exact Gf.back_last j hj)
   clear h1 h2 hb K1 K2 K3 H2
   go_wp2_with (first
    | (refine wpList_load_mid rfl 153 (.tmp 3) rfl (w.heap.size + 1 + 1) 0 rfl (bv 256 Gf.unsub) _ H2'.out.range Tryz.underlying153 rfl (by rw [bv_length]; exact Tryz.size256) ?_)
    | (refine wpList_store_mid rfl 153 (.tmp 2) (.tmp 16) rfl (w.heap.size + 1) 0 (bA 256 Gf.unsub) rfl rfl (by rw [bA_size]; exact H1.out.there) (by rw [bA_size]; exact Tryz.size256) (bA_one _ _) ?_))
   rw [bA_toList]
   have L : (loadVar 153 ⟨w.heap.size + 1, 0, none⟩).run Tryz.prog (wr.setCells (w.heap.size + 1) 0 (bv 256 Gf.unsub)) = .ok (.agg (bA 256 Gf.unsub)) (wr.setCells (w.heap.size + 1) 0 (bv 256 Gf.unsub)) := (H1.out.stored _).load Tryz.underlying153 rfl Tryz.size256
   have B : Below w.heap.size w (wr.setCells (w.heap.size + 1) 0 (bv 256 Gf.unsub)) := below_setCells (by omega) _ _ _ HB.out
   exact bodyPost_ret (v := .agg (bA 256 Gf.unsub)) (results_cell_one (b := w.heap.size + 1) (o := 0) Tryz.results119 _ _ _ rfl L) rfl ⟨rfl, B⟩
set_option maxRecDepth 100000 in
set_option maxHeartbeats 2000000 in
theorem subWord_any (a b c d : Nat) (ha : a < 256) (hb : b < 256) (hc : c < 256) (hd : d < 256) (w : World) :
  Calls Tryz.prog 130 #[.agg #[.int .u8 a, .int .u8 b, .int .u8 c, .int .u8 d], .agg (bA 256 Gf.sub)] w fun e w' => e = .returned (.agg #[.int .u8 (Gf.sub a : Nat), .int .u8 (Gf.sub b : Nat), .int .u8 (Gf.sub c : Nat), .int .u8 (Gf.sub d : Nat)]) ∧ Below w.heap.size w w' := by
 have pa := bA_at (n := 256) (f := Gf.sub) ha
 have pb := bA_at (n := 256) (f := Gf.sub) hb
 have pc := bA_at (n := 256) (f := Gf.sub) hc
 have pd := bA_at (n := 256) (f := Gf.sub) hd
 have i0 := idx0
 have i1 := idx1
 have i2 := idx2
 have i3 := idx3
 generalize bA 256 Gf.sub = T at *
 generalize Gf.sub a = A at *
 generalize Gf.sub b = B at *
 generalize Gf.sub c = C at *
 generalize Gf.sub d = D at *
 go_enter Tryz.func130, Tryz.ntmps130
 go_wp2
 refine wp_loop_rounds 5 ?_
 rw [rounds_succ]
 go_wp2
 rw [rounds_succ]
 go_wp2
 rw [rounds_succ]
 go_wp2
 rw [rounds_succ]
 go_wp2
 rw [rounds_succ]
 go_wp2
 exact bodyPost_ret (v := .agg #[.int .u8 (A : Nat), .int .u8 (B : Nat), .int .u8 (C : Nat), .int .u8 (D : Nat)]) (by simp [results, Tryz.results130, go_sem]) rfl ⟨rfl, (((Below.refl _ _).alloc (Nat.le_refl _) _).alloc (by simp) _).alloc (by simp; omega) _⟩
end Go.Proofs.YtboekhegbachpaaGreatDoor
namespace Go.Proofs.YtboekhegbachpaaGreatDoor
open Go.ChangeShapes Go.WideShapes Go.ChangeAt Go.RowKit
theorem run_index_part {P : Program} {t e : TypeId} {n m : Nat} {d : TypeDesc} (hu : P.underlying t = some (.array n e)) (he : P.underlying e = some d) (hd : d.isRow = true)
  (hs : (P.info? e).map (·.size) = some m) {A : Array Value} {k : Nat} (hk : k < n) (w : World) :
  (Instr.index t (.agg A) (.int .i64 (k : Int))).run P w = .ok (.agg (A.extract (k * m) (k * m + m))) w := by
 cases hq : P.info? e with
 | none => simp [hq] at hs
 | some i =>
  have hz : i.size = m := by simpa [hq] using hs
  have hagg : (isAgg e).run P w = .ok true w := by
   unfold isAgg
   rw [Sem.run_bind, run_underlying he w]
   cases d <;> simp_all
  have hk1 : (0 : Int) ≤ (k : Int) ∧ (k : Int) < (n : Int) := by omega
  simp [Instr.index, asIntOf, Sem.run_bind, run_underlying hu w, hk1, sizeOf, typeInfo, hq, hz, part, hagg]
  intro h
  omega
theorem bA_extract4 {n : Nat} {f : Nat → Nat} {o : Nat} (h : o + 4 ≤ n) : (bA n f).extract o (o + 4) = #[.int .u8 (f o : Nat), .int .u8 (f (o + 1) : Nat), .int .u8 (f (o + 2) : Nat), .int .u8 (f (o + 3) : Nat)] := by
 apply Array.ext_getElem?
 intro i
 rw [Array.getElem?_extract]
 rcases (show i = 0 ∨ i = 1 ∨ i = 2 ∨ i = 3 ∨ 4 ≤ i by omega) with rfl | rfl | rfl | rfl | hi
 ·rw [if_pos (by rw [bA_size]; omega), bA_at (by omega)]; rfl
 ·rw [if_pos (by rw [bA_size]; omega), bA_at (by omega)]; rfl
 ·rw [if_pos (by rw [bA_size]; omega), bA_at (by omega)]; rfl
 ·rw [if_pos (by rw [bA_size]; omega), bA_at (by omega)]; rfl
 ·rw [if_neg (by rw [bA_size]; omega)]
  simp [hi]
theorem Tryz.infoK : (Tryz.prog.info? 152).map (fun i => (i.zero, i.size)) = some (some (.agg (Array.replicate 240 (.int .u8 0))), 240) := by kernel_rfl
theorem Tryz.zeroK : ∀ w, (zeroValue 152).run Tryz.prog w = .ok (.agg (Array.replicate 240 (.int .u8 0))) w := (zero_of_info Tryz.infoK).1
theorem Tryz.sizeK : (Tryz.prog.info? 152).map (·.size) = some 240 := (zero_of_info Tryz.infoK).2
theorem Tryz.infoW : (Tryz.prog.info? 184).map (fun i => (i.zero, i.size)) = some (some (.agg (Array.replicate 240 (.int .u8 0))), 240) := by kernel_rfl
theorem Tryz.zeroW : ∀ w, (zeroValue 184).run Tryz.prog w = .ok (.agg (Array.replicate 240 (.int .u8 0))) w := (zero_of_info Tryz.infoW).1
theorem Tryz.sizeW : (Tryz.prog.info? 184).map (·.size) = some 240 := (zero_of_info Tryz.infoW).2
theorem idxW {f : Nat → Nat} {k : Nat} (h : k < 60) (w : World) : (Instr.index 184 (.agg (bA 240 f)) (.int .i64 (k : Int))).run Tryz.prog w = .ok (.agg #[.int .u8 (f (k * 4) : Nat), .int .u8 (f (k * 4 + 1) : Nat), .int .u8 (f (k * 4 + 2) : Nat), .int .u8 (f (k * 4 + 3) : Nat)]) w := by
 rw [run_index_part (m := 4) Tryz.underlying184 Tryz.underlying183 rfl (by kernel_rfl) h w, bA_extract4 (by omega)]
set_option maxRecDepth 100000 in
set_option maxHeartbeats 2000000 in
theorem statesOf_any (f : Nat → Nat) (w : World) :
  Calls Tryz.prog 131 #[.agg (bA 240 f)] w fun e w' => e = .returned (.agg (bA 240 f)) ∧ Below w.heap.size w w' := by
 have z1 := Tryz.zeroK
 have K0 : Hid (Row8 (((w.alloc (.cells (bA 240 f) 184)).alloc (.cells (Array.replicate 240 (.int .u8 0)) 152)).alloc (.cells (Array.replicate 240 (.int .u8 0)) 152)) w.heap.size 184 240 f) := ((Row8.boxedAt rfl _ _ _).alloc _).alloc _
 have K1 : Hid (Row8 (((w.alloc (.cells (bA 240 f) 184)).alloc (.cells (Array.replicate 240 (.int .u8 0)) 152)).alloc (.cells (Array.replicate 240 (.int .u8 0)) 152)) (w.heap.size + 1) 152 240 (fun _ => 0)) := (Row8.zerosAt (by simp) _ _).alloc _
 have K2 : Hid (Row8 (((w.alloc (.cells (bA 240 f) 184)).alloc (.cells (Array.replicate 240 (.int .u8 0)) 152)).alloc (.cells (Array.replicate 240 (.int .u8 0)) 152)) (w.heap.size + 1 + 1) 152 240 (fun _ => 0)) := Row8.zerosAt (by simp) _ _
 have K3 : Hid (Below w.heap.size w (((w.alloc (.cells (bA 240 f) 184)).alloc (.cells (Array.replicate 240 (.int .u8 0)) 152)).alloc (.cells (Array.replicate 240 (.int .u8 0)) 152))) := (((Below.refl _ _).alloc (Nat.le_refl _) _).alloc (by simp) _).alloc (by simp; omega) _
 go_enter Tryz.func131, Tryz.ntmps131
 go_wp2_with (refine wpList_load_mid rfl 184 (.tmp 1) rfl w.heap.size 0 rfl (bv 240 f) _ K0.out.range Tryz.underlying184 rfl (by rw [bv_length]; exact Tryz.sizeW) ?_)
 generalize ((w.alloc (.cells (bA 240 f) 184)).alloc (.cells (Array.replicate 240 (.int .u8 0)) 152)).alloc (.cells (Array.replicate 240 (.int .u8 0)) 152) = wz at *
 have eA : (bv 240 f).toArray = bA 240 f := rfl
 rw [eA]
 clear eA K0
 go_loopw [4, 5, 9] (fun _ _ i wr => ∃ k : Nat, k ≤ 60 ∧ i = .int .i64 k ∧ Row8 wr (w.heap.size + 1) 152 240 (fun _ => 0) ∧ Row8 wr (w.heap.size + 1 + 1) 152 240 (fun j => if j < k * 4 then f j else 0) ∧ Below w.heap.size w wr) (fun _ _ i _ => 60 - (intOf i).toNat)
 case atStart => exact ⟨0, by omega, rfl, K1.out, K2.out.congr (fun j hj => by simp), K3.out⟩
 case round =>
  obtain ⟨k, hk, rfl, h1, h2, hb⟩ := hrel
  have H1 : Hid (Row8 wr (w.heap.size + 1) 152 240 (fun _ => 0)) := h1
  have H2 : Hid (Row8 wr (w.heap.size + 1 + 1) 152 240 (fun j => if j < k * 4 then f j else 0)) := h2
  have HB : Hid (Below w.heap.size w wr) := hb
  by_cases hlt : k < 60
  ·have ix := idxW (f := f) hlt
   have hl2 := World.rowIs.lt h2
   have j0 := idx0
   have j1 := idx1
   have j2 := idx2
   have j3 := idx3
   have g0 := World.rowIs.cell h2 (i := k * 4) (by omega)
   have g1 := World.rowIs.cell h2 (i := k * 4 + 1) (by omega)
   have g2 := World.rowIs.cell h2 (i := k * 4 + 2) (by omega)
   have g3 := World.rowIs.cell h2 (i := k * 4 + 3) (by omega)
   have q0 := World.rowIs.frozen h2 (k * 4)
   have q1 := World.rowIs.frozen h2 (k * 4 + 1)
   have q2 := World.rowIs.frozen h2 (k * 4 + 2)
   have q3 := World.rowIs.frozen h2 (k * 4 + 3)
   clear h1 h2 hb K1 K2 K3
   have o0 : k / 4 * 16 + k % 4 * 4 = k * 4 := by omega
   have o1 : k / 4 * 16 + (k % 4 * 4 + 1) = k * 4 + 1 := by omega
   have o2 : k / 4 * 16 + (k % 4 * 4 + 2) = k * 4 + 2 := by omega
   have o3 : k / 4 * 16 + (k % 4 * 4 + 3) = k * 4 + 3 := by omega
   go_wp2
   refine wp_loop_rounds 5 ?_
   rw [rounds_succ]
   go_wp2
   rw [rounds_succ]
   go_wp2
   rw [rounds_succ]
   go_wp2
   rw [rounds_succ]
   go_wp2
   rw [rounds_succ]
   go_wp2
   go_roundw
   case rel =>
    refine ⟨k + 1, by omega, by go_num, ((((H1.out.other (by show w.heap.size + 1 ≠ w.heap.size + 1 + 1; omega) _).other (by show w.heap.size + 1 ≠ w.heap.size + 1 + 1; omega) _).other (by show w.heap.size + 1 ≠ w.heap.size + 1 + 1; omega) _).other (by show w.heap.size + 1 ≠ w.heap.size + 1 + 1; omega) _).alloc _, ?_, ((((HB.out.setCell (by show w.heap.size ≤ w.heap.size + 1 + 1; omega) _).setCell (by show w.heap.size ≤ w.heap.size + 1 + 1; omega) _).setCell (by show w.heap.size ≤ w.heap.size + 1 + 1; omega) _).setCell (by show w.heap.size ≤ w.heap.size + 1 + 1; omega) _).alloc (by simpa using HB.out.size) _⟩
    exact (((((H2.out.set (k * 4) (f (k * 4))).set (k * 4 + 1) (f (k * 4 + 1))).set (k * 4 + 2) (f (k * 4 + 2))).set (k * 4 + 3) (f (k * 4 + 3))).alloc _).congr (fun j hj => by
     by_cases h1 : j < k * 4
     ·rw [if_neg (by omega), if_neg (by omega), if_neg (by omega), if_neg (by omega), if_pos h1, if_pos (by omega)]
     ·by_cases h2 : j < (k + 1) * 4
      ·rw [if_pos h2]
       rcases (show j = k * 4 ∨ j = k * 4 + 1 ∨ j = k * 4 + 2 ∨ j = k * 4 + 3 by omega) with rfl | rfl | rfl | rfl <;> simp
      ·rw [if_neg (by omega), if_neg (by omega), if_neg (by omega), if_neg (by omega), if_neg h1, if_neg h2])
   case measure => simp [intOf]; omega
  ·have H2' : Hid (Row8 wr (w.heap.size + 1 + 1) 152 240 f) := h2.congr (fun j hj => by rw [if_pos (by omega)])
   clear h1 h2 hb K1 K2 K3 H2
   go_wp2_with (first
    | (refine wpList_load_mid rfl 152 (.tmp 3) rfl (w.heap.size + 1 + 1) 0 rfl (bv 240 f) _ H2'.out.range Tryz.underlying152 rfl (by rw [bv_length]; exact Tryz.sizeK) ?_)
    | (refine wpList_store_mid rfl 152 (.tmp 2) (.tmp 30) rfl (w.heap.size + 1) 0 (bA 240 f) rfl rfl (by rw [bA_size]; exact H1.out.there) (by rw [bA_size]; exact Tryz.sizeK) (bA_one _ _) ?_))
   rw [bA_toList]
   have L : (loadVar 152 ⟨w.heap.size + 1, 0, none⟩).run Tryz.prog (wr.setCells (w.heap.size + 1) 0 (bv 240 f)) = .ok (.agg (bA 240 f)) (wr.setCells (w.heap.size + 1) 0 (bv 240 f)) := (H1.out.stored _).load Tryz.underlying152 rfl Tryz.sizeK
   have B : Below w.heap.size w (wr.setCells (w.heap.size + 1) 0 (bv 240 f)) := below_setCells (by omega) _ _ _ HB.out
   exact bodyPost_ret (v := .agg (bA 240 f)) (results_cell_one (b := w.heap.size + 1) (o := 0) Tryz.results131 _ _ _ rfl L) rfl ⟨rfl, B⟩
end Go.Proofs.YtboekhegbachpaaGreatDoor
