/-
  Texts of the proof, joined: IntS, Cols, Subst, States, Mix, EncMath, Mixed, Jump.
-/
import Derived.Test.YtiamaoihachhgaaGreatDoorRows
import Derived.WalkKit
import Derived.ProofKit
import Derived.OpenShut
import Derived.Below
import Derived.WalkSmall
import Derived.Deep.QuietTactic
import Derived.BigQuiet
import Derived.Deep.OwnRows
import Derived.Test.YtiamaoihachhgaaGreatDoorE01
import Derived.Test.YtiamaoihachhgaaGreatDoorE05
import Derived.Handy
import Derived.Test.YtiamaoihachhgaaGreatDoorE09
import Derived.Deep.RegionHeld3
import Derived.Deep.Cut
import Derived.WalkMore
import Derived.ScopeJumps
namespace Go.Proofs.YtiamaoihachhgaaGreatDoor
open Go.ChangeShapes Go.WideShapes Go.ChangeAt Go.RowKit
theorem cellBlock {w : World} {p : Addr} {v : Value} (h : w.cell? p = some v) : p.block < w.heap.size := by
 rcases Nat.lt_or_ge p.block w.heap.size with g | g
 ·exact g
 ·simp [World.cell?, Array.getElem?_eq_none g] at h
theorem numEq {k : IntKind} {a b : Int} (h : a = b) : Value.int k a = .int k b := by rw [h]
end Go.Proofs.YtiamaoihachhgaaGreatDoor
namespace Go.Proofs.YtiamaoihachhgaaGreatDoor
open Go.ChangeShapes Go.WideShapes Go.ChangeAt Go.RowKit
theorem Tryz.sizeU8 : (Tryz.prog.info? 5).map (·.size) = some 1 := by kernel_rfl
theorem idx0 (x0 x1 x2 x3 : Int) (w : World) : (Instr.index 264 (.agg #[.int .u8 x0, .int .u8 x1, .int .u8 x2, .int .u8 x3]) (.int .i64 0)).run Tryz.prog w = .ok (.int .u8 x0) w := run_index_flat (k := 0) Tryz.underlying264 Tryz.underlying5 rfl Tryz.sizeU8 (by omega) rfl w
theorem idx1 (x0 x1 x2 x3 : Int) (w : World) : (Instr.index 264 (.agg #[.int .u8 x0, .int .u8 x1, .int .u8 x2, .int .u8 x3]) (.int .i64 1)).run Tryz.prog w = .ok (.int .u8 x1) w := run_index_flat (k := 1) Tryz.underlying264 Tryz.underlying5 rfl Tryz.sizeU8 (by omega) rfl w
theorem idx2 (x0 x1 x2 x3 : Int) (w : World) : (Instr.index 264 (.agg #[.int .u8 x0, .int .u8 x1, .int .u8 x2, .int .u8 x3]) (.int .i64 2)).run Tryz.prog w = .ok (.int .u8 x2) w := run_index_flat (k := 2) Tryz.underlying264 Tryz.underlying5 rfl Tryz.sizeU8 (by omega) rfl w
theorem idx3 (x0 x1 x2 x3 : Int) (w : World) : (Instr.index 264 (.agg #[.int .u8 x0, .int .u8 x1, .int .u8 x2, .int .u8 x3]) (.int .i64 3)).run Tryz.prog w = .ok (.int .u8 x3) w := run_index_flat (k := 3) Tryz.underlying264 Tryz.underlying5 rfl Tryz.sizeU8 (by omega) rfl w
end Go.Proofs.YtiamaoihachhgaaGreatDoor
namespace Go.Proofs.YtiamaoihachhgaaGreatDoor
open Go.ChangeShapes Go.WideShapes Go.ChangeAt Go.RowKit
theorem Tryz.info256 : (Tryz.prog.info? 241).map (fun i => (i.zero, i.size)) = some (some (.agg (Array.replicate 256 (.int .u8 0))), 256) := by kernel_rfl
theorem Tryz.zero256 : ∀ w, (zeroValue 241).run Tryz.prog w = .ok (.agg (Array.replicate 256 (.int .u8 0))) w := (zero_of_info Tryz.info256).1
theorem Tryz.size256 : (Tryz.prog.info? 241).map (·.size) = some 256 := (zero_of_info Tryz.info256).2
theorem Tryz.info255 : (Tryz.prog.info? 261).map (fun i => (i.zero, i.size)) = some (some (.agg (Array.replicate 255 (.int .u8 0))), 255) := by kernel_rfl
theorem Tryz.zero255 : ∀ w, (zeroValue 261).run Tryz.prog w = .ok (.agg (Array.replicate 255 (.int .u8 0))) w := (zero_of_info Tryz.info255).1
theorem Tryz.size255 : (Tryz.prog.info? 261).map (·.size) = some 255 := (zero_of_info Tryz.info255).2
theorem Tryz.size8 : (Tryz.prog.info? 5).map (·.size) = some 1 := by kernel_rfl
theorem idx255 {f : Nat → Nat} {k : Nat} (h : k < 255) (w : World) : (Instr.index 261 (.agg (bA 255 f)) (.int .i64 (k : Int))).run Tryz.prog w = .ok (.int .u8 (f k : Nat)) w :=
 run_index_flat Tryz.underlying261 Tryz.underlying5 rfl Tryz.size8 h (bA_at h) w
theorem idx256 {f : Nat → Nat} {k : Nat} (h : k < 256) (w : World) : (Instr.index 241 (.agg (bA 256 f)) (.int .i64 (k : Int))).run Tryz.prog w = .ok (.int .u8 (f k : Nat)) w :=
 run_index_flat Tryz.underlying241 Tryz.underlying5 rfl Tryz.size8 h (bA_at h) w
theorem spread0 : Gf.spread 0 = 99 := by decide +kernel
set_option maxRecDepth 100000 in
set_option maxHeartbeats 2000000 in
theorem substitutes_any (w : World) :
  Calls Tryz.prog 191 #[] w fun e w' => e = .returned (.agg (bA 256 Gf.sub)) ∧ Below w.heap.size w w' := by
 have z1 := Tryz.zero256
 have z2 := Tryz.zero255
 have K0 : Hid (Row8 ((w.alloc (.cells (Array.replicate 256 (.int .u8 0)) 241)).alloc (.cells (Array.replicate 255 (.int .u8 0)) 261)) w.heap.size 241 256 (fun _ => 0)) := (Row8.zerosAt rfl _ _).alloc _
 have K1 : Hid (Row8 ((w.alloc (.cells (Array.replicate 256 (.int .u8 0)) 241)).alloc (.cells (Array.replicate 255 (.int .u8 0)) 261)) (w.heap.size + 1) 261 255 (fun _ => 0)) := Row8.zerosAt (by simp) _ _
 have K2 : Hid (Below w.heap.size w ((w.alloc (.cells (Array.replicate 256 (.int .u8 0)) 241)).alloc (.cells (Array.replicate 255 (.int .u8 0)) 261))) := ((Below.refl _ _).alloc (Nat.le_refl _) _).alloc (by simp) _
 have K3 : Hid (((w.alloc (.cells (Array.replicate 256 (.int .u8 0)) 241)).alloc (.cells (Array.replicate 255 (.int .u8 0)) 261)).heap.size = w.heap.size + 2) := by show _ = _; simp
 go_enter Tryz.func191, Tryz.ntmps191
 go_wp2
 generalize (w.alloc (.cells (Array.replicate 256 (.int .u8 0)) 241)).alloc (.cells (Array.replicate 255 (.int .u8 0)) 261) = wz at *
 go_loopw [2, 3, 7] (fun x _ i wr => ∃ k : Nat, k ≤ 255 ∧ i = .int .i64 k ∧ x = .int .u8 (Gf.pw k : Nat) ∧ Row8 wr w.heap.size 241 256 (fun _ => 0) ∧ Row8 wr (w.heap.size + 1) 261 255 (fun j => if j < k then Gf.pw j else 0) ∧ Below w.heap.size w wr ∧ wr.heap.size = w.heap.size + 2) (fun _ _ i _ => 255 - (intOf i).toNat)
 case atStart => exact ⟨0, by omega, rfl, rfl, K0.out, K1.out.congr (fun j hj => by simp), K2.out, K3.out⟩
 case round =>
  obtain ⟨k, hk, rfl, rfl, h0, h1, hb, hs⟩ := hrel
  have H0 : Hid (Row8 wr w.heap.size 241 256 (fun _ => 0)) := h0
  have H1 : Hid (Row8 wr (w.heap.size + 1) 261 255 (fun j => if j < k then Gf.pw j else 0)) := h1
  have HB : Hid (Below w.heap.size w wr) := hb
  have HS : Hid (wr.heap.size = w.heap.size + 2) := hs
  have hp := Gf.pw_lt k
  have E : Hid (bits BinOp.xor IntKind.u8 (Gf.pw k : Int) (Gf.dbl (Gf.pw k) : Int) = ((Gf.pw (k + 1) : Nat) : Int)) := u8_xor_nat _ _ hp (Gf.dbl_lt _ hp)
  by_cases hlt : k < 255
  ·have c1 := World.rowIs.cell h1 hlt
   have f1 := World.rowIs.frozen h1 k
   clear h0 h1 hb hs K0 K1 K2 K3
   go_wp2_with (go_at_call 204; refine (double_any _ hp _).mono ?_; rintro e w' ⟨rfl, rfl⟩)
   go_roundw
   case rel =>
    refine ⟨k + 1, by omega, by go_num, val_int E.out, H0.out.other (by show w.heap.size ≠ w.heap.size + 1; omega) _, ?_, HB.out.setCell (by show w.heap.size ≤ w.heap.size + 1; omega) _, by simpa using HS.out⟩
    exact (H1.out.set k (Gf.pw k)).congr (fun j hj => by
     by_cases e : j = k
     ·subst e; simp
     ·simp only [if_neg e]
      by_cases h1 : j < k
      ·rw [if_pos h1, if_pos (by omega)]
      ·rw [if_neg h1, if_neg (by omega)])
   case measure => simp [intOf]; omega
  ·have H1' : Hid (Row8 wr (w.heap.size + 1) 261 255 Gf.pw) := h1.congr (fun j hj => by rw [if_pos (by omega)])
   have hk' : ¬ (k : Int) < 255 := by omega
   clear h0 h1 hb K0 K1 K2 K3 E H1 hp
   generalize Gf.pw k = V
   generalize (k : Int) = kk at *
   clear hk hlt
   have P0 : Hid (Row8 (wr.alloc (.cells ((Array.replicate 256 (.int .u8 0)).setIfInBounds 0 (.int .u8 99)) 241)) (w.heap.size + 2) 241 256 (fun j => if j = 0 then 99 else 0)) := Row8.zerosSetAt HS.out 241 256 0 99
   have P1 : Hid (Row8 (wr.alloc (.cells ((Array.replicate 256 (.int .u8 0)).setIfInBounds 0 (.int .u8 99)) 241)) (w.heap.size + 1) 261 255 Gf.pw) := H1'.out.alloc _
   have P2 : Hid (Row8 (wr.alloc (.cells ((Array.replicate 256 (.int .u8 0)).setIfInBounds 0 (.int .u8 99)) 241)) w.heap.size 241 256 (fun _ => 0)) := H0.out.alloc _
   have P3 : Hid (Below w.heap.size w (wr.alloc (.cells ((Array.replicate 256 (.int .u8 0)).setIfInBounds 0 (.int .u8 99)) 241))) := HB.out.alloc (by rw [HS.out]; omega) _
   have q0 : (Array.replicate 256 (Value.int .u8 0))[0]? = some (.int .u8 0) := by simp
   have e0 := spread0
   go_wp2_with (first | (go_at_call 205; refine (spreadBits_any 0 (by omega) _).mono ?_; rintro e w' ⟨rfl, rfl⟩) | (refine wpList_load_mid rfl 261 (.tmp 1) rfl (w.heap.size + 1) 0 rfl (bv 255 Gf.pw) _ P1.out.range Tryz.underlying261 rfl (by rw [bv_length]; exact Tryz.size255) ?_))
   clear q0 e0 H0 H1' HB HS hs
   generalize (wr.alloc (.cells ((Array.replicate 256 (.int .u8 0)).setIfInBounds 0 (.int .u8 99)) 241)) = wy at *
   have eA : (bv 255 Gf.pw).toArray = bA 255 Gf.pw := rfl
   rw [eA]
   clear eA
   go_loopw [5, 6, 21] (fun _ _ i wq => ∃ k : Nat, k ≤ 255 ∧ i = .int .i64 k ∧ Row8 wq w.heap.size 241 256 (fun _ => 0) ∧ Row8 wq (w.heap.size + 1) 261 255 Gf.pw ∧ Row8 wq (w.heap.size + 2) 241 256 (Gf.tabTo k) ∧ Below w.heap.size w wq) (fun _ _ i _ => 255 - (intOf i).toNat)
   case atStart => exact ⟨0, by omega, rfl, P2.out, P1.out, P0.out.congr (fun j hj => rfl), P3.out⟩
   case round =>
    obtain ⟨k, hk, rfl, h0, h1, h2, hb⟩ := hrel
    have H0 : Hid (Row8 wr w.heap.size 241 256 (fun _ => 0)) := h0
    have H1 : Hid (Row8 wr (w.heap.size + 1) 261 255 Gf.pw) := h1
    have H2 : Hid (Row8 wr (w.heap.size + 2) 241 256 (Gf.tabTo k)) := h2
    have HB : Hid (Below w.heap.size w wr) := hb
    by_cases hlt : k < 255
    ·have hp := Gf.pw_lt k
     have hm : (255 - k) % 255 < 255 := Nat.mod_lt _ (by omega)
     have hq := Gf.pw_lt ((255 - k) % 255)
     have c1 := World.rowIs.cell h1 hm
     have c2 := World.rowIs.cell h2 hp
     have f2 := World.rowIs.frozen h2 (Gf.pw k)
     have ix := idx255 (f := Gf.pw) hlt
     have em : (255 - (k : Int)) % 255 = (((255 - k) % 255 : Nat) : Int) := by omega
     have em' : -(k : Int) % 255 = (((255 - k) % 255 : Nat) : Int) := by omega
     have et : (255 - (k : Int)).tmod 255 = (((255 - k) % 255 : Nat) : Int) := by
      rw [show 255 - (k : Int) = ((255 - k : Nat) : Int) from by omega]
      exact (Int.ofNat_tmod (255 - k) 255).symm
     have E : Hid (∀ j, Gf.tabTo (k + 1) j = if j = Gf.pw k then Gf.spread (Gf.pw ((255 - k) % 255)) else Gf.tabTo k j) := fun j => rfl
     clear h0 h1 h2 hb P0 P1 P2 P3
     generalize (255 - k) % 255 = M at *
     generalize Gf.pw k = P at *
     generalize Gf.pw M = R at *
     go_wp2_with (go_at_call 205; refine (spreadBits_any R hq _).mono ?_; rintro e w' ⟨rfl, rfl⟩)
     go_roundw
     case rel =>
      refine ⟨k + 1, by omega, by go_num, H0.out.other (by show w.heap.size ≠ w.heap.size + 2; omega) _, H1.out.other (by show w.heap.size + 1 ≠ w.heap.size + 2; omega) _, ?_, HB.out.setCell (by show w.heap.size ≤ w.heap.size + 2; omega) _⟩
      exact (H2.out.set P (Gf.spread R)).congr (fun j hj => by rw [E.out j])
     case measure => simp [intOf]; omega
    ·have H2' : Hid (Row8 wr (w.heap.size + 2) 241 256 Gf.sub) := h2.congr (fun j hj => by rw [show k = 255 from by omega]; exact Gf.tab_last j hj)
     clear h0 h1 h2 hb P0 P1 P2 P3 H1 H2
     go_wp2_with (first
      | (refine wpList_load_mid rfl 241 (.tmp 4) rfl (w.heap.size + 2) 0 rfl (bv 256 Gf.sub) _ H2'.out.range Tryz.underlying241 rfl (by rw [bv_length]; exact Tryz.size256) ?_)
      | (refine wpList_store_mid rfl 241 (.tmp 0) (.tmp 34) rfl w.heap.size 0 (bA 256 Gf.sub) rfl rfl (by rw [bA_size]; exact H0.out.there) (by rw [bA_size]; exact Tryz.size256) (bA_one _ _) ?_))
     rw [bA_toList]
     have L : (loadVar 241 ⟨w.heap.size, 0, none⟩).run Tryz.prog (wr.setCells w.heap.size 0 (bv 256 Gf.sub)) = .ok (.agg (bA 256 Gf.sub)) (wr.setCells w.heap.size 0 (bv 256 Gf.sub)) := (H0.out.stored _).load Tryz.underlying241 rfl Tryz.size256
     have B : Below w.heap.size w (wr.setCells w.heap.size 0 (bv 256 Gf.sub)) := below_setCells (Nat.le_refl _) _ _ _ HB.out
     exact bodyPost_ret (v := .agg (bA 256 Gf.sub)) (results_cell_one (b := w.heap.size) (o := 0) Tryz.results191 _ _ _ rfl L) rfl ⟨rfl, B⟩
set_option maxRecDepth 100000 in
set_option maxHeartbeats 2000000 in
theorem backwards_any (w : World) :
  Calls Tryz.prog 193 #[.agg (bA 256 Gf.sub)] w fun e w' => e = .returned (.agg (bA 256 Gf.unsub)) ∧ Below w.heap.size w w' := by
 have z1 := Tryz.zero256
 have K0 : Hid (Row8 (((w.alloc (.cells (bA 256 Gf.sub) 241)).alloc (.cells (Array.replicate 256 (.int .u8 0)) 241)).alloc (.cells (Array.replicate 256 (.int .u8 0)) 241)) w.heap.size 241 256 Gf.sub) := ((Row8.boxedAt rfl _ _ _).alloc _).alloc _
 have K1 : Hid (Row8 (((w.alloc (.cells (bA 256 Gf.sub) 241)).alloc (.cells (Array.replicate 256 (.int .u8 0)) 241)).alloc (.cells (Array.replicate 256 (.int .u8 0)) 241)) (w.heap.size + 1) 241 256 (fun _ => 0)) := (Row8.zerosAt (by simp) _ _).alloc _
 have K2 : Hid (Row8 (((w.alloc (.cells (bA 256 Gf.sub) 241)).alloc (.cells (Array.replicate 256 (.int .u8 0)) 241)).alloc (.cells (Array.replicate 256 (.int .u8 0)) 241)) (w.heap.size + 1 + 1) 241 256 (fun _ => 0)) := Row8.zerosAt (by simp) _ _
 have K3 : Hid (Below w.heap.size w (((w.alloc (.cells (bA 256 Gf.sub) 241)).alloc (.cells (Array.replicate 256 (.int .u8 0)) 241)).alloc (.cells (Array.replicate 256 (.int .u8 0)) 241))) := (((Below.refl _ _).alloc (Nat.le_refl _) _).alloc (by simp) _).alloc (by simp; omega) _
 go_enter Tryz.func193, Tryz.ntmps193
 go_wp2_with (refine wpList_load_mid rfl 241 (.tmp 1) rfl w.heap.size 0 rfl (bv 256 Gf.sub) _ K0.out.range Tryz.underlying241 rfl (by rw [bv_length]; exact Tryz.size256) ?_)
 generalize ((w.alloc (.cells (bA 256 Gf.sub) 241)).alloc (.cells (Array.replicate 256 (.int .u8 0)) 241)).alloc (.cells (Array.replicate 256 (.int .u8 0)) 241) = wz at *
 have eA : (bv 256 Gf.sub).toArray = bA 256 Gf.sub := rfl
 rw [eA]
 clear eA K0
 go_loopw [4, 5, 7] (fun _ _ i wr => ∃ k : Nat, k ≤ 256 ∧ i = .int .i64 k ∧ Row8 wr (w.heap.size + 1) 241 256 (fun _ => 0) ∧ Row8 wr (w.heap.size + 1 + 1) 241 256 (Gf.backTo k) ∧ Below w.heap.size w wr) (fun _ _ i _ => 256 - (intOf i).toNat)
 case atStart => exact ⟨0, by omega, rfl, K1.out, K2.out.congr (fun j hj => rfl), K3.out⟩
 case round =>
  obtain ⟨k, hk, rfl, h1, h2, hb⟩ := hrel
  have H1 : Hid (Row8 wr (w.heap.size + 1) 241 256 (fun _ => 0)) := h1
  have H2 : Hid (Row8 wr (w.heap.size + 1 + 1) 241 256 (Gf.backTo k)) := h2
  have HB : Hid (Below w.heap.size w wr) := hb
  by_cases hlt : k < 256
  ·have hs := Gf.sub_lt k hlt
   have c2 := World.rowIs.cell h2 hs
   have f2 := World.rowIs.frozen h2 (Gf.sub k)
   have ix := idx256 (f := Gf.sub) hlt
   have E : Hid (∀ j, Gf.backTo (k + 1) j = if j = Gf.sub k then k else Gf.backTo k j) := fun j => rfl
   clear h1 h2 hb K1 K2 K3
   generalize Gf.sub k = P at *
   go_wp2
   go_roundw
   case rel =>
    refine ⟨k + 1, by omega, by go_num, H1.out.other (by show w.heap.size + 1 ≠ w.heap.size + 1 + 1; omega) _, ?_, HB.out.setCell (by show w.heap.size ≤ w.heap.size + 1 + 1; omega) _⟩
    exact (H2.out.set P k).congr (fun j hj => by rw [E.out j])
   case measure => simp [intOf]; omega
  ·have H2' : Hid (Row8 wr (w.heap.size + 1 + 1) 241 256 Gf.unsub) := h2.congr (fun j hj => by rw [show k = 256 from by omega]; exact Gf.back_last j hj)
   clear h1 h2 hb K1 K2 K3 H2
   go_wp2_with (first
    | (refine wpList_load_mid rfl 241 (.tmp 3) rfl (w.heap.size + 1 + 1) 0 rfl (bv 256 Gf.unsub) _ H2'.out.range Tryz.underlying241 rfl (by rw [bv_length]; exact Tryz.size256) ?_)
    | (refine wpList_store_mid rfl 241 (.tmp 2) (.tmp 16) rfl (w.heap.size + 1) 0 (bA 256 Gf.unsub) rfl rfl (by rw [bA_size]; exact H1.out.there) (by rw [bA_size]; exact Tryz.size256) (bA_one _ _) ?_))
   rw [bA_toList]
   have L : (loadVar 241 ⟨w.heap.size + 1, 0, none⟩).run Tryz.prog (wr.setCells (w.heap.size + 1) 0 (bv 256 Gf.unsub)) = .ok (.agg (bA 256 Gf.unsub)) (wr.setCells (w.heap.size + 1) 0 (bv 256 Gf.unsub)) := (H1.out.stored _).load Tryz.underlying241 rfl Tryz.size256
   have B : Below w.heap.size w (wr.setCells (w.heap.size + 1) 0 (bv 256 Gf.unsub)) := below_setCells (by omega) _ _ _ HB.out
   exact bodyPost_ret (v := .agg (bA 256 Gf.unsub)) (results_cell_one (b := w.heap.size + 1) (o := 0) Tryz.results193 _ _ _ rfl L) rfl ⟨rfl, B⟩
set_option maxRecDepth 100000 in
set_option maxHeartbeats 2000000 in
theorem subWord_any (a b c d : Nat) (ha : a < 256) (hb : b < 256) (hc : c < 256) (hd : d < 256) (w : World) :
  Calls Tryz.prog 206 #[.agg #[.int .u8 a, .int .u8 b, .int .u8 c, .int .u8 d], .agg (bA 256 Gf.sub)] w fun e w' => e = .returned (.agg #[.int .u8 (Gf.sub a : Nat), .int .u8 (Gf.sub b : Nat), .int .u8 (Gf.sub c : Nat), .int .u8 (Gf.sub d : Nat)]) ∧ Below w.heap.size w w' := by
 have pa := bA_at (n := 256) (f := Gf.sub) ha
 have pb := bA_at (n := 256) (f := Gf.sub) hb
 have pc := bA_at (n := 256) (f := Gf.sub) hc
 have pd := bA_at (n := 256) (f := Gf.sub) hd
 have i0 := idx0
 have i1 := idx1
 have i2 := idx2
 have i3 := idx3
 generalize bA 256 Gf.sub = T at *
 generalize Gf.sub a = A at *
 generalize Gf.sub b = B at *
 generalize Gf.sub c = C at *
 generalize Gf.sub d = D at *
 go_enter Tryz.func206, Tryz.ntmps206
 go_wp2
 refine wp_loop_rounds 5 ?_
 rw [rounds_succ]
 go_wp2
 rw [rounds_succ]
 go_wp2
 rw [rounds_succ]
 go_wp2
 rw [rounds_succ]
 go_wp2
 rw [rounds_succ]
 go_wp2
 exact bodyPost_ret (v := .agg #[.int .u8 (A : Nat), .int .u8 (B : Nat), .int .u8 (C : Nat), .int .u8 (D : Nat)]) (by simp [results, Tryz.results206, go_sem]) rfl ⟨rfl, (((Below.refl _ _).alloc (Nat.le_refl _) _).alloc (by simp) _).alloc (by simp; omega) _⟩
end Go.Proofs.YtiamaoihachhgaaGreatDoor
namespace Go.Proofs.YtiamaoihachhgaaGreatDoor
open Go.ChangeShapes Go.WideShapes Go.ChangeAt Go.RowKit
theorem run_index_part {P : Program} {t e : TypeId} {n m : Nat} {d : TypeDesc} (hu : P.underlying t = some (.array n e)) (he : P.underlying e = some d) (hd : d.isRow = true)
  (hs : (P.info? e).map (·.size) = some m) {A : Array Value} {k : Nat} (hk : k < n) (w : World) :
  (Instr.index t (.agg A) (.int .i64 (k : Int))).run P w = .ok (.agg (A.extract (k * m) (k * m + m))) w := by
 cases hq : P.info? e with
 | none => simp [hq] at hs
 | some i =>
  have hz : i.size = m := by simpa [hq] using hs
  have hagg : (isAgg e).run P w = .ok true w := by
   unfold isAgg
   rw [Sem.run_bind, run_underlying he w]
   cases d <;> simp_all
  have hk1 : (0 : Int) ≤ (k : Int) ∧ (k : Int) < (n : Int) := by omega
  simp [Instr.index, asIntOf, Sem.run_bind, run_underlying hu w, hk1, sizeOf, typeInfo, hq, hz, part, hagg]
  intro h
  omega
theorem bA_extract4 {n : Nat} {f : Nat → Nat} {o : Nat} (h : o + 4 ≤ n) : (bA n f).extract o (o + 4) = #[.int .u8 (f o : Nat), .int .u8 (f (o + 1) : Nat), .int .u8 (f (o + 2) : Nat), .int .u8 (f (o + 3) : Nat)] := by
 apply Array.ext_getElem?
 intro i
 rw [Array.getElem?_extract]
 rcases (show i = 0 ∨ i = 1 ∨ i = 2 ∨ i = 3 ∨ 4 ≤ i by omega) with rfl | rfl | rfl | rfl | hi
 ·rw [if_pos (by rw [bA_size]; omega), bA_at (by omega)]; rfl
 ·rw [if_pos (by rw [bA_size]; omega), bA_at (by omega)]; rfl
 ·rw [if_pos (by rw [bA_size]; omega), bA_at (by omega)]; rfl
 ·rw [if_pos (by rw [bA_size]; omega), bA_at (by omega)]; rfl
 ·rw [if_neg (by rw [bA_size]; omega)]
  simp [hi]
theorem Tryz.infoK : (Tryz.prog.info? 240).map (fun i => (i.zero, i.size)) = some (some (.agg (Array.replicate 240 (.int .u8 0))), 240) := by kernel_rfl
theorem Tryz.zeroK : ∀ w, (zeroValue 240).run Tryz.prog w = .ok (.agg (Array.replicate 240 (.int .u8 0))) w := (zero_of_info Tryz.infoK).1
theorem Tryz.sizeK : (Tryz.prog.info? 240).map (·.size) = some 240 := (zero_of_info Tryz.infoK).2
theorem Tryz.infoW : (Tryz.prog.info? 265).map (fun i => (i.zero, i.size)) = some (some (.agg (Array.replicate 240 (.int .u8 0))), 240) := by kernel_rfl
theorem Tryz.zeroW : ∀ w, (zeroValue 265).run Tryz.prog w = .ok (.agg (Array.replicate 240 (.int .u8 0))) w := (zero_of_info Tryz.infoW).1
theorem Tryz.sizeW : (Tryz.prog.info? 265).map (·.size) = some 240 := (zero_of_info Tryz.infoW).2
theorem idxW {f : Nat → Nat} {k : Nat} (h : k < 60) (w : World) : (Instr.index 265 (.agg (bA 240 f)) (.int .i64 (k : Int))).run Tryz.prog w = .ok (.agg #[.int .u8 (f (k * 4) : Nat), .int .u8 (f (k * 4 + 1) : Nat), .int .u8 (f (k * 4 + 2) : Nat), .int .u8 (f (k * 4 + 3) : Nat)]) w := by
 rw [run_index_part (m := 4) Tryz.underlying265 Tryz.underlying264 rfl (by kernel_rfl) h w, bA_extract4 (by omega)]
set_option maxRecDepth 100000 in
set_option maxHeartbeats 2000000 in
theorem statesOf_any (f : Nat → Nat) (w : World) :
  Calls Tryz.prog 207 #[.agg (bA 240 f)] w fun e w' => e = .returned (.agg (bA 240 f)) ∧ Below w.heap.size w w' := by
 have z1 := Tryz.zeroK
 have K0 : Hid (Row8 (((w.alloc (.cells (bA 240 f) 265)).alloc (.cells (Array.replicate 240 (.int .u8 0)) 240)).alloc (.cells (Array.replicate 240 (.int .u8 0)) 240)) w.heap.size 265 240 f) := ((Row8.boxedAt rfl _ _ _).alloc _).alloc _
 have K1 : Hid (Row8 (((w.alloc (.cells (bA 240 f) 265)).alloc (.cells (Array.replicate 240 (.int .u8 0)) 240)).alloc (.cells (Array.replicate 240 (.int .u8 0)) 240)) (w.heap.size + 1) 240 240 (fun _ => 0)) := (Row8.zerosAt (by simp) _ _).alloc _
 have K2 : Hid (Row8 (((w.alloc (.cells (bA 240 f) 265)).alloc (.cells (Array.replicate 240 (.int .u8 0)) 240)).alloc (.cells (Array.replicate 240 (.int .u8 0)) 240)) (w.heap.size + 1 + 1) 240 240 (fun _ => 0)) := Row8.zerosAt (by simp) _ _
 have K3 : Hid (Below w.heap.size w (((w.alloc (.cells (bA 240 f) 265)).alloc (.cells (Array.replicate 240 (.int .u8 0)) 240)).alloc (.cells (Array.replicate 240 (.int .u8 0)) 240))) := (((Below.refl _ _).alloc (Nat.le_refl _) _).alloc (by simp) _).alloc (by simp; omega) _
 go_enter Tryz.func207, Tryz.ntmps207
 go_wp2_with (refine wpList_load_mid rfl 265 (.tmp 1) rfl w.heap.size 0 rfl (bv 240 f) _ K0.out.range Tryz.underlying265 rfl (by rw [bv_length]; exact Tryz.sizeW) ?_)
 generalize ((w.alloc (.cells (bA 240 f) 265)).alloc (.cells (Array.replicate 240 (.int .u8 0)) 240)).alloc (.cells (Array.replicate 240 (.int .u8 0)) 240) = wz at *
 have eA : (bv 240 f).toArray = bA 240 f := rfl
 rw [eA]
 clear eA K0
 go_loopw [4, 5, 9] (fun _ _ i wr => ∃ k : Nat, k ≤ 60 ∧ i = .int .i64 k ∧ Row8 wr (w.heap.size + 1) 240 240 (fun _ => 0) ∧ Row8 wr (w.heap.size + 1 + 1) 240 240 (fun j => if j < k * 4 then f j else 0) ∧ Below w.heap.size w wr) (fun _ _ i _ => 60 - (intOf i).toNat)
 case atStart => exact ⟨0, by omega, rfl, K1.out, K2.out.congr (fun j hj => by simp), K3.out⟩
 case round =>
  obtain ⟨k, hk, rfl, h1, h2, hb⟩ := hrel
  have H1 : Hid (Row8 wr (w.heap.size + 1) 240 240 (fun _ => 0)) := h1
  have H2 : Hid (Row8 wr (w.heap.size + 1 + 1) 240 240 (fun j => if j < k * 4 then f j else 0)) := h2
  have HB : Hid (Below w.heap.size w wr) := hb
  by_cases hlt : k < 60
  ·have ix := idxW (f := f) hlt
   have hl2 := World.rowIs.lt h2
   have j0 := idx0
   have j1 := idx1
   have j2 := idx2
   have j3 := idx3
   have g0 := World.rowIs.cell h2 (i := k * 4) (by omega)
   have g1 := World.rowIs.cell h2 (i := k * 4 + 1) (by omega)
   have g2 := World.rowIs.cell h2 (i := k * 4 + 2) (by omega)
   have g3 := World.rowIs.cell h2 (i := k * 4 + 3) (by omega)
   have q0 := World.rowIs.frozen h2 (k * 4)
   have q1 := World.rowIs.frozen h2 (k * 4 + 1)
   have q2 := World.rowIs.frozen h2 (k * 4 + 2)
   have q3 := World.rowIs.frozen h2 (k * 4 + 3)
   clear h1 h2 hb K1 K2 K3
   have o0 : k / 4 * 16 + k % 4 * 4 = k * 4 := by omega
   have o1 : k / 4 * 16 + (k % 4 * 4 + 1) = k * 4 + 1 := by omega
   have o2 : k / 4 * 16 + (k % 4 * 4 + 2) = k * 4 + 2 := by omega
   have o3 : k / 4 * 16 + (k % 4 * 4 + 3) = k * 4 + 3 := by omega
   go_wp2
   refine wp_loop_rounds 5 ?_
   rw [rounds_succ]
   go_wp2
   rw [rounds_succ]
   go_wp2
   rw [rounds_succ]
   go_wp2
   rw [rounds_succ]
   go_wp2
   rw [rounds_succ]
   go_wp2
   go_roundw
   case rel =>
    refine ⟨k + 1, by omega, by go_num, ((((H1.out.other (by show w.heap.size + 1 ≠ w.heap.size + 1 + 1; omega) _).other (by show w.heap.size + 1 ≠ w.heap.size + 1 + 1; omega) _).other (by show w.heap.size + 1 ≠ w.heap.size + 1 + 1; omega) _).other (by show w.heap.size + 1 ≠ w.heap.size + 1 + 1; omega) _).alloc _, ?_, ((((HB.out.setCell (by show w.heap.size ≤ w.heap.size + 1 + 1; omega) _).setCell (by show w.heap.size ≤ w.heap.size + 1 + 1; omega) _).setCell (by show w.heap.size ≤ w.heap.size + 1 + 1; omega) _).setCell (by show w.heap.size ≤ w.heap.size + 1 + 1; omega) _).alloc (by simpa using HB.out.size) _⟩
    exact (((((H2.out.set (k * 4) (f (k * 4))).set (k * 4 + 1) (f (k * 4 + 1))).set (k * 4 + 2) (f (k * 4 + 2))).set (k * 4 + 3) (f (k * 4 + 3))).alloc _).congr (fun j hj => by
     by_cases h1 : j < k * 4
     ·rw [if_neg (by omega), if_neg (by omega), if_neg (by omega), if_neg (by omega), if_pos h1, if_pos (by omega)]
     ·by_cases h2 : j < (k + 1) * 4
      ·rw [if_pos h2]
       rcases (show j = k * 4 ∨ j = k * 4 + 1 ∨ j = k * 4 + 2 ∨ j = k * 4 + 3 by omega) with rfl | rfl | rfl | rfl <;> simp
      ·rw [if_neg (by omega), if_neg (by omega), if_neg (by omega), if_neg (by omega), if_neg h1, if_neg h2])
   case measure => simp [intOf]; omega
  ·have H2' : Hid (Row8 wr (w.heap.size + 1 + 1) 240 240 f) := h2.congr (fun j hj => by rw [if_pos (by omega)])
   clear h1 h2 hb K1 K2 K3 H2
   go_wp2_with (first
    | (refine wpList_load_mid rfl 240 (.tmp 3) rfl (w.heap.size + 1 + 1) 0 rfl (bv 240 f) _ H2'.out.range Tryz.underlying240 rfl (by rw [bv_length]; exact Tryz.sizeK) ?_)
    | (refine wpList_store_mid rfl 240 (.tmp 2) (.tmp 30) rfl (w.heap.size + 1) 0 (bA 240 f) rfl rfl (by rw [bA_size]; exact H1.out.there) (by rw [bA_size]; exact Tryz.sizeK) (bA_one _ _) ?_))
   rw [bA_toList]
   have L : (loadVar 240 ⟨w.heap.size + 1, 0, none⟩).run Tryz.prog (wr.setCells (w.heap.size + 1) 0 (bv 240 f)) = .ok (.agg (bA 240 f)) (wr.setCells (w.heap.size + 1) 0 (bv 240 f)) := (H1.out.stored _).load Tryz.underlying240 rfl Tryz.sizeK
   have B : Below w.heap.size w (wr.setCells (w.heap.size + 1) 0 (bv 240 f)) := below_setCells (by omega) _ _ _ HB.out
   exact bodyPost_ret (v := .agg (bA 240 f)) (results_cell_one (b := w.heap.size + 1) (o := 0) Tryz.results207 _ _ _ rfl L) rfl ⟨rfl, B⟩
end Go.Proofs.YtiamaoihachhgaaGreatDoor
namespace Go.Proofs.YtiamaoihachhgaaGreatDoor
open Go.ChangeShapes Go.WideShapes Go.ChangeAt Go.RowKit
namespace Gf
def mx (a b c d x y : Nat) : Nat := (((((a ^^^ b) ^^^ c) ^^^ d)) ^^^ x) ^^^ dbl (x ^^^ y)
theorem mx_lt {a b c d x y : Nat} (ha : a < 256) (hb : b < 256) (hc : c < 256) (hd : d < 256) (hx : x < 256) (hy : y < 256) : mx a b c d x y < 256 :=
 xor_lt (xor_lt (xor_lt (xor_lt (xor_lt ha hb) hc) hd) hx) (dbl_lt _ (xor_lt hx hy))
end Gf
set_option maxRecDepth 100000 in
set_option maxHeartbeats 2000000 in
theorem mix_any (a b c d : Nat) (ha : a < 256) (hb : b < 256) (hc : c < 256) (hd : d < 256) (w : World) :
  Calls Tryz.prog 209 #[.agg #[.int .u8 a, .int .u8 b, .int .u8 c, .int .u8 d]] w fun e w' =>
   e = .returned (.agg #[.int .u8 (Gf.mx a b c d a b : Nat), .int .u8 (Gf.mx a b c d b c : Nat), .int .u8 (Gf.mx a b c d c d : Nat), .int .u8 (Gf.mx a b c d d a : Nat)]) ∧ Below w.heap.size w w' := by
 have hx : ∀ x y : Nat, x < 256 → y < 256 → bits .xor .u8 (x : Int) (y : Int) = ((x ^^^ y : Nat) : Int) := u8_xor_nat
 have hl : ∀ x y : Nat, x < 256 → y < 256 → x ^^^ y < 256 := fun x y => Gf.xor_lt
 have l1 := Gf.xor_lt ha hb
 have l2 := Gf.xor_lt l1 hc
 have l3 := Gf.xor_lt l2 hd
 have m1 := Gf.xor_lt hb hc
 have m2 := Gf.xor_lt hc hd
 have m3 := Gf.xor_lt hd ha
 have d0 := Gf.dbl_lt _ l1
 have d1 := Gf.dbl_lt _ m1
 have d2 := Gf.dbl_lt _ m2
 have d3 := Gf.dbl_lt _ m3
 have i0 : ∀ w : World, (Instr.index 264 (.agg #[.int .u8 a, .int .u8 b, .int .u8 c, .int .u8 d]) (.int .i64 0)).run Tryz.prog w = .ok (.int .u8 a) w := fun w => run_index_flat (k := 0) Tryz.underlying264 Tryz.underlying5 rfl Tryz.sizeU8 (by omega) rfl w
 have i1 : ∀ w : World, (Instr.index 264 (.agg #[.int .u8 a, .int .u8 b, .int .u8 c, .int .u8 d]) (.int .i64 1)).run Tryz.prog w = .ok (.int .u8 b) w := fun w => run_index_flat (k := 1) Tryz.underlying264 Tryz.underlying5 rfl Tryz.sizeU8 (by omega) rfl w
 have i2 : ∀ w : World, (Instr.index 264 (.agg #[.int .u8 a, .int .u8 b, .int .u8 c, .int .u8 d]) (.int .i64 2)).run Tryz.prog w = .ok (.int .u8 c) w := fun w => run_index_flat (k := 2) Tryz.underlying264 Tryz.underlying5 rfl Tryz.sizeU8 (by omega) rfl w
 have i3 : ∀ w : World, (Instr.index 264 (.agg #[.int .u8 a, .int .u8 b, .int .u8 c, .int .u8 d]) (.int .i64 3)).run Tryz.prog w = .ok (.int .u8 d) w := fun w => run_index_flat (k := 3) Tryz.underlying264 Tryz.underlying5 rfl Tryz.sizeU8 (by omega) rfl w
 go_enter Tryz.func209, Tryz.ntmps209
 go_wp2
 refine wp_loop_rounds 5 ?_
 rw [rounds_succ]
 go_wp2_with (go_at_call 204; refine (double_any (a ^^^ b) l1 _).mono ?_; rintro e w' ⟨rfl, rfl⟩)
 rw [rounds_succ]
 go_wp2_with (go_at_call 204; refine (double_any (b ^^^ c) m1 _).mono ?_; rintro e w' ⟨rfl, rfl⟩)
 rw [rounds_succ]
 go_wp2_with (go_at_call 204; refine (double_any (c ^^^ d) m2 _).mono ?_; rintro e w' ⟨rfl, rfl⟩)
 rw [rounds_succ]
 go_wp2_with (go_at_call 204; refine (double_any (d ^^^ a) m3 _).mono ?_; rintro e w' ⟨rfl, rfl⟩)
 rw [rounds_succ]
 go_wp2
 exact bodyPost_ret (v := .agg #[.int .u8 (Gf.mx a b c d a b : Nat), .int .u8 (Gf.mx a b c d b c : Nat), .int .u8 (Gf.mx a b c d c d : Nat), .int .u8 (Gf.mx a b c d d a : Nat)]) (by simp [results, Tryz.results209, go_sem, Gf.mx]) rfl ⟨rfl, (((Below.refl _ _).alloc (Nat.le_refl _) _).alloc (by simp) _).alloc (by simp; omega) _⟩
end Go.Proofs.YtiamaoihachhgaaGreatDoor
namespace Go.Proofs.YtiamaoihachhgaaGreatDoor
namespace Gf
def addK (s k : Nat → Nat) (j : Nat) : Nat := s j ^^^ k j
def ord (j : Nat) : Nat := (j + 4 * (j % 4)) % 16
def subTurn (s : Nat → Nat) (j : Nat) : Nat := sub (s (ord j))
def mixAt (s : Nat → Nat) (o r : Nat) : Nat := mx (s o) (s (o + 1)) (s (o + 2)) (s (o + 3)) (s (o + r)) (s (o + (r + 1) % 4))
def mixS (s : Nat → Nat) (j : Nat) : Nat := mixAt s (j / 4 * 4) (j % 4)
def keyAt (K : Nat → Nat) (i j : Nat) : Nat := K (i * 16 + j)
def encTo (K : Nat → Nat) (s : Nat → Nat) : Nat → Nat → Nat
 | 0 => addK s (keyAt K 0)
 | i + 1 => addK (mixS (subTurn (encTo K s i))) (keyAt K (i + 1))
def enc (K : Nat → Nat) (R : Nat) (s : Nat → Nat) : Nat → Nat := addK (subTurn (encTo K s (R - 1))) (keyAt K R)
theorem ord_lt (j : Nat) : ord j < 16 := Nat.mod_lt _ (by omega)
theorem addK_lt {s k : Nat → Nat} {j : Nat} (hs : s j < 256) (hk : k j < 256) : addK s k j < 256 := xor_lt hs hk
theorem subTurn_lt {s : Nat → Nat} (hs : ∀ j, j < 16 → s j < 256) (j : Nat) : subTurn s j < 256 := sub_lt _ (hs _ (ord_lt j))
theorem mixAt_lt {s : Nat → Nat} {o r : Nat} (hs : ∀ j, j < 16 → s j < 256) (ho : o + 4 ≤ 16) (hr : r < 4) : mixAt s o r < 256 :=
 mx_lt (hs _ (by omega)) (hs _ (by omega)) (hs _ (by omega)) (hs _ (by omega)) (hs _ (by omega)) (hs _ (by have := Nat.mod_lt (r + 1) (show 0 < 4 by omega); omega))
theorem mixS_lt {s : Nat → Nat} (hs : ∀ j, j < 16 → s j < 256) (j : Nat) (hj : j < 16) : mixS s j < 256 := mixAt_lt hs (by omega) (Nat.mod_lt _ (by omega))
theorem encTo_lt {K s : Nat → Nat} (hK : ∀ j, K j < 256) (hs : ∀ j, j < 16 → s j < 256) : ∀ i j, j < 16 → encTo K s i j < 256 := by
 intro i
 induction i with
 | zero => intro j hj; exact addK_lt (hs j hj) (hK _)
 | succ i ih => intro j hj; exact addK_lt (mixS_lt (fun j _ => subTurn_lt ih j) j hj) (hK _)
theorem enc_lt {K s : Nat → Nat} {R : Nat} (hK : ∀ j, K j < 256) (hs : ∀ j, j < 16 → s j < 256) (j : Nat) : enc K R s j < 256 := addK_lt (subTurn_lt (encTo_lt hK hs _) j) (hK _)
end Gf
end Go.Proofs.YtiamaoihachhgaaGreatDoor
namespace Go.Proofs.YtiamaoihachhgaaGreatDoor
open Go.ChangeShapes Go.WideShapes Go.ChangeAt Go.RowKit
theorem four_keep {w w1 : World} {b o x0 x1 x2 x3 : Nat} (h : w.cell? ⟨b, o, none⟩ = some (.int .u8 (x0 : Nat)) ∧ w.cell? ⟨b, o + 1, none⟩ = some (.int .u8 (x1 : Nat)) ∧ w.cell? ⟨b, o + 2, none⟩ = some (.int .u8 (x2 : Nat)) ∧ w.cell? ⟨b, o + 3, none⟩ = some (.int .u8 (x3 : Nat))) (hb : Below w.heap.size w w1) :
  w1.cell? ⟨b, o, none⟩ = some (.int .u8 (x0 : Nat)) ∧ w1.cell? ⟨b, o + 1, none⟩ = some (.int .u8 (x1 : Nat)) ∧ w1.cell? ⟨b, o + 2, none⟩ = some (.int .u8 (x2 : Nat)) ∧ w1.cell? ⟨b, o + 3, none⟩ = some (.int .u8 (x3 : Nat)) := by
 have hlt := cellBlock h.1
 rw [hb.cell (p := ⟨b, o, none⟩) hlt, hb.cell (p := ⟨b, o + 1, none⟩) hlt, hb.cell (p := ⟨b, o + 2, none⟩) hlt, hb.cell (p := ⟨b, o + 3, none⟩) hlt]
 exact h
set_option maxRecDepth 100000 in
set_option maxHeartbeats 2000000 in
theorem mixed_any (f : Nat → Nat) (hf : ∀ i, i < 16 → f i < 256) (w : World) :
  Calls Tryz.prog 196 #[.agg (bA 16 f)] w fun e w' => e = .returned (.agg (bA 16 (Gf.mixS f))) ∧ Below w.heap.size w w' := by
 have HF : Hid (∀ i, i < 16 → f i < 256) := hf
 clear hf
 have Z' : Hid (Row8 ((w.alloc (.cells (bA 16 f) 239)).alloc (.cells z16 239)) (w.heap.size + 1) 239 16 (fun _ => 0)) := Row8.z16At (by simp) _
 have R3' : Hid (Row8 ((w.alloc (.cells (bA 16 f) 239)).alloc (.cells z16 239)) w.heap.size 239 16 f) := (Row8.boxedAt rfl _ _ _).alloc _
 have B3 : Hid (Below w.heap.size w ((w.alloc (.cells (bA 16 f) 239)).alloc (.cells z16 239))) := ((Below.refl _ _).alloc (Nat.le_refl _) _).alloc (by simp) _
 unfold z16 at Z' R3' B3
 go_enter Tryz.func196, Tryz.ntmps196
 go_wp2
 generalize (w.alloc (.cells (bA 16 f) 239)).alloc (.cells #[.int .u8 0, .int .u8 0, .int .u8 0, .int .u8 0, .int .u8 0, .int .u8 0, .int .u8 0, .int .u8 0, .int .u8 0, .int .u8 0, .int .u8 0, .int .u8 0, .int .u8 0, .int .u8 0, .int .u8 0, .int .u8 0] 239) = wz at *
 go_loopw [3] (fun i wr => ∃ c : Nat, c ≤ 4 ∧ i = .int .i64 ((c * 4 : Nat) : Int) ∧ Row8 wr w.heap.size 239 16 (fun j => if j < c * 4 then Gf.mixS f j else f j) ∧ Row8 wr (w.heap.size + 1) 239 16 (fun _ => 0) ∧ Below w.heap.size w wr) (fun i _ => 16 - (intOf i).toNat)
 case atStart => exact ⟨0, by omega, rfl, R3'.out.congr (fun j hj => by simp), Z'.out, B3.out⟩
 case round =>
  obtain ⟨c, hc, rfl, hr, hz, hb⟩ := hrel
  have HR : Hid (Row8 wr w.heap.size 239 16 (fun j => if j < c * 4 then Gf.mixS f j else f j)) := hr
  have HZ : Hid (Row8 wr (w.heap.size + 1) 239 16 (fun _ => 0)) := hz
  have HB : Hid (Below w.heap.size w wr) := hb
  clear Z' R3' B3
  by_cases hlt : c < 4
  ·have c0 : wr.cell? ⟨w.heap.size, c * 4, none⟩ = some (.int .u8 (f (c * 4) : Nat)) := by have := World.rowIs.cell hr (i := c * 4) (by omega); simp only [] at this; rw [if_neg (by omega)] at this; exact this
   have c1 : wr.cell? ⟨w.heap.size, c * 4 + 1, none⟩ = some (.int .u8 (f (c * 4 + 1) : Nat)) := by have := World.rowIs.cell hr (i := c * 4 + 1) (by omega); simp only [] at this; rw [if_neg (by omega)] at this; exact this
   have c2 : wr.cell? ⟨w.heap.size, c * 4 + 2, none⟩ = some (.int .u8 (f (c * 4 + 2) : Nat)) := by have := World.rowIs.cell hr (i := c * 4 + 2) (by omega); simp only [] at this; rw [if_neg (by omega)] at this; exact this
   have c3 : wr.cell? ⟨w.heap.size, c * 4 + 3, none⟩ = some (.int .u8 (f (c * 4 + 3) : Nat)) := by have := World.rowIs.cell hr (i := c * 4 + 3) (by omega); simp only [] at this; rw [if_neg (by omega)] at this; exact this
   have l0 := HF.out (c * 4) (by omega)
   have l1 := HF.out (c * 4 + 1) (by omega)
   have l2 := HF.out (c * 4 + 2) (by omega)
   have l3 := HF.out (c * 4 + 3) (by omega)
   have MX : Hid (∀ r, r < 4 → Gf.mixS f (c * 4 + r) = Gf.mx (f (c * 4)) (f (c * 4 + 1)) (f (c * 4 + 2)) (f (c * 4 + 3)) (f (c * 4 + r)) (f (c * 4 + (r + 1) % 4))) := fun r hr => by
    rw [Gf.mixS, show (c * 4 + r) / 4 * 4 = c * 4 from by omega, show (c * 4 + r) % 4 = r from by omega]; rfl
   have hlt' : c * 4 + 4 ≤ 16 := by omega
   clear hr hz hb
   generalize hO : c * 4 = O at *
   have HO : Hid (c * 4 = O) := hO
   have b0 : (O : Int) < 16 := by omega
   have b1 : (O : Int) + 1 < 16 := by omega
   have b2 : (O : Int) + 2 < 16 := by omega
   have b3 : (O : Int) + 3 < 16 := by omega
   have p0 : (0 : Int) ≤ (O : Int) := by omega
   have p1 : (0 : Int) ≤ (O : Int) + 1 := by omega
   have p2 : (0 : Int) ≤ (O : Int) + 2 := by omega
   have p3 : (0 : Int) ≤ (O : Int) + 3 := by omega
   have t1 : ((O : Int) + 1).toNat = O + 1 := by omega
   have t2 : ((O : Int) + 2).toNat = O + 2 := by omega
   have t3 : ((O : Int) + 3).toNat = O + 3 := by omega
   have v1 : IntKind.i64.wrap ((O : Int) + 1) = O + 1 := IntWalk.i64_in _ ⟨by omega, by omega⟩
   have v2 : IntKind.i64.wrap ((O : Int) + 2) = O + 2 := IntWalk.i64_in _ ⟨by omega, by omega⟩
   have v3 : IntKind.i64.wrap ((O : Int) + 3) = O + 3 := IntWalk.i64_in _ ⟨by omega, by omega⟩
   have M0 := MX.out 0 (by omega)
   have M1 := MX.out 1 (by omega)
   have M2 := MX.out 2 (by omega)
   have M3 := MX.out 3 (by omega)
   have CALL : Hid (∀ w : World, Calls Tryz.prog 209 #[.agg #[.int .u8 (f O : Nat), .int .u8 (f (O + 1) : Nat), .int .u8 (f (O + 2) : Nat), .int .u8 (f (O + 3) : Nat)]] w fun e w' => e = .returned (.agg #[.int .u8 (Gf.mixS f O : Nat), .int .u8 (Gf.mixS f (O + 1) : Nat), .int .u8 (Gf.mixS f (O + 2) : Nat), .int .u8 (Gf.mixS f (O + 3) : Nat)]) ∧ Below w.heap.size w w') := fun w => by
    have := mix_any (f O) (f (O + 1)) (f (O + 2)) (f (O + 3)) l0 l1 l2 l3 w
    rw [Nat.add_zero] at M0
    rw [M0, M1, M2, M3]
    exact this
   have HM : Hid (∀ r, r < 4 → True) := fun _ _ => trivial
   clear M0 M1 M2 M3 MX HM
   generalize hA0 : f O = A0 at c0 l0 CALL
   generalize hA1 : f (O + 1) = A1 at c1 l1 CALL
   generalize hA2 : f (O + 2) = A2 at c2 l2 CALL
   generalize hA3 : f (O + 3) = A3 at c3 l3 CALL
   clear hA0 hA1 hA2 hA3
   go_wp2_with fail
   go_region_held3 (fun w' => w'.cell? ⟨w.heap.size, O, none⟩ = some (.int .u8 (A0 : Nat)) ∧ w'.cell? ⟨w.heap.size, O + 1, none⟩ = some (.int .u8 (A1 : Nat)) ∧ w'.cell? ⟨w.heap.size, O + 2, none⟩ = some (.int .u8 (A2 : Nat)) ∧ w'.cell? ⟨w.heap.size, O + 3, none⟩ = some (.int .u8 (A3 : Nat))) (first | exact four_keep (w := wr.drew) ⟨c0, c1, c2, c3⟩ hb | go_keep)
    ((first | (go_at_call 209; refine (CALL.out _).mono ?_; rintro e w1 ⟨rfl, hb⟩; have HR1 : Hid (Row8 w1 w.heap.size 239 16 (fun j => if j < O then Gf.mixS f j else f j)) := Row8.below (w := wr.drew) HR.out hb; have HZ1 : Hid (Row8 w1 (w.heap.size + 1) 239 16 (fun _ => 0)) := Row8.below (w := wr.drew) HZ.out hb; have HB1 : Hid (Below w.heap.size w w1) := HB.out.drew.trans (hb.mono HB.out.size))))
   clear hb c0 c1 c2 c3 HR HZ HB CALL
   have j0 := idx0
   have j1 := idx1
   have j2 := idx2
   have j3 := idx3
   have hl := World.rowIs.lt HR1.out
   have d0 : w1.cell? ⟨w.heap.size, O, none⟩ = some (.int .u8 (f (O) : Nat)) := by have := World.rowIs.cell HR1.out (i := O) (by omega); simp only [] at this; rw [if_neg (by omega)] at this; exact this
   have d1 : w1.cell? ⟨w.heap.size, O + 1, none⟩ = some (.int .u8 (f (O + 1) : Nat)) := by have := World.rowIs.cell HR1.out (i := O + 1) (by omega); simp only [] at this; rw [if_neg (by omega)] at this; exact this
   have d2 : w1.cell? ⟨w.heap.size, O + 2, none⟩ = some (.int .u8 (f (O + 2) : Nat)) := by have := World.rowIs.cell HR1.out (i := O + 2) (by omega); simp only [] at this; rw [if_neg (by omega)] at this; exact this
   have d3 : w1.cell? ⟨w.heap.size, O + 3, none⟩ = some (.int .u8 (f (O + 3) : Nat)) := by have := World.rowIs.cell HR1.out (i := O + 3) (by omega); simp only [] at this; rw [if_neg (by omega)] at this; exact this
   have f0 := World.rowIs.frozen HR1.out O
   have f1 := World.rowIs.frozen HR1.out (O + 1)
   have f2 := World.rowIs.frozen HR1.out (O + 2)
   have f3 := World.rowIs.frozen HR1.out (O + 3)
   go_wp2
   refine wp_loop_rounds 5 ?_
   rw [rounds_succ]
   go_wp2
   rw [rounds_succ]
   go_wp2
   rw [rounds_succ]
   go_wp2
   rw [rounds_succ]
   go_wp2
   rw [rounds_succ]
   go_wp2
   go_roundw
   case rel =>
    refine ⟨c + 1, by omega, numEq (by have := HO.out; omega), ?_, (((HZ1.out.other (by show w.heap.size + 1 ≠ w.heap.size; omega) _).other (by show w.heap.size + 1 ≠ w.heap.size; omega) _).other (by show w.heap.size + 1 ≠ w.heap.size; omega) _).other (by show w.heap.size + 1 ≠ w.heap.size; omega) _, (((HB1.out.setCell (Nat.le_refl _) _).setCell (Nat.le_refl _) _).setCell (Nat.le_refl _) _).setCell (Nat.le_refl _) _⟩
    exact ((((HR1.out.set O (Gf.mixS f O)).set (O + 1) (Gf.mixS f (O + 1))).set (O + 2) (Gf.mixS f (O + 2))).set (O + 3) (Gf.mixS f (O + 3))).congr (fun j hj => by
     have := HO.out
     by_cases h1 : j < O
     ·rw [if_neg (by omega), if_neg (by omega), if_neg (by omega), if_neg (by omega), if_pos h1, if_pos (by omega)]
     ·by_cases h2 : j < (c + 1) * 4
      ·rw [if_pos h2]
       rcases (show j = O ∨ j = O + 1 ∨ j = O + 2 ∨ j = O + 3 by omega) with rfl | rfl | rfl | rfl <;> simp
      ·rw [if_neg (by omega), if_neg (by omega), if_neg (by omega), if_neg (by omega), if_neg h1, if_neg h2])
   case measure => simp [intOf]; omega
  ·have HR' : Hid (Row8 wr w.heap.size 239 16 (Gf.mixS f)) := hr.congr (fun j hj => by rw [if_pos (by omega)])
   have hc' : ¬ ((c * 4 : Nat) : Int) < 16 := by omega
   clear hr hz hb HR
   generalize ((c * 4 : Nat) : Int) = cc at *
   generalize hG : Gf.mixS f = G at *
   have HG : Hid (Gf.mixS f = G) := hG
   clear hG
   go_upto_region 9 with fail
   refine wp_region_lit ?_
   refine wpList_load_mid rfl 239 (.tmp 1) rfl w.heap.size 0 rfl (bv 16 G) _ HR'.out.range Tryz.underlying239 rfl (by rw [bv_length]; exact Tryz.sizeSt) ?_
   refine wpList_store_mid rfl 239 (.tmp 2) (.tmp 37) rfl (w.heap.size + 1) 0 (bA 16 G) rfl rfl (by rw [bA_size]; exact HZ.out.there) (by rw [bA_size]; exact Tryz.sizeSt) (bA_one _ _) ?_
   rw [bA_toList]
   have L : Hid ((loadVar 239 ⟨w.heap.size + 1, 0, none⟩).run Tryz.prog (wr.setCells (w.heap.size + 1) 0 (bv 16 G)) = .ok (.agg (bA 16 G)) (wr.setCells (w.heap.size + 1) 0 (bv 16 G))) := (HZ.out.stored _).load Tryz.underlying239 rfl Tryz.sizeSt
   have B : Hid (Below w.heap.size w (wr.setCells (w.heap.size + 1) 0 (bv 16 G))) := below_setCells (by omega) _ _ _ HB.out
   have eA : (bv 16 G).toArray = bA 16 G := rfl
   rw [eA]
   generalize wr.setCells (w.heap.size + 1) 0 (bv 16 G) = wf at *
   generalize hA : bA 16 G = AA at *
   have HA : Hid (bA 16 G = AA) := hA
   clear hA eA
   go_wp2
   rw [HG.out, HA.out]
   exact bodyPost_ret (v := .agg AA) (results_cell_one (b := w.heap.size + 1) (o := 0) Tryz.results196 _ _ _ rfl L.out) rfl ⟨rfl, B.out⟩
end Go.Proofs.YtiamaoihachhgaaGreatDoor
namespace Go.Proofs.YtiamaoihachhgaaGreatDoor
theorem wp_scope_label {P : Program} {a : Act} {w : World} {Q : Exit → Act → World → Prop} {c body : Code} (l : Nat) (J : Act → World → Prop) (μ : Act → World → Nat) (hf : findLabel c l = some (Code.skip.seq body))
  (pass : ∀ a w, J a w → body.wp P (Exit.jump l (fun a' w' => J a' w' ∧ μ a' w' < μ a w) Q) a w)
  (first : (∀ a w, J a w → body.wp P (Exit.jump l J Q) a w) → c.wp P (Exit.jump l J Q) a w) : (Code.scope c).wp P Q a w :=
 wp_scope_jumps l J μ hf (first (fun a w h => Code.wp_mono (fun e a' w' hq => by
  cases e with
  | goto l' => exact ⟨hq.1, hq.2.1⟩
  | _ => exact hq) (pass a w h))) (fun a w h => wp_seq (wp_skip (pass a w h)))
theorem jump_ret {l : Nat} {J : Act → World → Prop} {Q : Exit → Act → World → Prop} {a : Act} {w : World} : Exit.jump l J Q .ret a w = Q .ret a w := rfl
def lenOf : Value → Nat | .slice _ n _ => n | _ => 0
end Go.Proofs.YtiamaoihachhgaaGreatDoor
