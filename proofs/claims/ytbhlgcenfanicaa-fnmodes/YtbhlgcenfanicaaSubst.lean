/-
  Contracts of the program's tables of substitutes (substitutes, backwards) and of subWord.
-/
import Derived.Test.YtbhlgcenfanicaaByte
import Derived.Test.YtbhlgcenfanicaaBytes
import Derived.Test.YtbhlgcenfanicaaCols
import Derived.Handy
import Derived.Test.YtbhlgcenfanicaaGfPow
namespace Go.Proofs.Ytbhlgcenfanicaa
open Go.ChangeShapes Go.WideShapes Go.ChangeAt Go.RowKit
theorem Try.info256 : (Try.prog.info? 41).map (fun i => (i.zero, i.size)) = some (some (.agg (Array.replicate 256 (.int .u8 0))), 256) := by kernel_rfl
theorem Try.zero256 : ∀ w, (zeroValue 41).run Try.prog w = .ok (.agg (Array.replicate 256 (.int .u8 0))) w := (zero_of_info Try.info256).1
theorem Try.size256 : (Try.prog.info? 41).map (·.size) = some 256 := (zero_of_info Try.info256).2
theorem Try.info255 : (Try.prog.info? 89).map (fun i => (i.zero, i.size)) = some (some (.agg (Array.replicate 255 (.int .u8 0))), 255) := by kernel_rfl
theorem Try.zero255 : ∀ w, (zeroValue 89).run Try.prog w = .ok (.agg (Array.replicate 255 (.int .u8 0))) w := (zero_of_info Try.info255).1
theorem Try.size255 : (Try.prog.info? 89).map (·.size) = some 255 := (zero_of_info Try.info255).2
theorem Try.size8 : (Try.prog.info? 5).map (·.size) = some 1 := by kernel_rfl
theorem idx255 {f : Nat → Nat} {k : Nat} (h : k < 255) (w : World) : (Instr.index 89 (.agg (bA 255 f)) (.int .i64 (k : Int))).run Try.prog w = .ok (.int .u8 (f k : Nat)) w :=
  run_index_flat Try.underlying89 Try.underlying5 rfl Try.size8 h (bA_at h) w
theorem idx256 {f : Nat → Nat} {k : Nat} (h : k < 256) (w : World) : (Instr.index 41 (.agg (bA 256 f)) (.int .i64 (k : Int))).run Try.prog w = .ok (.int .u8 (f k : Nat)) w :=
  run_index_flat Try.underlying41 Try.underlying5 rfl Try.size8 h (bA_at h) w
theorem spread0 : Gf.spread 0 = 99 := by decide +kernel
set_option maxRecDepth 100000 in
set_option maxHeartbeats 2000000 in
/-- impl.substitutes -/
theorem substitutes_any (w : World) :
    Calls Try.prog 49 #[] w fun e w' => e = .returned (.agg (bA 256 Gf.sub)) ∧ Below w.heap.size w w' := by
  have z1 := Try.zero256
  have z2 := Try.zero255
  have K0 : Hid (Row8 ((w.alloc (.cells (Array.replicate 256 (.int .u8 0)) 41)).alloc (.cells (Array.replicate 255 (.int .u8 0)) 89)) w.heap.size 41 256 (fun _ => 0)) := (Row8.zerosAt rfl _ _).alloc _
  have K1 : Hid (Row8 ((w.alloc (.cells (Array.replicate 256 (.int .u8 0)) 41)).alloc (.cells (Array.replicate 255 (.int .u8 0)) 89)) (w.heap.size + 1) 89 255 (fun _ => 0)) := Row8.zerosAt (by simp) _ _
  have K2 : Hid (Below w.heap.size w ((w.alloc (.cells (Array.replicate 256 (.int .u8 0)) 41)).alloc (.cells (Array.replicate 255 (.int .u8 0)) 89))) := ((Below.refl _ _).alloc (Nat.le_refl _) _).alloc (by simp) _
  have K3 : Hid (((w.alloc (.cells (Array.replicate 256 (.int .u8 0)) 41)).alloc (.cells (Array.replicate 255 (.int .u8 0)) 89)).heap.size = w.heap.size + 2) := by show _ = _; simp
  go_enter Try.func49, Try.ntmps49
  go_wp2
  generalize (w.alloc (.cells (Array.replicate 256 (.int .u8 0)) 41)).alloc (.cells (Array.replicate 255 (.int .u8 0)) 89) = wz at *
  go_loopw [2, 3, 7] (fun x _ i wr => ∃ k : Nat, k ≤ 255 ∧ i = .int .i64 k ∧ x = .int .u8 (Gf.pw k : Nat) ∧ Row8 wr w.heap.size 41 256 (fun _ => 0) ∧ Row8 wr (w.heap.size + 1) 89 255 (fun j => if j < k then Gf.pw j else 0) ∧ Below w.heap.size w wr ∧ wr.heap.size = w.heap.size + 2) (fun _ _ i _ => 255 - (intOf i).toNat)
  case atStart => exact ⟨0, by omega, rfl, rfl, K0.out, K1.out.congr (fun j hj => by simp), K2.out, K3.out⟩
  case round =>
    obtain ⟨k, hk, rfl, rfl, h0, h1, hb, hs⟩ := hrel
    have H0 : Hid (Row8 wr w.heap.size 41 256 (fun _ => 0)) := h0
    have H1 : Hid (Row8 wr (w.heap.size + 1) 89 255 (fun j => if j < k then Gf.pw j else 0)) := h1
    have HB : Hid (Below w.heap.size w wr) := hb
    have HS : Hid (wr.heap.size = w.heap.size + 2) := hs
    have hp := Gf.pw_lt k
    have E : Hid (bits BinOp.xor IntKind.u8 (Gf.pw k : Int) (Gf.dbl (Gf.pw k) : Int) = ((Gf.pw (k + 1) : Nat) : Int)) := u8_xor_nat _ _ hp (Gf.dbl_lt _ hp)
    by_cases hlt : k < 255
    · have c1 := World.rowIs.cell h1 hlt
      have f1 := World.rowIs.frozen h1 k
      clear h0 h1 hb hs K0 K1 K2 K3
      go_wp2_with (go_at_call 74; refine (double_any _ hp _).mono ?_; rintro e w' ⟨rfl, rfl⟩)
      go_roundw
      case rel =>
        refine ⟨k + 1, by omega, by go_num, val_int E.out, H0.out.other (by show w.heap.size ≠ w.heap.size + 1; omega) _, ?_, HB.out.setCell (by show w.heap.size ≤ w.heap.size + 1; omega) _, by simpa using HS.out⟩
        exact (H1.out.set k (Gf.pw k)).congr (fun j hj => by
          by_cases e : j = k
          · subst e; simp
          · simp only [if_neg e]
            by_cases h1 : j < k
            · rw [if_pos h1, if_pos (by omega)]
            · rw [if_neg h1, if_neg (by omega)])
      case measure => simp [intOf]; omega
    · have H1' : Hid (Row8 wr (w.heap.size + 1) 89 255 Gf.pw) := h1.congr (fun j hj => by rw [if_pos (by omega)])
      have hk' : ¬ (k : Int) < 255 := by omega
      clear h0 h1 hb K0 K1 K2 K3 E H1 hp
      generalize Gf.pw k = V
      generalize (k : Int) = kk at *
      clear hk hlt
      have P0 : Hid (Row8 (wr.alloc (.cells ((Array.replicate 256 (.int .u8 0)).setIfInBounds 0 (.int .u8 99)) 41)) (w.heap.size + 2) 41 256 (fun j => if j = 0 then 99 else 0)) := Row8.zerosSetAt HS.out 41 256 0 99
      have P1 : Hid (Row8 (wr.alloc (.cells ((Array.replicate 256 (.int .u8 0)).setIfInBounds 0 (.int .u8 99)) 41)) (w.heap.size + 1) 89 255 Gf.pw) := H1'.out.alloc _
      have P2 : Hid (Row8 (wr.alloc (.cells ((Array.replicate 256 (.int .u8 0)).setIfInBounds 0 (.int .u8 99)) 41)) w.heap.size 41 256 (fun _ => 0)) := H0.out.alloc _
      have P3 : Hid (Below w.heap.size w (wr.alloc (.cells ((Array.replicate 256 (.int .u8 0)).setIfInBounds 0 (.int .u8 99)) 41))) := HB.out.alloc (by rw [HS.out]; omega) _
      have q0 : (Array.replicate 256 (Value.int .u8 0))[0]? = some (.int .u8 0) := by simp
      have e0 := spread0
      go_wp2_with (first | (go_at_call 75; refine (spreadBits_any 0 (by omega) _).mono ?_; rintro e w' ⟨rfl, rfl⟩) | (refine wpList_load_mid rfl 89 (.tmp 1) rfl (w.heap.size + 1) 0 rfl (bv 255 Gf.pw) _ P1.out.range Try.underlying89 rfl (by rw [bv_length]; exact Try.size255) ?_))
      clear q0 e0 H0 H1' HB HS hs
      generalize (wr.alloc (.cells ((Array.replicate 256 (.int .u8 0)).setIfInBounds 0 (.int .u8 99)) 41)) = wy at *
      have eA : (bv 255 Gf.pw).toArray = bA 255 Gf.pw := rfl
      rw [eA]
      clear eA
      go_loopw [5, 6, 21] (fun _ _ i wq => ∃ k : Nat, k ≤ 255 ∧ i = .int .i64 k ∧ Row8 wq w.heap.size 41 256 (fun _ => 0) ∧ Row8 wq (w.heap.size + 1) 89 255 Gf.pw ∧ Row8 wq (w.heap.size + 2) 41 256 (Gf.tabTo k) ∧ Below w.heap.size w wq) (fun _ _ i _ => 255 - (intOf i).toNat)
      case atStart => exact ⟨0, by omega, rfl, P2.out, P1.out, P0.out.congr (fun j hj => rfl), P3.out⟩
      case round =>
        obtain ⟨k, hk, rfl, h0, h1, h2, hb⟩ := hrel
        have H0 : Hid (Row8 wr w.heap.size 41 256 (fun _ => 0)) := h0
        have H1 : Hid (Row8 wr (w.heap.size + 1) 89 255 Gf.pw) := h1
        have H2 : Hid (Row8 wr (w.heap.size + 2) 41 256 (Gf.tabTo k)) := h2
        have HB : Hid (Below w.heap.size w wr) := hb
        by_cases hlt : k < 255
        · have hp := Gf.pw_lt k
          have hm : (255 - k) % 255 < 255 := Nat.mod_lt _ (by omega)
          have hq := Gf.pw_lt ((255 - k) % 255)
          have c1 := World.rowIs.cell h1 hm
          have c2 := World.rowIs.cell h2 hp
          have f2 := World.rowIs.frozen h2 (Gf.pw k)
          have ix := idx255 (f := Gf.pw) hlt
          have em : (255 - (k : Int)) % 255 = (((255 - k) % 255 : Nat) : Int) := by omega
          have em' : -(k : Int) % 255 = (((255 - k) % 255 : Nat) : Int) := by omega
          have et : (255 - (k : Int)).tmod 255 = (((255 - k) % 255 : Nat) : Int) := by
            rw [show 255 - (k : Int) = ((255 - k : Nat) : Int) from by omega]
            exact (Int.ofNat_tmod (255 - k) 255).symm
          have E : Hid (∀ j, Gf.tabTo (k + 1) j = if j = Gf.pw k then Gf.spread (Gf.pw ((255 - k) % 255)) else Gf.tabTo k j) := fun j => rfl
          clear h0 h1 h2 hb P0 P1 P2 P3
          generalize (255 - k) % 255 = M at *
          generalize Gf.pw k = P at *
          generalize Gf.pw M = R at *
          go_wp2_with (go_at_call 75; refine (spreadBits_any R hq _).mono ?_; rintro e w' ⟨rfl, rfl⟩)
          go_roundw
          case rel =>
            refine ⟨k + 1, by omega, by go_num, H0.out.other (by show w.heap.size ≠ w.heap.size + 2; omega) _, H1.out.other (by show w.heap.size + 1 ≠ w.heap.size + 2; omega) _, ?_, HB.out.setCell (by show w.heap.size ≤ w.heap.size + 2; omega) _⟩
            exact (H2.out.set P (Gf.spread R)).congr (fun j hj => by rw [E.out j])
          case measure => simp [intOf]; omega
        · have H2' : Hid (Row8 wr (w.heap.size + 2) 41 256 Gf.sub) := h2.congr (fun j hj => by rw [show k = 255 from by omega]; exact Gf.tab_last j hj)
          clear h0 h1 h2 hb P0 P1 P2 P3 H1 H2
          go_wp2_with (first
            | (refine wpList_load_mid rfl 41 (.tmp 4) rfl (w.heap.size + 2) 0 rfl (bv 256 Gf.sub) _ H2'.out.range Try.underlying41 rfl (by rw [bv_length]; exact Try.size256) ?_)
            | (refine wpList_store_mid rfl 41 (.tmp 0) (.tmp 34) rfl w.heap.size 0 (bA 256 Gf.sub) rfl rfl (by rw [bA_size]; exact H0.out.there) (by rw [bA_size]; exact Try.size256) (bA_one _ _) ?_))
          rw [bA_toList]
          have L : (loadVar 41 ⟨w.heap.size, 0, none⟩).run Try.prog (wr.setCells w.heap.size 0 (bv 256 Gf.sub)) = .ok (.agg (bA 256 Gf.sub)) (wr.setCells w.heap.size 0 (bv 256 Gf.sub)) := (H0.out.stored _).load Try.underlying41 rfl Try.size256
          have B : Below w.heap.size w (wr.setCells w.heap.size 0 (bv 256 Gf.sub)) := below_setCells (Nat.le_refl _) _ _ _ HB.out
          exact bodyPost_ret (v := .agg (bA 256 Gf.sub)) (results_cell_one (b := w.heap.size) (o := 0) Try.results49 _ _ _ rfl L) rfl ⟨rfl, B⟩
set_option maxRecDepth 100000 in
set_option maxHeartbeats 2000000 in
/-- impl.backwards of the table of substitutes -/
theorem backwards_any (w : World) :
    Calls Try.prog 51 #[.agg (bA 256 Gf.sub)] w fun e w' => e = .returned (.agg (bA 256 Gf.unsub)) ∧ Below w.heap.size w w' := by
  have z1 := Try.zero256
  have K0 : Hid (Row8 (((w.alloc (.cells (bA 256 Gf.sub) 41)).alloc (.cells (Array.replicate 256 (.int .u8 0)) 41)).alloc (.cells (Array.replicate 256 (.int .u8 0)) 41)) w.heap.size 41 256 Gf.sub) := ((Row8.boxedAt rfl _ _ _).alloc _).alloc _
  have K1 : Hid (Row8 (((w.alloc (.cells (bA 256 Gf.sub) 41)).alloc (.cells (Array.replicate 256 (.int .u8 0)) 41)).alloc (.cells (Array.replicate 256 (.int .u8 0)) 41)) (w.heap.size + 1) 41 256 (fun _ => 0)) := (Row8.zerosAt (by simp) _ _).alloc _
  have K2 : Hid (Row8 (((w.alloc (.cells (bA 256 Gf.sub) 41)).alloc (.cells (Array.replicate 256 (.int .u8 0)) 41)).alloc (.cells (Array.replicate 256 (.int .u8 0)) 41)) (w.heap.size + 1 + 1) 41 256 (fun _ => 0)) := Row8.zerosAt (by simp) _ _
  have K3 : Hid (Below w.heap.size w (((w.alloc (.cells (bA 256 Gf.sub) 41)).alloc (.cells (Array.replicate 256 (.int .u8 0)) 41)).alloc (.cells (Array.replicate 256 (.int .u8 0)) 41))) := (((Below.refl _ _).alloc (Nat.le_refl _) _).alloc (by simp) _).alloc (by simp; omega) _
  go_enter Try.func51, Try.ntmps51
  go_wp2_with (refine wpList_load_mid rfl 41 (.tmp 1) rfl w.heap.size 0 rfl (bv 256 Gf.sub) _ K0.out.range Try.underlying41 rfl (by rw [bv_length]; exact Try.size256) ?_)
  generalize ((w.alloc (.cells (bA 256 Gf.sub) 41)).alloc (.cells (Array.replicate 256 (.int .u8 0)) 41)).alloc (.cells (Array.replicate 256 (.int .u8 0)) 41) = wz at *
  have eA : (bv 256 Gf.sub).toArray = bA 256 Gf.sub := rfl
  rw [eA]
  clear eA K0
  go_loopw [4, 5, 7] (fun _ _ i wr => ∃ k : Nat, k ≤ 256 ∧ i = .int .i64 k ∧ Row8 wr (w.heap.size + 1) 41 256 (fun _ => 0) ∧ Row8 wr (w.heap.size + 1 + 1) 41 256 (Gf.backTo k) ∧ Below w.heap.size w wr) (fun _ _ i _ => 256 - (intOf i).toNat)
  case atStart => exact ⟨0, by omega, rfl, K1.out, K2.out.congr (fun j hj => rfl), K3.out⟩
  case round =>
    obtain ⟨k, hk, rfl, h1, h2, hb⟩ := hrel
    have H1 : Hid (Row8 wr (w.heap.size + 1) 41 256 (fun _ => 0)) := h1
    have H2 : Hid (Row8 wr (w.heap.size + 1 + 1) 41 256 (Gf.backTo k)) := h2
    have HB : Hid (Below w.heap.size w wr) := hb
    by_cases hlt : k < 256
    · have hs := Gf.sub_lt k hlt
      have c2 := World.rowIs.cell h2 hs
      have f2 := World.rowIs.frozen h2 (Gf.sub k)
      have ix := idx256 (f := Gf.sub) hlt
      have E : Hid (∀ j, Gf.backTo (k + 1) j = if j = Gf.sub k then k else Gf.backTo k j) := fun j => rfl
      clear h1 h2 hb K1 K2 K3
      generalize Gf.sub k = P at *
      go_wp2
      go_roundw
      case rel =>
        refine ⟨k + 1, by omega, by go_num, H1.out.other (by show w.heap.size + 1 ≠ w.heap.size + 1 + 1; omega) _, ?_, HB.out.setCell (by show w.heap.size ≤ w.heap.size + 1 + 1; omega) _⟩
        exact (H2.out.set P k).congr (fun j hj => by rw [E.out j])
      case measure => simp [intOf]; omega
    · have H2' : Hid (Row8 wr (w.heap.size + 1 + 1) 41 256 Gf.unsub) := h2.congr (fun j hj => by rw [show k = 256 from by omega]; exact Gf.back_last j hj)
      clear h1 h2 hb K1 K2 K3 H2
      go_wp2_with (first
        | (refine wpList_load_mid rfl 41 (.tmp 3) rfl (w.heap.size + 1 + 1) 0 rfl (bv 256 Gf.unsub) _ H2'.out.range Try.underlying41 rfl (by rw [bv_length]; exact Try.size256) ?_)
        | (refine wpList_store_mid rfl 41 (.tmp 2) (.tmp 16) rfl (w.heap.size + 1) 0 (bA 256 Gf.unsub) rfl rfl (by rw [bA_size]; exact H1.out.there) (by rw [bA_size]; exact Try.size256) (bA_one _ _) ?_))
      rw [bA_toList]
      have L : (loadVar 41 ⟨w.heap.size + 1, 0, none⟩).run Try.prog (wr.setCells (w.heap.size + 1) 0 (bv 256 Gf.unsub)) = .ok (.agg (bA 256 Gf.unsub)) (wr.setCells (w.heap.size + 1) 0 (bv 256 Gf.unsub)) := (H1.out.stored _).load Try.underlying41 rfl Try.size256
      have B : Below w.heap.size w (wr.setCells (w.heap.size + 1) 0 (bv 256 Gf.unsub)) := below_setCells (by omega) _ _ _ HB.out
      exact bodyPost_ret (v := .agg (bA 256 Gf.unsub)) (results_cell_one (b := w.heap.size + 1) (o := 0) Try.results51 _ _ _ rfl L) rfl ⟨rfl, B⟩
set_option maxRecDepth 100000 in
set_option maxHeartbeats 2000000 in
/-- impl.subWord -/
theorem subWord_any (a b c d : Nat) (ha : a < 256) (hb : b < 256) (hc : c < 256) (hd : d < 256) (w : World) :
    Calls Try.prog 76 #[.agg #[.int .u8 a, .int .u8 b, .int .u8 c, .int .u8 d], .agg (bA 256 Gf.sub)] w fun e w' => e = .returned (.agg #[.int .u8 (Gf.sub a : Nat), .int .u8 (Gf.sub b : Nat), .int .u8 (Gf.sub c : Nat), .int .u8 (Gf.sub d : Nat)]) ∧ Below w.heap.size w w' := by
  have pa := bA_at (n := 256) (f := Gf.sub) ha
  have pb := bA_at (n := 256) (f := Gf.sub) hb
  have pc := bA_at (n := 256) (f := Gf.sub) hc
  have pd := bA_at (n := 256) (f := Gf.sub) hd
  have i0 := idx0
  have i1 := idx1
  have i2 := idx2
  have i3 := idx3
  generalize bA 256 Gf.sub = T at *
  generalize Gf.sub a = A at *
  generalize Gf.sub b = B at *
  generalize Gf.sub c = C at *
  generalize Gf.sub d = D at *
  go_enter Try.func76, Try.ntmps76
  go_wp2
  refine wp_loop_rounds 5 ?_
  rw [rounds_succ]
  go_wp2
  rw [rounds_succ]
  go_wp2
  rw [rounds_succ]
  go_wp2
  rw [rounds_succ]
  go_wp2
  rw [rounds_succ]
  go_wp2
  exact bodyPost_ret (v := .agg #[.int .u8 (A : Nat), .int .u8 (B : Nat), .int .u8 (C : Nat), .int .u8 (D : Nat)]) (by simp [results, Try.results76, go_sem]) rfl ⟨rfl, (((Below.refl _ _).alloc (Nat.le_refl _) _).alloc (by simp) _).alloc (by simp; omega) _⟩
end Go.Proofs.Ytbhlgcenfanicaa
