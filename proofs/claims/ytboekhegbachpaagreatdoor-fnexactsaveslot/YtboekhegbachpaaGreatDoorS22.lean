/-
  Texts of the proof, joined: Keys.
-/
import Derived.Test.YtboekhegbachpaaGreatDoorS21
import Derived.Test.YtboekhegbachpaaGreatDoorS11
namespace Go.Proofs.YtboekhegbachpaaGreatDoor
open Go.ChangeShapes Go.WideShapes Go.ChangeAt Go.RowKit
namespace Gf
def pows : Nat → Nat
 | 0 => 1
 | k + 1 => dbl (pows k)
theorem pows_lt (k : Nat) : pows k < 256 := by
 induction k with
 | zero => decide
 | succ k ih => exact dbl_lt _ ih
def kt (n : Nat) (L : Nat → Nat) (i r : Nat) : Nat :=
 if i % n = 0 then (if r = 0 then sub (L 1) ^^^ pows (i / n - 1) else sub (L ((r + 1) % 4))) else if n = 8 ∧ i % 8 = 4 then sub (L r) else L r
def ws (key : Nat → Nat) (n : Nat) : Nat → Nat → Nat
 | 0, j => if j < n * 4 then key j else 0
 | s + 1, j => if (n + s) * 4 ≤ j ∧ j < (n + s) * 4 + 4 then ws key n s (s * 4 + (j - (n + s) * 4)) ^^^ kt n (fun r => ws key n s ((n + s - 1) * 4 + r)) (n + s) (j - (n + s) * 4) else ws key n s j
theorem kt_lt {n : Nat} {L : Nat → Nat} (hL : ∀ r, r < 4 → L r < 256) (i r : Nat) (hr : r < 4) : kt n L i r < 256 := by
 unfold kt
 split
 ·split
  ·exact xor_lt (sub_lt _ (hL 1 (by omega))) (pows_lt _)
  ·exact sub_lt _ (hL _ (Nat.mod_lt _ (by omega)))
 ·split
  ·exact sub_lt _ (hL r hr)
  ·exact hL r hr
theorem ws_lt {key : Nat → Nat} {n : Nat} (hk : ∀ j, key j < 256) : ∀ s j, ws key n s j < 256 := by
 intro s
 induction s with
 | zero => intro j; unfold ws; split; exact hk j; omega
 | succ s ih =>
  intro j
  show (if (n + s) * 4 ≤ j ∧ j < (n + s) * 4 + 4 then _ else _) < 256
  split
  ·exact xor_lt (ih _) (kt_lt (fun r _ => ih _) _ _ (by omega))
  ·exact ih j
theorem ws_new {key : Nat → Nat} {n : Nat} (s r : Nat) (hr : r < 4) : ws key n (s + 1) ((n + s) * 4 + r) = ws key n s (s * 4 + r) ^^^ kt n (fun r => ws key n s ((n + s - 1) * 4 + r)) (n + s) r := by
 show (if (n + s) * 4 ≤ (n + s) * 4 + r ∧ (n + s) * 4 + r < (n + s) * 4 + 4 then _ else _) = _
 rw [if_pos (by omega), show (n + s) * 4 + r - (n + s) * 4 = r from by omega]
theorem ws_old {key : Nat → Nat} {n : Nat} (s j : Nat) (h : j < (n + s) * 4 ∨ (n + s) * 4 + 4 ≤ j) : ws key n (s + 1) j = ws key n s j := by
 show (if (n + s) * 4 ≤ j ∧ j < (n + s) * 4 + 4 then _ else _) = _
 rw [if_neg (by omega)]
end Gf
theorem four_cells {w : World} (x0 x1 x2 x3 : Value) (f : Nat → Value) (h0 : x0 = f 0) (h1 : x1 = f 1) (h2 : x2 = f 2) (h3 : x3 = f 3) (t : TypeId) : (w.alloc (.cells #[x0, x1, x2, x3] t)).rowIs w.heap.size t 4 f := by
 refine World.rowIs_alloc w #[x0, x1, x2, x3] t f (fun i hi => ?_)
 have hi' : i < 4 := hi
 rcases (show i = 0 ∨ i = 1 ∨ i = 2 ∨ i = 3 by omega) with rfl | rfl | rfl | rfl
 ·simp [h0]
 ·simp [h1]
 ·simp [h2]
 ·simp [h3]
set_option maxRecDepth 100000 in
set_option maxHeartbeats 4000000 in
theorem roundKeys_any (s : ByteArray) (n : Nat) (hn : n = 4 ∨ n = 8) (hs : s.size = n * 4) (w : World) :
  Calls Tryz.prog 118 #[.string s, .agg (bA 256 Gf.sub)] w fun e w' => e = .returned (.agg (bA 240 (Gf.ws (strB s) n (3 * n + 28)))) ∧ Below w.heap.size w w' := by
 have z1 := Tryz.zeroK
 have z2 := Tryz.zeroW
 have hs' : Hid (s.size = n * 4) := hs
 have hsz : s.size ≤ 32 := by omega
 clear hs
 have K0 : Hid (Row8 (((w.alloc (.cells (bA 256 Gf.sub) 153)).alloc (.cells (Array.replicate 240 (.int .u8 0)) 152)).alloc (.cells (Array.replicate 240 (.int .u8 0)) 184)) w.heap.size 153 256 Gf.sub) := ((Row8.boxedAt rfl _ _ _).alloc _).alloc _
 have K1 : Hid (Row8 (((w.alloc (.cells (bA 256 Gf.sub) 153)).alloc (.cells (Array.replicate 240 (.int .u8 0)) 152)).alloc (.cells (Array.replicate 240 (.int .u8 0)) 184)) (w.heap.size + 1) 152 240 (fun _ => 0)) := (Row8.zerosAt (by simp) _ _).alloc _
 have K2 : Hid (Row8 (((w.alloc (.cells (bA 256 Gf.sub) 153)).alloc (.cells (Array.replicate 240 (.int .u8 0)) 152)).alloc (.cells (Array.replicate 240 (.int .u8 0)) 184)) (w.heap.size + 1 + 1) 184 240 (fun _ => 0)) := Row8.zerosAt (by simp) _ _
 have K3 : Hid (Below w.heap.size w (((w.alloc (.cells (bA 256 Gf.sub) 153)).alloc (.cells (Array.replicate 240 (.int .u8 0)) 152)).alloc (.cells (Array.replicate 240 (.int .u8 0)) 184))) := (((Below.refl _ _).alloc (Nat.le_refl _) _).alloc (by simp) _).alloc (by simp; omega) _
 go_enter Tryz.func118, Tryz.ntmps118
 go_wp2
 generalize ((w.alloc (.cells (bA 256 Gf.sub) 153)).alloc (.cells (Array.replicate 240 (.int .u8 0)) 152)).alloc (.cells (Array.replicate 240 (.int .u8 0)) 184) = wz at *
 go_loopw [6, 14] (fun _ i wr => ∃ k : Nat, k ≤ s.size ∧ i = .int .i64 k ∧ Row8 wr w.heap.size 153 256 Gf.sub ∧ Row8 wr (w.heap.size + 1) 152 240 (fun _ => 0) ∧ Row8 wr (w.heap.size + 1 + 1) 184 240 (fun j => if j < k then strB s j else 0) ∧ Below w.heap.size w wr) (fun _ i _ => s.size - (intOf i).toNat)
 case atStart => exact ⟨0, by omega, rfl, K0.out, K1.out, K2.out.congr (fun j hj => by simp), K3.out⟩
 case round =>
  obtain ⟨k, hk, rfl, h0, h1, h2, hb⟩ := hrel
  have H0 : Hid (Row8 wr w.heap.size 153 256 Gf.sub) := h0
  have H1 : Hid (Row8 wr (w.heap.size + 1) 152 240 (fun _ => 0)) := h1
  have H2 : Hid (Row8 wr (w.heap.size + 1 + 1) 184 240 (fun j => if j < k then strB s j else 0)) := h2
  have HB : Hid (Below w.heap.size w wr) := hb
  by_cases hlt : k < s.size
  ·have c2 := World.rowIs.cell h2 (i := k) (by omega)
   have f2 := World.rowIs.frozen h2 k
   have es := strB_eq s k hlt
   have o0 : k / 4 * 4 + k % 4 = k := by omega
   have q1 : (k : Int) / 4 < 60 := by omega
   have q2 : (k : Int) % 4 < 4 := by omega
   clear h0 h1 h2 hb K0 K1 K2 K3
   go_wp2
   go_region
   go_wp2
   go_roundw
   case rel =>
    refine ⟨k + 1, by omega, by go_num, (H0.out.other (by show w.heap.size ≠ w.heap.size + 1 + 1; omega) _).drewN 1, (H1.out.other (by show w.heap.size + 1 ≠ w.heap.size + 1 + 1; omega) _).drewN 1, ?_, below_drewN (HB.out.setCell (by show w.heap.size ≤ w.heap.size + 1 + 1; omega) _) 1⟩
    exact ((H2.out.set k (strB s k)).congr (fun j hj => by
     by_cases e : j = k
     ·subst e; simp
     ·simp only [if_neg e]
      by_cases h1 : j < k
      ·rw [if_pos h1, if_pos (by omega)]
      ·rw [if_neg h1, if_neg (by omega)])).drewN 1
   case measure => simp [intOf]; omega
  ·have H2' : Hid (Row8 wr (w.heap.size + 1 + 1) 184 240 (Gf.ws (strB s) n 0)) := h2.congr (fun j hj => by
    show _ = if j < n * 4 then strB s j else 0
    have := hs'.out
    rw [show k = n * 4 from by omega])
   have hk' : ¬ (k : Int) < (s.size : Int) := by omega
   have hse := hs'.out
   have hse' : (s.size : Int) = (n * 4 : Nat) := by omega
   clear h0 h1 h2 hb K0 K1 K2 K3 H2
   have E4 : (s.size : Int) / 4 = n := by omega
   clear hse hse'
   generalize (k : Int) = kk at *
   go_wp2
   go_loopw [8, 9, 10] (fun p i _ wq => ∃ I : Nat, n ≤ I ∧ I ≤ 4 * n + 28 ∧ i = .int .i64 I ∧ p = .int .u8 (Gf.pows ((I - 1) / n) : Nat) ∧ Row8 wq w.heap.size 153 256 Gf.sub ∧ Row8 wq (w.heap.size + 1) 152 240 (fun _ => 0) ∧ Row8 wq (w.heap.size + 1 + 1) 184 240 (Gf.ws (strB s) n (I - n)) ∧ Below w.heap.size w wq) (fun _ i _ _ => 4 * n + 28 - (intOf i).toNat)
   case atStart =>
    refine ⟨n, Nat.le_refl _, by omega, rfl, ?_, H0.out, H1.out, by rw [Nat.sub_self]; exact H2'.out, HB.out⟩
    rw [Nat.div_eq_of_lt (by omega)]; rfl
   case round =>
    clear H0 H1 H2' HB
    obtain ⟨I, hI1, hI2, rfl, rfl, h0, h1, h2, hb⟩ := hrel
    have H0 : Hid (Row8 wr w.heap.size 153 256 Gf.sub) := h0
    have H1 : Hid (Row8 wr (w.heap.size + 1) 152 240 (fun _ => 0)) := h1
    have H2 : Hid (Row8 wr (w.heap.size + 1 + 1) 184 240 (Gf.ws (strB s) n (I - n))) := h2
    have HB : Hid (Below w.heap.size w wr) := hb
    by_cases hI : I < 4 * n + 28
    ·have lf : ∀ j, Gf.ws (strB s) n (I - n) j < 256 := Gf.ws_lt (strB_lt s) _
     have LF : Hid (∀ j, Gf.ws (strB s) n (I - n) j < 256) := lf
     have lp := Gf.pows_lt ((I - 1) / n)
     have F2 : Hid (∀ j, Gf.ws (strB s) n (I + 1 - n) j = if I * 4 ≤ j ∧ j < I * 4 + 4 then Gf.ws (strB s) n (I - n) ((I - n) * 4 + (j - I * 4)) ^^^ Gf.kt n (fun r => Gf.ws (strB s) n (I - n) ((I - 1) * 4 + r)) I (j - I * 4) else Gf.ws (strB s) n (I - n) j) := fun j => by
      have e : I + 1 - n = (I - n) + 1 := by omega
      have e2 : n + (I - n) = I := by omega
      rw [e]
      show (if (n + (I - n)) * 4 ≤ j ∧ j < (n + (I - n)) * 4 + 4 then _ else _) = _
      rw [e2]
     have P2 : Hid (I % n = 0 → Gf.pows ((I + 1 - 1) / n) = Gf.dbl (Gf.pows ((I - 1) / n))) := fun h => by
      have e : I / n = (I - 1) / n + 1 := by
       rcases hn with rfl | rfl <;> omega
      show Gf.pows (I / n) = _
      rw [e]; rfl
     have P3 : Hid (I % n ≠ 0 → Gf.pows ((I + 1 - 1) / n) = Gf.pows ((I - 1) / n)) := fun h => by
      have e : I / n = (I - 1) / n := by
       rcases hn with rfl | rfl <;> omega
      show Gf.pows (I / n) = _
      rw [e]
     have P4 : Hid (I % n = 0 → (I - 1) / n = I / n - 1) := fun h => by rcases hn with rfl | rfl <;> omega
     have hl2 := World.rowIs.lt h2
     have g0 := World.rowIs.cell h2 (i := (I - 1) * 4) (by omega)
     have g1 := World.rowIs.cell h2 (i := (I - 1) * 4 + 1) (by omega)
     have g2 := World.rowIs.cell h2 (i := (I - 1) * 4 + 2) (by omega)
     have g3 := World.rowIs.cell h2 (i := (I - 1) * 4 + 3) (by omega)
     have KT : Hid (∀ r, Gf.kt n (fun r => Gf.ws (strB s) n (I - n) ((I - 1) * 4 + r)) I r = Gf.kt n (fun r => Gf.ws (strB s) n (I - n) ((I - 1) * 4 + r)) I r) := fun _ => rfl
     clear h0 h1 h2 hb lf
     generalize Gf.ws (strB s) n (I - n) = f at *
     generalize hpw : Gf.pows ((I - 1) / n) = pw at *
     have HP : Hid (Gf.pows ((I - 1) / n) = pw) := hpw
     clear hpw
     by_cases hA : I % n = 0
     ·have em : ((I : Int).tmod (n : Int) == 0) = true := by rw [← Int.ofNat_tmod, hA]; rfl
      go_wp2_with (first
       | (refine wpList_load_mid rfl 153 (.tmp 3) rfl w.heap.size 0 rfl (bv 256 Gf.sub) _ (H0.out.alloc _).range Tryz.underlying153 rfl (by rw [bv_length]; exact Tryz.size256) ?_))
      refine (subWord_any (f ((I - 1) * 4 + 1)) (f ((I - 1) * 4 + 2)) (f ((I - 1) * 4 + 3)) (f ((I - 1) * 4)) (LF.out _) (LF.out _) (LF.out _) (LF.out _) _).mono ?_
      rintro e w1 ⟨rfl, hB⟩
      have rl := (four_cells (w := wr) (.int .u8 (f ((I - 1) * 4) : Nat)) (.int .u8 (f ((I - 1) * 4 + 1) : Nat)) (.int .u8 (f ((I - 1) * 4 + 2) : Nat)) (.int .u8 (f ((I - 1) * 4 + 3) : Nat)) (fun r => .int .u8 (f ((I - 1) * 4 + r) : Nat)) rfl rfl rfl rfl 183).of_block (hB.block _ (by simp))
      have R0 : Hid (Row8 w1 w.heap.size 153 256 Gf.sub) := (H0.out.alloc _).below hB
      have R1 : Hid (Row8 w1 (w.heap.size + 1) 152 240 (fun _ => 0)) := (H1.out.alloc _).below hB
      have R2 : Hid (Row8 w1 (w.heap.size + 1 + 1) 184 240 f) := (H2.out.alloc _).below hB
      have B1 : Hid (Below w.heap.size w w1) := (HB.out.alloc HB.out.size _).trans (hB.mono (by have := HB.out.size; simp; omega))
      have RL : Hid (w1.rowIs wr.heap.size 183 4 (fun r => .int .u8 (f ((I - 1) * 4 + r) : Nat))) := rl
      have k0 := rl.cell (i := 0) (by omega)
      have k1 := rl.cell (i := 1) (by omega)
      have k2 := rl.cell (i := 2) (by omega)
      have k3 := rl.cell (i := 3) (by omega)
      have q0 := rl.frozen 0
      have q1 := rl.frozen 1
      have q2 := rl.frozen 2
      have q3 := rl.frozen 3
      have s0 := Gf.sub_lt _ (LF.out ((I - 1) * 4 + 1))
      have ex0 : bits .xor .u8 (Gf.sub (f ((I - 1) * 4 + 1)) : Int) (pw : Int) = ((Gf.sub (f ((I - 1) * 4 + 1)) ^^^ pw : Nat) : Int) := u8_xor_nat _ _ s0 lp
      clear hB rl g0 g1 g2 g3 H0 H1 H2 HB
      go_wp2_with (go_at_call 128; refine (double_any pw lp _).mono ?_; rintro e w' ⟨rfl, rfl⟩)
      have W1 : ∀ {b : Nat}, b ≠ wr.heap.size → True := fun _ => trivial
      clear W1
      have lL : w.heap.size + 1 + 1 < wr.heap.size := hl2
      generalize hT : (fun r => Gf.kt n (fun r => f ((I - 1) * 4 + r)) I r) = T
      have LT : Hid (∀ r, r < 4 → T r < 256) := fun r hr => by rw [← hT]; exact Gf.kt_lt (fun _ _ => LF.out _) _ _ hr
      have ET : Hid (∀ r, r < 4 → T r = Gf.kt n (fun r => f ((I - 1) * 4 + r)) I r) := fun r _ => by rw [← hT]
      have PP := P4.out hA
      have VT : (Gf.sub (f ((I - 1) * 4 + 1)) ^^^ pw = T 0) ∧ Gf.sub (f ((I - 1) * 4 + 2)) = T 1 ∧ Gf.sub (f ((I - 1) * 4 + 3)) = T 2 ∧ Gf.sub (f ((I - 1) * 4)) = T 3 := by
       refine ⟨?_, ?_, ?_, ?_⟩
       ·rw [← hT]; show _ = Gf.kt n _ I 0; rw [Gf.kt, if_pos hA, if_pos rfl, ← PP, HP.out]
       ·rw [← hT]; show _ = Gf.kt n _ I 1; rw [Gf.kt, if_pos hA, if_neg (by omega)]
       ·rw [← hT]; show _ = Gf.kt n _ I 2; rw [Gf.kt, if_pos hA, if_neg (by omega)]
       ·rw [← hT]; show _ = Gf.kt n _ I 3; rw [Gf.kt, if_pos hA, if_neg (by omega)]; rfl
      clear hT
      obtain ⟨v0, v1, v2, v3⟩ := VT
      rw [v0, v1, v2, v3]
      generalize Gf.sub (f ((I - 1) * 4 + 1)) = S0 at *
      have NE : ∀ b, b ≤ w.heap.size + 1 + 1 → b ≠ wr.heap.size := fun b hb => by omega
      have R0' : Hid (Row8 (((((w1.setCell ⟨wr.heap.size, 0, none⟩ (.int .u8 (S0 : Nat))).setCell ⟨wr.heap.size, 1, none⟩ (.int .u8 (T 1 : Nat))).setCell ⟨wr.heap.size, 2, none⟩ (.int .u8 (T 2 : Nat))).setCell ⟨wr.heap.size, 3, none⟩ (.int .u8 (T 3 : Nat))).setCell ⟨wr.heap.size, 0, none⟩ (.int .u8 (T 0 : Nat))) w.heap.size 153 256 Gf.sub) := ((((R0.out.other (NE _ (by omega)) _).other (NE _ (by omega)) _).other (NE _ (by omega)) _).other (NE _ (by omega)) _).other (NE _ (by omega)) _
      have R1' : Hid (Row8 (((((w1.setCell ⟨wr.heap.size, 0, none⟩ (.int .u8 (S0 : Nat))).setCell ⟨wr.heap.size, 1, none⟩ (.int .u8 (T 1 : Nat))).setCell ⟨wr.heap.size, 2, none⟩ (.int .u8 (T 2 : Nat))).setCell ⟨wr.heap.size, 3, none⟩ (.int .u8 (T 3 : Nat))).setCell ⟨wr.heap.size, 0, none⟩ (.int .u8 (T 0 : Nat))) (w.heap.size + 1) 152 240 (fun _ => 0)) := ((((R1.out.other (NE _ (by omega)) _).other (NE _ (by omega)) _).other (NE _ (by omega)) _).other (NE _ (by omega)) _).other (NE _ (by omega)) _
      have R2' : Hid (Row8 (((((w1.setCell ⟨wr.heap.size, 0, none⟩ (.int .u8 (S0 : Nat))).setCell ⟨wr.heap.size, 1, none⟩ (.int .u8 (T 1 : Nat))).setCell ⟨wr.heap.size, 2, none⟩ (.int .u8 (T 2 : Nat))).setCell ⟨wr.heap.size, 3, none⟩ (.int .u8 (T 3 : Nat))).setCell ⟨wr.heap.size, 0, none⟩ (.int .u8 (T 0 : Nat))) (w.heap.size + 1 + 1) 184 240 f) := ((((R2.out.other (NE _ (by omega)) _).other (NE _ (by omega)) _).other (NE _ (by omega)) _).other (NE _ (by omega)) _).other (NE _ (by omega)) _
      have RL' : Hid ((((((w1.setCell ⟨wr.heap.size, 0, none⟩ (.int .u8 (S0 : Nat))).setCell ⟨wr.heap.size, 1, none⟩ (.int .u8 (T 1 : Nat))).setCell ⟨wr.heap.size, 2, none⟩ (.int .u8 (T 2 : Nat))).setCell ⟨wr.heap.size, 3, none⟩ (.int .u8 (T 3 : Nat))).setCell ⟨wr.heap.size, 0, none⟩ (.int .u8 (T 0 : Nat))).rowIs wr.heap.size 183 4 (fun r => .int .u8 (T r : Nat))) := (((((RL.out.set 0 _).set 1 _).set 2 _).set 3 _).set 0 _).congr (fun r hr => by
       rcases (show r = 0 ∨ r = 1 ∨ r = 2 ∨ r = 3 by omega) with rfl | rfl | rfl | rfl <;> simp)
      have B1' : Hid (Below w.heap.size w (((((w1.setCell ⟨wr.heap.size, 0, none⟩ (.int .u8 (S0 : Nat))).setCell ⟨wr.heap.size, 1, none⟩ (.int .u8 (T 1 : Nat))).setCell ⟨wr.heap.size, 2, none⟩ (.int .u8 (T 2 : Nat))).setCell ⟨wr.heap.size, 3, none⟩ (.int .u8 (T 3 : Nat))).setCell ⟨wr.heap.size, 0, none⟩ (.int .u8 (T 0 : Nat)))) := ((((B1.out.setCell (by show w.heap.size ≤ wr.heap.size; omega) _).setCell (by show w.heap.size ≤ wr.heap.size; omega) _).setCell (by show w.heap.size ≤ wr.heap.size; omega) _).setCell (by show w.heap.size ≤ wr.heap.size; omega) _).setCell (by show w.heap.size ≤ wr.heap.size; omega) _
      clear R0 R1 R2 RL B1 v0 v1 v2 v3 k0 k1 k2 k3 q0 q1 q2 q3 ex0 s0 NE PP em
      generalize ((((w1.setCell ⟨wr.heap.size, 0, none⟩ (.int .u8 (S0 : Nat))).setCell ⟨wr.heap.size, 1, none⟩ (.int .u8 (T 1 : Nat))).setCell ⟨wr.heap.size, 2, none⟩ (.int .u8 (T 2 : Nat))).setCell ⟨wr.heap.size, 3, none⟩ (.int .u8 (T 3 : Nat))).setCell ⟨wr.heap.size, 0, none⟩ (.int .u8 (T 0 : Nat)) = wq at *
      generalize wr.heap.size = L at *
      have R0 := R0'
      have R1 := R1'
      have R2 := R2'
      have RL := RL'
      have B1 := B1'
      clear R0' R1' R2' RL' B1'
      go_loopw [11, 74] (fun _ i wy => ∃ r : Nat, r ≤ 4 ∧ i = .int .i64 r ∧ Row8 wy w.heap.size 153 256 Gf.sub ∧ Row8 wy (w.heap.size + 1) 152 240 (fun _ => 0) ∧ Row8 wy (w.heap.size + 1 + 1) 184 240 (fun j => if I * 4 ≤ j ∧ j < I * 4 + r then f ((I - n) * 4 + (j - I * 4)) ^^^ T (j - I * 4) else f j) ∧ wy.rowIs L 183 4 (fun r => .int .u8 (T r : Nat)) ∧ Below w.heap.size w wy) (fun _ i _ => 4 - (intOf i).toNat)
      case atStart => exact ⟨0, by omega, rfl, R0.out, R1.out, R2.out.congr (fun j hj => by rw [if_neg (by omega)]), RL.out, B1.out⟩
      case round =>
       clear R0 R1 R2 RL B1
       obtain ⟨r, hr, rfl, h0, h1, h2, hl, hb⟩ := hrel
       have H0 : Hid (Row8 wr w.heap.size 153 256 Gf.sub) := h0
       have H1 : Hid (Row8 wr (w.heap.size + 1) 152 240 (fun _ => 0)) := h1
       have H2 : Hid (Row8 wr (w.heap.size + 1 + 1) 184 240 (fun j => if I * 4 ≤ j ∧ j < I * 4 + r then f ((I - n) * 4 + (j - I * 4)) ^^^ T (j - I * 4) else f j)) := h2
       have HL : Hid (wr.rowIs L 183 4 (fun r => .int .u8 (T r : Nat))) := hl
       have HB : Hid (Below w.heap.size w wr) := hb
       by_cases hr4 : r < 4
       ·have c1 := World.rowIs.cell h2 (i := (I - n) * 4 + r) (by omega)
        simp only [] at c1
        rw [if_neg (by omega)] at c1
        have c2 := hl.cell hr4
        have c3 := World.rowIs.cell h2 (i := I * 4 + r) (by omega)
        have f3 := World.rowIs.frozen h2 (I * 4 + r)
        have lt := LT.out r hr4
        have lff := LF.out ((I - n) * 4 + r)
        have ex : bits .xor .u8 (f ((I - n) * 4 + r) : Int) (T r : Int) = ((f ((I - n) * 4 + r) ^^^ T r : Nat) : Int) := u8_xor_nat _ _ lff lt
        have x1 : (I : Int) - (n : Int) < 60 := by omega
        have x2 : (I : Int) < 60 := by omega
        have x3 : (r : Int) < 4 := by omega
        clear h0 h1 h2 hl hb
        go_wp2
        go_region
        go_wp2
        go_roundw
        case rel =>
         refine ⟨r + 1, by omega, by go_num, (H0.out.other (by show w.heap.size ≠ w.heap.size + 1 + 1; omega) _).drewN 1, (H1.out.other (by show w.heap.size + 1 ≠ w.heap.size + 1 + 1; omega) _).drewN 1, ?_, HL.out.setOther (by show L ≠ w.heap.size + 1 + 1; omega) _, below_drewN (HB.out.setCell (by show w.heap.size ≤ w.heap.size + 1 + 1; omega) _) 1⟩
         exact ((H2.out.set (I * 4 + r) (f ((I - n) * 4 + r) ^^^ T r)).congr (fun j hj => by
          by_cases e : j = I * 4 + r
          ·rw [if_pos e, if_pos (by omega), show j - I * 4 = r from by omega]
          ·rw [if_neg e]
           by_cases h1 : I * 4 ≤ j ∧ j < I * 4 + r
           ·rw [if_pos h1, if_pos (by omega)]
           ·rw [if_neg h1, if_neg (by omega)])).drewN 1
        case measure => simp [intOf]; omega
       ·have R2' : Hid (Row8 wr (w.heap.size + 1 + 1) 184 240 (Gf.ws (strB s) n (I + 1 - n))) := h2.congr (fun j hj => by
         rw [F2.out j]
         by_cases h1 : I * 4 ≤ j ∧ j < I * 4 + 4
         ·rw [if_pos (by omega), if_pos h1, ET.out _ (by omega)]
         ·rw [if_neg (by omega), if_neg h1])
        have hr' : ¬ (r : Int) < 4 := by omega
        clear h0 h1 h2 hl hb H2 HL
        go_wp2
        go_roundw
        case rel => exact ⟨I + 1, by omega, by omega, by go_num, val_int (by rw [P2.out hA]), H0.out, H1.out, R2'.out, HB.out⟩
        case measure => simp [intOf]; omega
     ·have em : ((I : Int).tmod (n : Int) == 0) = false := by
       rw [← Int.ofNat_tmod, beq_eq_false_iff_ne]; omega
      have em' : ((I : Int) % (n : Int) == 0) = false := by
       rw [← Int.natCast_emod, beq_eq_false_iff_ne]; omega
      have lL : w.heap.size + 1 + 1 < wr.heap.size := hl2
      by_cases h8 : n = 8 ∧ I % 8 = 4
      ·have t1 : ((n : Int) == 8) = true := by rw [beq_iff_eq]; omega
       have t2 : ((I : Int) % 8 == 4) = true := by rw [beq_iff_eq]; omega
       have H8 : Hid (n = 8 ∧ I % 8 = 4) := h8
       clear h8
       go_wp2_with (first
        | (refine wpList_load_mid rfl 153 (.tmp 3) rfl w.heap.size 0 rfl (bv 256 Gf.sub) _ (H0.out.alloc _).range Tryz.underlying153 rfl (by rw [bv_length]; exact Tryz.size256) ?_))
       refine (subWord_any (f ((I - 1) * 4)) (f ((I - 1) * 4 + 1)) (f ((I - 1) * 4 + 2)) (f ((I - 1) * 4 + 3)) (LF.out _) (LF.out _) (LF.out _) (LF.out _) _).mono ?_
       rintro e w1 ⟨rfl, hB⟩
       have rl := (four_cells (w := wr) (.int .u8 (f ((I - 1) * 4) : Nat)) (.int .u8 (f ((I - 1) * 4 + 1) : Nat)) (.int .u8 (f ((I - 1) * 4 + 2) : Nat)) (.int .u8 (f ((I - 1) * 4 + 3) : Nat)) (fun r => .int .u8 (f ((I - 1) * 4 + r) : Nat)) rfl rfl rfl rfl 183).of_block (hB.block _ (by simp))
       have R0 : Hid (Row8 w1 w.heap.size 153 256 Gf.sub) := (H0.out.alloc _).below hB
       have R1 : Hid (Row8 w1 (w.heap.size + 1) 152 240 (fun _ => 0)) := (H1.out.alloc _).below hB
       have R2 : Hid (Row8 w1 (w.heap.size + 1 + 1) 184 240 f) := (H2.out.alloc _).below hB
       have B1 : Hid (Below w.heap.size w w1) := (HB.out.alloc HB.out.size _).trans (hB.mono (by have := HB.out.size; simp; omega))
       have RL : Hid (w1.rowIs wr.heap.size 183 4 (fun r => .int .u8 (f ((I - 1) * 4 + r) : Nat))) := rl
       have k0 := rl.cell (i := 0) (by omega)
       have k1 := rl.cell (i := 1) (by omega)
       have k2 := rl.cell (i := 2) (by omega)
       have k3 := rl.cell (i := 3) (by omega)
       have q0 := rl.frozen 0
       have q1 := rl.frozen 1
       have q2 := rl.frozen 2
       have q3 := rl.frozen 3
       clear hB rl g0 g1 g2 g3 H0 H1 H2 HB
       go_wp2_with fail
       generalize hT : (fun r => Gf.kt n (fun r => f ((I - 1) * 4 + r)) I r) = T
       have LT : Hid (∀ r, r < 4 → T r < 256) := fun r hr => by rw [← hT]; exact Gf.kt_lt (fun _ _ => LF.out _) _ _ hr
       have ET : Hid (∀ r, r < 4 → T r = Gf.kt n (fun r => f ((I - 1) * 4 + r)) I r) := fun r _ => by rw [← hT]
       have VT : Gf.sub (f ((I - 1) * 4)) = T 0 ∧ Gf.sub (f ((I - 1) * 4 + 1)) = T 1 ∧ Gf.sub (f ((I - 1) * 4 + 2)) = T 2 ∧ Gf.sub (f ((I - 1) * 4 + 3)) = T 3 := by
        refine ⟨?_, ?_, ?_, ?_⟩
        ·rw [← hT]; show _ = Gf.kt n _ I 0; rw [Gf.kt, if_neg hA, if_pos H8.out]; rfl
        ·rw [← hT]; show _ = Gf.kt n _ I 1; rw [Gf.kt, if_neg hA, if_pos H8.out]
        ·rw [← hT]; show _ = Gf.kt n _ I 2; rw [Gf.kt, if_neg hA, if_pos H8.out]
        ·rw [← hT]; show _ = Gf.kt n _ I 3; rw [Gf.kt, if_neg hA, if_pos H8.out]
       clear hT
       obtain ⟨v0, v1, v2, v3⟩ := VT
       rw [v0, v1, v2, v3]
       have NE : ∀ b, b ≤ w.heap.size + 1 + 1 → b ≠ wr.heap.size := fun b hb => by omega
       have R0' : Hid (Row8 ((((w1.setCell ⟨wr.heap.size, 0, none⟩ (.int .u8 (T 0 : Nat))).setCell ⟨wr.heap.size, 1, none⟩ (.int .u8 (T 1 : Nat))).setCell ⟨wr.heap.size, 2, none⟩ (.int .u8 (T 2 : Nat))).setCell ⟨wr.heap.size, 3, none⟩ (.int .u8 (T 3 : Nat))) w.heap.size 153 256 Gf.sub) := (((R0.out.other (NE _ (by omega)) _).other (NE _ (by omega)) _).other (NE _ (by omega)) _).other (NE _ (by omega)) _
       have R1' : Hid (Row8 ((((w1.setCell ⟨wr.heap.size, 0, none⟩ (.int .u8 (T 0 : Nat))).setCell ⟨wr.heap.size, 1, none⟩ (.int .u8 (T 1 : Nat))).setCell ⟨wr.heap.size, 2, none⟩ (.int .u8 (T 2 : Nat))).setCell ⟨wr.heap.size, 3, none⟩ (.int .u8 (T 3 : Nat))) (w.heap.size + 1) 152 240 (fun _ => 0)) := (((R1.out.other (NE _ (by omega)) _).other (NE _ (by omega)) _).other (NE _ (by omega)) _).other (NE _ (by omega)) _
       have R2' : Hid (Row8 ((((w1.setCell ⟨wr.heap.size, 0, none⟩ (.int .u8 (T 0 : Nat))).setCell ⟨wr.heap.size, 1, none⟩ (.int .u8 (T 1 : Nat))).setCell ⟨wr.heap.size, 2, none⟩ (.int .u8 (T 2 : Nat))).setCell ⟨wr.heap.size, 3, none⟩ (.int .u8 (T 3 : Nat))) (w.heap.size + 1 + 1) 184 240 f) := (((R2.out.other (NE _ (by omega)) _).other (NE _ (by omega)) _).other (NE _ (by omega)) _).other (NE _ (by omega)) _
       have RL' : Hid (((((w1.setCell ⟨wr.heap.size, 0, none⟩ (.int .u8 (T 0 : Nat))).setCell ⟨wr.heap.size, 1, none⟩ (.int .u8 (T 1 : Nat))).setCell ⟨wr.heap.size, 2, none⟩ (.int .u8 (T 2 : Nat))).setCell ⟨wr.heap.size, 3, none⟩ (.int .u8 (T 3 : Nat))).rowIs wr.heap.size 183 4 (fun r => .int .u8 (T r : Nat))) := ((((RL.out.set 0 _).set 1 _).set 2 _).set 3 _).congr (fun r hr => by
        rcases (show r = 0 ∨ r = 1 ∨ r = 2 ∨ r = 3 by omega) with rfl | rfl | rfl | rfl <;> simp)
       have B1' : Hid (Below w.heap.size w ((((w1.setCell ⟨wr.heap.size, 0, none⟩ (.int .u8 (T 0 : Nat))).setCell ⟨wr.heap.size, 1, none⟩ (.int .u8 (T 1 : Nat))).setCell ⟨wr.heap.size, 2, none⟩ (.int .u8 (T 2 : Nat))).setCell ⟨wr.heap.size, 3, none⟩ (.int .u8 (T 3 : Nat)))) := (((B1.out.setCell (by show w.heap.size ≤ wr.heap.size; omega) _).setCell (by show w.heap.size ≤ wr.heap.size; omega) _).setCell (by show w.heap.size ≤ wr.heap.size; omega) _).setCell (by show w.heap.size ≤ wr.heap.size; omega) _
       clear R0 R1 R2 RL B1 v0 v1 v2 v3 k0 k1 k2 k3 q0 q1 q2 q3 NE em em' t1 t2
       generalize ((((w1.setCell ⟨wr.heap.size, 0, none⟩ (.int .u8 (T 0 : Nat))).setCell ⟨wr.heap.size, 1, none⟩ (.int .u8 (T 1 : Nat))).setCell ⟨wr.heap.size, 2, none⟩ (.int .u8 (T 2 : Nat))).setCell ⟨wr.heap.size, 3, none⟩ (.int .u8 (T 3 : Nat))) = wq at *
       generalize wr.heap.size = L at *
       have R0 := R0'
       have R1 := R1'
       have R2 := R2'
       have RL := RL'
       have B1 := B1'
       clear R0' R1' R2' RL' B1'
       go_loopw [11, 74] (fun _ i wy => ∃ r : Nat, r ≤ 4 ∧ i = .int .i64 r ∧ Row8 wy w.heap.size 153 256 Gf.sub ∧ Row8 wy (w.heap.size + 1) 152 240 (fun _ => 0) ∧ Row8 wy (w.heap.size + 1 + 1) 184 240 (fun j => if I * 4 ≤ j ∧ j < I * 4 + r then f ((I - n) * 4 + (j - I * 4)) ^^^ T (j - I * 4) else f j) ∧ wy.rowIs L 183 4 (fun r => .int .u8 (T r : Nat)) ∧ Below w.heap.size w wy) (fun _ i _ => 4 - (intOf i).toNat)
       case atStart => exact ⟨0, by omega, rfl, R0.out, R1.out, R2.out.congr (fun j hj => by rw [if_neg (by omega)]), RL.out, B1.out⟩
       case round =>
        clear R0 R1 R2 RL B1
        obtain ⟨r, hr, rfl, h0, h1, h2, hl, hb⟩ := hrel
        have H0 : Hid (Row8 wr w.heap.size 153 256 Gf.sub) := h0
        have H1 : Hid (Row8 wr (w.heap.size + 1) 152 240 (fun _ => 0)) := h1
        have H2 : Hid (Row8 wr (w.heap.size + 1 + 1) 184 240 (fun j => if I * 4 ≤ j ∧ j < I * 4 + r then f ((I - n) * 4 + (j - I * 4)) ^^^ T (j - I * 4) else f j)) := h2
        have HL : Hid (wr.rowIs L 183 4 (fun r => .int .u8 (T r : Nat))) := hl
        have HB : Hid (Below w.heap.size w wr) := hb
        by_cases hr4 : r < 4
        ·have c1 := World.rowIs.cell h2 (i := (I - n) * 4 + r) (by omega)
         simp only [] at c1
         rw [if_neg (by omega)] at c1
         have c2 := hl.cell hr4
         have c3 := World.rowIs.cell h2 (i := I * 4 + r) (by omega)
         have f3 := World.rowIs.frozen h2 (I * 4 + r)
         have lt := LT.out r hr4
         have lff := LF.out ((I - n) * 4 + r)
         have ex : bits .xor .u8 (f ((I - n) * 4 + r) : Int) (T r : Int) = ((f ((I - n) * 4 + r) ^^^ T r : Nat) : Int) := u8_xor_nat _ _ lff lt
         have x1 : (I : Int) - (n : Int) < 60 := by omega
         have x2 : (I : Int) < 60 := by omega
         have x3 : (r : Int) < 4 := by omega
         clear h0 h1 h2 hl hb
         go_wp2
         go_region
         go_wp2
         go_roundw
         case rel =>
          refine ⟨r + 1, by omega, by go_num, (H0.out.other (by show w.heap.size ≠ w.heap.size + 1 + 1; omega) _).drewN 1, (H1.out.other (by show w.heap.size + 1 ≠ w.heap.size + 1 + 1; omega) _).drewN 1, ?_, HL.out.setOther (by show L ≠ w.heap.size + 1 + 1; omega) _, below_drewN (HB.out.setCell (by show w.heap.size ≤ w.heap.size + 1 + 1; omega) _) 1⟩
          exact ((H2.out.set (I * 4 + r) (f ((I - n) * 4 + r) ^^^ T r)).congr (fun j hj => by
           by_cases e : j = I * 4 + r
           ·rw [if_pos e, if_pos (by omega), show j - I * 4 = r from by omega]
           ·rw [if_neg e]
            by_cases h1 : I * 4 ≤ j ∧ j < I * 4 + r
            ·rw [if_pos h1, if_pos (by omega)]
            ·rw [if_neg h1, if_neg (by omega)])).drewN 1
         case measure => simp [intOf]; omega
        ·have R2' : Hid (Row8 wr (w.heap.size + 1 + 1) 184 240 (Gf.ws (strB s) n (I + 1 - n))) := h2.congr (fun j hj => by
          rw [F2.out j]
          by_cases h1 : I * 4 ≤ j ∧ j < I * 4 + 4
          ·rw [if_pos (by omega), if_pos h1, ET.out _ (by omega)]
          ·rw [if_neg (by omega), if_neg h1])
         have hr' : ¬ (r : Int) < 4 := by omega
         clear h0 h1 h2 hl hb H2 HL
         go_wp2
         go_roundw
         case rel => exact ⟨I + 1, by omega, by omega, by go_num, val_int (by rw [P3.out hA]), H0.out, H1.out, R2'.out, HB.out⟩
         case measure => simp [intOf]; omega
      ·have t3 : ((n : Int) == 8) = false ∨ ((n : Int) == 8) = true ∧ ((I : Int) % 8 == 4) = false := by
        by_cases e8 : n = 8
        ·refine .inr ⟨by rw [beq_iff_eq]; omega, ?_⟩
         rw [beq_eq_false_iff_ne]; intro h; exact h8 ⟨e8, by omega⟩
        ·exact .inl (by rw [beq_eq_false_iff_ne]; omega)
       have R0 : Hid (Row8 (wr.alloc (.cells #[.int .u8 (f ((I - 1) * 4) : Nat), .int .u8 (f ((I - 1) * 4 + 1) : Nat), .int .u8 (f ((I - 1) * 4 + 2) : Nat), .int .u8 (f ((I - 1) * 4 + 3) : Nat)] 183)) w.heap.size 153 256 Gf.sub) := H0.out.alloc _
       have R1 : Hid (Row8 (wr.alloc (.cells #[.int .u8 (f ((I - 1) * 4) : Nat), .int .u8 (f ((I - 1) * 4 + 1) : Nat), .int .u8 (f ((I - 1) * 4 + 2) : Nat), .int .u8 (f ((I - 1) * 4 + 3) : Nat)] 183)) (w.heap.size + 1) 152 240 (fun _ => 0)) := H1.out.alloc _
       have R2 : Hid (Row8 (wr.alloc (.cells #[.int .u8 (f ((I - 1) * 4) : Nat), .int .u8 (f ((I - 1) * 4 + 1) : Nat), .int .u8 (f ((I - 1) * 4 + 2) : Nat), .int .u8 (f ((I - 1) * 4 + 3) : Nat)] 183)) (w.heap.size + 1 + 1) 184 240 f) := H2.out.alloc _
       have B1 : Hid (Below w.heap.size w (wr.alloc (.cells #[.int .u8 (f ((I - 1) * 4) : Nat), .int .u8 (f ((I - 1) * 4 + 1) : Nat), .int .u8 (f ((I - 1) * 4 + 2) : Nat), .int .u8 (f ((I - 1) * 4 + 3) : Nat)] 183))) := HB.out.alloc HB.out.size _
       generalize hT : (fun r => Gf.kt n (fun r => f ((I - 1) * 4 + r)) I r) = T
       have LT : Hid (∀ r, r < 4 → T r < 256) := fun r hr => by rw [← hT]; exact Gf.kt_lt (fun _ _ => LF.out _) _ _ hr
       have ET : Hid (∀ r, r < 4 → T r = Gf.kt n (fun r => f ((I - 1) * 4 + r)) I r) := fun r _ => by rw [← hT]
       have RL : Hid ((wr.alloc (.cells #[.int .u8 (f ((I - 1) * 4) : Nat), .int .u8 (f ((I - 1) * 4 + 1) : Nat), .int .u8 (f ((I - 1) * 4 + 2) : Nat), .int .u8 (f ((I - 1) * 4 + 3) : Nat)] 183)).rowIs wr.heap.size 183 4 (fun r => .int .u8 (T r : Nat))) := by
        have VT : ∀ r, T r = f ((I - 1) * 4 + r) := fun r => by rw [← hT]; show Gf.kt n _ I r = _; rw [Gf.kt, if_neg hA, if_neg h8]
        exact (four_cells (w := wr) (.int .u8 (f ((I - 1) * 4) : Nat)) (.int .u8 (f ((I - 1) * 4 + 1) : Nat)) (.int .u8 (f ((I - 1) * 4 + 2) : Nat)) (.int .u8 (f ((I - 1) * 4 + 3) : Nat)) (fun r => .int .u8 (f ((I - 1) * 4 + r) : Nat)) rfl rfl rfl rfl 183).congr (fun r hr => by rw [VT r])
       clear hT H0 H1 H2 HB
       rcases t3 with t3 | ⟨t3, t4⟩
       all_goals
        go_wp2_with fail
        generalize (wr.alloc (.cells #[.int .u8 (f ((I - 1) * 4) : Nat), .int .u8 (f ((I - 1) * 4 + 1) : Nat), .int .u8 (f ((I - 1) * 4 + 2) : Nat), .int .u8 (f ((I - 1) * 4 + 3) : Nat)] 183)) = wq at *
        generalize wr.heap.size = L at *
        clear g0 g1 g2 g3 em em' t3
        try clear t4
        go_loopw [11, 74] (fun _ i wy => ∃ r : Nat, r ≤ 4 ∧ i = .int .i64 r ∧ Row8 wy w.heap.size 153 256 Gf.sub ∧ Row8 wy (w.heap.size + 1) 152 240 (fun _ => 0) ∧ Row8 wy (w.heap.size + 1 + 1) 184 240 (fun j => if I * 4 ≤ j ∧ j < I * 4 + r then f ((I - n) * 4 + (j - I * 4)) ^^^ T (j - I * 4) else f j) ∧ wy.rowIs L 183 4 (fun r => .int .u8 (T r : Nat)) ∧ Below w.heap.size w wy) (fun _ i _ => 4 - (intOf i).toNat)
        case atStart => exact ⟨0, by omega, rfl, R0.out, R1.out, R2.out.congr (fun j hj => by rw [if_neg (by omega)]), RL.out, B1.out⟩
        case round =>
         clear R0 R1 R2 RL B1
         obtain ⟨r, hr, rfl, h0, h1, h2, hl, hb⟩ := hrel
         have H0 : Hid (Row8 wr w.heap.size 153 256 Gf.sub) := h0
         have H1 : Hid (Row8 wr (w.heap.size + 1) 152 240 (fun _ => 0)) := h1
         have H2 : Hid (Row8 wr (w.heap.size + 1 + 1) 184 240 (fun j => if I * 4 ≤ j ∧ j < I * 4 + r then f ((I - n) * 4 + (j - I * 4)) ^^^ T (j - I * 4) else f j)) := h2
         have HL : Hid (wr.rowIs L 183 4 (fun r => .int .u8 (T r : Nat))) := hl
         have HB : Hid (Below w.heap.size w wr) := hb
         by_cases hr4 : r < 4
         ·have c1 := World.rowIs.cell h2 (i := (I - n) * 4 + r) (by omega)
          simp only [] at c1
          rw [if_neg (by omega)] at c1
          have c2 := hl.cell hr4
          have c3 := World.rowIs.cell h2 (i := I * 4 + r) (by omega)
          have f3 := World.rowIs.frozen h2 (I * 4 + r)
          have lt := LT.out r hr4
          have lff := LF.out ((I - n) * 4 + r)
          have ex : bits .xor .u8 (f ((I - n) * 4 + r) : Int) (T r : Int) = ((f ((I - n) * 4 + r) ^^^ T r : Nat) : Int) := u8_xor_nat _ _ lff lt
          have x1 : (I : Int) - (n : Int) < 60 := by omega
          have x2 : (I : Int) < 60 := by omega
          have x3 : (r : Int) < 4 := by omega
          clear h0 h1 h2 hl hb
          go_wp2
          go_region
          go_wp2
          go_roundw
          case rel =>
           refine ⟨r + 1, by omega, by go_num, (H0.out.other (by show w.heap.size ≠ w.heap.size + 1 + 1; omega) _).drewN 1, (H1.out.other (by show w.heap.size + 1 ≠ w.heap.size + 1 + 1; omega) _).drewN 1, ?_, HL.out.setOther (by show L ≠ w.heap.size + 1 + 1; omega) _, below_drewN (HB.out.setCell (by show w.heap.size ≤ w.heap.size + 1 + 1; omega) _) 1⟩
           exact ((H2.out.set (I * 4 + r) (f ((I - n) * 4 + r) ^^^ T r)).congr (fun j hj => by
            by_cases e : j = I * 4 + r
            ·rw [if_pos e, if_pos (by omega), show j - I * 4 = r from by omega]
            ·rw [if_neg e]
             by_cases h1 : I * 4 ≤ j ∧ j < I * 4 + r
             ·rw [if_pos h1, if_pos (by omega)]
             ·rw [if_neg h1, if_neg (by omega)])).drewN 1
          case measure => simp [intOf]; omega
         ·have R2' : Hid (Row8 wr (w.heap.size + 1 + 1) 184 240 (Gf.ws (strB s) n (I + 1 - n))) := h2.congr (fun j hj => by
           rw [F2.out j]
           by_cases h1 : I * 4 ≤ j ∧ j < I * 4 + 4
           ·rw [if_pos (by omega), if_pos h1, ET.out _ (by omega)]
           ·rw [if_neg (by omega), if_neg h1])
          have hr' : ¬ (r : Int) < 4 := by omega
          clear h0 h1 h2 hl hb H2 HL
          go_wp2
          go_roundw
          case rel => exact ⟨I + 1, by omega, by omega, by go_num, val_int (by rw [P3.out hA]), H0.out, H1.out, R2'.out, HB.out⟩
          case measure => simp [intOf]; omega
    ·have H2' : Hid (Row8 wr (w.heap.size + 1 + 1) 184 240 (Gf.ws (strB s) n (3 * n + 28))) := by
      have e : I - n = 3 * n + 28 := by omega
      rw [← e]; exact h2
     clear h0 h1 h2 hb H2
     have hI' : ¬ (I : Int) < 4 * ((n : Int) + 7) := by omega
     generalize hg : Gf.ws (strB s) n (3 * n + 28) = g at *
     have HG : Hid (Gf.ws (strB s) n (3 * n + 28) = g) := hg
     clear hg
     generalize Gf.pows ((I - 1) / n) = pw at *
     go_wp2_with (refine wpList_load_mid rfl 184 (.tmp 5) rfl (w.heap.size + 1 + 1) 0 rfl (bv 240 g) _ H2'.out.range Tryz.underlying184 rfl (by rw [bv_length]; exact Tryz.sizeW) ?_)
     refine (statesOf_any g _).mono ?_
     rintro e w1 ⟨rfl, hB⟩
     have R1 : Hid (Row8 w1 (w.heap.size + 1) 152 240 (fun _ => 0)) := H1.out.below hB
     have B1 : Hid (Below w.heap.size w w1) := HB.out.trans (hB.mono HB.out.size)
     clear hB
     go_wp2_with (refine wpList_store_mid rfl 152 (.tmp 4) (.tmp 94) rfl (w.heap.size + 1) 0 (bA 240 g) rfl rfl (by rw [bA_size]; exact R1.out.there) (by rw [bA_size]; exact Tryz.sizeK) (bA_one _ _) ?_)
     rw [bA_toList]
     have Lo : (loadVar 152 ⟨w.heap.size + 1, 0, none⟩).run Tryz.prog (w1.setCells (w.heap.size + 1) 0 (bv 240 g)) = .ok (.agg (bA 240 g)) (w1.setCells (w.heap.size + 1) 0 (bv 240 g)) := (R1.out.stored _).load Tryz.underlying152 rfl Tryz.sizeK
     have Bo : Below w.heap.size w (w1.setCells (w.heap.size + 1) 0 (bv 240 g)) := below_setCells (by omega) _ _ _ B1.out
     exact bodyPost_ret (v := .agg (bA 240 g)) (results_cell_one (b := w.heap.size + 1) (o := 0) Tryz.results118 _ _ _ rfl Lo) rfl ⟨by rw [HG.out], Bo⟩
end Go.Proofs.YtboekhegbachpaaGreatDoor
