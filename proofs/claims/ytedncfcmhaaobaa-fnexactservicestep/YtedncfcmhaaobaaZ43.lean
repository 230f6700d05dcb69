/-
  Texts of the proof, joined: QuHl.
-/
import Derived.Test.YtedncfcmhaaobaaZ42
namespace Go.Proofs.Ytedncfcmhaaobaa
open Go.ChangeShapes Go.WideShapes Go.ChangeAt Go.RowKit
set_option linter.unusedVariables false
theorem mx_R (s : Sv) (F : Nat → Rp) (h : ∀ i, i < s.n → (F i).ne = (s.R i).ne) {x : Nat} (hx : s.max x) : ({ s with R := F } : Sv).max x :=
 ⟨⟨hx.1.1, fun i hi => by show (F i).ne ≤ x; rw [h i hi]; exact hx.1.2 i hi⟩, hx.2.1, hx.2.2⟩
theorem mx_W (s : Sv) (F : Nat → Wo) (h : ∀ i, i < s.m → (F i).ne = (s.W i).ne) {x : Nat} (hx : s.max x) : ({ s with W := F } : Sv).max x :=
 ⟨hx.1, ⟨hx.2.1.1, fun i hi => by show (F i).ne ≤ x; rw [h i hi]; exact hx.2.1.2 i hi⟩, hx.2.2⟩
set_option maxRecDepth 100000 in
set_option maxHeartbeats 4000000 in
theorem heldReplicaS_v (a : Option Addr) (n c K : Nat) (F : Nat → Rp) (A : Nat → Option Addr) (Z : Nat → Nat) (hn : n ≤ 300) (hne : ∀ i, i < n → (F i).ne ≤ 300) (hK : K ≤ 5000000) (w : World) (h : RpV w a n (hfR K F n) A Z) :
  Calls Try.prog 46 #[.slice a n c, .int .i64 (K : Int)] w fun e w' => e = .returned (.int .i64 ((adR K F n : Nat) : Int)) ∧ Below w.heap.size w w' := by
 have H0 : Hid (RpV w a n (hfR K F n) A Z) := h
 have NE : Hid (∀ i, i < n → (F i).ne ≤ 300) := hne
 clear h hne
 go_enter Try.func46, Try.ntmps46
 go_wp2_with fail
 go_loopw [1, 5] (fun x i wr => ∃ k : Nat, k ≤ n ∧ i = .int .i64 (k : Int) ∧ x = .int .i64 ((adR K F k : Nat) : Int) ∧ Below w.heap.size w wr) (fun _ i _ => n - (intOf i).toNat)
 case atStart => exact ⟨0, by omega, rfl, rfl, Below.refl _ _⟩
 case round =>
  obtain ⟨k, hk, rfl, rfl, hb0⟩ := hrel
  have A1 : Hid (Below w.heap.size w wr) := hb0
  clear hb0
  by_cases hlt : k < n
  ·have hlt' : (k : Int) < (n : Int) := by omega
   have hk0 : (0 : Int) ≤ (k : Int) := by omega
   have HLT : Hid (k < n) := hlt
   have ne3 : (F k).ne ≤ 300 := NE.out k hlt
   have hqb := adR_le K F n NE.out k hk
   obtain ⟨b, off, rfl, hc⟩ := (H0.out.below A1.out).at hlt
   have nums := (H0.out.below A1.out).2 k hlt
   rw [hfR_lt _ _ hlt] at hc nums
   obtain ⟨q, hq⟩ : ∃ q : Nat, q = adR K F k := ⟨_, rfl⟩
   rw [← hq] at hqb hc nums ⊢
   have q9 : q ≤ 6000000 := by have : k * 307 ≤ 300 * 307 := Nat.mul_le_mul_right _ (by omega); omega
   have NU : Hid (Num wr (A k) (F k).ne (mkC (q + 5))) := nums
   have t0 : wr.cell? ⟨b, off + k * 8, none⟩ = some (.bool ((q : Int) % 3 == 0)) := hc 0 (by omega)
   have t1 : wr.cell? ⟨b, off + k * 8 + 1, none⟩ = some (.int .i64 ((q : Int) + 1)) := hc 1 (by omega)
   have t2 : wr.cell? ⟨b, off + k * 8 + 2, none⟩ = some (.int .i64 ((q : Int) + 1 + 1)) := hc 2 (by omega)
   have t3 : wr.cell? ⟨b, off + k * 8 + 3, none⟩ = some (.int .i64 ((q : Int) + 1 + 1 + 1)) := hc 3 (by omega)
   have t4 : wr.cell? ⟨b, off + k * 8 + 4, none⟩ = some (.int .i64 ((q : Int) + 1 + 1 + 1 + 1)) := hc 4 (by omega)
   have t5 : wr.cell? ⟨b, off + k * 8 + 5, none⟩ = some (.slice (A k) (F k).ne (Z k)) := hc 5 (by omega)
   have TP : Hid (wr.cell? ⟨b, off + k * 8 + 6, none⟩ = some (.int .i64 (((q + 5 + (F k).ne : Nat) : Int))) ∧ wr.cell? ⟨b, off + k * 8 + 7, none⟩ = some (.int .i64 (((q + 5 + (F k).ne : Nat) : Int) + 1))) := ⟨hc 6 (by omega), hc 7 (by omega)⟩
   have AD : Hid (adR K F (k + 1) = q + 5 + (F k).ne + 2) := by show adR K F k + 7 + (F k).ne = _; rw [← hq]; omega
   have e0 : (((q : Int) % 3 == 0) != ((q : Int) % 3 == 0)) = false := by simp
   have X5 : Hid (((q : Int) + 1 + 1 + 1 + 1 + 1) = ((q + 5 : Nat) : Int)) := (by omega : ((q : Int) + 1 + 1 + 1 + 1 + 1) = ((q + 5 : Nat) : Int))
   clear hc nums hq hqb hk hlt
   go_wp2_with fail
   rw [X5.out]
   refine (heldIntK (A k) (F k).ne (Z k) (q + 5) (by omega) wr NU.out).mono ?_
   rintro e w1 ⟨rfl, hb⟩
   replace A1 : Hid (Below w.heap.size w w1) := A1.out.trans (hb.mono A1.out.size)
   obtain ⟨y, hy⟩ : ∃ y : Nat, y = q + 5 + (F k).ne := ⟨_, rfl⟩
   rw [← hy] at TP AD ⊢
   have y9 : y ≤ 7000000 := by omega
   have nz : ¬ (y : Int) < 0 := by omega
   have s6 : w1.cell? ⟨b, off + k * 8 + 6, none⟩ = some (.int .i64 ((y : Int))) := (hb.cell (strBlock TP.out.1)).trans TP.out.1
   have s7 : w1.cell? ⟨b, off + k * 8 + 7, none⟩ = some (.int .i64 ((y : Int) + 1)) := (hb.cell (strBlock TP.out.2)).trans TP.out.2
   clear hb hy TP X5 NU t0 t1 t2 t3 t4 t5
   go_wp2
   go_roundw
   case rel => exact ⟨k + 1, by have := HLT.out; omega, by go_num, by rw [AD.out]; go_num, A1.out⟩
   case measure => have := HLT.out; simp [intOf]; omega
  ·obtain rfl : k = n := by omega
   have hlt' : ¬ (k : Int) < (k : Int) := by omega
   go_wp2
   go_ret
   exact ⟨rfl, A1.out⟩
set_option maxRecDepth 100000 in
set_option maxHeartbeats 4000000 in
theorem heldWriteOpS_v (a : Option Addr) (n c K : Nat) (F : Nat → Wo) (A : Nat → Option Addr) (Z : Nat → Nat) (hn : n ≤ 300) (hne : ∀ i, i < n → (F i).ne ≤ 300) (hK : K ≤ 5000000) (w : World) (h : WoV w a n (hfW K F n) A Z) :
  Calls Try.prog 47 #[.slice a n c, .int .i64 (K : Int)] w fun e w' => e = .returned (.int .i64 ((adW K F n : Nat) : Int)) ∧ Below w.heap.size w w' := by
 have H0 : Hid (WoV w a n (hfW K F n) A Z) := h
 have NE : Hid (∀ i, i < n → (F i).ne ≤ 300) := hne
 clear h hne
 go_enter Try.func47, Try.ntmps47
 go_wp2_with fail
 go_loopw [1, 5] (fun x i wr => ∃ k : Nat, k ≤ n ∧ i = .int .i64 (k : Int) ∧ x = .int .i64 ((adW K F k : Nat) : Int) ∧ Below w.heap.size w wr) (fun _ i _ => n - (intOf i).toNat)
 case atStart => exact ⟨0, by omega, rfl, rfl, Below.refl _ _⟩
 case round =>
  obtain ⟨k, hk, rfl, rfl, hb0⟩ := hrel
  have A1 : Hid (Below w.heap.size w wr) := hb0
  clear hb0
  by_cases hlt : k < n
  ·have hlt' : (k : Int) < (n : Int) := by omega
   have hk0 : (0 : Int) ≤ (k : Int) := by omega
   have HLT : Hid (k < n) := hlt
   have ne3 : (F k).ne ≤ 300 := NE.out k hlt
   have hqb := adW_le K F n NE.out k hk
   obtain ⟨b, off, rfl, hc⟩ := (H0.out.below A1.out).at hlt
   have nums := (H0.out.below A1.out).2 k hlt
   rw [hfW_lt _ _ hlt] at hc nums
   obtain ⟨q, hq⟩ : ∃ q : Nat, q = adW K F k := ⟨_, rfl⟩
   rw [← hq] at hqb hc nums ⊢
   have q9 : q ≤ 6000000 := by have : k * 307 ≤ 300 * 307 := Nat.mul_le_mul_right _ (by omega); omega
   have NU : Hid (Num wr (A k) (F k).ne (mkC (q + 2))) := nums
   have t0 : wr.cell? ⟨b, off + k * 5, none⟩ = some (.int .i64 ((q : Int))) := hc 0 (by omega)
   have t1 : wr.cell? ⟨b, off + k * 5 + 1, none⟩ = some (.int .i64 ((q : Int) + 1)) := hc 1 (by omega)
   have t2 : wr.cell? ⟨b, off + k * 5 + 2, none⟩ = some (.slice (A k) (F k).ne (Z k)) := hc 2 (by omega)
   have TP : Hid (wr.cell? ⟨b, off + k * 5 + 3, none⟩ = some (.int .i64 (((q + 2 + (F k).ne : Nat) : Int))) ∧ wr.cell? ⟨b, off + k * 5 + 4, none⟩ = some (.int .i64 (((q + 2 + (F k).ne : Nat) : Int) + 1))) := ⟨hc 3 (by omega), hc 4 (by omega)⟩
   have AD : Hid (adW K F (k + 1) = q + 2 + (F k).ne + 2) := by show adW K F k + 4 + (F k).ne = _; rw [← hq]; omega
   have X5 : Hid (((q : Int) + 1 + 1) = ((q + 2 : Nat) : Int)) := (by omega : ((q : Int) + 1 + 1) = ((q + 2 : Nat) : Int))
   clear hc nums hq hqb hk hlt
   go_wp2_with fail
   rw [X5.out]
   refine (heldIntK (A k) (F k).ne (Z k) (q + 2) (by omega) wr NU.out).mono ?_
   rintro e w1 ⟨rfl, hb⟩
   replace A1 : Hid (Below w.heap.size w w1) := A1.out.trans (hb.mono A1.out.size)
   obtain ⟨y, hy⟩ : ∃ y : Nat, y = q + 2 + (F k).ne := ⟨_, rfl⟩
   rw [← hy] at TP AD ⊢
   have y9 : y ≤ 7000000 := by omega
   have nz : ¬ (y : Int) < 0 := by omega
   have s3 : w1.cell? ⟨b, off + k * 5 + 3, none⟩ = some (.int .i64 ((y : Int))) := (hb.cell (strBlock TP.out.1)).trans TP.out.1
   have s4 : w1.cell? ⟨b, off + k * 5 + 4, none⟩ = some (.int .i64 ((y : Int) + 1)) := (hb.cell (strBlock TP.out.2)).trans TP.out.2
   clear hb hy TP X5 NU t0 t1 t2
   go_wp2
   go_roundw
   case rel => exact ⟨k + 1, by have := HLT.out; omega, by go_num, by rw [AD.out]; go_num, A1.out⟩
   case measure => have := HLT.out; simp [intOf]; omega
  ·obtain rfl : k = n := by omega
   have hlt' : ¬ (k : Int) < (k : Int) := by omega
   go_wp2
   go_ret
   exact ⟨rfl, A1.out⟩
set_option maxRecDepth 100000 in
set_option maxHeartbeats 4000000 in
theorem heldReadOpS_v (a : Option Addr) (n c K : Nat) (F : Nat → Ro) (A : Nat → Option Addr) (Z : Nat → Nat) (hn : n ≤ 300) (hne : ∀ i, i < n → (F i).ne ≤ 300) (hK : K ≤ 5000000) (w : World) (h : RoV w a n (hfQ K F n) A Z) :
  Calls Try.prog 48 #[.slice a n c, .int .i64 (K : Int)] w fun e w' => e = .returned (.int .i64 ((adQ K F n : Nat) : Int)) ∧ Below w.heap.size w w' := by
 have H0 : Hid (RoV w a n (hfQ K F n) A Z) := h
 have NE : Hid (∀ i, i < n → (F i).ne ≤ 300) := hne
 clear h hne
 go_enter Try.func48, Try.ntmps48
 go_wp2_with fail
 go_loopw [1, 5] (fun x i wr => ∃ k : Nat, k ≤ n ∧ i = .int .i64 (k : Int) ∧ x = .int .i64 ((adQ K F k : Nat) : Int) ∧ Below w.heap.size w wr) (fun _ i _ => n - (intOf i).toNat)
 case atStart => exact ⟨0, by omega, rfl, rfl, Below.refl _ _⟩
 case round =>
  obtain ⟨k, hk, rfl, rfl, hb0⟩ := hrel
  have A1 : Hid (Below w.heap.size w wr) := hb0
  clear hb0
  by_cases hlt : k < n
  ·have hlt' : (k : Int) < (n : Int) := by omega
   have hk0 : (0 : Int) ≤ (k : Int) := by omega
   have HLT : Hid (k < n) := hlt
   have ne3 : (F k).ne ≤ 300 := NE.out k hlt
   have hqb := adQ_le K F n NE.out k hk
   obtain ⟨b, off, rfl, hc⟩ := (H0.out.below A1.out).at hlt
   have nums := (H0.out.below A1.out).2 k hlt
   rw [hfQ_lt _ _ hlt] at hc nums
   obtain ⟨q, hq⟩ : ∃ q : Nat, q = adQ K F k := ⟨_, rfl⟩
   rw [← hq] at hqb hc nums ⊢
   have q9 : q ≤ 6000000 := by have : k * 307 ≤ 300 * 307 := Nat.mul_le_mul_right _ (by omega); omega
   have NU : Hid (Num wr (A k) (F k).ne (mkC (q))) := nums
   have t0 : wr.cell? ⟨b, off + k * 5, none⟩ = some (.slice (A k) (F k).ne (Z k)) := hc 0 (by omega)
   have TP : Hid (wr.cell? ⟨b, off + k * 5 + 1, none⟩ = some (.int .i64 (((q + (F k).ne : Nat) : Int))) ∧ wr.cell? ⟨b, off + k * 5 + 2, none⟩ = some (.int .i64 (((q + (F k).ne : Nat) : Int) + 1)) ∧ wr.cell? ⟨b, off + k * 5 + 3, none⟩ = some (.int .i64 (((q + (F k).ne : Nat) : Int) + 1 + 1)) ∧ wr.cell? ⟨b, off + k * 5 + 4, none⟩ = some (.int .i64 (((q + (F k).ne : Nat) : Int) + 1 + 1 + 1))) := ⟨hc 1 (by omega), hc 2 (by omega), hc 3 (by omega), hc 4 (by omega)⟩
   have AD : Hid (adQ K F (k + 1) = q + (F k).ne + 4) := by show adQ K F k + 4 + (F k).ne = _; rw [← hq]; omega
   have X5 : Hid (((q : Int)) = ((q : Nat) : Int)) := (by omega : ((q : Int)) = ((q : Nat) : Int))
   clear hc nums hq hqb hk hlt
   go_wp2_with fail
   refine (heldIntK (A k) (F k).ne (Z k) (q) (by omega) wr NU.out).mono ?_
   rintro e w1 ⟨rfl, hb⟩
   replace A1 : Hid (Below w.heap.size w w1) := A1.out.trans (hb.mono A1.out.size)
   obtain ⟨y, hy⟩ : ∃ y : Nat, y = q + (F k).ne := ⟨_, rfl⟩
   rw [← hy] at TP AD ⊢
   have y9 : y ≤ 7000000 := by omega
   have nz : ¬ (y : Int) < 0 := by omega
   have s1 : w1.cell? ⟨b, off + k * 5 + 1, none⟩ = some (.int .i64 ((y : Int))) := (hb.cell (strBlock TP.out.1)).trans TP.out.1
   have s2 : w1.cell? ⟨b, off + k * 5 + 2, none⟩ = some (.int .i64 ((y : Int) + 1)) := (hb.cell (strBlock TP.out.2.1)).trans TP.out.2.1
   have s3 : w1.cell? ⟨b, off + k * 5 + 3, none⟩ = some (.int .i64 ((y : Int) + 1 + 1)) := (hb.cell (strBlock TP.out.2.2.1)).trans TP.out.2.2.1
   have s4 : w1.cell? ⟨b, off + k * 5 + 4, none⟩ = some (.int .i64 ((y : Int) + 1 + 1 + 1)) := (hb.cell (strBlock TP.out.2.2.2)).trans TP.out.2.2.2
   clear hb hy TP X5 NU  t0
   go_wp2
   go_roundw
   case rel => exact ⟨k + 1, by have := HLT.out; omega, by go_num, by rw [AD.out]; go_num, A1.out⟩
   case measure => have := HLT.out; simp [intOf]; omega
  ·obtain rfl : k = n := by omega
   have hlt' : ¬ (k : Int) < (k : Int) := by omega
   go_wp2
   go_ret
   exact ⟨rfl, A1.out⟩
theorem endS_le {s : Sv} (hm : s.max 300) : adR 1 s.R s.n ≤ 100000 ∧ adW (adR 1 s.R s.n) s.W s.m ≤ 200000 ∧ endS s ≤ 300000 := by
 have a := adR_le 1 s.R s.n hm.1.2 s.n (Nat.le_refl _)
 have b := adW_le (adR 1 s.R s.n) s.W s.m hm.2.1.2 s.m (Nat.le_refl _)
 have c := adQ_le (adW (adR 1 s.R s.n) s.W s.m) s.Q s.l hm.2.2.2 s.l (Nat.le_refl _)
 have a2 : s.n * 307 ≤ 300 * 307 := Nat.mul_le_mul_right _ hm.1.1
 have b2 : s.m * 307 ≤ 300 * 307 := Nat.mul_le_mul_right _ hm.2.1.1
 have c2 : s.l * 307 ≤ 300 * 307 := Nat.mul_le_mul_right _ hm.2.2.1
 unfold endS
 exact ⟨by omega, by omega, by omega⟩
set_option maxRecDepth 100000 in
set_option maxHeartbeats 4000000 in
theorem heldSv_v (s : Sv) (p : Sa) (hm : s.max 300) (w : World) (h : SvV w (mkS s) p) :
  Calls Try.prog 16 #[.agg #[.slice p.a s.n p.ca, .int .i64 s.t, .slice p.b s.m p.cb, .slice p.d s.l p.cd], .int .i64 1] w fun e w' => e = .returned (.int .i64 ((endS s : Nat) : Int)) ∧ Below w.heap.size w w' := by
 have hl := endS_le hm
 have b0 : Below w.heap.size w (w.alloc (.cells #[.slice p.a s.n p.ca, .int .i64 s.t, .slice p.b s.m p.cb, .slice p.d s.l p.cd] 28)) := (Below.refl _ _).alloc (Nat.le_refl _) _
 have A1 : Hid (Below w.heap.size w (w.alloc (.cells #[.slice p.a s.n p.ca, .int .i64 s.t, .slice p.b s.m p.cb, .slice p.d s.l p.cd] 28))) := b0
 have X : Hid (Box4 (w.alloc (.cells #[.slice p.a s.n p.ca, .int .i64 s.t, .slice p.b s.m p.cb, .slice p.d s.l p.cd] 28)) w.heap.size 28 (.slice p.a s.n p.ca) (.int .i64 s.t) (.slice p.b s.m p.cb) (.slice p.d s.l p.cd)) := Box4.madeAt rfl _ _ _ _ _
 have G1 : Hid (∀ u, Below w.heap.size w u → RpV u p.a s.n (hfR 1 s.R s.n) p.A p.X) := fun u hu => (h.below hu).1
 have G2 : Hid (∀ u, Below w.heap.size w u → WoV u p.b s.m (hfW (adR 1 s.R s.n) s.W s.m) p.B p.Y) := fun u hu => (h.below hu).2.1
 have G3 : Hid (∀ u, Below w.heap.size w u → RoV u p.d s.l (hfQ (adW (adR 1 s.R s.n) s.W s.m) s.Q s.l) p.D p.Z) := fun u hu => (h.below hu).2.2
 have MX : Hid (s.max 300) := hm
 have R1 : Hid (∀ u, Below w.heap.size w u → Calls Try.prog 46 #[.slice p.a s.n p.ca, .int .i64 1] u fun e w' => e = .returned (.int .i64 ((adR 1 s.R s.n : Nat) : Int)) ∧ Below u.heap.size u w') := fun u hu => heldReplicaS_v p.a s.n p.ca 1 s.R p.A p.X MX.out.1.1 MX.out.1.2 (by omega) u (G1.out u hu)
 have R2 : Hid (∀ u, Below w.heap.size w u → Calls Try.prog 47 #[.slice p.b s.m p.cb, .int .i64 ((adR 1 s.R s.n : Nat) : Int)] u fun e w' => e = .returned (.int .i64 ((adW (adR 1 s.R s.n) s.W s.m : Nat) : Int)) ∧ Below u.heap.size u w') := fun u hu => heldWriteOpS_v p.b s.m p.cb _ s.W p.B p.Y MX.out.2.1.1 MX.out.2.1.2 (by omega) u (G2.out u hu)
 have R3 : Hid (∀ u, Below w.heap.size w u → Calls Try.prog 48 #[.slice p.d s.l p.cd, .int .i64 ((adW (adR 1 s.R s.n) s.W s.m : Nat) : Int)] u fun e w' => e = .returned (.int .i64 ((endS s : Nat) : Int)) ∧ Below u.heap.size u w') := fun u hu => heldReadOpS_v p.d s.l p.cd _ s.Q p.D p.Z MX.out.2.2.1 MX.out.2.2.2 (by omega) u (G3.out u hu)
 clear hl h hm b0 G1 G2 G3 MX
 generalize endS s = N3 at *
 generalize adW (adR 1 s.R s.n) s.W s.m = N2 at *
 generalize adR 1 s.R s.n = N1 at *
 have n1 : ¬ (N1 : Int) < 0 := by omega
 have n2 : ¬ (N2 : Int) < 0 := by omega
 have n3 : ¬ (N3 : Int) < 0 := by omega
 go_enter Try.func16, Try.ntmps16
 have x0 := X.out.c0
 go_wp2_with fail
 generalize (w.alloc (.cells #[.slice p.a s.n p.ca, .int .i64 s.t, .slice p.b s.m p.cb, .slice p.d s.l p.cd] 28)) = v at *
 refine (R1.out _ A1.out).mono ?_
 rintro e v1 ⟨rfl, hb⟩
 replace A1 : Hid (Below w.heap.size w v1) := A1.out.trans (hb.mono A1.out.size)
 replace X : Hid (Box4 v1 w.heap.size 28 (.slice p.a s.n p.ca) (.int .i64 s.t) (.slice p.b s.m p.cb) (.slice p.d s.l p.cd)) := X.out.below hb
 clear hb x0 R1
 have x2 := X.out.c2
 go_wp2_with fail
 refine (R2.out _ A1.out).mono ?_
 rintro e v2 ⟨rfl, hb⟩
 replace A1 : Hid (Below w.heap.size w v2) := A1.out.trans (hb.mono A1.out.size)
 replace X : Hid (Box4 v2 w.heap.size 28 (.slice p.a s.n p.ca) (.int .i64 s.t) (.slice p.b s.m p.cb) (.slice p.d s.l p.cd)) := X.out.below hb
 clear hb x2 R2
 have x3 := X.out.c3
 go_wp2_with fail
 refine (R3.out _ A1.out).mono ?_
 rintro e v3 ⟨rfl, hb⟩
 replace A1 : Hid (Below w.heap.size w v3) := A1.out.trans (hb.mono A1.out.size)
 clear hb x3 R3
 go_wp2
 go_ret
 exact ⟨rfl, A1.out⟩
theorem pa_box {w : World} {B b k n : Nat} {t : TypeId} {a : Option Addr} {c : Nat} {F : Nat → Nat → Value} {V : Nat → Value} {x y z m : Value} (h : EO w B t k (.slice a n c) n F) (hV : ∀ i, i < n → ∃ ne E, IE w B (V i) ne E) (hx : Box4 w b 28 x y z m) (ht : 28 ≠ t) : ¬ PA (.slice a n c) V n b := fun z => by
 rcases z with z | ⟨i, hi, z⟩
 ·exact h.notB4 hx ht z
 ·obtain ⟨ne, E, hI⟩ := hV i hi
  exact EO.notB4 hI hx (by decide) z
set_option maxRecDepth 100000 in
set_option maxHeartbeats 4000000 in
theorem markSv_o (B : Nat) (s : Sv) (p : Sa) (hm : s.max 300) (w : World) (VR VW VQ : Nat → Value) (ho : SvO w B s (.slice p.a s.n p.ca) (.slice p.b s.m p.cb) (.slice p.d s.l p.cd) VR VW VQ) (hd : SvD s VR VW VQ) (hB : B ≤ w.heap.size) :
  Calls Try.prog 15 #[.agg #[.slice p.a s.n p.ca, .int .i64 s.t, .slice p.b s.m p.cb, .slice p.d s.l p.cd], .int .i64 1] w fun e w' => e = .returned (.int .i64 ((endS s : Nat) : Int)) ∧ SvO w' B (mkS s) (.slice p.a s.n p.ca) (.slice p.b s.m p.cb) (.slice p.d s.l p.cd) VR VW VQ ∧ Below B w w' ∧ ∀ (b : Nat) (x y z m : Value), Box4 w b 28 x y z m → Box4 w' b 28 x y z m := by
 have hl := endS_le hm
 have b0 : Below w.heap.size w (w.alloc (.cells #[.slice p.a s.n p.ca, .int .i64 s.t, .slice p.b s.m p.cb, .slice p.d s.l p.cd] 28)) := (Below.refl _ _).alloc (Nat.le_refl _) _
 have A1 : Hid (Below B w (w.alloc (.cells #[.slice p.a s.n p.ca, .int .i64 s.t, .slice p.b s.m p.cb, .slice p.d s.l p.cd] 28))) := b0.mono hB
 have X : Hid (Box4 (w.alloc (.cells #[.slice p.a s.n p.ca, .int .i64 s.t, .slice p.b s.m p.cb, .slice p.d s.l p.cd] 28)) w.heap.size 28 (.slice p.a s.n p.ca) (.int .i64 s.t) (.slice p.b s.m p.cb) (.slice p.d s.l p.cd)) := Box4.madeAt rfl _ _ _ _ _
 have KB : Hid (∀ (b : Nat) (x y z m : Value), Box4 w b 28 x y z m → Box4 (w.alloc (.cells #[.slice p.a s.n p.ca, .int .i64 s.t, .slice p.b s.m p.cb, .slice p.d s.l p.cd] 28)) b 28 x y z m) := fun b x y z m hb => hb.below b0
 have HD : Hid (SvD s VR VW VQ) := hd
 have O0 : Hid (SvO (w.alloc (.cells #[.slice p.a s.n p.ca, .int .i64 s.t, .slice p.b s.m p.cb, .slice p.d s.l p.cd] 28)) B s (.slice p.a s.n p.ca) (.slice p.b s.m p.cb) (.slice p.d s.l p.cd) VR VW VQ) := ho.below b0
 have BV : Hid (B ≤ (w.alloc (.cells #[.slice p.a s.n p.ca, .int .i64 s.t, .slice p.b s.m p.cb, .slice p.d s.l p.cd] 28)).heap.size) := Nat.le_trans hB b0.size
 have m1 : ({ s with R := hfR 1 s.R s.n } : Sv).max 300 := mx_R s _ (fun i _ => hfR_ne _ _ _ _) hm
 have m2 : ({ s with R := hfR 1 s.R s.n, W := hfW (adR 1 s.R s.n) s.W s.m } : Sv).max 300 := mx_W { s with R := hfR 1 s.R s.n } _ (fun i _ => hfW_ne _ _ _ _) m1
 have R1 : Hid (∀ u, B ≤ u.heap.size → SvO u B s (.slice p.a s.n p.ca) (.slice p.b s.m p.cb) (.slice p.d s.l p.cd) VR VW VQ → Calls Try.prog 43 #[.slice p.a s.n p.ca, .int .i64 1] u fun e w' => e = .returned (.int .i64 ((adR 1 s.R s.n : Nat) : Int)) ∧ SvO w' B { s with R := hfR 1 s.R s.n } (.slice p.a s.n p.ca) (.slice p.b s.m p.cb) (.slice p.d s.l p.cd) VR VW VQ ∧ ChB (PA (.slice p.a s.n p.ca) VR s.n) u w') := fun u hu h => markReplicaS_o B s 1 hm (by omega) u p.a p.ca _ _ VR VW VQ h HD.out hu
 have R2 : Hid (∀ u, B ≤ u.heap.size → SvO u B { s with R := hfR 1 s.R s.n } (.slice p.a s.n p.ca) (.slice p.b s.m p.cb) (.slice p.d s.l p.cd) VR VW VQ → Calls Try.prog 44 #[.slice p.b s.m p.cb, .int .i64 ((adR 1 s.R s.n : Nat) : Int)] u fun e w' => e = .returned (.int .i64 ((adW (adR 1 s.R s.n) s.W s.m : Nat) : Int)) ∧ SvO w' B { s with R := hfR 1 s.R s.n, W := hfW (adR 1 s.R s.n) s.W s.m } (.slice p.a s.n p.ca) (.slice p.b s.m p.cb) (.slice p.d s.l p.cd) VR VW VQ ∧ ChB (PA (.slice p.b s.m p.cb) VW s.m) u w') := fun u hu h => markWriteOpS_o B { s with R := hfR 1 s.R s.n } _ m1 (by omega) u p.b p.cb _ _ VR VW VQ h HD.out hu
 have R3 : Hid (∀ u, B ≤ u.heap.size → SvO u B { s with R := hfR 1 s.R s.n, W := hfW (adR 1 s.R s.n) s.W s.m } (.slice p.a s.n p.ca) (.slice p.b s.m p.cb) (.slice p.d s.l p.cd) VR VW VQ → Calls Try.prog 45 #[.slice p.d s.l p.cd, .int .i64 ((adW (adR 1 s.R s.n) s.W s.m : Nat) : Int)] u fun e w' => e = .returned (.int .i64 ((endS s : Nat) : Int)) ∧ SvO w' B (mkS s) (.slice p.a s.n p.ca) (.slice p.b s.m p.cb) (.slice p.d s.l p.cd) VR VW VQ ∧ ChB (PA (.slice p.d s.l p.cd) VQ s.l) u w') := fun u hu h => markReadOpS_o B { s with R := hfR 1 s.R s.n, W := hfW (adR 1 s.R s.n) s.W s.m } _ m2 (by omega) u p.d p.cd _ _ VR VW VQ h HD.out hu
 have PB : Hid (∀ (u u' : World) (a : Option Addr) (c n k : Nat) (t : TypeId) (F : Nat → Nat → Value) (V : Nat → Value), B ≤ u.heap.size → EO u B t k (.slice a n c) n F → (∀ i, i < n → ∃ ne E, IE u B (V i) ne E) → ChB (PA (.slice a n c) V n) u u' → Below B u u') := fun u u' a c n k t F V hu he hv hc => hc.toBelow (fun g z => by
  rcases z with z | ⟨i, hi, z⟩
  ·exact (he.ge g z).1
  ·obtain ⟨ne, E, hI⟩ := hv i hi
   exact (EO.ge hI g z).1) hu
 clear ho hd hB b0 hl m1 m2 hm
 go_enter Try.func15, Try.ntmps15
 have x0 := X.out.c0
 go_wp2_with fail
 generalize (w.alloc (.cells #[.slice p.a s.n p.ca, .int .i64 s.t, .slice p.b s.m p.cb, .slice p.d s.l p.cd] 28)) = v at *
 refine (R1.out _ BV.out O0.out).mono ?_
 rintro e v1 ⟨rfl, hO, hC⟩
 have hV : ∀ i, i < s.n → ∃ ne E, IE v B (VR i) ne E := fun i hi => ⟨_, _, O0.out.e i hi⟩
 replace X : Hid (Box4 v1 w.heap.size 28 (.slice p.a s.n p.ca) (.int .i64 s.t) (.slice p.b s.m p.cb) (.slice p.d s.l p.cd)) := X.out.ch hC (pa_box O0.out.r hV X.out (by decide))
 replace KB : Hid (∀ (b : Nat) (x y z m : Value), Box4 w b 28 x y z m → Box4 v1 b 28 x y z m) := fun b x y z m hb => (KB.out _ _ _ _ _ hb).ch hC (pa_box O0.out.r hV (KB.out _ _ _ _ _ hb) (by decide))
 replace A1 : Hid (Below B w v1) := A1.out.trans (PB.out _ _ _ _ _ _ _ _ _ BV.out O0.out.r hV hC)
 replace BV : Hid (B ≤ v1.heap.size) := Nat.le_trans BV.out hC.size
 clear O0 R1
 have O1 : Hid (SvO v1 B { s with R := hfR 1 s.R s.n } (.slice p.a s.n p.ca) (.slice p.b s.m p.cb) (.slice p.d s.l p.cd) VR VW VQ) := hO
 clear hO hC hV x0
 have x2 := X.out.c2
 go_wp2_with fail
 refine (R2.out _ BV.out O1.out).mono ?_
 rintro e v2 ⟨rfl, hO, hC⟩
 have hV : ∀ i, i < s.m → ∃ ne E, IE v1 B (VW i) ne E := fun i hi => ⟨_, _, O1.out.a i hi⟩
 replace X : Hid (Box4 v2 w.heap.size 28 (.slice p.a s.n p.ca) (.int .i64 s.t) (.slice p.b s.m p.cb) (.slice p.d s.l p.cd)) := X.out.ch hC (pa_box O1.out.x hV X.out (by decide))
 replace KB : Hid (∀ (b : Nat) (x y z m : Value), Box4 w b 28 x y z m → Box4 v2 b 28 x y z m) := fun b x y z m hb => (KB.out _ _ _ _ _ hb).ch hC (pa_box O1.out.x hV (KB.out _ _ _ _ _ hb) (by decide))
 replace A1 : Hid (Below B w v2) := A1.out.trans (PB.out _ _ _ _ _ _ _ _ _ BV.out O1.out.x hV hC)
 replace BV : Hid (B ≤ v2.heap.size) := Nat.le_trans BV.out hC.size
 clear O1 R2
 have O2 : Hid (SvO v2 B { s with R := hfR 1 s.R s.n, W := hfW (adR 1 s.R s.n) s.W s.m } (.slice p.a s.n p.ca) (.slice p.b s.m p.cb) (.slice p.d s.l p.cd) VR VW VQ) := hO
 clear hO hC hV x2
 have x3 := X.out.c3
 go_wp2_with fail
 refine (R3.out _ BV.out O2.out).mono ?_
 rintro e v3 ⟨rfl, hO, hC⟩
 have hV : ∀ i, i < s.l → ∃ ne E, IE v2 B (VQ i) ne E := fun i hi => ⟨_, _, O2.out.f i hi⟩
 replace KB : Hid (∀ (b : Nat) (x y z m : Value), Box4 w b 28 x y z m → Box4 v3 b 28 x y z m) := fun b x y z m hb => (KB.out _ _ _ _ _ hb).ch hC (pa_box O2.out.q hV (KB.out _ _ _ _ _ hb) (by decide))
 replace A1 : Hid (Below B w v3) := A1.out.trans (PB.out _ _ _ _ _ _ _ _ _ BV.out O2.out.q hV hC)
 have O3 : Hid (SvO v3 B (mkS s) (.slice p.a s.n p.ca) (.slice p.b s.m p.cb) (.slice p.d s.l p.cd) VR VW VQ) := hO
 clear hO hC hV x3 O2 R3 PB BV X HD
 go_wp2
 go_ret
 exact ⟨rfl, O3.out, A1.out, KB.out⟩
end Go.Proofs.Ytedncfcmhaaobaa
