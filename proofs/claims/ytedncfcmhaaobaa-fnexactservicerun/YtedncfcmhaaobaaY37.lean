/-
  Texts of the proof, joined: QuMk, QuHl.
-/
import Derived.Test.YtedncfcmhaaobaaY34
import Derived.Test.YtedncfcmhaaobaaY36
import Derived.Test.YtedncfcmhaaobaaY14
namespace Go.Proofs.Ytedncfcmhaaobaa
open Go.ChangeShapes Go.WideShapes Go.ChangeAt Go.RowKit
set_option linter.unusedVariables false
def mkR (q : Nat) (r : Rp) : Rp := ⟨((q : Int) % 3 == 0), (q : Int) + 1, (q : Int) + 1 + 1, (q : Int) + 1 + 1 + 1, (q : Int) + 1 + 1 + 1 + 1, r.ne, mkC (q + 5), ((q + 5 + r.ne : Nat) : Int), ((q + 5 + r.ne : Nat) : Int) + 1⟩
def adR (q : Nat) (F : Nat → Rp) : Nat → Nat
 | 0 => q
 | j + 1 => adR q F j + 7 + (F j).ne
def hfR (q : Nat) (F : Nat → Rp) (k j : Nat) : Rp := if j < k then mkR (adR q F j) (F j) else F j
theorem hfR_zero (q : Nat) (F : Nat → Rp) : hfR q F 0 = F := funext fun j => if_neg (Nat.not_lt_zero j)
theorem hfR_at (q : Nat) (F : Nat → Rp) (k : Nat) : hfR q F k k = F k := if_neg (Nat.lt_irrefl k)
theorem hfR_lt (q : Nat) (F : Nat → Rp) {k j : Nat} (h : j < k) : hfR q F k j = mkR (adR q F j) (F j) := if_pos h
theorem hfR_ne (q : Nat) (F : Nat → Rp) (k j : Nat) : (hfR q F k j).ne = (F j).ne := by
 unfold hfR
 split <;> rfl
theorem hfR_succ (q : Nat) (F : Nat → Rp) (k : Nat) : updE (hfR q F k) k (mkR (adR q F k) (F k)) = hfR q F (k + 1) := funext fun j => by
 rw [updE_at]
 unfold hfR
 by_cases e : j = k
 ·rw [if_pos e, if_pos (by omega), e]
 ·rw [if_neg e]
  by_cases p : j < k
  ·rw [if_pos p, if_pos (by omega)]
  ·rw [if_neg p, if_neg (by omega)]
theorem adR_le (q : Nat) (F : Nat → Rp) (n : Nat) (h : ∀ i, i < n → (F i).ne ≤ 300) : ∀ k, k ≤ n → adR q F k ≤ q + k * 307
 | 0, _ => by unfold adR; omega
 | k + 1, hk => by
  have a := adR_le q F n h k (by omega)
  have b := h k (by omega)
  unfold adR
  omega
def mkW (q : Nat) (r : Wo) : Wo := ⟨(q : Int), (q : Int) + 1, r.ne, mkC (q + 2), ((q + 2 + r.ne : Nat) : Int), ((q + 2 + r.ne : Nat) : Int) + 1⟩
def adW (q : Nat) (F : Nat → Wo) : Nat → Nat
 | 0 => q
 | j + 1 => adW q F j + 4 + (F j).ne
def hfW (q : Nat) (F : Nat → Wo) (k j : Nat) : Wo := if j < k then mkW (adW q F j) (F j) else F j
theorem hfW_zero (q : Nat) (F : Nat → Wo) : hfW q F 0 = F := funext fun j => if_neg (Nat.not_lt_zero j)
theorem hfW_at (q : Nat) (F : Nat → Wo) (k : Nat) : hfW q F k k = F k := if_neg (Nat.lt_irrefl k)
theorem hfW_lt (q : Nat) (F : Nat → Wo) {k j : Nat} (h : j < k) : hfW q F k j = mkW (adW q F j) (F j) := if_pos h
theorem hfW_ne (q : Nat) (F : Nat → Wo) (k j : Nat) : (hfW q F k j).ne = (F j).ne := by
 unfold hfW
 split <;> rfl
theorem hfW_succ (q : Nat) (F : Nat → Wo) (k : Nat) : updE (hfW q F k) k (mkW (adW q F k) (F k)) = hfW q F (k + 1) := funext fun j => by
 rw [updE_at]
 unfold hfW
 by_cases e : j = k
 ·rw [if_pos e, if_pos (by omega), e]
 ·rw [if_neg e]
  by_cases p : j < k
  ·rw [if_pos p, if_pos (by omega)]
  ·rw [if_neg p, if_neg (by omega)]
theorem adW_le (q : Nat) (F : Nat → Wo) (n : Nat) (h : ∀ i, i < n → (F i).ne ≤ 300) : ∀ k, k ≤ n → adW q F k ≤ q + k * 307
 | 0, _ => by unfold adW; omega
 | k + 1, hk => by
  have a := adW_le q F n h k (by omega)
  have b := h k (by omega)
  unfold adW
  omega
def mkQ (q : Nat) (r : Ro) : Ro := ⟨r.ne, mkC q, ((q + r.ne : Nat) : Int), ((q + r.ne : Nat) : Int) + 1, ((q + r.ne : Nat) : Int) + 1 + 1, ((q + r.ne : Nat) : Int) + 1 + 1 + 1⟩
def adQ (q : Nat) (F : Nat → Ro) : Nat → Nat
 | 0 => q
 | j + 1 => adQ q F j + 4 + (F j).ne
def hfQ (q : Nat) (F : Nat → Ro) (k j : Nat) : Ro := if j < k then mkQ (adQ q F j) (F j) else F j
theorem hfQ_zero (q : Nat) (F : Nat → Ro) : hfQ q F 0 = F := funext fun j => if_neg (Nat.not_lt_zero j)
theorem hfQ_at (q : Nat) (F : Nat → Ro) (k : Nat) : hfQ q F k k = F k := if_neg (Nat.lt_irrefl k)
theorem hfQ_lt (q : Nat) (F : Nat → Ro) {k j : Nat} (h : j < k) : hfQ q F k j = mkQ (adQ q F j) (F j) := if_pos h
theorem hfQ_succ (q : Nat) (F : Nat → Ro) (k : Nat) : updE (hfQ q F k) k (mkQ (adQ q F k) (F k)) = hfQ q F (k + 1) := funext fun j => by
 rw [updE_at]
 unfold hfQ
 by_cases e : j = k
 ·rw [if_pos e, if_pos (by omega), e]
 ·rw [if_neg e]
  by_cases p : j < k
  ·rw [if_pos p, if_pos (by omega)]
  ·rw [if_neg p, if_neg (by omega)]
theorem adQ_le (q : Nat) (F : Nat → Ro) (n : Nat) (h : ∀ i, i < n → (F i).ne ≤ 300) : ∀ k, k ≤ n → adQ q F k ≤ q + k * 307
 | 0, _ => by unfold adQ; omega
 | k + 1, hk => by
  have a := adQ_le q F n h k (by omega)
  have b := h k (by omega)
  unfold adQ
  omega
def PA (v : Value) (V : Nat → Value) (n u : Nat) : Prop := v.ownBlock = some u ∨ ∃ i, i < n ∧ (V i).ownBlock = some u
def mkS (s : Sv) : Sv := { s with R := hfR 1 s.R s.n, W := hfW (adR 1 s.R s.n) s.W s.m, Q := hfQ (adW (adR 1 s.R s.n) s.W s.m) s.Q s.l }
def endS (s : Sv) : Nat := adQ (adW (adR 1 s.R s.n) s.W s.m) s.Q s.l
theorem IE.setQ {w : World} {B : Nat} {a : Option Addr} {n c : Nat} {C : Nat → Int} (h : IE w B (.slice a n c) n C) {k : Nat} (hk : k < n) : ∃ g, a = some ⟨g, 0, none⟩ ∧ w.cell? ⟨g, k, none⟩ = some (.int .i64 (C k)) ∧ w.frozen? ⟨g, k, none⟩ = false ∧ ∀ x : Int, IE (w.setCell ⟨g, k, none⟩ (.int .i64 x)) B (.slice a n c) n (updE C k x) := by
 obtain ⟨g, hr, _⟩ := EO.rowE h
 have ga := hr.a (by omega)
 subst ga
 have c0 := hr.c k hk 0 (by omega)
 have z0 := hr.z k (by omega)
 rw [Nat.mul_one, Nat.add_zero] at c0
 exact ⟨g, rfl, c0, z0, fun x => IE.set h hk x⟩
set_option maxRecDepth 100000 in
set_option maxHeartbeats 1000000 in
theorem markInt_o (B : Nat) (a : Option Addr) (m c x : Nat) (C : Nat → Int) (hx : x ≤ 9000000) (hm : m ≤ 1048576) (w : World) (h : IE w B (.slice a m c) m C) :
  Calls Try.prog 23 #[.slice a m c, .int .i64 (x : Int)] w fun e w' => e = .returned (.int .i64 ((x + m : Nat) : Int)) ∧ IE w' B (.slice a m c) m (mkC x) ∧ ChB (fun u => (Value.slice a m c).ownBlock = some u) w w' := by
 have H : Hid (IE w B (.slice a m c) m C) := h
 clear h
 go_enter Try.func23, Try.ntmps23
 go_wp2
 go_loopw [1, 5] (fun y i wr => ∃ j : Nat, j ≤ m ∧ i = .int .i64 (j : Int) ∧ y = .int .i64 ((x + j : Nat) : Int) ∧ IE wr B (.slice a m c) m (fun t => if t < j then mkC x t else C t) ∧ ChB (fun u => (Value.slice a m c).ownBlock = some u) w wr) (fun _ i _ => m - (intOf i).toNat)
 case atStart => exact ⟨0, by omega, rfl, rfl, H.out, ChB.refl _ _⟩
 case round =>
  obtain ⟨j, hj, rfl, rfl, hr, ht⟩ := hrel
  by_cases hlt : j < m
  ·have hlt' : (j : Int) < (m : Int) := by omega
   obtain ⟨g, ga, t0, t1, hs⟩ := hr.setQ hlt
   subst ga
   have R2 : Hid (IE (wr.setCell ⟨g, j, none⟩ (.int .i64 ((x + j : Nat) : Int))) B (.slice (some ⟨g, 0, none⟩) m c) m (fun t => if t < j + 1 then mkC x t else C t)) := IE.congr (hs _) (fun i hi => by
    rw [updE_at]
    by_cases e : i = j
    ·rw [if_pos e, if_pos (by omega), e]; rfl
    ·rw [if_neg e]
     by_cases q : i < j
     ·rw [if_pos q, if_pos (by omega)]
     ·rw [if_neg q, if_neg (by omega)])
   have T2 : Hid (ChB (fun u => (Value.slice (some ⟨g, 0, none⟩) m c).ownBlock = some u) w (wr.setCell ⟨g, j, none⟩ (.int .i64 ((x + j : Nat) : Int)))) := ht.at g (.inl rfl) _ _
   have hw : IntKind.i64.wrap (((x + j : Nat) : Int) + 1) = ((x + j : Nat) : Int) + 1 := IntWalk.i64_in _ (by omega)
   clear hr ht hs
   go_wp2
   go_roundw
   case rel => exact ⟨j + 1, by omega, by go_num, by go_num, R2.out, T2.out⟩
   case measure => simp [intOf]; omega
  ·obtain rfl : j = m := by omega
   have R2 : Hid (IE wr B (.slice a j c) j (mkC x)) := IE.congr hr (fun i hi => if_pos hi)
   have T2 : Hid (ChB (fun u => (Value.slice a j c).ownBlock = some u) w wr) := ht
   clear hr ht
   go_wp2
   go_ret
   exact ⟨rfl, R2.out, T2.out⟩
set_option maxRecDepth 100000 in
set_option maxHeartbeats 4000000 in
theorem markReplicaS_o (B : Nat) (s : Sv) (K : Nat) (hmx : s.max 300) (hK : K ≤ 5000000) (w : World) (a : Option Addr) (c : Nat) (vw vq : Value) (VR VW VQ : Nat → Value) (ho : SvO w B s (.slice a s.n c) vw vq VR VW VQ) (hd : SvD s VR VW VQ) (hB : B ≤ w.heap.size) :
  Calls Try.prog 43 #[.slice a s.n c, .int .i64 (K : Int)] w fun e w' => e = .returned (.int .i64 ((adR K s.R s.n : Nat) : Int)) ∧ SvO w' B { s with R := hfR K s.R s.n } (.slice a s.n c) vw vq VR VW VQ ∧ ChB (PA (.slice a s.n c) VR s.n) w w' := by
 have H0 : Hid (SvO w B s (.slice a s.n c) vw vq VR VW VQ) := ho
 have HD : Hid (SvD s VR VW VQ) := hd
 have MX : Hid (s.max 300) := hmx
 have HB : Hid (B ≤ w.heap.size) := hB
 clear ho hd hmx hB
 go_enter Try.func43, Try.ntmps43
 go_wp2_with fail
 go_loopw [1, 5] (fun x i wr => ∃ k : Nat, k ≤ s.n ∧ i = .int .i64 (k : Int) ∧ x = .int .i64 ((adR K s.R k : Nat) : Int) ∧ SvO wr B { s with R := hfR K s.R k } (.slice a s.n c) vw vq VR VW VQ ∧ ChB (PA (.slice a s.n c) VR s.n) w wr) (fun _ i _ => s.n - (intOf i).toNat)
 case atStart => exact ⟨0, by omega, rfl, rfl, by rw [hfR_zero]; exact H0.out, ChB.refl _ _⟩
 case round =>
  obtain ⟨k, hk, rfl, rfl, hO, hBw⟩ := hrel
  by_cases hlt : k < s.n
  ·have hlt' : (k : Int) < (s.n : Int) := by omega
   have HLT : Hid (k < s.n) := hlt
   have n300 : s.n ≤ 300 := MX.out.1.1
   have ne3 : (s.R k).ne ≤ 300 := MX.out.1.2 k hlt
   have hqb := adR_le K s.R s.n MX.out.1.2 k hk
   obtain ⟨q, hq⟩ : ∃ q : Nat, q = adR K s.R k := ⟨_, rfl⟩
   rw [← hq] at hqb ⊢
   have HQ : Hid (q = adR K s.R k) := hq
   have q9 : q ≤ 6000000 := by have : k * 307 ≤ 300 * 307 := Nat.mul_le_mul_right _ (by omega); omega
   clear hq hqb
   obtain ⟨g, rfl, hgB, hgl, hRk⟩ := RkR.start hO.r hlt
   have IK := hO.e k hlt
   dsimp only at hRk IK
   rw [hfR_at] at hRk IK
   obtain ⟨la, lc, eV⟩ := EO.form IK
   have gne : ∀ u, (VR k).ownBlock = some u → u ≠ g := fun u e z => EO.apart IK hO.r (by decide) u e (by rw [z]; rfl)
   have t0 := hRk.c hlt 0 (by omega)
   have z0 := hRk.fr hlt 0 (by omega)
   have t1 := hRk.c hlt 1 (by omega)
   have z1 := hRk.fr hlt 1 (by omega)
   have t2 := hRk.c hlt 2 (by omega)
   have z2 := hRk.fr hlt 2 (by omega)
   have t3 := hRk.c hlt 3 (by omega)
   have z3 := hRk.fr hlt 3 (by omega)
   have t4 := hRk.c hlt 4 (by omega)
   have z4 := hRk.fr hlt 4 (by omega)
   have t5 := hRk.c hlt 5 (by omega)
   have z5 := hRk.fr hlt 5 (by omega)
   have t6 := hRk.c hlt 6 (by omega)
   have z6 := hRk.fr hlt 6 (by omega)
   have t7 := hRk.c hlt 7 (by omega)
   have z7 := hRk.fr hlt 7 (by omega)
   rw [show rpV (s.R k) (VR k) 5 = VR k from rfl, eV] at t5
   rw [Nat.add_zero] at t0 z0
   have Q1 : RkR (wr.setCell ⟨g, k * 8, none⟩ (.bool ((q : Int) % 3 == 0))) B g c s.n (hfR K s.R k) VR k ({ s.R k with mute := ((q : Int) % 3 == 0) } : Rp) (VR k) := hRk.set hlt (j := 0) (by omega) _ (fun i hi => by rcases (show i = 0 ∨ i = 1 ∨ i = 2 ∨ i = 3 ∨ i = 4 ∨ i = 5 ∨ i = 6 ∨ i = 7 by omega) with rfl | rfl | rfl | rfl | rfl | rfl | rfl | rfl <;> rfl)
   have Q2 : RkR ((wr.setCell ⟨g, k * 8, none⟩ (.bool ((q : Int) % 3 == 0))).setCell ⟨g, k * 8 + 1, none⟩ (.int .i64 ((q : Int) + 1))) B g c s.n (hfR K s.R k) VR k ({ { s.R k with mute := ((q : Int) % 3 == 0) } with nc := (q : Int) + 1 } : Rp) (VR k) := Q1.set hlt (j := 1) (by omega) _ (fun i hi => by rcases (show i = 0 ∨ i = 1 ∨ i = 2 ∨ i = 3 ∨ i = 4 ∨ i = 5 ∨ i = 6 ∨ i = 7 by omega) with rfl | rfl | rfl | rfl | rfl | rfl | rfl | rfl <;> rfl)
   have Q3 : RkR (((wr.setCell ⟨g, k * 8, none⟩ (.bool ((q : Int) % 3 == 0))).setCell ⟨g, k * 8 + 1, none⟩ (.int .i64 ((q : Int) + 1))).setCell ⟨g, k * 8 + 2, none⟩ (.int .i64 ((q : Int) + 1 + 1))) B g c s.n (hfR K s.R k) VR k ({ { { s.R k with mute := ((q : Int) % 3 == 0) } with nc := (q : Int) + 1 } with nt := (q : Int) + 1 + 1 } : Rp) (VR k) := Q2.set hlt (j := 2) (by omega) _ (fun i hi => by rcases (show i = 0 ∨ i = 1 ∨ i = 2 ∨ i = 3 ∨ i = 4 ∨ i = 5 ∨ i = 6 ∨ i = 7 by omega) with rfl | rfl | rfl | rfl | rfl | rfl | rfl | rfl <;> rfl)
   have Q4 : RkR ((((wr.setCell ⟨g, k * 8, none⟩ (.bool ((q : Int) % 3 == 0))).setCell ⟨g, k * 8 + 1, none⟩ (.int .i64 ((q : Int) + 1))).setCell ⟨g, k * 8 + 2, none⟩ (.int .i64 ((q : Int) + 1 + 1))).setCell ⟨g, k * 8 + 3, none⟩ (.int .i64 ((q : Int) + 1 + 1 + 1))) B g c s.n (hfR K s.R k) VR k ({ { { { s.R k with mute := ((q : Int) % 3 == 0) } with nc := (q : Int) + 1 } with nt := (q : Int) + 1 + 1 } with sc := (q : Int) + 1 + 1 + 1 } : Rp) (VR k) := Q3.set hlt (j := 3) (by omega) _ (fun i hi => by rcases (show i = 0 ∨ i = 1 ∨ i = 2 ∨ i = 3 ∨ i = 4 ∨ i = 5 ∨ i = 6 ∨ i = 7 by omega) with rfl | rfl | rfl | rfl | rfl | rfl | rfl | rfl <;> rfl)
   have Q5 : RkR (((((wr.setCell ⟨g, k * 8, none⟩ (.bool ((q : Int) % 3 == 0))).setCell ⟨g, k * 8 + 1, none⟩ (.int .i64 ((q : Int) + 1))).setCell ⟨g, k * 8 + 2, none⟩ (.int .i64 ((q : Int) + 1 + 1))).setCell ⟨g, k * 8 + 3, none⟩ (.int .i64 ((q : Int) + 1 + 1 + 1))).setCell ⟨g, k * 8 + 4, none⟩ (.int .i64 ((q : Int) + 1 + 1 + 1 + 1))) B g c s.n (hfR K s.R k) VR k ({ { { { { s.R k with mute := ((q : Int) % 3 == 0) } with nc := (q : Int) + 1 } with nt := (q : Int) + 1 + 1 } with sc := (q : Int) + 1 + 1 + 1 } with st := (q : Int) + 1 + 1 + 1 + 1 } : Rp) (VR k) := Q4.set hlt (j := 4) (by omega) _ (fun i hi => by rcases (show i = 0 ∨ i = 1 ∨ i = 2 ∨ i = 3 ∨ i = 4 ∨ i = 5 ∨ i = 6 ∨ i = 7 by omega) with rfl | rfl | rfl | rfl | rfl | rfl | rfl | rfl <;> rfl)
   have C5 : Hid (ChB (fun u => u = g) wr (((((wr.setCell ⟨g, k * 8, none⟩ (.bool ((q : Int) % 3 == 0))).setCell ⟨g, k * 8 + 1, none⟩ (.int .i64 ((q : Int) + 1))).setCell ⟨g, k * 8 + 2, none⟩ (.int .i64 ((q : Int) + 1 + 1))).setCell ⟨g, k * 8 + 3, none⟩ (.int .i64 ((q : Int) + 1 + 1 + 1))).setCell ⟨g, k * 8 + 4, none⟩ (.int .i64 ((q : Int) + 1 + 1 + 1 + 1)))) := ((((((ChB.refl (fun u => u = g) wr).at g (.inl rfl) (k * 8) _).at g (.inl rfl) (k * 8 + 1) _).at g (.inl rfl) (k * 8 + 2) _).at g (.inl rfl) (k * 8 + 3) _).at g (.inl rfl) (k * 8 + 4) _)
   have R5 : Hid (RkR (((((wr.setCell ⟨g, k * 8, none⟩ (.bool ((q : Int) % 3 == 0))).setCell ⟨g, k * 8 + 1, none⟩ (.int .i64 ((q : Int) + 1))).setCell ⟨g, k * 8 + 2, none⟩ (.int .i64 ((q : Int) + 1 + 1))).setCell ⟨g, k * 8 + 3, none⟩ (.int .i64 ((q : Int) + 1 + 1 + 1))).setCell ⟨g, k * 8 + 4, none⟩ (.int .i64 ((q : Int) + 1 + 1 + 1 + 1))) B g c s.n (hfR K s.R k) VR k ({ { { { { s.R k with mute := ((q : Int) % 3 == 0) } with nc := (q : Int) + 1 } with nt := (q : Int) + 1 + 1 } with sc := (q : Int) + 1 + 1 + 1 } with st := (q : Int) + 1 + 1 + 1 + 1 } : Rp) (VR k)) := Q5
   have I5 : Hid (IE (((((wr.setCell ⟨g, k * 8, none⟩ (.bool ((q : Int) % 3 == 0))).setCell ⟨g, k * 8 + 1, none⟩ (.int .i64 ((q : Int) + 1))).setCell ⟨g, k * 8 + 2, none⟩ (.int .i64 ((q : Int) + 1 + 1))).setCell ⟨g, k * 8 + 3, none⟩ (.int .i64 ((q : Int) + 1 + 1 + 1))).setCell ⟨g, k * 8 + 4, none⟩ (.int .i64 ((q : Int) + 1 + 1 + 1 + 1))) B (VR k) (s.R k).ne (s.R k).E) := EO.ch IK C5.out (fun u e z => gne u e z)
   have OO : Hid (SvO wr B { s with R := hfR K s.R k } (.slice (some ⟨g, 0, none⟩) s.n c) vw vq VR VW VQ) := hO
   have BW : Hid (ChB (PA (.slice (some ⟨g, 0, none⟩) s.n c) VR s.n) w wr) := hBw
   have GN : Hid (∀ u, (VR k).ownBlock = some u → u ≠ g) := gne
   have GL : Hid (B ≤ g ∧ g < wr.heap.size) := ⟨hgB, hgl⟩
   have EV : Hid (VR k = .slice la (s.R k).ne lc) := eV
   have X5 : Hid (((q : Int) + 1 + 1 + 1 + 1 + 1) = ((q + 5 : Nat) : Int)) := (by omega : ((q : Int) + 1 + 1 + 1 + 1 + 1) = ((q + 5 : Nat) : Int))
   clear hRk hO hBw IK gne eV hgB hgl hk hlt Q1 Q2 Q3 Q4 Q5
   go_wp2_with fail
   generalize (((((wr.setCell ⟨g, k * 8, none⟩ (.bool ((q : Int) % 3 == 0))).setCell ⟨g, k * 8 + 1, none⟩ (.int .i64 ((q : Int) + 1))).setCell ⟨g, k * 8 + 2, none⟩ (.int .i64 ((q : Int) + 1 + 1))).setCell ⟨g, k * 8 + 3, none⟩ (.int .i64 ((q : Int) + 1 + 1 + 1))).setCell ⟨g, k * 8 + 4, none⟩ (.int .i64 ((q : Int) + 1 + 1 + 1 + 1))) = w5 at *
   rw [X5.out]
   have I6 : IE w5 B (.slice la (s.R k).ne lc) (s.R k).ne (s.R k).E := by have := I5.out; rw [EV.out] at this; exact this
   refine (markInt_o B la (s.R k).ne lc (q + 5) _ (by omega) (by omega) w5 I6).mono ?_
   rintro e w1 ⟨rfl, hI, hC⟩
   rw [← EV.out] at hI hC
   have R6 := R5.out.keep (hC.block g R5.out.lt.2 (fun e => GN.out g e rfl))
   have C6 : ChB (PR (.slice (some ⟨g, 0, none⟩) s.n c) VR k) wr w1 := (C5.out.wide (fun u z => .inl (by rw [z]; rfl))).trans (hC.wide (fun u z => .inr z))
   obtain ⟨y, hy⟩ : ∃ y : Nat, y = q + 5 + (s.R k).ne := ⟨_, rfl⟩
   rw [← hy]
   have y9 : y ≤ 7000000 := by omega
   have s6 := R6.c HLT.out 6 (by omega)
   have u6 := R6.fr HLT.out 6 (by omega)
   have s7 := R6.c HLT.out 7 (by omega)
   have u7 := R6.fr HLT.out 7 (by omega)
   have P1 : RkR (w1.setCell ⟨g, k * 8 + 6, none⟩ (.int .i64 ((y : Int)))) B g c s.n (hfR K s.R k) VR k ({ { { { { { s.R k with mute := ((q : Int) % 3 == 0) } with nc := (q : Int) + 1 } with nt := (q : Int) + 1 + 1 } with sc := (q : Int) + 1 + 1 + 1 } with st := (q : Int) + 1 + 1 + 1 + 1 } with bc := (y : Int) } : Rp) (VR k) := R6.set HLT.out (j := 6) (by omega) _ (fun i hi => by rcases (show i = 0 ∨ i = 1 ∨ i = 2 ∨ i = 3 ∨ i = 4 ∨ i = 5 ∨ i = 6 ∨ i = 7 by omega) with rfl | rfl | rfl | rfl | rfl | rfl | rfl | rfl <;> rfl)
   have P2 : RkR ((w1.setCell ⟨g, k * 8 + 6, none⟩ (.int .i64 ((y : Int)))).setCell ⟨g, k * 8 + 7, none⟩ (.int .i64 ((y : Int) + 1))) B g c s.n (hfR K s.R k) VR k ({ { { { { { { s.R k with mute := ((q : Int) % 3 == 0) } with nc := (q : Int) + 1 } with nt := (q : Int) + 1 + 1 } with sc := (q : Int) + 1 + 1 + 1 } with st := (q : Int) + 1 + 1 + 1 + 1 } with bc := (y : Int) } with bt := (y : Int) + 1 } : Rp) (VR k) := P1.set HLT.out (j := 7) (by omega) _ (fun i hi => by rcases (show i = 0 ∨ i = 1 ∨ i = 2 ∨ i = 3 ∨ i = 4 ∨ i = 5 ∨ i = 6 ∨ i = 7 by omega) with rfl | rfl | rfl | rfl | rfl | rfl | rfl | rfl <;> rfl)
   have C7 : ChB (PR (.slice (some ⟨g, 0, none⟩) s.n c) VR k) wr ((w1.setCell ⟨g, k * 8 + 6, none⟩ (.int .i64 ((y : Int)))).setCell ⟨g, k * 8 + 7, none⟩ (.int .i64 ((y : Int) + 1))) := ((C6.at g (.inl (.inl rfl)) (k * 8 + 6) _).at g (.inl (.inl rfl)) (k * 8 + 7) _)
   have I7 : IE ((w1.setCell ⟨g, k * 8 + 6, none⟩ (.int .i64 ((y : Int)))).setCell ⟨g, k * 8 + 7, none⟩ (.int .i64 ((y : Int) + 1))) B (VR k) (s.R k).ne (mkC (q + 5)) := EO.ch hI (((ChB.refl (fun u => u = g) w1).at g (.inl rfl) (k * 8 + 6) _).at g (.inl rfl) (k * 8 + 7) _) (fun u e z => GN.out u e z)
   have P9 : RkR ((w1.setCell ⟨g, k * 8 + 6, none⟩ (.int .i64 ((y : Int)))).setCell ⟨g, k * 8 + 7, none⟩ (.int .i64 ((y : Int) + 1))) B g c s.n (hfR K s.R k) VR k (mkR q (s.R k)) (VR k) := by
    have e9 : ∀ i, i < 8 → rpV (mkR q (s.R k)) (VR k) i = rpV ({ { { { { { { s.R k with mute := ((q : Int) % 3 == 0) } with nc := (q : Int) + 1 } with nt := (q : Int) + 1 + 1 } with sc := (q : Int) + 1 + 1 + 1 } with st := (q : Int) + 1 + 1 + 1 + 1 } with bc := (y : Int) } with bt := (y : Int) + 1 } : Rp) (VR k) i := fun i hi => by subst hy; rcases (show i = 0 ∨ i = 1 ∨ i = 2 ∨ i = 3 ∨ i = 4 ∨ i = 5 ∨ i = 6 ∨ i = 7 by omega) with rfl | rfl | rfl | rfl | rfl | rfl | rfl | rfl <;> rfl
    exact EO.congr P2 (fun i hi j hj => by
     unfold rpF
     rw [updE_at, updE_at, updE_at]
     split
     ·exact (e9 j hj).symm
     ·rfl)
   have S9 := partsR (r := mkR q (s.R k)) (v := VR k) OO.out HD.out HLT.out C7 P9 I7 (fun u e => .inl e)
   dsimp only at S9
   rw [HQ.out, hfR_succ, updE_self] at S9
   have S8 : Hid (SvO ((w1.setCell ⟨g, k * 8 + 6, none⟩ (.int .i64 ((y : Int)))).setCell ⟨g, k * 8 + 7, none⟩ (.int .i64 ((y : Int) + 1))) B { s with R := hfR K s.R (k + 1) } (.slice (some ⟨g, 0, none⟩) s.n c) vw vq VR VW VQ) := S9.1
   have B9 : Hid (ChB (PA (.slice (some ⟨g, 0, none⟩) s.n c) VR s.n) w ((w1.setCell ⟨g, k * 8 + 6, none⟩ (.int .i64 ((y : Int)))).setCell ⟨g, k * 8 + 7, none⟩ (.int .i64 ((y : Int) + 1)))) := BW.out.trans (C7.wide (fun u z => z.elim .inl (fun q => .inr ⟨k, HLT.out, q⟩)))
   have AD : Hid (adR K s.R (k + 1) = y + 2) := by show adR K s.R k + 7 + (s.R k).ne = _; rw [← HQ.out, hy]; omega
   clear hI hC R6 C6 C7 I7 P9 S9 hy I6 P1 P2 C5 R5 I5 OO BW GN GL EV X5 HQ t0 z0 t1 z1 t2 z2 t3 z3 t4 z4 t5 z5 t6 z6 t7 z7
   go_wp2
   go_roundw
   case rel => exact ⟨k + 1, by have := HLT.out; omega, by go_num, by rw [AD.out]; go_num, S8.out, B9.out⟩
   case measure => have := HLT.out; simp [intOf]; omega
  ·obtain rfl : k = s.n := by omega
   have hlt' : ¬ (s.n : Int) < (s.n : Int) := by omega
   have S8 : Hid (SvO wr B { s with R := hfR K s.R s.n } (.slice a s.n c) vw vq VR VW VQ) := hO
   have B9 : Hid (ChB (PA (.slice a s.n c) VR s.n) w wr) := hBw
   clear hO hBw hk hlt
   go_wp2
   go_ret
   exact ⟨rfl, S8.out, B9.out⟩
set_option maxRecDepth 100000 in
set_option maxHeartbeats 4000000 in
theorem markWriteOpS_o (B : Nat) (s : Sv) (K : Nat) (hmx : s.max 300) (hK : K ≤ 5000000) (w : World) (a : Option Addr) (c : Nat) (vr vq : Value) (VR VW VQ : Nat → Value) (ho : SvO w B s vr (.slice a s.m c) vq VR VW VQ) (hd : SvD s VR VW VQ) (hB : B ≤ w.heap.size) :
  Calls Try.prog 44 #[.slice a s.m c, .int .i64 (K : Int)] w fun e w' => e = .returned (.int .i64 ((adW K s.W s.m : Nat) : Int)) ∧ SvO w' B { s with W := hfW K s.W s.m } vr (.slice a s.m c) vq VR VW VQ ∧ ChB (PA (.slice a s.m c) VW s.m) w w' := by
 have H0 : Hid (SvO w B s vr (.slice a s.m c) vq VR VW VQ) := ho
 have HD : Hid (SvD s VR VW VQ) := hd
 have MX : Hid (s.max 300) := hmx
 have HB : Hid (B ≤ w.heap.size) := hB
 clear ho hd hmx hB
 go_enter Try.func44, Try.ntmps44
 go_wp2_with fail
 go_loopw [1, 5] (fun x i wr => ∃ k : Nat, k ≤ s.m ∧ i = .int .i64 (k : Int) ∧ x = .int .i64 ((adW K s.W k : Nat) : Int) ∧ SvO wr B { s with W := hfW K s.W k } vr (.slice a s.m c) vq VR VW VQ ∧ ChB (PA (.slice a s.m c) VW s.m) w wr) (fun _ i _ => s.m - (intOf i).toNat)
 case atStart => exact ⟨0, by omega, rfl, rfl, by rw [hfW_zero]; exact H0.out, ChB.refl _ _⟩
 case round =>
  obtain ⟨k, hk, rfl, rfl, hO, hBw⟩ := hrel
  by_cases hlt : k < s.m
  ·have hlt' : (k : Int) < (s.m : Int) := by omega
   have HLT : Hid (k < s.m) := hlt
   have n300 : s.m ≤ 300 := MX.out.2.1.1
   have ne3 : (s.W k).ne ≤ 300 := MX.out.2.1.2 k hlt
   have hqb := adW_le K s.W s.m MX.out.2.1.2 k hk
   obtain ⟨q, hq⟩ : ∃ q : Nat, q = adW K s.W k := ⟨_, rfl⟩
   rw [← hq] at hqb ⊢
   have HQ : Hid (q = adW K s.W k) := hq
   have q9 : q ≤ 6000000 := by have : k * 307 ≤ 300 * 307 := Nat.mul_le_mul_right _ (by omega); omega
   clear hq hqb
   obtain ⟨g, rfl, hgB, hgl, hRk⟩ := RkW.start hO.x hlt
   have IK := hO.a k hlt
   dsimp only at hRk IK
   rw [hfW_at] at hRk IK
   obtain ⟨la, lc, eV⟩ := EO.form IK
   have gne : ∀ u, (VW k).ownBlock = some u → u ≠ g := fun u e z => EO.apart IK hO.x (by decide) u e (by rw [z]; rfl)
   have t0 := hRk.c hlt 0 (by omega)
   have z0 := hRk.fr hlt 0 (by omega)
   have t1 := hRk.c hlt 1 (by omega)
   have z1 := hRk.fr hlt 1 (by omega)
   have t2 := hRk.c hlt 2 (by omega)
   have z2 := hRk.fr hlt 2 (by omega)
   have t3 := hRk.c hlt 3 (by omega)
   have z3 := hRk.fr hlt 3 (by omega)
   have t4 := hRk.c hlt 4 (by omega)
   have z4 := hRk.fr hlt 4 (by omega)
   rw [show woV (s.W k) (VW k) 2 = VW k from rfl, eV] at t2
   rw [Nat.add_zero] at t0 z0
   have Q1 : RkW (wr.setCell ⟨g, k * 5, none⟩ (.int .i64 ((q : Int)))) B g c s.m (hfW K s.W k) VW k ({ s.W k with mc := (q : Int) } : Wo) (VW k) := hRk.set hlt (j := 0) (by omega) _ (fun i hi => by rcases (show i = 0 ∨ i = 1 ∨ i = 2 ∨ i = 3 ∨ i = 4 by omega) with rfl | rfl | rfl | rfl | rfl <;> rfl)
   have Q2 : RkW ((wr.setCell ⟨g, k * 5, none⟩ (.int .i64 ((q : Int)))).setCell ⟨g, k * 5 + 1, none⟩ (.int .i64 ((q : Int) + 1))) B g c s.m (hfW K s.W k) VW k ({ { s.W k with mc := (q : Int) } with mt := (q : Int) + 1 } : Wo) (VW k) := Q1.set hlt (j := 1) (by omega) _ (fun i hi => by rcases (show i = 0 ∨ i = 1 ∨ i = 2 ∨ i = 3 ∨ i = 4 by omega) with rfl | rfl | rfl | rfl | rfl <;> rfl)
   have C5 : Hid (ChB (fun u => u = g) wr ((wr.setCell ⟨g, k * 5, none⟩ (.int .i64 ((q : Int)))).setCell ⟨g, k * 5 + 1, none⟩ (.int .i64 ((q : Int) + 1)))) := (((ChB.refl (fun u => u = g) wr).at g (.inl rfl) (k * 5) _).at g (.inl rfl) (k * 5 + 1) _)
   have R5 : Hid (RkW ((wr.setCell ⟨g, k * 5, none⟩ (.int .i64 ((q : Int)))).setCell ⟨g, k * 5 + 1, none⟩ (.int .i64 ((q : Int) + 1))) B g c s.m (hfW K s.W k) VW k ({ { s.W k with mc := (q : Int) } with mt := (q : Int) + 1 } : Wo) (VW k)) := Q2
   have I5 : Hid (IE ((wr.setCell ⟨g, k * 5, none⟩ (.int .i64 ((q : Int)))).setCell ⟨g, k * 5 + 1, none⟩ (.int .i64 ((q : Int) + 1))) B (VW k) (s.W k).ne (s.W k).E) := EO.ch IK C5.out (fun u e z => gne u e z)
   have OO : Hid (SvO wr B { s with W := hfW K s.W k } vr (.slice (some ⟨g, 0, none⟩) s.m c) vq VR VW VQ) := hO
   have BW : Hid (ChB (PA (.slice (some ⟨g, 0, none⟩) s.m c) VW s.m) w wr) := hBw
   have GN : Hid (∀ u, (VW k).ownBlock = some u → u ≠ g) := gne
   have GL : Hid (B ≤ g ∧ g < wr.heap.size) := ⟨hgB, hgl⟩
   have EV : Hid (VW k = .slice la (s.W k).ne lc) := eV
   have X5 : Hid (((q : Int) + 1 + 1) = ((q + 2 : Nat) : Int)) := (by omega : ((q : Int) + 1 + 1) = ((q + 2 : Nat) : Int))
   clear hRk hO hBw IK gne eV hgB hgl hk hlt Q1 Q2
   go_wp2_with fail
   generalize ((wr.setCell ⟨g, k * 5, none⟩ (.int .i64 ((q : Int)))).setCell ⟨g, k * 5 + 1, none⟩ (.int .i64 ((q : Int) + 1))) = w5 at *
   rw [X5.out]
   have I6 : IE w5 B (.slice la (s.W k).ne lc) (s.W k).ne (s.W k).E := by have := I5.out; rw [EV.out] at this; exact this
   refine (markInt_o B la (s.W k).ne lc (q + 2) _ (by omega) (by omega) w5 I6).mono ?_
   rintro e w1 ⟨rfl, hI, hC⟩
   rw [← EV.out] at hI hC
   have R6 := R5.out.keep (hC.block g R5.out.lt.2 (fun e => GN.out g e rfl))
   have C6 : ChB (PR (.slice (some ⟨g, 0, none⟩) s.m c) VW k) wr w1 := (C5.out.wide (fun u z => .inl (by rw [z]; rfl))).trans (hC.wide (fun u z => .inr z))
   obtain ⟨y, hy⟩ : ∃ y : Nat, y = q + 2 + (s.W k).ne := ⟨_, rfl⟩
   rw [← hy]
   have y9 : y ≤ 7000000 := by omega
   have s3 := R6.c HLT.out 3 (by omega)
   have u3 := R6.fr HLT.out 3 (by omega)
   have s4 := R6.c HLT.out 4 (by omega)
   have u4 := R6.fr HLT.out 4 (by omega)
   have P1 : RkW (w1.setCell ⟨g, k * 5 + 3, none⟩ (.int .i64 ((y : Int)))) B g c s.m (hfW K s.W k) VW k ({ { { s.W k with mc := (q : Int) } with mt := (q : Int) + 1 } with bg := (y : Int) } : Wo) (VW k) := R6.set HLT.out (j := 3) (by omega) _ (fun i hi => by rcases (show i = 0 ∨ i = 1 ∨ i = 2 ∨ i = 3 ∨ i = 4 by omega) with rfl | rfl | rfl | rfl | rfl <;> rfl)
   have P2 : RkW ((w1.setCell ⟨g, k * 5 + 3, none⟩ (.int .i64 ((y : Int)))).setCell ⟨g, k * 5 + 4, none⟩ (.int .i64 ((y : Int) + 1))) B g c s.m (hfW K s.W k) VW k ({ { { { s.W k with mc := (q : Int) } with mt := (q : Int) + 1 } with bg := (y : Int) } with en := (y : Int) + 1 } : Wo) (VW k) := P1.set HLT.out (j := 4) (by omega) _ (fun i hi => by rcases (show i = 0 ∨ i = 1 ∨ i = 2 ∨ i = 3 ∨ i = 4 by omega) with rfl | rfl | rfl | rfl | rfl <;> rfl)
   have C7 : ChB (PR (.slice (some ⟨g, 0, none⟩) s.m c) VW k) wr ((w1.setCell ⟨g, k * 5 + 3, none⟩ (.int .i64 ((y : Int)))).setCell ⟨g, k * 5 + 4, none⟩ (.int .i64 ((y : Int) + 1))) := ((C6.at g (.inl (.inl rfl)) (k * 5 + 3) _).at g (.inl (.inl rfl)) (k * 5 + 4) _)
   have I7 : IE ((w1.setCell ⟨g, k * 5 + 3, none⟩ (.int .i64 ((y : Int)))).setCell ⟨g, k * 5 + 4, none⟩ (.int .i64 ((y : Int) + 1))) B (VW k) (s.W k).ne (mkC (q + 2)) := EO.ch hI (((ChB.refl (fun u => u = g) w1).at g (.inl rfl) (k * 5 + 3) _).at g (.inl rfl) (k * 5 + 4) _) (fun u e z => GN.out u e z)
   have P9 : RkW ((w1.setCell ⟨g, k * 5 + 3, none⟩ (.int .i64 ((y : Int)))).setCell ⟨g, k * 5 + 4, none⟩ (.int .i64 ((y : Int) + 1))) B g c s.m (hfW K s.W k) VW k (mkW q (s.W k)) (VW k) := by
    have e9 : ∀ i, i < 5 → woV (mkW q (s.W k)) (VW k) i = woV ({ { { { s.W k with mc := (q : Int) } with mt := (q : Int) + 1 } with bg := (y : Int) } with en := (y : Int) + 1 } : Wo) (VW k) i := fun i hi => by subst hy; rcases (show i = 0 ∨ i = 1 ∨ i = 2 ∨ i = 3 ∨ i = 4 by omega) with rfl | rfl | rfl | rfl | rfl <;> rfl
    exact EO.congr P2 (fun i hi j hj => by
     unfold woF
     rw [updE_at, updE_at, updE_at]
     split
     ·exact (e9 j hj).symm
     ·rfl)
   have S9 := partsW (x := mkW q (s.W k)) (v := VW k) OO.out HD.out HLT.out C7 P9 I7 (fun u e => .inl e)
   dsimp only at S9
   rw [HQ.out, hfW_succ, updE_self] at S9
   have S8 : Hid (SvO ((w1.setCell ⟨g, k * 5 + 3, none⟩ (.int .i64 ((y : Int)))).setCell ⟨g, k * 5 + 4, none⟩ (.int .i64 ((y : Int) + 1))) B { s with W := hfW K s.W (k + 1) } vr (.slice (some ⟨g, 0, none⟩) s.m c) vq VR VW VQ) := S9.1
   have B9 : Hid (ChB (PA (.slice (some ⟨g, 0, none⟩) s.m c) VW s.m) w ((w1.setCell ⟨g, k * 5 + 3, none⟩ (.int .i64 ((y : Int)))).setCell ⟨g, k * 5 + 4, none⟩ (.int .i64 ((y : Int) + 1)))) := BW.out.trans (C7.wide (fun u z => z.elim .inl (fun q => .inr ⟨k, HLT.out, q⟩)))
   have AD : Hid (adW K s.W (k + 1) = y + 2) := by show adW K s.W k + 4 + (s.W k).ne = _; rw [← HQ.out, hy]; omega
   clear hI hC R6 C6 C7 I7 P9 S9 hy I6 P1 P2 C5 R5 I5 OO BW GN GL EV X5 HQ t0 z0 t1 z1 t2 z2 t3 z3 t4 z4
   go_wp2
   go_roundw
   case rel => exact ⟨k + 1, by have := HLT.out; omega, by go_num, by rw [AD.out]; go_num, S8.out, B9.out⟩
   case measure => have := HLT.out; simp [intOf]; omega
  ·obtain rfl : k = s.m := by omega
   have hlt' : ¬ (s.m : Int) < (s.m : Int) := by omega
   have S8 : Hid (SvO wr B { s with W := hfW K s.W s.m } vr (.slice a s.m c) vq VR VW VQ) := hO
   have B9 : Hid (ChB (PA (.slice a s.m c) VW s.m) w wr) := hBw
   clear hO hBw hk hlt
   go_wp2
   go_ret
   exact ⟨rfl, S8.out, B9.out⟩
set_option maxRecDepth 100000 in
set_option maxHeartbeats 4000000 in
theorem markReadOpS_o (B : Nat) (s : Sv) (K : Nat) (hmx : s.max 300) (hK : K ≤ 5000000) (w : World) (a : Option Addr) (c : Nat) (vr vw : Value) (VR VW VQ : Nat → Value) (ho : SvO w B s vr vw (.slice a s.l c) VR VW VQ) (hd : SvD s VR VW VQ) (hB : B ≤ w.heap.size) :
  Calls Try.prog 45 #[.slice a s.l c, .int .i64 (K : Int)] w fun e w' => e = .returned (.int .i64 ((adQ K s.Q s.l : Nat) : Int)) ∧ SvO w' B { s with Q := hfQ K s.Q s.l } vr vw (.slice a s.l c) VR VW VQ ∧ ChB (PA (.slice a s.l c) VQ s.l) w w' := by
 have H0 : Hid (SvO w B s vr vw (.slice a s.l c) VR VW VQ) := ho
 have HD : Hid (SvD s VR VW VQ) := hd
 have MX : Hid (s.max 300) := hmx
 have HB : Hid (B ≤ w.heap.size) := hB
 clear ho hd hmx hB
 go_enter Try.func45, Try.ntmps45
 go_wp2_with fail
 go_loopw [1, 5] (fun x i wr => ∃ k : Nat, k ≤ s.l ∧ i = .int .i64 (k : Int) ∧ x = .int .i64 ((adQ K s.Q k : Nat) : Int) ∧ SvO wr B { s with Q := hfQ K s.Q k } vr vw (.slice a s.l c) VR VW VQ ∧ ChB (PA (.slice a s.l c) VQ s.l) w wr) (fun _ i _ => s.l - (intOf i).toNat)
 case atStart => exact ⟨0, by omega, rfl, rfl, by rw [hfQ_zero]; exact H0.out, ChB.refl _ _⟩
 case round =>
  obtain ⟨k, hk, rfl, rfl, hO, hBw⟩ := hrel
  by_cases hlt : k < s.l
  ·have hlt' : (k : Int) < (s.l : Int) := by omega
   have HLT : Hid (k < s.l) := hlt
   have n300 : s.l ≤ 300 := MX.out.2.2.1
   have ne3 : (s.Q k).ne ≤ 300 := MX.out.2.2.2 k hlt
   have hqb := adQ_le K s.Q s.l MX.out.2.2.2 k hk
   obtain ⟨q, hq⟩ : ∃ q : Nat, q = adQ K s.Q k := ⟨_, rfl⟩
   rw [← hq] at hqb ⊢
   have HQ : Hid (q = adQ K s.Q k) := hq
   have q9 : q ≤ 6000000 := by have : k * 307 ≤ 300 * 307 := Nat.mul_le_mul_right _ (by omega); omega
   clear hq hqb
   obtain ⟨g, rfl, hgB, hgl, hRk⟩ := RkQ.start hO.q hlt
   have IK := hO.f k hlt
   dsimp only at hRk IK
   rw [hfQ_at] at hRk IK
   obtain ⟨la, lc, eV⟩ := EO.form IK
   have gne : ∀ u, (VQ k).ownBlock = some u → u ≠ g := fun u e z => EO.apart IK hO.q (by decide) u e (by rw [z]; rfl)
   have t0 := hRk.c hlt 0 (by omega)
   have z0 := hRk.fr hlt 0 (by omega)
   have t1 := hRk.c hlt 1 (by omega)
   have z1 := hRk.fr hlt 1 (by omega)
   have t2 := hRk.c hlt 2 (by omega)
   have z2 := hRk.fr hlt 2 (by omega)
   have t3 := hRk.c hlt 3 (by omega)
   have z3 := hRk.fr hlt 3 (by omega)
   have t4 := hRk.c hlt 4 (by omega)
   have z4 := hRk.fr hlt 4 (by omega)
   rw [show roV (s.Q k) (VQ k) 0 = VQ k from rfl, eV] at t0
   rw [Nat.add_zero] at t0 z0
   have C5 : Hid (ChB (fun u => u = g) wr wr) := (ChB.refl (fun u => u = g) wr)
   have R5 : Hid (RkQ wr B g c s.l (hfQ K s.Q k) VQ k (s.Q k : Ro) (VQ k)) := hRk
   have I5 : Hid (IE wr B (VQ k) (s.Q k).ne (s.Q k).E) := EO.ch IK C5.out (fun u e z => gne u e z)
   have OO : Hid (SvO wr B { s with Q := hfQ K s.Q k } vr vw (.slice (some ⟨g, 0, none⟩) s.l c) VR VW VQ) := hO
   have BW : Hid (ChB (PA (.slice (some ⟨g, 0, none⟩) s.l c) VQ s.l) w wr) := hBw
   have GN : Hid (∀ u, (VQ k).ownBlock = some u → u ≠ g) := gne
   have GL : Hid (B ≤ g ∧ g < wr.heap.size) := ⟨hgB, hgl⟩
   have EV : Hid (VQ k = .slice la (s.Q k).ne lc) := eV
   have X5 : Hid (((q : Int)) = ((q : Nat) : Int)) := (by omega : ((q : Int)) = ((q : Nat) : Int))
   clear hRk hO hBw IK gne eV hgB hgl hk hlt
   go_wp2_with fail
   have I6 : IE wr B (.slice la (s.Q k).ne lc) (s.Q k).ne (s.Q k).E := by have := I5.out; rw [EV.out] at this; exact this
   refine (markInt_o B la (s.Q k).ne lc (q) _ (by omega) (by omega) wr I6).mono ?_
   rintro e w1 ⟨rfl, hI, hC⟩
   rw [← EV.out] at hI hC
   have R6 := R5.out.keep (hC.block g R5.out.lt.2 (fun e => GN.out g e rfl))
   have C6 : ChB (PR (.slice (some ⟨g, 0, none⟩) s.l c) VQ k) wr w1 := (C5.out.wide (fun u z => .inl (by rw [z]; rfl))).trans (hC.wide (fun u z => .inr z))
   obtain ⟨y, hy⟩ : ∃ y : Nat, y = q + (s.Q k).ne := ⟨_, rfl⟩
   rw [← hy]
   have y9 : y ≤ 7000000 := by omega
   have s1 := R6.c HLT.out 1 (by omega)
   have u1 := R6.fr HLT.out 1 (by omega)
   have s2 := R6.c HLT.out 2 (by omega)
   have u2 := R6.fr HLT.out 2 (by omega)
   have s3 := R6.c HLT.out 3 (by omega)
   have u3 := R6.fr HLT.out 3 (by omega)
   have s4 := R6.c HLT.out 4 (by omega)
   have u4 := R6.fr HLT.out 4 (by omega)
   have P1 : RkQ (w1.setCell ⟨g, k * 5 + 1, none⟩ (.int .i64 ((y : Int)))) B g c s.l (hfQ K s.Q k) VQ k ({ s.Q k with bc := (y : Int) } : Ro) (VQ k) := R6.set HLT.out (j := 1) (by omega) _ (fun i hi => by rcases (show i = 0 ∨ i = 1 ∨ i = 2 ∨ i = 3 ∨ i = 4 by omega) with rfl | rfl | rfl | rfl | rfl <;> rfl)
   have P2 : RkQ ((w1.setCell ⟨g, k * 5 + 1, none⟩ (.int .i64 ((y : Int)))).setCell ⟨g, k * 5 + 2, none⟩ (.int .i64 ((y : Int) + 1))) B g c s.l (hfQ K s.Q k) VQ k ({ { s.Q k with bc := (y : Int) } with bt := (y : Int) + 1 } : Ro) (VQ k) := P1.set HLT.out (j := 2) (by omega) _ (fun i hi => by rcases (show i = 0 ∨ i = 1 ∨ i = 2 ∨ i = 3 ∨ i = 4 by omega) with rfl | rfl | rfl | rfl | rfl <;> rfl)
   have P3 : RkQ (((w1.setCell ⟨g, k * 5 + 1, none⟩ (.int .i64 ((y : Int)))).setCell ⟨g, k * 5 + 2, none⟩ (.int .i64 ((y : Int) + 1))).setCell ⟨g, k * 5 + 3, none⟩ (.int .i64 ((y : Int) + 1 + 1))) B g c s.l (hfQ K s.Q k) VQ k ({ { { s.Q k with bc := (y : Int) } with bt := (y : Int) + 1 } with bg := (y : Int) + 1 + 1 } : Ro) (VQ k) := P2.set HLT.out (j := 3) (by omega) _ (fun i hi => by rcases (show i = 0 ∨ i = 1 ∨ i = 2 ∨ i = 3 ∨ i = 4 by omega) with rfl | rfl | rfl | rfl | rfl <;> rfl)
   have P4 : RkQ ((((w1.setCell ⟨g, k * 5 + 1, none⟩ (.int .i64 ((y : Int)))).setCell ⟨g, k * 5 + 2, none⟩ (.int .i64 ((y : Int) + 1))).setCell ⟨g, k * 5 + 3, none⟩ (.int .i64 ((y : Int) + 1 + 1))).setCell ⟨g, k * 5 + 4, none⟩ (.int .i64 ((y : Int) + 1 + 1 + 1))) B g c s.l (hfQ K s.Q k) VQ k ({ { { { s.Q k with bc := (y : Int) } with bt := (y : Int) + 1 } with bg := (y : Int) + 1 + 1 } with en := (y : Int) + 1 + 1 + 1 } : Ro) (VQ k) := P3.set HLT.out (j := 4) (by omega) _ (fun i hi => by rcases (show i = 0 ∨ i = 1 ∨ i = 2 ∨ i = 3 ∨ i = 4 by omega) with rfl | rfl | rfl | rfl | rfl <;> rfl)
   have C7 : ChB (PR (.slice (some ⟨g, 0, none⟩) s.l c) VQ k) wr ((((w1.setCell ⟨g, k * 5 + 1, none⟩ (.int .i64 ((y : Int)))).setCell ⟨g, k * 5 + 2, none⟩ (.int .i64 ((y : Int) + 1))).setCell ⟨g, k * 5 + 3, none⟩ (.int .i64 ((y : Int) + 1 + 1))).setCell ⟨g, k * 5 + 4, none⟩ (.int .i64 ((y : Int) + 1 + 1 + 1))) := ((((C6.at g (.inl (.inl rfl)) (k * 5 + 1) _).at g (.inl (.inl rfl)) (k * 5 + 2) _).at g (.inl (.inl rfl)) (k * 5 + 3) _).at g (.inl (.inl rfl)) (k * 5 + 4) _)
   have I7 : IE ((((w1.setCell ⟨g, k * 5 + 1, none⟩ (.int .i64 ((y : Int)))).setCell ⟨g, k * 5 + 2, none⟩ (.int .i64 ((y : Int) + 1))).setCell ⟨g, k * 5 + 3, none⟩ (.int .i64 ((y : Int) + 1 + 1))).setCell ⟨g, k * 5 + 4, none⟩ (.int .i64 ((y : Int) + 1 + 1 + 1))) B (VQ k) (s.Q k).ne (mkC (q)) := EO.ch hI (((((ChB.refl (fun u => u = g) w1).at g (.inl rfl) (k * 5 + 1) _).at g (.inl rfl) (k * 5 + 2) _).at g (.inl rfl) (k * 5 + 3) _).at g (.inl rfl) (k * 5 + 4) _) (fun u e z => GN.out u e z)
   have P9 : RkQ ((((w1.setCell ⟨g, k * 5 + 1, none⟩ (.int .i64 ((y : Int)))).setCell ⟨g, k * 5 + 2, none⟩ (.int .i64 ((y : Int) + 1))).setCell ⟨g, k * 5 + 3, none⟩ (.int .i64 ((y : Int) + 1 + 1))).setCell ⟨g, k * 5 + 4, none⟩ (.int .i64 ((y : Int) + 1 + 1 + 1))) B g c s.l (hfQ K s.Q k) VQ k (mkQ q (s.Q k)) (VQ k) := by
    have e9 : ∀ i, i < 5 → roV (mkQ q (s.Q k)) (VQ k) i = roV ({ { { { s.Q k with bc := (y : Int) } with bt := (y : Int) + 1 } with bg := (y : Int) + 1 + 1 } with en := (y : Int) + 1 + 1 + 1 } : Ro) (VQ k) i := fun i hi => by subst hy; rcases (show i = 0 ∨ i = 1 ∨ i = 2 ∨ i = 3 ∨ i = 4 by omega) with rfl | rfl | rfl | rfl | rfl <;> rfl
    exact EO.congr P4 (fun i hi j hj => by
     unfold roF
     rw [updE_at, updE_at, updE_at]
     split
     ·exact (e9 j hj).symm
     ·rfl)
   have S9 := partsQ (x := mkQ q (s.Q k)) (v := VQ k) OO.out HD.out HLT.out C7 P9 I7 (fun u e => .inl e)
   dsimp only at S9
   rw [HQ.out, hfQ_succ, updE_self] at S9
   have S8 : Hid (SvO ((((w1.setCell ⟨g, k * 5 + 1, none⟩ (.int .i64 ((y : Int)))).setCell ⟨g, k * 5 + 2, none⟩ (.int .i64 ((y : Int) + 1))).setCell ⟨g, k * 5 + 3, none⟩ (.int .i64 ((y : Int) + 1 + 1))).setCell ⟨g, k * 5 + 4, none⟩ (.int .i64 ((y : Int) + 1 + 1 + 1))) B { s with Q := hfQ K s.Q (k + 1) } vr vw (.slice (some ⟨g, 0, none⟩) s.l c) VR VW VQ) := S9.1
   have B9 : Hid (ChB (PA (.slice (some ⟨g, 0, none⟩) s.l c) VQ s.l) w ((((w1.setCell ⟨g, k * 5 + 1, none⟩ (.int .i64 ((y : Int)))).setCell ⟨g, k * 5 + 2, none⟩ (.int .i64 ((y : Int) + 1))).setCell ⟨g, k * 5 + 3, none⟩ (.int .i64 ((y : Int) + 1 + 1))).setCell ⟨g, k * 5 + 4, none⟩ (.int .i64 ((y : Int) + 1 + 1 + 1)))) := BW.out.trans (C7.wide (fun u z => z.elim .inl (fun q => .inr ⟨k, HLT.out, q⟩)))
   have AD : Hid (adQ K s.Q (k + 1) = y + 4) := by show adQ K s.Q k + 4 + (s.Q k).ne = _; rw [← HQ.out, hy]; omega
   clear hI hC R6 C6 C7 I7 P9 S9 hy I6 P1 P2 P3 P4 C5 R5 I5 OO BW GN GL EV X5 HQ t0 z0 t1 z1 t2 z2 t3 z3 t4 z4
   go_wp2
   go_roundw
   case rel => exact ⟨k + 1, by have := HLT.out; omega, by go_num, by rw [AD.out]; go_num, S8.out, B9.out⟩
   case measure => have := HLT.out; simp [intOf]; omega
  ·obtain rfl : k = s.l := by omega
   have hlt' : ¬ (s.l : Int) < (s.l : Int) := by omega
   have S8 : Hid (SvO wr B { s with Q := hfQ K s.Q s.l } vr vw (.slice a s.l c) VR VW VQ) := hO
   have B9 : Hid (ChB (PA (.slice a s.l c) VQ s.l) w wr) := hBw
   clear hO hBw hk hlt
   go_wp2
   go_ret
   exact ⟨rfl, S8.out, B9.out⟩
end Go.Proofs.Ytedncfcmhaaobaa
namespace Go.Proofs.Ytedncfcmhaaobaa
open Go.ChangeShapes Go.WideShapes Go.ChangeAt Go.RowKit
set_option linter.unusedVariables false
theorem mx_R (s : Sv) (F : Nat → Rp) (h : ∀ i, i < s.n → (F i).ne = (s.R i).ne) {x : Nat} (hx : s.max x) : ({ s with R := F } : Sv).max x :=
 ⟨⟨hx.1.1, fun i hi => by show (F i).ne ≤ x; rw [h i hi]; exact hx.1.2 i hi⟩, hx.2.1, hx.2.2⟩
theorem mx_W (s : Sv) (F : Nat → Wo) (h : ∀ i, i < s.m → (F i).ne = (s.W i).ne) {x : Nat} (hx : s.max x) : ({ s with W := F } : Sv).max x :=
 ⟨hx.1, ⟨hx.2.1.1, fun i hi => by show (F i).ne ≤ x; rw [h i hi]; exact hx.2.1.2 i hi⟩, hx.2.2⟩
set_option maxRecDepth 100000 in
set_option maxHeartbeats 4000000 in
theorem heldReplicaS_v (a : Option Addr) (n c K : Nat) (F : Nat → Rp) (A : Nat → Option Addr) (Z : Nat → Nat) (hn : n ≤ 300) (hne : ∀ i, i < n → (F i).ne ≤ 300) (hK : K ≤ 5000000) (w : World) (h : RpV w a n (hfR K F n) A Z) :
  Calls Try.prog 46 #[.slice a n c, .int .i64 (K : Int)] w fun e w' => e = .returned (.int .i64 ((adR K F n : Nat) : Int)) ∧ Below w.heap.size w w' := by
 have H0 : Hid (RpV w a n (hfR K F n) A Z) := h
 have NE : Hid (∀ i, i < n → (F i).ne ≤ 300) := hne
 clear h hne
 go_enter Try.func46, Try.ntmps46
 go_wp2_with fail
 go_loopw [1, 5] (fun x i wr => ∃ k : Nat, k ≤ n ∧ i = .int .i64 (k : Int) ∧ x = .int .i64 ((adR K F k : Nat) : Int) ∧ Below w.heap.size w wr) (fun _ i _ => n - (intOf i).toNat)
 case atStart => exact ⟨0, by omega, rfl, rfl, Below.refl _ _⟩
 case round =>
  obtain ⟨k, hk, rfl, rfl, hb0⟩ := hrel
  have A1 : Hid (Below w.heap.size w wr) := hb0
  clear hb0
  by_cases hlt : k < n
  ·have hlt' : (k : Int) < (n : Int) := by omega
   have hk0 : (0 : Int) ≤ (k : Int) := by omega
   have HLT : Hid (k < n) := hlt
   have ne3 : (F k).ne ≤ 300 := NE.out k hlt
   have hqb := adR_le K F n NE.out k hk
   obtain ⟨b, off, rfl, hc⟩ := (H0.out.below A1.out).at hlt
   have nums := (H0.out.below A1.out).2 k hlt
   rw [hfR_lt _ _ hlt] at hc nums
   obtain ⟨q, hq⟩ : ∃ q : Nat, q = adR K F k := ⟨_, rfl⟩
   rw [← hq] at hqb hc nums ⊢
   have q9 : q ≤ 6000000 := by have : k * 307 ≤ 300 * 307 := Nat.mul_le_mul_right _ (by omega); omega
   have NU : Hid (Num wr (A k) (F k).ne (mkC (q + 5))) := nums
   have t0 : wr.cell? ⟨b, off + k * 8, none⟩ = some (.bool ((q : Int) % 3 == 0)) := hc 0 (by omega)
   have t1 : wr.cell? ⟨b, off + k * 8 + 1, none⟩ = some (.int .i64 ((q : Int) + 1)) := hc 1 (by omega)
   have t2 : wr.cell? ⟨b, off + k * 8 + 2, none⟩ = some (.int .i64 ((q : Int) + 1 + 1)) := hc 2 (by omega)
   have t3 : wr.cell? ⟨b, off + k * 8 + 3, none⟩ = some (.int .i64 ((q : Int) + 1 + 1 + 1)) := hc 3 (by omega)
   have t4 : wr.cell? ⟨b, off + k * 8 + 4, none⟩ = some (.int .i64 ((q : Int) + 1 + 1 + 1 + 1)) := hc 4 (by omega)
   have t5 : wr.cell? ⟨b, off + k * 8 + 5, none⟩ = some (.slice (A k) (F k).ne (Z k)) := hc 5 (by omega)
   have TP : Hid (wr.cell? ⟨b, off + k * 8 + 6, none⟩ = some (.int .i64 (((q + 5 + (F k).ne : Nat) : Int))) ∧ wr.cell? ⟨b, off + k * 8 + 7, none⟩ = some (.int .i64 (((q + 5 + (F k).ne : Nat) : Int) + 1))) := ⟨hc 6 (by omega), hc 7 (by omega)⟩
   have AD : Hid (adR K F (k + 1) = q + 5 + (F k).ne + 2) := by show adR K F k + 7 + (F k).ne = _; rw [← hq]; omega
   have e0 : (((q : Int) % 3 == 0) != ((q : Int) % 3 == 0)) = false := by simp
   have X5 : Hid (((q : Int) + 1 + 1 + 1 + 1 + 1) = ((q + 5 : Nat) : Int)) := (by omega : ((q : Int) + 1 + 1 + 1 + 1 + 1) = ((q + 5 : Nat) : Int))
   clear hc nums hq hqb hk hlt
   go_wp2_with fail
   rw [X5.out]
   refine (heldIntK (A k) (F k).ne (Z k) (q + 5) (by omega) wr NU.out).mono ?_
   rintro e w1 ⟨rfl, hb⟩
   replace A1 : Hid (Below w.heap.size w w1) := A1.out.trans (hb.mono A1.out.size)
   obtain ⟨y, hy⟩ : ∃ y : Nat, y = q + 5 + (F k).ne := ⟨_, rfl⟩
   rw [← hy] at TP AD ⊢
   have y9 : y ≤ 7000000 := by omega
   have nz : ¬ (y : Int) < 0 := by omega
   have s6 : w1.cell? ⟨b, off + k * 8 + 6, none⟩ = some (.int .i64 ((y : Int))) := (hb.cell (strBlock TP.out.1)).trans TP.out.1
   have s7 : w1.cell? ⟨b, off + k * 8 + 7, none⟩ = some (.int .i64 ((y : Int) + 1)) := (hb.cell (strBlock TP.out.2)).trans TP.out.2
   clear hb hy TP X5 NU t0 t1 t2 t3 t4 t5
   go_wp2
   go_roundw
   case rel => exact ⟨k + 1, by have := HLT.out; omega, by go_num, by rw [AD.out]; go_num, A1.out⟩
   case measure => have := HLT.out; simp [intOf]; omega
  ·obtain rfl : k = n := by omega
   have hlt' : ¬ (k : Int) < (k : Int) := by omega
   go_wp2
   go_ret
   exact ⟨rfl, A1.out⟩
set_option maxRecDepth 100000 in
set_option maxHeartbeats 4000000 in
theorem heldWriteOpS_v (a : Option Addr) (n c K : Nat) (F : Nat → Wo) (A : Nat → Option Addr) (Z : Nat → Nat) (hn : n ≤ 300) (hne : ∀ i, i < n → (F i).ne ≤ 300) (hK : K ≤ 5000000) (w : World) (h : WoV w a n (hfW K F n) A Z) :
  Calls Try.prog 47 #[.slice a n c, .int .i64 (K : Int)] w fun e w' => e = .returned (.int .i64 ((adW K F n : Nat) : Int)) ∧ Below w.heap.size w w' := by
 have H0 : Hid (WoV w a n (hfW K F n) A Z) := h
 have NE : Hid (∀ i, i < n → (F i).ne ≤ 300) := hne
 clear h hne
 go_enter Try.func47, Try.ntmps47
 go_wp2_with fail
 go_loopw [1, 5] (fun x i wr => ∃ k : Nat, k ≤ n ∧ i = .int .i64 (k : Int) ∧ x = .int .i64 ((adW K F k : Nat) : Int) ∧ Below w.heap.size w wr) (fun _ i _ => n - (intOf i).toNat)
 case atStart => exact ⟨0, by omega, rfl, rfl, Below.refl _ _⟩
 case round =>
  obtain ⟨k, hk, rfl, rfl, hb0⟩ := hrel
  have A1 : Hid (Below w.heap.size w wr) := hb0
  clear hb0
  by_cases hlt : k < n
  ·have hlt' : (k : Int) < (n : Int) := by omega
   have hk0 : (0 : Int) ≤ (k : Int) := by omega
   have HLT : Hid (k < n) := hlt
   have ne3 : (F k).ne ≤ 300 := NE.out k hlt
   have hqb := adW_le K F n NE.out k hk
   obtain ⟨b, off, rfl, hc⟩ := (H0.out.below A1.out).at hlt
   have nums := (H0.out.below A1.out).2 k hlt
   rw [hfW_lt _ _ hlt] at hc nums
   obtain ⟨q, hq⟩ : ∃ q : Nat, q = adW K F k := ⟨_, rfl⟩
   rw [← hq] at hqb hc nums ⊢
   have q9 : q ≤ 6000000 := by have : k * 307 ≤ 300 * 307 := Nat.mul_le_mul_right _ (by omega); omega
   have NU : Hid (Num wr (A k) (F k).ne (mkC (q + 2))) := nums
   have t0 : wr.cell? ⟨b, off + k * 5, none⟩ = some (.int .i64 ((q : Int))) := hc 0 (by omega)
   have t1 : wr.cell? ⟨b, off + k * 5 + 1, none⟩ = some (.int .i64 ((q : Int) + 1)) := hc 1 (by omega)
   have t2 : wr.cell? ⟨b, off + k * 5 + 2, none⟩ = some (.slice (A k) (F k).ne (Z k)) := hc 2 (by omega)
   have TP : Hid (wr.cell? ⟨b, off + k * 5 + 3, none⟩ = some (.int .i64 (((q + 2 + (F k).ne : Nat) : Int))) ∧ wr.cell? ⟨b, off + k * 5 + 4, none⟩ = some (.int .i64 (((q + 2 + (F k).ne : Nat) : Int) + 1))) := ⟨hc 3 (by omega), hc 4 (by omega)⟩
   have AD : Hid (adW K F (k + 1) = q + 2 + (F k).ne + 2) := by show adW K F k + 4 + (F k).ne = _; rw [← hq]; omega
   have X5 : Hid (((q : Int) + 1 + 1) = ((q + 2 : Nat) : Int)) := (by omega : ((q : Int) + 1 + 1) = ((q + 2 : Nat) : Int))
   clear hc nums hq hqb hk hlt
   go_wp2_with fail
   rw [X5.out]
   refine (heldIntK (A k) (F k).ne (Z k) (q + 2) (by omega) wr NU.out).mono ?_
   rintro e w1 ⟨rfl, hb⟩
   replace A1 : Hid (Below w.heap.size w w1) := A1.out.trans (hb.mono A1.out.size)
   obtain ⟨y, hy⟩ : ∃ y : Nat, y = q + 2 + (F k).ne := ⟨_, rfl⟩
   rw [← hy] at TP AD ⊢
   have y9 : y ≤ 7000000 := by omega
   have nz : ¬ (y : Int) < 0 := by omega
   have s3 : w1.cell? ⟨b, off + k * 5 + 3, none⟩ = some (.int .i64 ((y : Int))) := (hb.cell (strBlock TP.out.1)).trans TP.out.1
   have s4 : w1.cell? ⟨b, off + k * 5 + 4, none⟩ = some (.int .i64 ((y : Int) + 1)) := (hb.cell (strBlock TP.out.2)).trans TP.out.2
   clear hb hy TP X5 NU t0 t1 t2
   go_wp2
   go_roundw
   case rel => exact ⟨k + 1, by have := HLT.out; omega, by go_num, by rw [AD.out]; go_num, A1.out⟩
   case measure => have := HLT.out; simp [intOf]; omega
  ·obtain rfl : k = n := by omega
   have hlt' : ¬ (k : Int) < (k : Int) := by omega
   go_wp2
   go_ret
   exact ⟨rfl, A1.out⟩
set_option maxRecDepth 100000 in
set_option maxHeartbeats 4000000 in
theorem heldReadOpS_v (a : Option Addr) (n c K : Nat) (F : Nat → Ro) (A : Nat → Option Addr) (Z : Nat → Nat) (hn : n ≤ 300) (hne : ∀ i, i < n → (F i).ne ≤ 300) (hK : K ≤ 5000000) (w : World) (h : RoV w a n (hfQ K F n) A Z) :
  Calls Try.prog 48 #[.slice a n c, .int .i64 (K : Int)] w fun e w' => e = .returned (.int .i64 ((adQ K F n : Nat) : Int)) ∧ Below w.heap.size w w' := by
 have H0 : Hid (RoV w a n (hfQ K F n) A Z) := h
 have NE : Hid (∀ i, i < n → (F i).ne ≤ 300) := hne
 clear h hne
 go_enter Try.func48, Try.ntmps48
 go_wp2_with fail
 go_loopw [1, 5] (fun x i wr => ∃ k : Nat, k ≤ n ∧ i = .int .i64 (k : Int) ∧ x = .int .i64 ((adQ K F k : Nat) : Int) ∧ Below w.heap.size w wr) (fun _ i _ => n - (intOf i).toNat)
 case atStart => exact ⟨0, by omega, rfl, rfl, Below.refl _ _⟩
 case round =>
  obtain ⟨k, hk, rfl, rfl, hb0⟩ := hrel
  have A1 : Hid (Below w.heap.size w wr) := hb0
  clear hb0
  by_cases hlt : k < n
  ·have hlt' : (k : Int) < (n : Int) := by omega
   have hk0 : (0 : Int) ≤ (k : Int) := by omega
   have HLT : Hid (k < n) := hlt
   have ne3 : (F k).ne ≤ 300 := NE.out k hlt
   have hqb := adQ_le K F n NE.out k hk
   obtain ⟨b, off, rfl, hc⟩ := (H0.out.below A1.out).at hlt
   have nums := (H0.out.below A1.out).2 k hlt
   rw [hfQ_lt _ _ hlt] at hc nums
   obtain ⟨q, hq⟩ : ∃ q : Nat, q = adQ K F k := ⟨_, rfl⟩
   rw [← hq] at hqb hc nums ⊢
   have q9 : q ≤ 6000000 := by have : k * 307 ≤ 300 * 307 := Nat.mul_le_mul_right _ (by omega); omega
   have NU : Hid (Num wr (A k) (F k).ne (mkC (q))) := nums
   have t0 : wr.cell? ⟨b, off + k * 5, none⟩ = some (.slice (A k) (F k).ne (Z k)) := hc 0 (by omega)
   have TP : Hid (wr.cell? ⟨b, off + k * 5 + 1, none⟩ = some (.int .i64 (((q + (F k).ne : Nat) : Int))) ∧ wr.cell? ⟨b, off + k * 5 + 2, none⟩ = some (.int .i64 (((q + (F k).ne : Nat) : Int) + 1)) ∧ wr.cell? ⟨b, off + k * 5 + 3, none⟩ = some (.int .i64 (((q + (F k).ne : Nat) : Int) + 1 + 1)) ∧ wr.cell? ⟨b, off + k * 5 + 4, none⟩ = some (.int .i64 (((q + (F k).ne : Nat) : Int) + 1 + 1 + 1))) := ⟨hc 1 (by omega), hc 2 (by omega), hc 3 (by omega), hc 4 (by omega)⟩
   have AD : Hid (adQ K F (k + 1) = q + (F k).ne + 4) := by show adQ K F k + 4 + (F k).ne = _; rw [← hq]; omega
   have X5 : Hid (((q : Int)) = ((q : Nat) : Int)) := (by omega : ((q : Int)) = ((q : Nat) : Int))
   clear hc nums hq hqb hk hlt
   go_wp2_with fail
   refine (heldIntK (A k) (F k).ne (Z k) (q) (by omega) wr NU.out).mono ?_
   rintro e w1 ⟨rfl, hb⟩
   replace A1 : Hid (Below w.heap.size w w1) := A1.out.trans (hb.mono A1.out.size)
   obtain ⟨y, hy⟩ : ∃ y : Nat, y = q + (F k).ne := ⟨_, rfl⟩
   rw [← hy] at TP AD ⊢
   have y9 : y ≤ 7000000 := by omega
   have nz : ¬ (y : Int) < 0 := by omega
   have s1 : w1.cell? ⟨b, off + k * 5 + 1, none⟩ = some (.int .i64 ((y : Int))) := (hb.cell (strBlock TP.out.1)).trans TP.out.1
   have s2 : w1.cell? ⟨b, off + k * 5 + 2, none⟩ = some (.int .i64 ((y : Int) + 1)) := (hb.cell (strBlock TP.out.2.1)).trans TP.out.2.1
   have s3 : w1.cell? ⟨b, off + k * 5 + 3, none⟩ = some (.int .i64 ((y : Int) + 1 + 1)) := (hb.cell (strBlock TP.out.2.2.1)).trans TP.out.2.2.1
   have s4 : w1.cell? ⟨b, off + k * 5 + 4, none⟩ = some (.int .i64 ((y : Int) + 1 + 1 + 1)) := (hb.cell (strBlock TP.out.2.2.2)).trans TP.out.2.2.2
   clear hb hy TP X5 NU  t0
   go_wp2
   go_roundw
   case rel => exact ⟨k + 1, by have := HLT.out; omega, by go_num, by rw [AD.out]; go_num, A1.out⟩
   case measure => have := HLT.out; simp [intOf]; omega
  ·obtain rfl : k = n := by omega
   have hlt' : ¬ (k : Int) < (k : Int) := by omega
   go_wp2
   go_ret
   exact ⟨rfl, A1.out⟩
theorem endS_le {s : Sv} (hm : s.max 300) : adR 1 s.R s.n ≤ 100000 ∧ adW (adR 1 s.R s.n) s.W s.m ≤ 200000 ∧ endS s ≤ 300000 := by
 have a := adR_le 1 s.R s.n hm.1.2 s.n (Nat.le_refl _)
 have b := adW_le (adR 1 s.R s.n) s.W s.m hm.2.1.2 s.m (Nat.le_refl _)
 have c := adQ_le (adW (adR 1 s.R s.n) s.W s.m) s.Q s.l hm.2.2.2 s.l (Nat.le_refl _)
 have a2 : s.n * 307 ≤ 300 * 307 := Nat.mul_le_mul_right _ hm.1.1
 have b2 : s.m * 307 ≤ 300 * 307 := Nat.mul_le_mul_right _ hm.2.1.1
 have c2 : s.l * 307 ≤ 300 * 307 := Nat.mul_le_mul_right _ hm.2.2.1
 unfold endS
 exact ⟨by omega, by omega, by omega⟩
set_option maxRecDepth 100000 in
set_option maxHeartbeats 4000000 in
theorem heldSv_v (s : Sv) (p : Sa) (hm : s.max 300) (w : World) (h : SvV w (mkS s) p) :
  Calls Try.prog 16 #[.agg #[.slice p.a s.n p.ca, .int .i64 s.t, .slice p.b s.m p.cb, .slice p.d s.l p.cd], .int .i64 1] w fun e w' => e = .returned (.int .i64 ((endS s : Nat) : Int)) ∧ Below w.heap.size w w' := by
 have hl := endS_le hm
 have b0 : Below w.heap.size w (w.alloc (.cells #[.slice p.a s.n p.ca, .int .i64 s.t, .slice p.b s.m p.cb, .slice p.d s.l p.cd] 28)) := (Below.refl _ _).alloc (Nat.le_refl _) _
 have A1 : Hid (Below w.heap.size w (w.alloc (.cells #[.slice p.a s.n p.ca, .int .i64 s.t, .slice p.b s.m p.cb, .slice p.d s.l p.cd] 28))) := b0
 have X : Hid (Box4 (w.alloc (.cells #[.slice p.a s.n p.ca, .int .i64 s.t, .slice p.b s.m p.cb, .slice p.d s.l p.cd] 28)) w.heap.size 28 (.slice p.a s.n p.ca) (.int .i64 s.t) (.slice p.b s.m p.cb) (.slice p.d s.l p.cd)) := Box4.madeAt rfl _ _ _ _ _
 have G1 : Hid (∀ u, Below w.heap.size w u → RpV u p.a s.n (hfR 1 s.R s.n) p.A p.X) := fun u hu => (h.below hu).1
 have G2 : Hid (∀ u, Below w.heap.size w u → WoV u p.b s.m (hfW (adR 1 s.R s.n) s.W s.m) p.B p.Y) := fun u hu => (h.below hu).2.1
 have G3 : Hid (∀ u, Below w.heap.size w u → RoV u p.d s.l (hfQ (adW (adR 1 s.R s.n) s.W s.m) s.Q s.l) p.D p.Z) := fun u hu => (h.below hu).2.2
 have MX : Hid (s.max 300) := hm
 have R1 : Hid (∀ u, Below w.heap.size w u → Calls Try.prog 46 #[.slice p.a s.n p.ca, .int .i64 1] u fun e w' => e = .returned (.int .i64 ((adR 1 s.R s.n : Nat) : Int)) ∧ Below u.heap.size u w') := fun u hu => heldReplicaS_v p.a s.n p.ca 1 s.R p.A p.X MX.out.1.1 MX.out.1.2 (by omega) u (G1.out u hu)
 have R2 : Hid (∀ u, Below w.heap.size w u → Calls Try.prog 47 #[.slice p.b s.m p.cb, .int .i64 ((adR 1 s.R s.n : Nat) : Int)] u fun e w' => e = .returned (.int .i64 ((adW (adR 1 s.R s.n) s.W s.m : Nat) : Int)) ∧ Below u.heap.size u w') := fun u hu => heldWriteOpS_v p.b s.m p.cb _ s.W p.B p.Y MX.out.2.1.1 MX.out.2.1.2 (by omega) u (G2.out u hu)
 have R3 : Hid (∀ u, Below w.heap.size w u → Calls Try.prog 48 #[.slice p.d s.l p.cd, .int .i64 ((adW (adR 1 s.R s.n) s.W s.m : Nat) : Int)] u fun e w' => e = .returned (.int .i64 ((endS s : Nat) : Int)) ∧ Below u.heap.size u w') := fun u hu => heldReadOpS_v p.d s.l p.cd _ s.Q p.D p.Z MX.out.2.2.1 MX.out.2.2.2 (by omega) u (G3.out u hu)
 clear hl h hm b0 G1 G2 G3 MX
 generalize endS s = N3 at *
 generalize adW (adR 1 s.R s.n) s.W s.m = N2 at *
 generalize adR 1 s.R s.n = N1 at *
 have n1 : ¬ (N1 : Int) < 0 := by omega
 have n2 : ¬ (N2 : Int) < 0 := by omega
 have n3 : ¬ (N3 : Int) < 0 := by omega
 go_enter Try.func16, Try.ntmps16
 have x0 := X.out.c0
 go_wp2_with fail
 generalize (w.alloc (.cells #[.slice p.a s.n p.ca, .int .i64 s.t, .slice p.b s.m p.cb, .slice p.d s.l p.cd] 28)) = v at *
 refine (R1.out _ A1.out).mono ?_
 rintro e v1 ⟨rfl, hb⟩
 replace A1 : Hid (Below w.heap.size w v1) := A1.out.trans (hb.mono A1.out.size)
 replace X : Hid (Box4 v1 w.heap.size 28 (.slice p.a s.n p.ca) (.int .i64 s.t) (.slice p.b s.m p.cb) (.slice p.d s.l p.cd)) := X.out.below hb
 clear hb x0 R1
 have x2 := X.out.c2
 go_wp2_with fail
 refine (R2.out _ A1.out).mono ?_
 rintro e v2 ⟨rfl, hb⟩
 replace A1 : Hid (Below w.heap.size w v2) := A1.out.trans (hb.mono A1.out.size)
 replace X : Hid (Box4 v2 w.heap.size 28 (.slice p.a s.n p.ca) (.int .i64 s.t) (.slice p.b s.m p.cb) (.slice p.d s.l p.cd)) := X.out.below hb
 clear hb x2 R2
 have x3 := X.out.c3
 go_wp2_with fail
 refine (R3.out _ A1.out).mono ?_
 rintro e v3 ⟨rfl, hb⟩
 replace A1 : Hid (Below w.heap.size w v3) := A1.out.trans (hb.mono A1.out.size)
 clear hb x3 R3
 go_wp2
 go_ret
 exact ⟨rfl, A1.out⟩
theorem pa_box {w : World} {B b k n : Nat} {t : TypeId} {a : Option Addr} {c : Nat} {F : Nat → Nat → Value} {V : Nat → Value} {x y z m : Value} (h : EO w B t k (.slice a n c) n F) (hV : ∀ i, i < n → ∃ ne E, IE w B (V i) ne E) (hx : Box4 w b 28 x y z m) (ht : 28 ≠ t) : ¬ PA (.slice a n c) V n b := fun z => by
 rcases z with z | ⟨i, hi, z⟩
 ·exact h.notB4 hx ht z
 ·obtain ⟨ne, E, hI⟩ := hV i hi
  exact EO.notB4 hI hx (by decide) z
end Go.Proofs.Ytedncfcmhaaobaa
