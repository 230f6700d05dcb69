/-
  Texts of the proof, joined: PadMath, PadS, Num, Keys, KMath, StateOf, StateOf2, Slices2, Pad, GfLaws, MixMath, MixSpec, DecMath, AesMath, ModesMath, NumV.
-/
import Derived.Test.YtiamaoihachhgaaGreatDoorE05
import Derived.Test.YtiamaoihachhgaaGreatDoorE12
import Derived.Test.YtiamaoihachhgaaGreatDoorE10
import Derived.Test.YtiamaoihachhgaaGreatDoorE11
import Derived.Laws.BytesArg
import Derived.Test.YtiamaoihachhgaaGreatDoorE09
import Derived.Laws.IdiomCopy
import Derived.Deep.Cut
import Derived.Deep.CutRange
import Derived.Deep.DeepCutAuto
import Derived.Deep.RegionHeld3
import Derived.OwnWalk
import Derived.Laws.OwnMore
namespace Go.Proofs.YtiamaoihachhgaaGreatDoor
end Go.Proofs.YtiamaoihachhgaaGreatDoor
namespace Go.Proofs.YtiamaoihachhgaaGreatDoor
open Go.ChangeShapes Go.WideShapes Go.ChangeAt Go.RowKit
theorem one_new8 (w : World) (x : Nat) (t : TypeId) : ∀ j u, [Value.int .u8 (x : Nat)][j]? = some u → (w.alloc (.cells #[.int .u8 (x : Nat)] t)).cell? ((⟨w.heap.size, 0, none⟩ : Addr).add j) = some u := fun j u hj => by
 have hj0 : j = 0 := by have := (List.getElem?_eq_some_iff.1 hj).1; simp at this; omega
 subst hj0
 cases hj
 rw [Addr.add_lit]
 simp
theorem one_one8 (x : Nat) : ∀ u ∈ [Value.int .u8 (x : Nat)], u.oneCell' = true := fun u hu => by
 simp at hu
 subst hu
 rfl
end Go.Proofs.YtiamaoihachhgaaGreatDoor
namespace Go.Proofs.YtiamaoihachhgaaGreatDoor
open Go.ChangeShapes Go.WideShapes Go.ChangeAt Go.RowKit
theorem bv_extN (k r : Nat) (f : Nat → Nat) : bv k f ++ [.int .u8 (r : Nat)] = bv (k + 1) (fun j => if j = k then r else f j) := by
  have e := bv_snoc k (fun j => if j = k then r else f j)
  rw [if_pos rfl, bv_congr (g := f) (fun i hi => if_neg (by omega))] at e
  exact e
theorem ownsRow_mono {w : World} {base base' : Nat} {e : TypeId} {size : Nat} {v : Value} {n : Nat} {xs : List Value} (h : w.ownsRow base e size v n xs) (hb : base' ≤ base) : w.ownsRow base' e size v n xs := by
  obtain ⟨hl, h0 | ⟨g, cap, cur, hv, h1, h2⟩⟩ := h
  · exact ⟨hl, .inl h0⟩
  · exact ⟨hl, .inr ⟨g, cap, cur, hv, Nat.le_trans hb h1, h2⟩⟩
def numF (k sz x : Nat) (f : Nat → Nat) (j : Nat) : Nat := if j < k then f j else x / 2 ^ (8 * (sz - 1 - (j - k))) % 256
def RetO (B : Nat) (w' : World) (e : Ending) (n : Nat) (f : Nat → Nat) : Prop := ∃ g c, e = .returned (.slice (some ⟨g, 0, none⟩) n c) ∧ w'.ownsRow B 5 1 (.slice (some ⟨g, 0, none⟩) n c) n (bv n f)
theorem mkRoom (c : Nat) (hc : c ≤ 10000000) (w : World) : ∃ w', (Instr.makeSlice 41 (.int .i64 0) (.int .i64 (c : Int))).run Tryz.prog w = .ok (.slice (some ⟨w.heap.size, 0, none⟩) 0 c) w' ∧ w'.ownsRow w.heap.size 5 1 (.slice (some ⟨w.heap.size, 0, none⟩) 0 c) 0 [] ∧ Below w.heap.size w w' := by
  obtain ⟨i0, h1, h2, h3, h4⟩ := info_parts Tryz.info8
  obtain ⟨w', hr, ho, hg⟩ := run_make_own (P := Tryz.prog) w w.heap.size 41 5 i0 (.int .u8 0) 1 Tryz.underlying41 h1 h2 h3 .i64 .i64 c (by rw [h4]; omega) (by unfold maxLen; omega) (Nat.le_refl _)
  exact ⟨w', hr, ho, (Below.refl _ w).grown hg (Nat.le_refl _) (fun k hk => by cases hk)⟩
set_option maxRecDepth 100000 in
set_option maxHeartbeats 1000000 in
theorem appendNumber_any (B g k c x sz : Nat) (f : Nat → Nat) (hsz : sz ≤ 8) (hk : k ≤ 2000000) (w : World) (hB : B ≤ w.heap.size) (h : w.ownsRow B 5 1 (.slice (some ⟨g, 0, none⟩) k c) k (bv k f)) :
    Calls Tryz.prog 32 #[.slice (some ⟨g, 0, none⟩) k c, .int .i64 (x : Int), .int .i64 (sz : Int)] w fun e w' => RetO B w' e (k + sz) (numF k sz x f) ∧ Below B w w' := by
  obtain ⟨i0, hi⟩ := info_parts Tryz.info8
  have HI : Hid (Tryz.prog.info? 5 = some i0 ∧ i0.zero = some (.int .u8 0) ∧ i0.size = 1 ∧ i0.bytes = 1) := hi
  have HO0 : Hid (w.ownsRow B 5 1 (.slice (some ⟨g, 0, none⟩) k c) k (bv k f)) := h
  clear h hi
  go_enter Tryz.func32, Tryz.ntmps32
  go_wp2
  go_loopw [0, 7] (fun s i wr => ∃ r g c : Nat, r ≤ sz ∧ i = .int .i64 ((sz : Int) - 1 - (r : Int)) ∧ s = .slice (some ⟨g, 0, none⟩) (k + r) c ∧ wr.ownsRow B 5 1 (.slice (some ⟨g, 0, none⟩) (k + r) c) (k + r) (bv (k + r) (numF k sz x f)) ∧ Below B w wr) (fun _ i _ => (intOf i + 1).toNat)
  case atStart =>
    refine ⟨0, g, c, by omega, numEq8 (by omega), rfl, ?_, Below.refl _ _⟩
    have e : bv (k + 0) (numF k sz x f) = bv k f := bv_congr (fun i hi => by unfold numF; rw [if_pos (by omega)])
    rw [e]; exact HO0.out
  case round =>
    clear HO0
    obtain ⟨r, g, c, hr, rfl, rfl, hown, hb⟩ := hrel
    have HO : Hid (wr.ownsRow B 5 1 (.slice (some ⟨g, 0, none⟩) (k + r) c) (k + r) (bv (k + r) (numF k sz x f))) := hown
    have HB : Hid (Below B w wr) := hb
    clear hown hb
    by_cases hlt : r < sz
    · have x0 : (0 : Int) ≤ (sz : Int) - 1 - (r : Int) := by omega
      obtain ⟨s, hs⟩ : ∃ s, s = 8 * (sz - 1 - r) := ⟨_, rfl⟩
      have e8 : (8 : Int) * ((sz : Int) - 1 - (r : Int)) = (s : Int) := by omega
      have s0 : (0 : Int) ≤ (s : Int) := by omega
      have s1 : (s : Int) ≤ 64 := by omega
      have eX : (x : Int) / 2 ^ s = ((x / 2 ^ s : Nat) : Int) := by simp
      have HX : Hid (numF k sz x f (k + r) = x / 2 ^ s % 256) := by show numF _ _ _ _ _ = _; unfold numF; rw [if_neg (by omega), show k + r - k = r from by omega, hs]
      generalize x / 2 ^ s = y at *
      have eY : (y : Int) % 256 = ((y % 256 : Nat) : Int) := by omega
      generalize y % 256 = Y at *
      have hsz2 : B ≤ wr.heap.size := Nat.le_trans hB HB.out.size
      clear hs
      go_wp2_with (at_builtin; refine wpList_append_own _ rfl _ _ 41 rfl B 5 i0 (.int .u8 0) 1 1 Tryz.underlying41 HI.out.1 HI.out.2.1 HI.out.2.2.1 HI.out.2.2.2 rfl (by decide) (.slice (some ⟨g, 0, none⟩) (k + r) c) (k + r) _ rfl (HO.out.alloc _) ⟨wr.heap.size, 0, none⟩ 1 1 [.int .u8 (Y : Nat)] rfl rfl (one_new8 _ _ _) (one_one8 _) (by unfold maxLen; omega) (by omega) (by simp; omega) ?_)
      intro v' w2 hown' hgrow hnil
      have BG : Below B wr w2 := ((Below.refl B wr).alloc hsz2 _).grown hgrow (by simp; omega) (fun b hb => (HO.out.lt b hb).1)
      rw [bv_extN, bv_congr (g := numF k sz x f) (fun j hj => by by_cases e : j = k + r
                                                                 · rw [if_pos e, e]; exact HX.out.symm
                                                                 · rw [if_neg e])] at hown'
      obtain ⟨g2, c2, ⟨hg2, hc2⟩, rfl, -⟩ := own8_of_own hown' hnil
      have HO2 : Hid (w2.ownsRow B 5 1 (.slice (some ⟨g2, 0, none⟩) (k + r + 1) c2) (k + r + 1) (bv (k + r + 1) (numF k sz x f))) := hown'
      have HB2 : Hid (Below B w w2) := HB.out.trans BG
      have HK : Hid ((sz : Int) - 1 - (r : Int) - 1 = (sz : Int) - 1 - ((r + 1 : Nat) : Int)) := by show _ = _; omega
      clear hown' hgrow hnil HO HB BG
      go_wp2
      go_roundw
      case rel => exact ⟨r + 1, g2, c2, by omega, numEq8 HK.out, rfl, HO2.out, HB2.out⟩
      case measure => simp [intOf]; omega
    · have x0 : ¬ (0 : Int) ≤ (sz : Int) - 1 - (r : Int) := by omega
      obtain rfl : r = sz := by omega
      go_wp2
      go_ret
      exact ⟨⟨g, c, rfl, HO.out⟩, HB.out⟩
end Go.Proofs.YtiamaoihachhgaaGreatDoor
namespace Go.Proofs.YtiamaoihachhgaaGreatDoor
open Go.ChangeShapes Go.WideShapes Go.ChangeAt Go.RowKit
namespace Gf
def pows : Nat → Nat
 | 0 => 1
 | k + 1 => dbl (pows k)
theorem pows_lt (k : Nat) : pows k < 256 := by
 induction k with
 | zero => decide
 | succ k ih => exact dbl_lt _ ih
def kt (n : Nat) (L : Nat → Nat) (i r : Nat) : Nat :=
 if i % n = 0 then (if r = 0 then sub (L 1) ^^^ pows (i / n - 1) else sub (L ((r + 1) % 4))) else if n = 8 ∧ i % 8 = 4 then sub (L r) else L r
def ws (key : Nat → Nat) (n : Nat) : Nat → Nat → Nat
 | 0, j => if j < n * 4 then key j else 0
 | s + 1, j => if (n + s) * 4 ≤ j ∧ j < (n + s) * 4 + 4 then ws key n s (s * 4 + (j - (n + s) * 4)) ^^^ kt n (fun r => ws key n s ((n + s - 1) * 4 + r)) (n + s) (j - (n + s) * 4) else ws key n s j
theorem kt_lt {n : Nat} {L : Nat → Nat} (hL : ∀ r, r < 4 → L r < 256) (i r : Nat) (hr : r < 4) : kt n L i r < 256 := by
 unfold kt
 split
 ·split
  ·exact xor_lt (sub_lt _ (hL 1 (by omega))) (pows_lt _)
  ·exact sub_lt _ (hL _ (Nat.mod_lt _ (by omega)))
 ·split
  ·exact sub_lt _ (hL r hr)
  ·exact hL r hr
theorem ws_lt {key : Nat → Nat} {n : Nat} (hk : ∀ j, key j < 256) : ∀ s j, ws key n s j < 256 := by
 intro s
 induction s with
 | zero => intro j; unfold ws; split; exact hk j; omega
 | succ s ih =>
  intro j
  show (if (n + s) * 4 ≤ j ∧ j < (n + s) * 4 + 4 then _ else _) < 256
  split
  ·exact xor_lt (ih _) (kt_lt (fun r _ => ih _) _ _ (by omega))
  ·exact ih j
theorem ws_new {key : Nat → Nat} {n : Nat} (s r : Nat) (hr : r < 4) : ws key n (s + 1) ((n + s) * 4 + r) = ws key n s (s * 4 + r) ^^^ kt n (fun r => ws key n s ((n + s - 1) * 4 + r)) (n + s) r := by
 show (if (n + s) * 4 ≤ (n + s) * 4 + r ∧ (n + s) * 4 + r < (n + s) * 4 + 4 then _ else _) = _
 rw [if_pos (by omega), show (n + s) * 4 + r - (n + s) * 4 = r from by omega]
theorem ws_old {key : Nat → Nat} {n : Nat} (s j : Nat) (h : j < (n + s) * 4 ∨ (n + s) * 4 + 4 ≤ j) : ws key n (s + 1) j = ws key n s j := by
 show (if (n + s) * 4 ≤ j ∧ j < (n + s) * 4 + 4 then _ else _) = _
 rw [if_neg (by omega)]
end Gf
theorem four_cells {w : World} (x0 x1 x2 x3 : Value) (f : Nat → Value) (h0 : x0 = f 0) (h1 : x1 = f 1) (h2 : x2 = f 2) (h3 : x3 = f 3) (t : TypeId) : (w.alloc (.cells #[x0, x1, x2, x3] t)).rowIs w.heap.size t 4 f := by
 refine World.rowIs_alloc w #[x0, x1, x2, x3] t f (fun i hi => ?_)
 have hi' : i < 4 := hi
 rcases (show i = 0 ∨ i = 1 ∨ i = 2 ∨ i = 3 by omega) with rfl | rfl | rfl | rfl
 ·simp [h0]
 ·simp [h1]
 ·simp [h2]
 ·simp [h3]
set_option maxRecDepth 100000 in
set_option maxHeartbeats 4000000 in
theorem roundKeys_any (s : ByteArray) (n : Nat) (hn : n = 4 ∨ n = 8) (hs : s.size = n * 4) (w : World) :
  Calls Tryz.prog 192 #[.string s, .agg (bA 256 Gf.sub)] w fun e w' => e = .returned (.agg (bA 240 (Gf.ws (strB s) n (3 * n + 28)))) ∧ Below w.heap.size w w' := by
 have z1 := Tryz.zeroK
 have z2 := Tryz.zeroW
 have hs' : Hid (s.size = n * 4) := hs
 have hsz : s.size ≤ 32 := by omega
 clear hs
 have K0 : Hid (Row8 (((w.alloc (.cells (bA 256 Gf.sub) 241)).alloc (.cells (Array.replicate 240 (.int .u8 0)) 240)).alloc (.cells (Array.replicate 240 (.int .u8 0)) 265)) w.heap.size 241 256 Gf.sub) := ((Row8.boxedAt rfl _ _ _).alloc _).alloc _
 have K1 : Hid (Row8 (((w.alloc (.cells (bA 256 Gf.sub) 241)).alloc (.cells (Array.replicate 240 (.int .u8 0)) 240)).alloc (.cells (Array.replicate 240 (.int .u8 0)) 265)) (w.heap.size + 1) 240 240 (fun _ => 0)) := (Row8.zerosAt (by simp) _ _).alloc _
 have K2 : Hid (Row8 (((w.alloc (.cells (bA 256 Gf.sub) 241)).alloc (.cells (Array.replicate 240 (.int .u8 0)) 240)).alloc (.cells (Array.replicate 240 (.int .u8 0)) 265)) (w.heap.size + 1 + 1) 265 240 (fun _ => 0)) := Row8.zerosAt (by simp) _ _
 have K3 : Hid (Below w.heap.size w (((w.alloc (.cells (bA 256 Gf.sub) 241)).alloc (.cells (Array.replicate 240 (.int .u8 0)) 240)).alloc (.cells (Array.replicate 240 (.int .u8 0)) 265))) := (((Below.refl _ _).alloc (Nat.le_refl _) _).alloc (by simp) _).alloc (by simp; omega) _
 go_enter Tryz.func192, Tryz.ntmps192
 go_wp2
 generalize ((w.alloc (.cells (bA 256 Gf.sub) 241)).alloc (.cells (Array.replicate 240 (.int .u8 0)) 240)).alloc (.cells (Array.replicate 240 (.int .u8 0)) 265) = wz at *
 go_loopw [6, 14] (fun _ i wr => ∃ k : Nat, k ≤ s.size ∧ i = .int .i64 k ∧ Row8 wr w.heap.size 241 256 Gf.sub ∧ Row8 wr (w.heap.size + 1) 240 240 (fun _ => 0) ∧ Row8 wr (w.heap.size + 1 + 1) 265 240 (fun j => if j < k then strB s j else 0) ∧ Below w.heap.size w wr) (fun _ i _ => s.size - (intOf i).toNat)
 case atStart => exact ⟨0, by omega, rfl, K0.out, K1.out, K2.out.congr (fun j hj => by simp), K3.out⟩
 case round =>
  obtain ⟨k, hk, rfl, h0, h1, h2, hb⟩ := hrel
  have H0 : Hid (Row8 wr w.heap.size 241 256 Gf.sub) := h0
  have H1 : Hid (Row8 wr (w.heap.size + 1) 240 240 (fun _ => 0)) := h1
  have H2 : Hid (Row8 wr (w.heap.size + 1 + 1) 265 240 (fun j => if j < k then strB s j else 0)) := h2
  have HB : Hid (Below w.heap.size w wr) := hb
  by_cases hlt : k < s.size
  ·have c2 := World.rowIs.cell h2 (i := k) (by omega)
   have f2 := World.rowIs.frozen h2 k
   have es := strB_eq s k hlt
   have o0 : k / 4 * 4 + k % 4 = k := by omega
   have q1 : (k : Int) / 4 < 60 := by omega
   have q2 : (k : Int) % 4 < 4 := by omega
   clear h0 h1 h2 hb K0 K1 K2 K3
   go_wp2
   go_region
   go_wp2
   go_roundw
   case rel =>
    refine ⟨k + 1, by omega, by go_num, (H0.out.other (by show w.heap.size ≠ w.heap.size + 1 + 1; omega) _).drewN 1, (H1.out.other (by show w.heap.size + 1 ≠ w.heap.size + 1 + 1; omega) _).drewN 1, ?_, below_drewN (HB.out.setCell (by show w.heap.size ≤ w.heap.size + 1 + 1; omega) _) 1⟩
    exact ((H2.out.set k (strB s k)).congr (fun j hj => by
     by_cases e : j = k
     ·subst e; simp
     ·simp only [if_neg e]
      by_cases h1 : j < k
      ·rw [if_pos h1, if_pos (by omega)]
      ·rw [if_neg h1, if_neg (by omega)])).drewN 1
   case measure => simp [intOf]; omega
  ·have H2' : Hid (Row8 wr (w.heap.size + 1 + 1) 265 240 (Gf.ws (strB s) n 0)) := h2.congr (fun j hj => by
    show _ = if j < n * 4 then strB s j else 0
    have := hs'.out
    rw [show k = n * 4 from by omega])
   have hk' : ¬ (k : Int) < (s.size : Int) := by omega
   have hse := hs'.out
   have hse' : (s.size : Int) = (n * 4 : Nat) := by omega
   clear h0 h1 h2 hb K0 K1 K2 K3 H2
   have E4 : (s.size : Int) / 4 = n := by omega
   clear hse hse'
   generalize (k : Int) = kk at *
   go_wp2
   go_loopw [8, 9, 10] (fun p i _ wq => ∃ I : Nat, n ≤ I ∧ I ≤ 4 * n + 28 ∧ i = .int .i64 I ∧ p = .int .u8 (Gf.pows ((I - 1) / n) : Nat) ∧ Row8 wq w.heap.size 241 256 Gf.sub ∧ Row8 wq (w.heap.size + 1) 240 240 (fun _ => 0) ∧ Row8 wq (w.heap.size + 1 + 1) 265 240 (Gf.ws (strB s) n (I - n)) ∧ Below w.heap.size w wq) (fun _ i _ _ => 4 * n + 28 - (intOf i).toNat)
   case atStart =>
    refine ⟨n, Nat.le_refl _, by omega, rfl, ?_, H0.out, H1.out, by rw [Nat.sub_self]; exact H2'.out, HB.out⟩
    rw [Nat.div_eq_of_lt (by omega)]; rfl
   case round =>
    clear H0 H1 H2' HB
    obtain ⟨I, hI1, hI2, rfl, rfl, h0, h1, h2, hb⟩ := hrel
    have H0 : Hid (Row8 wr w.heap.size 241 256 Gf.sub) := h0
    have H1 : Hid (Row8 wr (w.heap.size + 1) 240 240 (fun _ => 0)) := h1
    have H2 : Hid (Row8 wr (w.heap.size + 1 + 1) 265 240 (Gf.ws (strB s) n (I - n))) := h2
    have HB : Hid (Below w.heap.size w wr) := hb
    by_cases hI : I < 4 * n + 28
    ·have lf : ∀ j, Gf.ws (strB s) n (I - n) j < 256 := Gf.ws_lt (strB_lt s) _
     have LF : Hid (∀ j, Gf.ws (strB s) n (I - n) j < 256) := lf
     have lp := Gf.pows_lt ((I - 1) / n)
     have F2 : Hid (∀ j, Gf.ws (strB s) n (I + 1 - n) j = if I * 4 ≤ j ∧ j < I * 4 + 4 then Gf.ws (strB s) n (I - n) ((I - n) * 4 + (j - I * 4)) ^^^ Gf.kt n (fun r => Gf.ws (strB s) n (I - n) ((I - 1) * 4 + r)) I (j - I * 4) else Gf.ws (strB s) n (I - n) j) := fun j => by
      have e : I + 1 - n = (I - n) + 1 := by omega
      have e2 : n + (I - n) = I := by omega
      rw [e]
      show (if (n + (I - n)) * 4 ≤ j ∧ j < (n + (I - n)) * 4 + 4 then _ else _) = _
      rw [e2]
     have P2 : Hid (I % n = 0 → Gf.pows ((I + 1 - 1) / n) = Gf.dbl (Gf.pows ((I - 1) / n))) := fun h => by
      have e : I / n = (I - 1) / n + 1 := by
       rcases hn with rfl | rfl <;> omega
      show Gf.pows (I / n) = _
      rw [e]; rfl
     have P3 : Hid (I % n ≠ 0 → Gf.pows ((I + 1 - 1) / n) = Gf.pows ((I - 1) / n)) := fun h => by
      have e : I / n = (I - 1) / n := by
       rcases hn with rfl | rfl <;> omega
      show Gf.pows (I / n) = _
      rw [e]
     have P4 : Hid (I % n = 0 → (I - 1) / n = I / n - 1) := fun h => by rcases hn with rfl | rfl <;> omega
     have hl2 := World.rowIs.lt h2
     have g0 := World.rowIs.cell h2 (i := (I - 1) * 4) (by omega)
     have g1 := World.rowIs.cell h2 (i := (I - 1) * 4 + 1) (by omega)
     have g2 := World.rowIs.cell h2 (i := (I - 1) * 4 + 2) (by omega)
     have g3 := World.rowIs.cell h2 (i := (I - 1) * 4 + 3) (by omega)
     have KT : Hid (∀ r, Gf.kt n (fun r => Gf.ws (strB s) n (I - n) ((I - 1) * 4 + r)) I r = Gf.kt n (fun r => Gf.ws (strB s) n (I - n) ((I - 1) * 4 + r)) I r) := fun _ => rfl
     clear h0 h1 h2 hb lf
     generalize Gf.ws (strB s) n (I - n) = f at *
     generalize hpw : Gf.pows ((I - 1) / n) = pw at *
     have HP : Hid (Gf.pows ((I - 1) / n) = pw) := hpw
     clear hpw
     by_cases hA : I % n = 0
     ·have em : ((I : Int).tmod (n : Int) == 0) = true := by rw [← Int.ofNat_tmod, hA]; rfl
      go_wp2_with (first
       | (refine wpList_load_mid rfl 241 (.tmp 3) rfl w.heap.size 0 rfl (bv 256 Gf.sub) _ (H0.out.alloc _).range Tryz.underlying241 rfl (by rw [bv_length]; exact Tryz.size256) ?_))
      refine (subWord_any (f ((I - 1) * 4 + 1)) (f ((I - 1) * 4 + 2)) (f ((I - 1) * 4 + 3)) (f ((I - 1) * 4)) (LF.out _) (LF.out _) (LF.out _) (LF.out _) _).mono ?_
      rintro e w1 ⟨rfl, hB⟩
      have rl := (four_cells (w := wr) (.int .u8 (f ((I - 1) * 4) : Nat)) (.int .u8 (f ((I - 1) * 4 + 1) : Nat)) (.int .u8 (f ((I - 1) * 4 + 2) : Nat)) (.int .u8 (f ((I - 1) * 4 + 3) : Nat)) (fun r => .int .u8 (f ((I - 1) * 4 + r) : Nat)) rfl rfl rfl rfl 264).of_block (hB.block _ (by simp))
      have R0 : Hid (Row8 w1 w.heap.size 241 256 Gf.sub) := (H0.out.alloc _).below hB
      have R1 : Hid (Row8 w1 (w.heap.size + 1) 240 240 (fun _ => 0)) := (H1.out.alloc _).below hB
      have R2 : Hid (Row8 w1 (w.heap.size + 1 + 1) 265 240 f) := (H2.out.alloc _).below hB
      have B1 : Hid (Below w.heap.size w w1) := (HB.out.alloc HB.out.size _).trans (hB.mono (by have := HB.out.size; simp; omega))
      have RL : Hid (w1.rowIs wr.heap.size 264 4 (fun r => .int .u8 (f ((I - 1) * 4 + r) : Nat))) := rl
      have k0 := rl.cell (i := 0) (by omega)
      have k1 := rl.cell (i := 1) (by omega)
      have k2 := rl.cell (i := 2) (by omega)
      have k3 := rl.cell (i := 3) (by omega)
      have q0 := rl.frozen 0
      have q1 := rl.frozen 1
      have q2 := rl.frozen 2
      have q3 := rl.frozen 3
      have s0 := Gf.sub_lt _ (LF.out ((I - 1) * 4 + 1))
      have ex0 : bits .xor .u8 (Gf.sub (f ((I - 1) * 4 + 1)) : Int) (pw : Int) = ((Gf.sub (f ((I - 1) * 4 + 1)) ^^^ pw : Nat) : Int) := u8_xor_nat _ _ s0 lp
      clear hB rl g0 g1 g2 g3 H0 H1 H2 HB
      go_wp2_with (go_at_call 204; refine (double_any pw lp _).mono ?_; rintro e w' ⟨rfl, rfl⟩)
      have W1 : ∀ {b : Nat}, b ≠ wr.heap.size → True := fun _ => trivial
      clear W1
      have lL : w.heap.size + 1 + 1 < wr.heap.size := hl2
      generalize hT : (fun r => Gf.kt n (fun r => f ((I - 1) * 4 + r)) I r) = T
      have LT : Hid (∀ r, r < 4 → T r < 256) := fun r hr => by rw [← hT]; exact Gf.kt_lt (fun _ _ => LF.out _) _ _ hr
      have ET : Hid (∀ r, r < 4 → T r = Gf.kt n (fun r => f ((I - 1) * 4 + r)) I r) := fun r _ => by rw [← hT]
      have PP := P4.out hA
      have VT : (Gf.sub (f ((I - 1) * 4 + 1)) ^^^ pw = T 0) ∧ Gf.sub (f ((I - 1) * 4 + 2)) = T 1 ∧ Gf.sub (f ((I - 1) * 4 + 3)) = T 2 ∧ Gf.sub (f ((I - 1) * 4)) = T 3 := by
       refine ⟨?_, ?_, ?_, ?_⟩
       ·rw [← hT]; show _ = Gf.kt n _ I 0; rw [Gf.kt, if_pos hA, if_pos rfl, ← PP, HP.out]
       ·rw [← hT]; show _ = Gf.kt n _ I 1; rw [Gf.kt, if_pos hA, if_neg (by omega)]
       ·rw [← hT]; show _ = Gf.kt n _ I 2; rw [Gf.kt, if_pos hA, if_neg (by omega)]
       ·rw [← hT]; show _ = Gf.kt n _ I 3; rw [Gf.kt, if_pos hA, if_neg (by omega)]; rfl
      clear hT
      obtain ⟨v0, v1, v2, v3⟩ := VT
      rw [v0, v1, v2, v3]
      generalize Gf.sub (f ((I - 1) * 4 + 1)) = S0 at *
      have NE : ∀ b, b ≤ w.heap.size + 1 + 1 → b ≠ wr.heap.size := fun b hb => by omega
      have R0' : Hid (Row8 (((((w1.setCell ⟨wr.heap.size, 0, none⟩ (.int .u8 (S0 : Nat))).setCell ⟨wr.heap.size, 1, none⟩ (.int .u8 (T 1 : Nat))).setCell ⟨wr.heap.size, 2, none⟩ (.int .u8 (T 2 : Nat))).setCell ⟨wr.heap.size, 3, none⟩ (.int .u8 (T 3 : Nat))).setCell ⟨wr.heap.size, 0, none⟩ (.int .u8 (T 0 : Nat))) w.heap.size 241 256 Gf.sub) := ((((R0.out.other (NE _ (by omega)) _).other (NE _ (by omega)) _).other (NE _ (by omega)) _).other (NE _ (by omega)) _).other (NE _ (by omega)) _
      have R1' : Hid (Row8 (((((w1.setCell ⟨wr.heap.size, 0, none⟩ (.int .u8 (S0 : Nat))).setCell ⟨wr.heap.size, 1, none⟩ (.int .u8 (T 1 : Nat))).setCell ⟨wr.heap.size, 2, none⟩ (.int .u8 (T 2 : Nat))).setCell ⟨wr.heap.size, 3, none⟩ (.int .u8 (T 3 : Nat))).setCell ⟨wr.heap.size, 0, none⟩ (.int .u8 (T 0 : Nat))) (w.heap.size + 1) 240 240 (fun _ => 0)) := ((((R1.out.other (NE _ (by omega)) _).other (NE _ (by omega)) _).other (NE _ (by omega)) _).other (NE _ (by omega)) _).other (NE _ (by omega)) _
      have R2' : Hid (Row8 (((((w1.setCell ⟨wr.heap.size, 0, none⟩ (.int .u8 (S0 : Nat))).setCell ⟨wr.heap.size, 1, none⟩ (.int .u8 (T 1 : Nat))).setCell ⟨wr.heap.size, 2, none⟩ (.int .u8 (T 2 : Nat))).setCell ⟨wr.heap.size, 3, none⟩ (.int .u8 (T 3 : Nat))).setCell ⟨wr.heap.size, 0, none⟩ (.int .u8 (T 0 : Nat))) (w.heap.size + 1 + 1) 265 240 f) := ((((R2.out.other (NE _ (by omega)) _).other (NE _ (by omega)) _).other (NE _ (by omega)) _).other (NE _ (by omega)) _).other (NE _ (by omega)) _
      have RL' : Hid ((((((w1.setCell ⟨wr.heap.size, 0, none⟩ (.int .u8 (S0 : Nat))).setCell ⟨wr.heap.size, 1, none⟩ (.int .u8 (T 1 : Nat))).setCell ⟨wr.heap.size, 2, none⟩ (.int .u8 (T 2 : Nat))).setCell ⟨wr.heap.size, 3, none⟩ (.int .u8 (T 3 : Nat))).setCell ⟨wr.heap.size, 0, none⟩ (.int .u8 (T 0 : Nat))).rowIs wr.heap.size 264 4 (fun r => .int .u8 (T r : Nat))) := (((((RL.out.set 0 _).set 1 _).set 2 _).set 3 _).set 0 _).congr (fun r hr => by
       rcases (show r = 0 ∨ r = 1 ∨ r = 2 ∨ r = 3 by omega) with rfl | rfl | rfl | rfl <;> simp)
      have B1' : Hid (Below w.heap.size w (((((w1.setCell ⟨wr.heap.size, 0, none⟩ (.int .u8 (S0 : Nat))).setCell ⟨wr.heap.size, 1, none⟩ (.int .u8 (T 1 : Nat))).setCell ⟨wr.heap.size, 2, none⟩ (.int .u8 (T 2 : Nat))).setCell ⟨wr.heap.size, 3, none⟩ (.int .u8 (T 3 : Nat))).setCell ⟨wr.heap.size, 0, none⟩ (.int .u8 (T 0 : Nat)))) := ((((B1.out.setCell (by show w.heap.size ≤ wr.heap.size; omega) _).setCell (by show w.heap.size ≤ wr.heap.size; omega) _).setCell (by show w.heap.size ≤ wr.heap.size; omega) _).setCell (by show w.heap.size ≤ wr.heap.size; omega) _).setCell (by show w.heap.size ≤ wr.heap.size; omega) _
      clear R0 R1 R2 RL B1 v0 v1 v2 v3 k0 k1 k2 k3 q0 q1 q2 q3 ex0 s0 NE PP em
      generalize ((((w1.setCell ⟨wr.heap.size, 0, none⟩ (.int .u8 (S0 : Nat))).setCell ⟨wr.heap.size, 1, none⟩ (.int .u8 (T 1 : Nat))).setCell ⟨wr.heap.size, 2, none⟩ (.int .u8 (T 2 : Nat))).setCell ⟨wr.heap.size, 3, none⟩ (.int .u8 (T 3 : Nat))).setCell ⟨wr.heap.size, 0, none⟩ (.int .u8 (T 0 : Nat)) = wq at *
      generalize wr.heap.size = L at *
      have R0 := R0'
      have R1 := R1'
      have R2 := R2'
      have RL := RL'
      have B1 := B1'
      clear R0' R1' R2' RL' B1'
      go_loopw [11, 74] (fun _ i wy => ∃ r : Nat, r ≤ 4 ∧ i = .int .i64 r ∧ Row8 wy w.heap.size 241 256 Gf.sub ∧ Row8 wy (w.heap.size + 1) 240 240 (fun _ => 0) ∧ Row8 wy (w.heap.size + 1 + 1) 265 240 (fun j => if I * 4 ≤ j ∧ j < I * 4 + r then f ((I - n) * 4 + (j - I * 4)) ^^^ T (j - I * 4) else f j) ∧ wy.rowIs L 264 4 (fun r => .int .u8 (T r : Nat)) ∧ Below w.heap.size w wy) (fun _ i _ => 4 - (intOf i).toNat)
      case atStart => exact ⟨0, by omega, rfl, R0.out, R1.out, R2.out.congr (fun j hj => by rw [if_neg (by omega)]), RL.out, B1.out⟩
      case round =>
       clear R0 R1 R2 RL B1
       obtain ⟨r, hr, rfl, h0, h1, h2, hl, hb⟩ := hrel
       have H0 : Hid (Row8 wr w.heap.size 241 256 Gf.sub) := h0
       have H1 : Hid (Row8 wr (w.heap.size + 1) 240 240 (fun _ => 0)) := h1
       have H2 : Hid (Row8 wr (w.heap.size + 1 + 1) 265 240 (fun j => if I * 4 ≤ j ∧ j < I * 4 + r then f ((I - n) * 4 + (j - I * 4)) ^^^ T (j - I * 4) else f j)) := h2
       have HL : Hid (wr.rowIs L 264 4 (fun r => .int .u8 (T r : Nat))) := hl
       have HB : Hid (Below w.heap.size w wr) := hb
       by_cases hr4 : r < 4
       ·have c1 := World.rowIs.cell h2 (i := (I - n) * 4 + r) (by omega)
        simp only [] at c1
        rw [if_neg (by omega)] at c1
        have c2 := hl.cell hr4
        have c3 := World.rowIs.cell h2 (i := I * 4 + r) (by omega)
        have f3 := World.rowIs.frozen h2 (I * 4 + r)
        have lt := LT.out r hr4
        have lff := LF.out ((I - n) * 4 + r)
        have ex : bits .xor .u8 (f ((I - n) * 4 + r) : Int) (T r : Int) = ((f ((I - n) * 4 + r) ^^^ T r : Nat) : Int) := u8_xor_nat _ _ lff lt
        have x1 : (I : Int) - (n : Int) < 60 := by omega
        have x2 : (I : Int) < 60 := by omega
        have x3 : (r : Int) < 4 := by omega
        clear h0 h1 h2 hl hb
        go_wp2
        go_region
        go_wp2
        go_roundw
        case rel =>
         refine ⟨r + 1, by omega, by go_num, (H0.out.other (by show w.heap.size ≠ w.heap.size + 1 + 1; omega) _).drewN 1, (H1.out.other (by show w.heap.size + 1 ≠ w.heap.size + 1 + 1; omega) _).drewN 1, ?_, HL.out.setOther (by show L ≠ w.heap.size + 1 + 1; omega) _, below_drewN (HB.out.setCell (by show w.heap.size ≤ w.heap.size + 1 + 1; omega) _) 1⟩
         exact ((H2.out.set (I * 4 + r) (f ((I - n) * 4 + r) ^^^ T r)).congr (fun j hj => by
          by_cases e : j = I * 4 + r
          ·rw [if_pos e, if_pos (by omega), show j - I * 4 = r from by omega]
          ·rw [if_neg e]
           by_cases h1 : I * 4 ≤ j ∧ j < I * 4 + r
           ·rw [if_pos h1, if_pos (by omega)]
           ·rw [if_neg h1, if_neg (by omega)])).drewN 1
        case measure => simp [intOf]; omega
       ·have R2' : Hid (Row8 wr (w.heap.size + 1 + 1) 265 240 (Gf.ws (strB s) n (I + 1 - n))) := h2.congr (fun j hj => by
         rw [F2.out j]
         by_cases h1 : I * 4 ≤ j ∧ j < I * 4 + 4
         ·rw [if_pos (by omega), if_pos h1, ET.out _ (by omega)]
         ·rw [if_neg (by omega), if_neg h1])
        have hr' : ¬ (r : Int) < 4 := by omega
        clear h0 h1 h2 hl hb H2 HL
        go_wp2
        go_roundw
        case rel => exact ⟨I + 1, by omega, by omega, by go_num, val_int (by rw [P2.out hA]), H0.out, H1.out, R2'.out, HB.out⟩
        case measure => simp [intOf]; omega
     ·have em : ((I : Int).tmod (n : Int) == 0) = false := by
       rw [← Int.ofNat_tmod, beq_eq_false_iff_ne]; omega
      have em' : ((I : Int) % (n : Int) == 0) = false := by
       rw [← Int.natCast_emod, beq_eq_false_iff_ne]; omega
      have lL : w.heap.size + 1 + 1 < wr.heap.size := hl2
      by_cases h8 : n = 8 ∧ I % 8 = 4
      ·have t1 : ((n : Int) == 8) = true := by rw [beq_iff_eq]; omega
       have t2 : ((I : Int) % 8 == 4) = true := by rw [beq_iff_eq]; omega
       have H8 : Hid (n = 8 ∧ I % 8 = 4) := h8
       clear h8
       go_wp2_with (first
        | (refine wpList_load_mid rfl 241 (.tmp 3) rfl w.heap.size 0 rfl (bv 256 Gf.sub) _ (H0.out.alloc _).range Tryz.underlying241 rfl (by rw [bv_length]; exact Tryz.size256) ?_))
       refine (subWord_any (f ((I - 1) * 4)) (f ((I - 1) * 4 + 1)) (f ((I - 1) * 4 + 2)) (f ((I - 1) * 4 + 3)) (LF.out _) (LF.out _) (LF.out _) (LF.out _) _).mono ?_
       rintro e w1 ⟨rfl, hB⟩
       have rl := (four_cells (w := wr) (.int .u8 (f ((I - 1) * 4) : Nat)) (.int .u8 (f ((I - 1) * 4 + 1) : Nat)) (.int .u8 (f ((I - 1) * 4 + 2) : Nat)) (.int .u8 (f ((I - 1) * 4 + 3) : Nat)) (fun r => .int .u8 (f ((I - 1) * 4 + r) : Nat)) rfl rfl rfl rfl 264).of_block (hB.block _ (by simp))
       have R0 : Hid (Row8 w1 w.heap.size 241 256 Gf.sub) := (H0.out.alloc _).below hB
       have R1 : Hid (Row8 w1 (w.heap.size + 1) 240 240 (fun _ => 0)) := (H1.out.alloc _).below hB
       have R2 : Hid (Row8 w1 (w.heap.size + 1 + 1) 265 240 f) := (H2.out.alloc _).below hB
       have B1 : Hid (Below w.heap.size w w1) := (HB.out.alloc HB.out.size _).trans (hB.mono (by have := HB.out.size; simp; omega))
       have RL : Hid (w1.rowIs wr.heap.size 264 4 (fun r => .int .u8 (f ((I - 1) * 4 + r) : Nat))) := rl
       have k0 := rl.cell (i := 0) (by omega)
       have k1 := rl.cell (i := 1) (by omega)
       have k2 := rl.cell (i := 2) (by omega)
       have k3 := rl.cell (i := 3) (by omega)
       have q0 := rl.frozen 0
       have q1 := rl.frozen 1
       have q2 := rl.frozen 2
       have q3 := rl.frozen 3
       clear hB rl g0 g1 g2 g3 H0 H1 H2 HB
       go_wp2_with fail
       generalize hT : (fun r => Gf.kt n (fun r => f ((I - 1) * 4 + r)) I r) = T
       have LT : Hid (∀ r, r < 4 → T r < 256) := fun r hr => by rw [← hT]; exact Gf.kt_lt (fun _ _ => LF.out _) _ _ hr
       have ET : Hid (∀ r, r < 4 → T r = Gf.kt n (fun r => f ((I - 1) * 4 + r)) I r) := fun r _ => by rw [← hT]
       have VT : Gf.sub (f ((I - 1) * 4)) = T 0 ∧ Gf.sub (f ((I - 1) * 4 + 1)) = T 1 ∧ Gf.sub (f ((I - 1) * 4 + 2)) = T 2 ∧ Gf.sub (f ((I - 1) * 4 + 3)) = T 3 := by
        refine ⟨?_, ?_, ?_, ?_⟩
        ·rw [← hT]; show _ = Gf.kt n _ I 0; rw [Gf.kt, if_neg hA, if_pos H8.out]; rfl
        ·rw [← hT]; show _ = Gf.kt n _ I 1; rw [Gf.kt, if_neg hA, if_pos H8.out]
        ·rw [← hT]; show _ = Gf.kt n _ I 2; rw [Gf.kt, if_neg hA, if_pos H8.out]
        ·rw [← hT]; show _ = Gf.kt n _ I 3; rw [Gf.kt, if_neg hA, if_pos H8.out]
       clear hT
       obtain ⟨v0, v1, v2, v3⟩ := VT
       rw [v0, v1, v2, v3]
       have NE : ∀ b, b ≤ w.heap.size + 1 + 1 → b ≠ wr.heap.size := fun b hb => by omega
       have R0' : Hid (Row8 ((((w1.setCell ⟨wr.heap.size, 0, none⟩ (.int .u8 (T 0 : Nat))).setCell ⟨wr.heap.size, 1, none⟩ (.int .u8 (T 1 : Nat))).setCell ⟨wr.heap.size, 2, none⟩ (.int .u8 (T 2 : Nat))).setCell ⟨wr.heap.size, 3, none⟩ (.int .u8 (T 3 : Nat))) w.heap.size 241 256 Gf.sub) := (((R0.out.other (NE _ (by omega)) _).other (NE _ (by omega)) _).other (NE _ (by omega)) _).other (NE _ (by omega)) _
       have R1' : Hid (Row8 ((((w1.setCell ⟨wr.heap.size, 0, none⟩ (.int .u8 (T 0 : Nat))).setCell ⟨wr.heap.size, 1, none⟩ (.int .u8 (T 1 : Nat))).setCell ⟨wr.heap.size, 2, none⟩ (.int .u8 (T 2 : Nat))).setCell ⟨wr.heap.size, 3, none⟩ (.int .u8 (T 3 : Nat))) (w.heap.size + 1) 240 240 (fun _ => 0)) := (((R1.out.other (NE _ (by omega)) _).other (NE _ (by omega)) _).other (NE _ (by omega)) _).other (NE _ (by omega)) _
       have R2' : Hid (Row8 ((((w1.setCell ⟨wr.heap.size, 0, none⟩ (.int .u8 (T 0 : Nat))).setCell ⟨wr.heap.size, 1, none⟩ (.int .u8 (T 1 : Nat))).setCell ⟨wr.heap.size, 2, none⟩ (.int .u8 (T 2 : Nat))).setCell ⟨wr.heap.size, 3, none⟩ (.int .u8 (T 3 : Nat))) (w.heap.size + 1 + 1) 265 240 f) := (((R2.out.other (NE _ (by omega)) _).other (NE _ (by omega)) _).other (NE _ (by omega)) _).other (NE _ (by omega)) _
       have RL' : Hid (((((w1.setCell ⟨wr.heap.size, 0, none⟩ (.int .u8 (T 0 : Nat))).setCell ⟨wr.heap.size, 1, none⟩ (.int .u8 (T 1 : Nat))).setCell ⟨wr.heap.size, 2, none⟩ (.int .u8 (T 2 : Nat))).setCell ⟨wr.heap.size, 3, none⟩ (.int .u8 (T 3 : Nat))).rowIs wr.heap.size 264 4 (fun r => .int .u8 (T r : Nat))) := ((((RL.out.set 0 _).set 1 _).set 2 _).set 3 _).congr (fun r hr => by
        rcases (show r = 0 ∨ r = 1 ∨ r = 2 ∨ r = 3 by omega) with rfl | rfl | rfl | rfl <;> simp)
       have B1' : Hid (Below w.heap.size w ((((w1.setCell ⟨wr.heap.size, 0, none⟩ (.int .u8 (T 0 : Nat))).setCell ⟨wr.heap.size, 1, none⟩ (.int .u8 (T 1 : Nat))).setCell ⟨wr.heap.size, 2, none⟩ (.int .u8 (T 2 : Nat))).setCell ⟨wr.heap.size, 3, none⟩ (.int .u8 (T 3 : Nat)))) := (((B1.out.setCell (by show w.heap.size ≤ wr.heap.size; omega) _).setCell (by show w.heap.size ≤ wr.heap.size; omega) _).setCell (by show w.heap.size ≤ wr.heap.size; omega) _).setCell (by show w.heap.size ≤ wr.heap.size; omega) _
       clear R0 R1 R2 RL B1 v0 v1 v2 v3 k0 k1 k2 k3 q0 q1 q2 q3 NE em em' t1 t2
       generalize ((((w1.setCell ⟨wr.heap.size, 0, none⟩ (.int .u8 (T 0 : Nat))).setCell ⟨wr.heap.size, 1, none⟩ (.int .u8 (T 1 : Nat))).setCell ⟨wr.heap.size, 2, none⟩ (.int .u8 (T 2 : Nat))).setCell ⟨wr.heap.size, 3, none⟩ (.int .u8 (T 3 : Nat))) = wq at *
       generalize wr.heap.size = L at *
       have R0 := R0'
       have R1 := R1'
       have R2 := R2'
       have RL := RL'
       have B1 := B1'
       clear R0' R1' R2' RL' B1'
       go_loopw [11, 74] (fun _ i wy => ∃ r : Nat, r ≤ 4 ∧ i = .int .i64 r ∧ Row8 wy w.heap.size 241 256 Gf.sub ∧ Row8 wy (w.heap.size + 1) 240 240 (fun _ => 0) ∧ Row8 wy (w.heap.size + 1 + 1) 265 240 (fun j => if I * 4 ≤ j ∧ j < I * 4 + r then f ((I - n) * 4 + (j - I * 4)) ^^^ T (j - I * 4) else f j) ∧ wy.rowIs L 264 4 (fun r => .int .u8 (T r : Nat)) ∧ Below w.heap.size w wy) (fun _ i _ => 4 - (intOf i).toNat)
       case atStart => exact ⟨0, by omega, rfl, R0.out, R1.out, R2.out.congr (fun j hj => by rw [if_neg (by omega)]), RL.out, B1.out⟩
       case round =>
        clear R0 R1 R2 RL B1
        obtain ⟨r, hr, rfl, h0, h1, h2, hl, hb⟩ := hrel
        have H0 : Hid (Row8 wr w.heap.size 241 256 Gf.sub) := h0
        have H1 : Hid (Row8 wr (w.heap.size + 1) 240 240 (fun _ => 0)) := h1
        have H2 : Hid (Row8 wr (w.heap.size + 1 + 1) 265 240 (fun j => if I * 4 ≤ j ∧ j < I * 4 + r then f ((I - n) * 4 + (j - I * 4)) ^^^ T (j - I * 4) else f j)) := h2
        have HL : Hid (wr.rowIs L 264 4 (fun r => .int .u8 (T r : Nat))) := hl
        have HB : Hid (Below w.heap.size w wr) := hb
        by_cases hr4 : r < 4
        ·have c1 := World.rowIs.cell h2 (i := (I - n) * 4 + r) (by omega)
         simp only [] at c1
         rw [if_neg (by omega)] at c1
         have c2 := hl.cell hr4
         have c3 := World.rowIs.cell h2 (i := I * 4 + r) (by omega)
         have f3 := World.rowIs.frozen h2 (I * 4 + r)
         have lt := LT.out r hr4
         have lff := LF.out ((I - n) * 4 + r)
         have ex : bits .xor .u8 (f ((I - n) * 4 + r) : Int) (T r : Int) = ((f ((I - n) * 4 + r) ^^^ T r : Nat) : Int) := u8_xor_nat _ _ lff lt
         have x1 : (I : Int) - (n : Int) < 60 := by omega
         have x2 : (I : Int) < 60 := by omega
         have x3 : (r : Int) < 4 := by omega
         clear h0 h1 h2 hl hb
         go_wp2
         go_region
         go_wp2
         go_roundw
         case rel =>
          refine ⟨r + 1, by omega, by go_num, (H0.out.other (by show w.heap.size ≠ w.heap.size + 1 + 1; omega) _).drewN 1, (H1.out.other (by show w.heap.size + 1 ≠ w.heap.size + 1 + 1; omega) _).drewN 1, ?_, HL.out.setOther (by show L ≠ w.heap.size + 1 + 1; omega) _, below_drewN (HB.out.setCell (by show w.heap.size ≤ w.heap.size + 1 + 1; omega) _) 1⟩
          exact ((H2.out.set (I * 4 + r) (f ((I - n) * 4 + r) ^^^ T r)).congr (fun j hj => by
           by_cases e : j = I * 4 + r
           ·rw [if_pos e, if_pos (by omega), show j - I * 4 = r from by omega]
           ·rw [if_neg e]
            by_cases h1 : I * 4 ≤ j ∧ j < I * 4 + r
            ·rw [if_pos h1, if_pos (by omega)]
            ·rw [if_neg h1, if_neg (by omega)])).drewN 1
         case measure => simp [intOf]; omega
        ·have R2' : Hid (Row8 wr (w.heap.size + 1 + 1) 265 240 (Gf.ws (strB s) n (I + 1 - n))) := h2.congr (fun j hj => by
          rw [F2.out j]
          by_cases h1 : I * 4 ≤ j ∧ j < I * 4 + 4
          ·rw [if_pos (by omega), if_pos h1, ET.out _ (by omega)]
          ·rw [if_neg (by omega), if_neg h1])
         have hr' : ¬ (r : Int) < 4 := by omega
         clear h0 h1 h2 hl hb H2 HL
         go_wp2
         go_roundw
         case rel => exact ⟨I + 1, by omega, by omega, by go_num, val_int (by rw [P3.out hA]), H0.out, H1.out, R2'.out, HB.out⟩
         case measure => simp [intOf]; omega
      ·have t3 : ((n : Int) == 8) = false ∨ ((n : Int) == 8) = true ∧ ((I : Int) % 8 == 4) = false := by
        by_cases e8 : n = 8
        ·refine .inr ⟨by rw [beq_iff_eq]; omega, ?_⟩
         rw [beq_eq_false_iff_ne]; intro h; exact h8 ⟨e8, by omega⟩
        ·exact .inl (by rw [beq_eq_false_iff_ne]; omega)
       have R0 : Hid (Row8 (wr.alloc (.cells #[.int .u8 (f ((I - 1) * 4) : Nat), .int .u8 (f ((I - 1) * 4 + 1) : Nat), .int .u8 (f ((I - 1) * 4 + 2) : Nat), .int .u8 (f ((I - 1) * 4 + 3) : Nat)] 264)) w.heap.size 241 256 Gf.sub) := H0.out.alloc _
       have R1 : Hid (Row8 (wr.alloc (.cells #[.int .u8 (f ((I - 1) * 4) : Nat), .int .u8 (f ((I - 1) * 4 + 1) : Nat), .int .u8 (f ((I - 1) * 4 + 2) : Nat), .int .u8 (f ((I - 1) * 4 + 3) : Nat)] 264)) (w.heap.size + 1) 240 240 (fun _ => 0)) := H1.out.alloc _
       have R2 : Hid (Row8 (wr.alloc (.cells #[.int .u8 (f ((I - 1) * 4) : Nat), .int .u8 (f ((I - 1) * 4 + 1) : Nat), .int .u8 (f ((I - 1) * 4 + 2) : Nat), .int .u8 (f ((I - 1) * 4 + 3) : Nat)] 264)) (w.heap.size + 1 + 1) 265 240 f) := H2.out.alloc _
       have B1 : Hid (Below w.heap.size w (wr.alloc (.cells #[.int .u8 (f ((I - 1) * 4) : Nat), .int .u8 (f ((I - 1) * 4 + 1) : Nat), .int .u8 (f ((I - 1) * 4 + 2) : Nat), .int .u8 (f ((I - 1) * 4 + 3) : Nat)] 264))) := HB.out.alloc HB.out.size _
       generalize hT : (fun r => Gf.kt n (fun r => f ((I - 1) * 4 + r)) I r) = T
       have LT : Hid (∀ r, r < 4 → T r < 256) := fun r hr => by rw [← hT]; exact Gf.kt_lt (fun _ _ => LF.out _) _ _ hr
       have ET : Hid (∀ r, r < 4 → T r = Gf.kt n (fun r => f ((I - 1) * 4 + r)) I r) := fun r _ => by rw [← hT]
       have RL : Hid ((wr.alloc (.cells #[.int .u8 (f ((I - 1) * 4) : Nat), .int .u8 (f ((I - 1) * 4 + 1) : Nat), .int .u8 (f ((I - 1) * 4 + 2) : Nat), .int .u8 (f ((I - 1) * 4 + 3) : Nat)] 264)).rowIs wr.heap.size 264 4 (fun r => .int .u8 (T r : Nat))) := by
        have VT : ∀ r, T r = f ((I - 1) * 4 + r) := fun r => by rw [← hT]; show Gf.kt n _ I r = _; rw [Gf.kt, if_neg hA, if_neg h8]
        exact (four_cells (w := wr) (.int .u8 (f ((I - 1) * 4) : Nat)) (.int .u8 (f ((I - 1) * 4 + 1) : Nat)) (.int .u8 (f ((I - 1) * 4 + 2) : Nat)) (.int .u8 (f ((I - 1) * 4 + 3) : Nat)) (fun r => .int .u8 (f ((I - 1) * 4 + r) : Nat)) rfl rfl rfl rfl 264).congr (fun r hr => by rw [VT r])
       clear hT H0 H1 H2 HB
       rcases t3 with t3 | ⟨t3, t4⟩
       all_goals
        go_wp2_with fail
        generalize (wr.alloc (.cells #[.int .u8 (f ((I - 1) * 4) : Nat), .int .u8 (f ((I - 1) * 4 + 1) : Nat), .int .u8 (f ((I - 1) * 4 + 2) : Nat), .int .u8 (f ((I - 1) * 4 + 3) : Nat)] 264)) = wq at *
        generalize wr.heap.size = L at *
        clear g0 g1 g2 g3 em em' t3
        try clear t4
        go_loopw [11, 74] (fun _ i wy => ∃ r : Nat, r ≤ 4 ∧ i = .int .i64 r ∧ Row8 wy w.heap.size 241 256 Gf.sub ∧ Row8 wy (w.heap.size + 1) 240 240 (fun _ => 0) ∧ Row8 wy (w.heap.size + 1 + 1) 265 240 (fun j => if I * 4 ≤ j ∧ j < I * 4 + r then f ((I - n) * 4 + (j - I * 4)) ^^^ T (j - I * 4) else f j) ∧ wy.rowIs L 264 4 (fun r => .int .u8 (T r : Nat)) ∧ Below w.heap.size w wy) (fun _ i _ => 4 - (intOf i).toNat)
        case atStart => exact ⟨0, by omega, rfl, R0.out, R1.out, R2.out.congr (fun j hj => by rw [if_neg (by omega)]), RL.out, B1.out⟩
        case round =>
         clear R0 R1 R2 RL B1
         obtain ⟨r, hr, rfl, h0, h1, h2, hl, hb⟩ := hrel
         have H0 : Hid (Row8 wr w.heap.size 241 256 Gf.sub) := h0
         have H1 : Hid (Row8 wr (w.heap.size + 1) 240 240 (fun _ => 0)) := h1
         have H2 : Hid (Row8 wr (w.heap.size + 1 + 1) 265 240 (fun j => if I * 4 ≤ j ∧ j < I * 4 + r then f ((I - n) * 4 + (j - I * 4)) ^^^ T (j - I * 4) else f j)) := h2
         have HL : Hid (wr.rowIs L 264 4 (fun r => .int .u8 (T r : Nat))) := hl
         have HB : Hid (Below w.heap.size w wr) := hb
         by_cases hr4 : r < 4
         ·have c1 := World.rowIs.cell h2 (i := (I - n) * 4 + r) (by omega)
          simp only [] at c1
          rw [if_neg (by omega)] at c1
          have c2 := hl.cell hr4
          have c3 := World.rowIs.cell h2 (i := I * 4 + r) (by omega)
          have f3 := World.rowIs.frozen h2 (I * 4 + r)
          have lt := LT.out r hr4
          have lff := LF.out ((I - n) * 4 + r)
          have ex : bits .xor .u8 (f ((I - n) * 4 + r) : Int) (T r : Int) = ((f ((I - n) * 4 + r) ^^^ T r : Nat) : Int) := u8_xor_nat _ _ lff lt
          have x1 : (I : Int) - (n : Int) < 60 := by omega
          have x2 : (I : Int) < 60 := by omega
          have x3 : (r : Int) < 4 := by omega
          clear h0 h1 h2 hl hb
          go_wp2
          go_region
          go_wp2
          go_roundw
          case rel =>
           refine ⟨r + 1, by omega, by go_num, (H0.out.other (by show w.heap.size ≠ w.heap.size + 1 + 1; omega) _).drewN 1, (H1.out.other (by show w.heap.size + 1 ≠ w.heap.size + 1 + 1; omega) _).drewN 1, ?_, HL.out.setOther (by show L ≠ w.heap.size + 1 + 1; omega) _, below_drewN (HB.out.setCell (by show w.heap.size ≤ w.heap.size + 1 + 1; omega) _) 1⟩
           exact ((H2.out.set (I * 4 + r) (f ((I - n) * 4 + r) ^^^ T r)).congr (fun j hj => by
            by_cases e : j = I * 4 + r
            ·rw [if_pos e, if_pos (by omega), show j - I * 4 = r from by omega]
            ·rw [if_neg e]
             by_cases h1 : I * 4 ≤ j ∧ j < I * 4 + r
             ·rw [if_pos h1, if_pos (by omega)]
             ·rw [if_neg h1, if_neg (by omega)])).drewN 1
          case measure => simp [intOf]; omega
         ·have R2' : Hid (Row8 wr (w.heap.size + 1 + 1) 265 240 (Gf.ws (strB s) n (I + 1 - n))) := h2.congr (fun j hj => by
           rw [F2.out j]
           by_cases h1 : I * 4 ≤ j ∧ j < I * 4 + 4
           ·rw [if_pos (by omega), if_pos h1, ET.out _ (by omega)]
           ·rw [if_neg (by omega), if_neg h1])
          have hr' : ¬ (r : Int) < 4 := by omega
          clear h0 h1 h2 hl hb H2 HL
          go_wp2
          go_roundw
          case rel => exact ⟨I + 1, by omega, by omega, by go_num, val_int (by rw [P3.out hA]), H0.out, H1.out, R2'.out, HB.out⟩
          case measure => simp [intOf]; omega
    ·have H2' : Hid (Row8 wr (w.heap.size + 1 + 1) 265 240 (Gf.ws (strB s) n (3 * n + 28))) := by
      have e : I - n = 3 * n + 28 := by omega
      rw [← e]; exact h2
     clear h0 h1 h2 hb H2
     have hI' : ¬ (I : Int) < 4 * ((n : Int) + 7) := by omega
     generalize hg : Gf.ws (strB s) n (3 * n + 28) = g at *
     have HG : Hid (Gf.ws (strB s) n (3 * n + 28) = g) := hg
     clear hg
     generalize Gf.pows ((I - 1) / n) = pw at *
     go_wp2_with (refine wpList_load_mid rfl 265 (.tmp 5) rfl (w.heap.size + 1 + 1) 0 rfl (bv 240 g) _ H2'.out.range Tryz.underlying265 rfl (by rw [bv_length]; exact Tryz.sizeW) ?_)
     refine (statesOf_any g _).mono ?_
     rintro e w1 ⟨rfl, hB⟩
     have R1 : Hid (Row8 w1 (w.heap.size + 1) 240 240 (fun _ => 0)) := H1.out.below hB
     have B1 : Hid (Below w.heap.size w w1) := HB.out.trans (hB.mono HB.out.size)
     clear hB
     go_wp2_with (refine wpList_store_mid rfl 240 (.tmp 4) (.tmp 94) rfl (w.heap.size + 1) 0 (bA 240 g) rfl rfl (by rw [bA_size]; exact R1.out.there) (by rw [bA_size]; exact Tryz.sizeK) (bA_one _ _) ?_)
     rw [bA_toList]
     have Lo : (loadVar 240 ⟨w.heap.size + 1, 0, none⟩).run Tryz.prog (w1.setCells (w.heap.size + 1) 0 (bv 240 g)) = .ok (.agg (bA 240 g)) (w1.setCells (w.heap.size + 1) 0 (bv 240 g)) := (R1.out.stored _).load Tryz.underlying240 rfl Tryz.sizeK
     have Bo : Below w.heap.size w (w1.setCells (w.heap.size + 1) 0 (bv 240 g)) := below_setCells (by omega) _ _ _ B1.out
     exact bodyPost_ret (v := .agg (bA 240 g)) (results_cell_one (b := w.heap.size + 1) (o := 0) Tryz.results192 _ _ _ rfl Lo) rfl ⟨by rw [HG.out], Bo⟩
end Go.Proofs.YtiamaoihachhgaaGreatDoor
namespace Go.Proofs.YtiamaoihachhgaaGreatDoor
open Go.ChangeShapes Go.WideShapes Go.ChangeAt Go.RowKit
namespace Gf
theorem kt_congr {n : Nat} {L L' : Nat → Nat} {i r : Nat} (hr : r < 4) (h : ∀ r, r < 4 → L r = L' r) : kt n L i r = kt n L' i r := by
 unfold kt
 rw [h 1 (by omega), h ((r + 1) % 4) (Nat.mod_lt _ (by omega)), h r hr]
theorem ws_stay {key : Nat → Nat} {n : Nat} (t : Nat) : ∀ d j, j < (n + t) * 4 → ws key n (t + d) j = ws key n t j := by
 intro d
 induction d with
 | zero => intro j _; rfl
 | succ d ih =>
  intro j hj
  rw [← Nat.add_assoc, ws_old _ _ (Or.inl (by omega)), ih j hj]
theorem ws_key {key : Nat → Nat} {n : Nat} (t j : Nat) (hj : j < n * 4) : ws key n t j = key j := by
 have := ws_stay (key := key) (n := n) 0 t j (by omega)
 rw [Nat.zero_add] at this
 rw [this]
 show (if j < n * 4 then key j else 0) = key j
 rw [if_pos hj]
theorem ws_rec {key : Nat → Nat} {n M : Nat} (hn : 1 ≤ n) (I r : Nat) (hI : n ≤ I) (hM : I < n + M) (hr : r < 4) :
  ws key n M (I * 4 + r) = ws key n M ((I - n) * 4 + r) ^^^ kt n (fun r => ws key n M ((I - 1) * 4 + r)) I r := by
 obtain ⟨t, rfl⟩ : ∃ t, I = n + t := ⟨I - n, by omega⟩
 obtain ⟨d, rfl⟩ : ∃ d, M = t + 1 + d := ⟨M - (t + 1), by omega⟩
 rw [ws_stay (t + 1) d _ (by omega), ws_new t r hr]
 have e1 : ws key n (t + 1 + d) ((n + t - n) * 4 + r) = ws key n t (t * 4 + r) := by
  rw [show n + t - n = t from by omega, show t + 1 + d = t + (1 + d) from by omega, ws_stay t (1 + d) _ (by omega)]
 rw [e1]
 congr 1
 refine kt_congr hr (fun r hr => ?_)
 show _ = ws key n (t + 1 + d) ((n + t - 1) * 4 + r)
 rw [show t + 1 + d = t + (1 + d) from by omega, ws_stay t (1 + d) _ (by omega)]
theorem mul_two : ∀ x, x < 256 → mul x 2 = dbl x := by decide +kernel
end Gf
end Go.Proofs.YtiamaoihachhgaaGreatDoor
namespace Go.Proofs.YtiamaoihachhgaaGreatDoor
open Go.ChangeShapes Go.WideShapes Go.ChangeAt Go.RowKit
theorem bv_text (s : ByteArray) (n : Nat) (h : s.size = n) : bv n (strB s) = s.data.toList.map (fun b => .int .u8 b.toNat) := by
 apply List.ext_getElem
 ·rw [bv_length]; simp [h]
 ·intro i h1 h2
  have hi : i < n := by rwa [bv_length] at h1
  have hi' : i < s.size := by omega
  have e := bv_at (n := n) (f := strB s) hi
  rw [List.getElem?_eq_getElem h1] at e
  rw [Option.some.inj e, List.getElem_map, ← ba_get s i hi']
  simp [strB, hi']
end Go.Proofs.YtiamaoihachhgaaGreatDoor
namespace Go.Proofs.YtiamaoihachhgaaGreatDoor
open Go.ChangeShapes Go.WideShapes Go.ChangeAt Go.RowKit
theorem run_copy_le {P : Program} (w : World) (dT sT ty elem : TypeId) (b o dLen dCap : Nat) (s : ByteArray) (cs : List Value)
  (hu : P.underlying dT = some (.slice elem)) (hs : (P.info? elem).map (·.size) = some 1) (hn : s.size ≤ dLen) (hcs : cs = s.data.toList.map (fun b => .int .u8 b.toNat))
  (hc : ∀ j, j < cs.length → (w.cell? ⟨b, o + j, none⟩).isSome = true) (hf : ∀ j, j < cs.length → w.frozen? ⟨b, o + j, none⟩ = false) :
  (Builtin.copy_ #[dT, sT] ty #[.slice (some ⟨b, o, none⟩) dLen dCap, .string s]).run P w = .ok (goInt cs.length) (w.setCells b o cs) := by
 have h1 : ∀ v ∈ cs, v.oneCell' = true := fun v hv => by
  rw [hcs] at hv
  obtain ⟨x, _, rfl⟩ := List.mem_map.1 hv
  rfl
 have hst := run_storeCells_cells (P := P) b o cs 0 w (by simpa using hc) (by simpa using hf) h1
 cases hq : P.info? elem with
 | none => simp [hq] at hs
 | some i =>
  have hl : s.data.toList.length = s.size := by simp
  have hcl : cs.length = s.size := by rw [hcs, List.length_map, hl]
  have hm : min s.size dLen = s.size := Nat.min_eq_left hn
  simp [Builtin.copy_, run_underlying hu, Builtin.lenOf, Builtin.firstCells, sizeOf, typeInfo, hq, hm]
  rw [← hcs, List.take_of_length_le (by omega), hst, hcl]
  rfl
set_option maxRecDepth 100000 in
set_option maxHeartbeats 1000000 in
theorem stateOf_le (s : ByteArray) (hs : s.size ≤ 16) (w : World) :
  Calls Tryz.prog 198 #[.string s] w fun e w' => e = .returned (.agg (bA 16 (strB s))) ∧ Below w.heap.size w w' := by
 have Z2 : Hid (Row8 ((w.alloc (.cells z16 239)).alloc (.cells z16 239)) (w.heap.size + 1) 239 16 (fun _ => 0)) := Row8.z16At (by simp) _
 have Z1 : Hid (Row8 ((w.alloc (.cells z16 239)).alloc (.cells z16 239)) w.heap.size 239 16 (fun _ => 0)) := (Row8.z16At rfl _).alloc _
 have B3 : Hid (Below w.heap.size w ((w.alloc (.cells z16 239)).alloc (.cells z16 239))) := ((Below.refl _ _).alloc (Nat.le_refl _) _).alloc (by simp) _
 have sz : (Tryz.prog.info? 5).map (·.size) = some 1 := by kernel_rfl
 have SZ : Hid ((Tryz.prog.info? 5).map (·.size) = some 1) := sz
 clear sz
 unfold z16 at Z2 Z1 B3
 go_enter Tryz.func198, Tryz.ntmps198
 go_upto_region 2 with fail
 generalize (w.alloc (.cells #[.int .u8 0, .int .u8 0, .int .u8 0, .int .u8 0, .int .u8 0, .int .u8 0, .int .u8 0, .int .u8 0, .int .u8 0, .int .u8 0, .int .u8 0, .int .u8 0, .int .u8 0, .int .u8 0, .int .u8 0, .int .u8 0] 239)).alloc (.cells #[.int .u8 0, .int .u8 0, .int .u8 0, .int .u8 0, .int .u8 0, .int .u8 0, .int .u8 0, .int .u8 0, .int .u8 0, .int .u8 0, .int .u8 0, .int .u8 0, .int .u8 0, .int .u8 0, .int .u8 0, .int .u8 0] 239) = wz at *
 have CP : ∀ ty c, (Builtin.copy_ #[41, 9] ty #[.slice (some ⟨w.heap.size + 1, 0, none⟩) 16 c, .string s]).run Tryz.prog wz = .ok (goInt s.size) (wz.setCells (w.heap.size + 1) 0 (bv s.size (strB s))) := fun ty c => by
  have h := run_copy_le (P := Tryz.prog) wz 41 9 ty 5 (w.heap.size + 1) 0 16 c s (bv s.size (strB s)) Tryz.underlying41 SZ.out hs (bv_text s s.size rfl) (fun j hj => by rw [bv_length] at hj; exact (Z2.out.there j (by omega)).1) (fun j hj => by rw [bv_length] at hj; exact (Z2.out.there j (by omega)).2)
  rw [bv_length] at h
  exact h
 have R2 : Hid (Row8 (wz.setCells (w.heap.size + 1) 0 (bv s.size (strB s))) (w.heap.size + 1) 239 16 (strB s)) := (rowIs_setCells (bv s.size (strB s)) 0 wz _ Z2.out).congr (fun i hi => by
  rw [bv_length]
  by_cases h : i < s.size
  ·rw [if_pos (by omega), Nat.sub_zero, List.getD_eq_getElem?_getD, bv_at h]; rfl
  ·rw [if_neg (by omega)]
   simp [strB, h])
 have R1 : Hid (Row8 (wz.setCells (w.heap.size + 1) 0 (bv s.size (strB s))) w.heap.size 239 16 (fun _ => 0)) := Z1.out.storedOther (by omega) _ _
 have B4 : Hid (Below w.heap.size w (wz.setCells (w.heap.size + 1) 0 (bv s.size (strB s)))) := below_setCells (by omega) _ _ _ B3.out
 generalize wz.setCells (w.heap.size + 1) 0 (bv s.size (strB s)) = wy at *
 clear Z1 Z2 B3
 go_upto_region 3 with fail
 clear CP
 generalize hG : strB s = G at *
 have HG : Hid (strB s = G) := hG
 clear hG
 refine wp_region_lit ?_
 refine wpList_load_mid rfl 239 (.tmp 3) rfl (w.heap.size + 1) 0 rfl (bv 16 G) _ R2.out.range Tryz.underlying239 rfl (by rw [bv_length]; exact Tryz.sizeSt) ?_
 refine wpList_store_mid rfl 239 (.tmp 2) (.tmp 7) rfl w.heap.size 0 (bA 16 G) rfl rfl (by rw [bA_size]; exact R1.out.there) (by rw [bA_size]; exact Tryz.sizeSt) (bA_one _ _) ?_
 rw [bA_toList]
 have L : Hid ((loadVar 239 ⟨w.heap.size, 0, none⟩).run Tryz.prog (wy.setCells (w.heap.size) 0 (bv 16 G)) = .ok (.agg (bA 16 G)) (wy.setCells (w.heap.size) 0 (bv 16 G))) := (R1.out.stored _).load Tryz.underlying239 rfl Tryz.sizeSt
 have B : Hid (Below w.heap.size w (wy.setCells (w.heap.size) 0 (bv 16 G))) := below_setCells (Nat.le_refl _) _ _ _ B4.out
 have eA : (bv 16 G).toArray = bA 16 G := rfl
 rw [eA]
 generalize wy.setCells (w.heap.size) 0 (bv 16 G) = wf at *
 generalize hA : bA 16 G = AA at *
 have HA : Hid (bA 16 G = AA) := hA
 clear hA eA
 go_wp2
 rw [HG.out, HA.out]
 exact bodyPost_ret (v := .agg AA) (results_cell_one (b := w.heap.size) (o := 0) Tryz.results198 _ _ _ rfl L.out) rfl ⟨rfl, B.out⟩
end Go.Proofs.YtiamaoihachhgaaGreatDoor
namespace Go.Proofs.YtiamaoihachhgaaGreatDoor
open Go.ChangeShapes Go.WideShapes Go.ChangeAt Go.RowKit
end Go.Proofs.YtiamaoihachhgaaGreatDoor
namespace Go.Proofs.YtiamaoihachhgaaGreatDoor
open Go.ChangeShapes Go.WideShapes Go.ChangeAt Go.RowKit
end Go.Proofs.YtiamaoihachhgaaGreatDoor
namespace Go.Proofs.YtiamaoihachhgaaGreatDoor.Gf
end Go.Proofs.YtiamaoihachhgaaGreatDoor.Gf
namespace Go.Proofs.YtiamaoihachhgaaGreatDoor.Gf
end Go.Proofs.YtiamaoihachhgaaGreatDoor.Gf
namespace Go.Proofs.YtiamaoihachhgaaGreatDoor
open Go.ChangeShapes Go.WideShapes Go.ChangeAt Go.RowKit
namespace Gf
end Gf
namespace Gf
end Gf
end Go.Proofs.YtiamaoihachhgaaGreatDoor
namespace Go.Proofs.YtiamaoihachhgaaGreatDoor
namespace Gf
end Gf
end Go.Proofs.YtiamaoihachhgaaGreatDoor
namespace Go.Proofs.YtiamaoihachhgaaGreatDoor
namespace Gf
def Same (f g : Nat → Nat) : Prop := ∀ j, j < 16 → f j = g j
theorem same_addK {f g : Nat → Nat} (h : Same f g) (k : Nat → Nat) : Same (addK f k) (addK g k) := fun j hj => by unfold addK; rw [h j hj]
theorem same_mixS {f g : Nat → Nat} (h : Same f g) : Same (mixS f) (mixS g) := fun j hj => by
 have m := Nat.mod_lt (j % 4 + 1) (show 0 < 4 by omega)
 unfold mixS mixAt
 rw [h (j / 4 * 4) (by omega), h (j / 4 * 4 + 1) (by omega), h (j / 4 * 4 + 2) (by omega), h (j / 4 * 4 + 3) (by omega), h (j / 4 * 4 + j % 4) (by omega), h (j / 4 * 4 + (j % 4 + 1) % 4) (by omega)]
end Gf
theorem kstr_same {f g : Nat → Nat} (h : Gf.Same f g) : kstr f 0 16 = kstr g 0 16 := kstr_congr (fun i hi => by rw [Nat.zero_add]; exact h i hi)
end Go.Proofs.YtiamaoihachhgaaGreatDoor
namespace Go.Proofs.YtiamaoihachhgaaGreatDoor
namespace Gf
theorem same_subTurn {f g : Nat → Nat} (h : Same f g) : Same (subTurn f) (subTurn g) := fun j _ => by unfold subTurn; rw [h _ (ord_lt j)]
theorem same_encTo {K f g : Nat → Nat} (h : Same f g) : ∀ i, Same (encTo K f i) (encTo K g i)
 | 0 => same_addK h _
 | i + 1 => same_addK (same_mixS (same_subTurn (same_encTo h i))) _
theorem same_enc {K f g : Nat → Nat} {R : Nat} (h : Same f g) : Same (enc K R f) (enc K R g) := same_addK (same_subTurn (same_encTo h _)) _
end Gf
def ctrBlk (N : Nat → Nat) (k j : Nat) : Nat := if j < 12 then N j else k / 256 ^ (15 - j) % 256
theorem ctrBlk_lt {N : Nat → Nat} (hN : ∀ j, N j < 256) (k j : Nat) : ctrBlk N k j < 256 := by
 unfold ctrBlk
 split
 ·exact hN j
 ·exact Nat.mod_lt _ (by omega)
def ctrK (K : Nat → Nat) (R : Nat) (N : Nat → Nat) (x : Nat) : Nat := Gf.enc K R (ctrBlk N (x / 16 + 1)) (x % 16)
def ctrF (K : Nat → Nat) (R : Nat) (N f : Nat → Nat) (x : Nat) : Nat := f x ^^^ ctrK K R N x
theorem ctrK_lt {K N : Nat → Nat} {R : Nat} (hK : ∀ j, K j < 256) (hN : ∀ j, N j < 256) (x : Nat) : ctrK K R N x < 256 := Gf.enc_lt hK (fun j _ => ctrBlk_lt hN _ j) _
theorem ctrF_lt {K N f : Nat → Nat} {R : Nat} (hK : ∀ j, K j < 256) (hN : ∀ j, N j < 256) (hf : ∀ j, f j < 256) (x : Nat) : ctrF K R N f x < 256 := Gf.xor_lt (hf x) (ctrK_lt hK hN x)
end Go.Proofs.YtiamaoihachhgaaGreatDoor
namespace Go.Proofs.YtiamaoihachhgaaGreatDoor
open Go.ChangeShapes Go.WideShapes Go.ChangeAt Go.RowKit
set_option maxRecDepth 100000 in
set_option maxHeartbeats 1000000 in
theorem appendNumber_nil (x sz : Nat) (hs0 : 0 < sz) (hsz : sz ≤ 8) (w : World) :
  Calls Tryz.prog 32 #[.slice none 0 0, .int .i64 (x : Int), .int .i64 (sz : Int)] w fun e w' => RetO w.heap.size w' e sz (numF 0 sz x (fun _ => 0)) ∧ Below w.heap.size w w' := by
 obtain ⟨B, hBe⟩ : ∃ B, B = w.heap.size := ⟨_, rfl⟩
 rw [← hBe]
 have hB : B ≤ w.heap.size := by omega
 clear hBe
 obtain ⟨i0, hi⟩ := info_parts Tryz.info8
 have HI : Hid (Tryz.prog.info? 5 = some i0 ∧ i0.zero = some (.int .u8 0) ∧ i0.size = 1 ∧ i0.bytes = 1) := hi
 clear hi
 go_enter Tryz.func32, Tryz.ntmps32
 go_wp2
 go_loopw [0, 7] (fun s i wr => ∃ (r : Nat) (v : Value), r ≤ sz ∧ i = .int .i64 ((sz : Int) - 1 - (r : Int)) ∧ s = v ∧ wr.ownsRow B 5 1 v r (bv r (numF 0 sz x (fun _ => 0))) ∧ (0 < r → ∃ g c, v = .slice (some ⟨g, 0, none⟩) r c) ∧ Below B w wr) (fun _ i _ => (intOf i + 1).toNat)
 case atStart => exact ⟨0, .slice none 0 0, by omega, numEq8 (by omega), rfl, ⟨rfl, .inl ⟨rfl, rfl⟩⟩, fun h => absurd h (by omega), Below.refl _ _⟩
 case round =>
  obtain ⟨r, v, hr, rfl, hsv, hown, hv, hb⟩ := hrel
  have hsv' := hsv.symm
  clear hsv
  subst hsv'
  have HO : Hid (wr.ownsRow B 5 1 v r (bv r (numF 0 sz x (fun _ => 0)))) := hown
  have HB : Hid (Below B w wr) := hb
  clear hown hb
  by_cases hlt : r < sz
  ·have x0 : (0 : Int) ≤ (sz : Int) - 1 - (r : Int) := by omega
   obtain ⟨s, hs⟩ : ∃ s, s = 8 * (sz - 1 - r) := ⟨_, rfl⟩
   have e8 : (8 : Int) * ((sz : Int) - 1 - (r : Int)) = (s : Int) := by omega
   have s0 : (0 : Int) ≤ (s : Int) := by omega
   have s1 : (s : Int) ≤ 64 := by omega
   have eX : (x : Int) / 2 ^ s = ((x / 2 ^ s : Nat) : Int) := by simp
   have HX : Hid (numF 0 sz x (fun _ => 0) (0 + r) = x / 2 ^ s % 256) := by show numF _ _ _ _ _ = _; unfold numF; rw [if_neg (by omega), show 0 + r - 0 = r from by omega, hs]
   have HX2 : Hid (numF 0 sz x (fun _ => 0) r = x / 2 ^ s % 256) := by have h := HX.out; rw [Nat.zero_add] at h; exact h
   generalize x / 2 ^ s = y at *
   have eY : (y : Int) % 256 = ((y % 256 : Nat) : Int) := by omega
   generalize y % 256 = Y at *
   have hsz2 : B ≤ wr.heap.size := Nat.le_trans hB HB.out.size
   clear hs
   go_wp2_with (at_builtin; refine wpList_append_own _ rfl _ _ 41 rfl B 5 i0 (.int .u8 0) 1 1 Tryz.underlying41 HI.out.1 HI.out.2.1 HI.out.2.2.1 HI.out.2.2.2 rfl (by decide) v r _ rfl (HO.out.alloc _) ⟨wr.heap.size, 0, none⟩ 1 1 [.int .u8 (Y : Nat)] rfl rfl (one_new8 _ _ _) (one_one8 _) (by unfold maxLen; omega) (by omega) (by simp; omega) ?_)
   intro v' w2 hown' hgrow hnil
   have BG : Below B wr w2 := ((Below.refl B wr).alloc hsz2 _).grown hgrow (by simp; omega) (fun b hb => (HO.out.lt b hb).1)
   have hcg : ∀ j, j < r + 1 → (if j = r then Y else numF 0 sz x (fun _ => 0) j) = numF 0 sz x (fun _ => 0) j := fun j hj => by
    by_cases e : j = r
    ·rw [if_pos e, e]; exact HX2.out.symm
    ·rw [if_neg e]
   rw [bv_extN, bv_congr hcg] at hown'
   obtain ⟨g2, c2, ⟨hg2, hc2⟩, rfl, -⟩ := own8_of_own hown' hnil
   have HO2 : Hid (w2.ownsRow B 5 1 (.slice (some ⟨g2, 0, none⟩) (r + 1) c2) (r + 1) (bv (r + 1) (numF 0 sz x (fun _ => 0)))) := hown'
   have HB2 : Hid (Below B w w2) := HB.out.trans BG
   have HK : Hid ((sz : Int) - 1 - (r : Int) - 1 = (sz : Int) - 1 - ((r + 1 : Nat) : Int)) := by show _ = _; omega
   clear hown' hgrow hnil HO HB BG
   go_wp2
   go_roundw
   case rel => exact ⟨r + 1, _, by omega, numEq8 HK.out, rfl, HO2.out, fun _ => ⟨g2, c2, rfl⟩, HB2.out⟩
   case measure => simp [intOf]; omega
  ·obtain ⟨g, c, rfl⟩ := hv (by omega)
   have x0 : ¬ (0 : Int) ≤ (sz : Int) - 1 - (r : Int) := by omega
   obtain rfl : r = sz := by omega
   go_wp2
   go_ret
   exact ⟨⟨g, c, rfl, HO.out⟩, HB.out⟩
end Go.Proofs.YtiamaoihachhgaaGreatDoor
