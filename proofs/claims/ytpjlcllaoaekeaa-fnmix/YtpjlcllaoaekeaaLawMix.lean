/-
  The walk of the law FnMix: over any two slices of bytes it returns true and writes nothing that was there.
-/
import Derived.Test.YtpjlcllaoaekeaaAt
import Derived.Test.YtpjlcllaoaekeaaMixSpec
import Derived.Test.YtpjlcllaoaekeaaMixMath
import Derived.Deep.AppendLies
import Derived.Deep.RegionHeldLaw
namespace Go.Proofs.Ytpjlcllaoaekeaa
open Go.ChangeShapes Go.WideShapes Go.ChangeAt Go.RowKit
/-- The first k numbers, as cells. -/
def ml (X : Nat → Nat) (k : Nat) : List Value := (List.range k).map fun j => Value.int .i64 ((X j : Nat) : Int)
def upd (X : Nat → Nat) (k v : Nat) : Nat → Nat := fun j => if j = k then v else X j
theorem ml_upd (X : Nat → Nat) (k v : Nat) : ml (upd X k v) (k + 1) = ml X k ++ [.int .i64 (v : Nat)] := by
  unfold ml
  rw [List.range_succ, List.map_append]
  congr 1
  · exact List.map_congr_left (fun j hj => by have := List.mem_range.1 hj; simp only [upd]; rw [if_neg (by omega)])
  · simp [upd]
theorem upd_lt {X : Nat → Nat} (h : ∀ j, X j < 256) {v : Nat} (hv : v < 256) (k : Nat) : ∀ j, upd X k v j < 256 := fun j => by unfold upd; split; exact hv; exact h j
theorem ml_get {X : Nat → Nat} {k i : Nat} (h : i < k) : (ml X k)[i]? = some (.int .i64 ((X i : Nat) : Int)) := by simp [ml, h]
theorem ml_sum (X Y : Nat → Nat) (k a c : Nat) : ml (fun j => upd X k a j ^^^ upd Y k c j) (k + 1) = ml (fun j => X j ^^^ Y j) k ++ [.int .i64 ((a ^^^ c : Nat) : Int)] := by
  unfold ml
  rw [List.range_succ, List.map_append]
  congr 1
  · exact List.map_congr_left (fun j hj => by have := List.mem_range.1 hj; simp only [upd]; rw [if_neg (by omega), if_neg (by omega)])
  · simp [upd]
theorem own_cell {w : World} {B g n c : Nat} {X : Nat → Nat} (h : w.ownsRow B 3 1 (.slice (some ⟨g, 0, none⟩) n c) n (ml X n)) {i : Nat} (hi : i < n) : w.cell? ⟨g, i, none⟩ = some (.int .i64 ((X i : Nat) : Int)) := by
  rw [h.cellAt i (by omega)]; exact ml_get hi
/-- The three lists that the law's first loop makes, in three rows of its own. -/
def Three (B : Nat) (w0 wr : World) (va vb vc : Value) (k : Nat) : Prop :=
  ∃ (X Y : Nat → Nat) (ga ca gb cb gc cc : Nat), (∀ j, X j < 256) ∧ (∀ j, Y j < 256) ∧ va = .slice (some ⟨ga, 0, none⟩) k ca ∧ vb = .slice (some ⟨gb, 0, none⟩) k cb ∧ vc = .slice (some ⟨gc, 0, none⟩) k cc ∧ ga ≠ gb ∧ ga ≠ gc ∧ gb ≠ gc ∧
    wr.ownsRow B 3 1 va k (ml X k) ∧ wr.ownsRow B 3 1 vb k (ml Y k) ∧ wr.ownsRow B 3 1 vc k (ml (fun j => X j ^^^ Y j) k) ∧ Below B w0 wr
theorem own_empty {w : World} {B g : Nat} (hB : B ≤ g) (h : w.heap[g]? = some (.cells #[] 3 (0, 0))) (X : Nat → Nat) : w.ownsRow B 3 1 (.slice (some ⟨g, 0, none⟩) 0 0) 0 (ml X 0) :=
  ⟨rfl, .inr ⟨g, 0, #[], rfl, hB, h, Nat.le_refl _, by simp [maxLen], rfl, rfl⟩⟩
namespace Gf
def Col.at (v : Col) : Nat → Nat
  | 0 => v.a
  | 1 => v.b
  | 2 => v.c
  | _ => v.d
def mixN : Nat → Col → Col
  | 0, v => v
  | n + 1, v => (mixN n v).mix
theorem mixN_ok (n : Nat) {v : Col} (h : v.ok) : (mixN n v).ok := by
  induction n with
  | zero => exact h
  | succ n ih => exact Col.mix_ok ih
theorem Col.at_lt {v : Col} (h : v.ok) (i : Nat) : v.at i < 256 := by
  unfold Col.at
  split
  · exact h.1
  · exact h.2.1
  · exact h.2.2.1
  · exact h.2.2.2
theorem Col.at_add (u v : Col) (i : Nat) : (u.add v).at i = u.at i ^^^ v.at i := by
  unfold Col.at Col.add
  split <;> rfl
end Gf
theorem four {i : Nat} (h : i < 4) : i = 0 ∨ i = 1 ∨ i = 2 ∨ i = 3 := by omega
theorem byte_of {x : Int} {n : Nat} (e : x = n) (h : n < 256) : IsB x := ⟨by omega, by omega⟩
theorem mix_col {f g : Nat → Int} {m : Nat} {code : Int} {V : Gf.Col} (hV : V.ok) (hf : ∀ i, i < 4 → f i = (V.at i : Nat)) (h : MixRes 4 f m g code) : m = 4 ∧ code = 0 ∧ ∀ i, i < 4 → g i = (V.mix.at i : Nat) := by
  have f0 := hf 0 (by omega); have f1 := hf 1 (by omega); have f2 := hf 2 (by omega); have f3 := hf 3 (by omega)
  rcases h with ⟨h, _⟩ | ⟨_, h, _⟩ | ⟨_, h, _⟩ | ⟨_, _, hm, hc, e0, e1, e2, e3⟩
  · omega
  · omega
  · exact absurd ⟨byte_of f0 (Gf.Col.at_lt hV 0), byte_of f1 (Gf.Col.at_lt hV 1), byte_of f2 (Gf.Col.at_lt hV 2), byte_of f3 (Gf.Col.at_lt hV 3)⟩ h
  · refine ⟨hm, hc, fun i hi => ?_⟩
    rw [toNat_of f0, toNat_of f1, toNat_of f2, toNat_of f3] at e0 e1 e2 e3
    rcases four hi with rfl | rfl | rfl | rfl
    · exact e0
    · exact e1
    · exact e2
    · exact e3
theorem implMix_col (a : Option Addr) (c : Nat) (V : Gf.Col) (hV : V.ok) (w : World) (h : Ints w a 4 (fun i => (V.at i : Nat))) :
    Calls Try.prog 14 #[.slice a 4 c] w fun e w' => (∃ p k, e = .returned (.tuple #[.slice p 4 k, .int .i64 0]) ∧ Ints w' p 4 (fun i => (V.mix.at i : Nat))) ∧ Below w.heap.size w w' := by
  refine (implMix_any a 4 c _ w h (by omega)).mono fun e w' ⟨⟨p, m, k, g, code, he, hr, ho⟩, hb⟩ => ?_
  obtain ⟨rfl, rfl, hg⟩ := mix_col hV (fun _ _ => rfl) hr
  exact ⟨⟨p, k, he, ho.ints.congr hg⟩, hb⟩
theorem specMix_col (a : Option Addr) (c : Nat) (V : Gf.Col) (hV : V.ok) (w : World) (h : Ints w a 4 (fun i => (V.at i : Nat))) :
    Calls Try.prog 15 #[.slice a 4 c] w fun e w' => (∃ p k, e = .returned (.tuple #[.slice p 4 k, .int .i64 0]) ∧ Ints w' p 4 (fun i => (V.mix.at i : Nat))) ∧ Below w.heap.size w w' := by
  refine (specMix_any a 4 c _ w h (by omega)).mono fun e w' ⟨⟨p, m, k, g, code, he, hr, ho⟩, hb⟩ => ?_
  obtain ⟨rfl, rfl, hg⟩ := mix_col hV (fun _ _ => rfl) hr
  exact ⟨⟨p, k, he, ho.congr hg⟩, hb⟩
theorem ints_own {w : World} {B g c : Nat} {X : Nat → Nat} {V : Gf.Col} (h : w.ownsRow B 3 1 (.slice (some ⟨g, 0, none⟩) 4 c) 4 (ml X 4)) (e : ∀ i, i < 4 → X i = V.at i) : Ints w (some ⟨g, 0, none⟩) 4 (fun i => (V.at i : Nat)) :=
  fun i hi => ⟨g, 0, rfl, by rw [Nat.zero_add, own_cell h hi, e i hi]⟩
theorem far2 {w w' : World} {o : Obj} {ga gb gc k : Nat} {x y : Value} (p1 : w.cell? ⟨ga, k, none⟩ = some x) (p2 : w.cell? ⟨gb, k, none⟩ = some y) (la : ga < w.heap.size) (lb : gb < w.heap.size) (da : ga ≠ gc) (db : gb ≠ gc) (hg : (w.alloc o).drew.grownBy w' (some gc)) :
    w'.cell? ⟨ga, k, none⟩ = some x ∧ w'.cell? ⟨gb, k, none⟩ = some y := by
  have B : Below w.heap.size w (w.alloc o).drew := ((Below.refl _ _).alloc (Nat.le_refl _) o).drew
  have sz : w.heap.size ≤ (w.alloc o).drew.heap.size := B.size
  constructor
  · rw [hg.cell_far ⟨ga, k, none⟩ (by show ga < _; omega) (fun e => da (Option.some.inj e)), B.cell la]; exact p1
  · rw [hg.cell_far ⟨gb, k, none⟩ (by show gb < _; omega) (fun e => db (Option.some.inj e)), B.cell lb]; exact p2
set_option maxRecDepth 100000 in
set_option maxHeartbeats 4000000 in
theorem law_mix (a0 a1 : Option Addr) (n0 c0 n1 c1 : Nat) (z0 z1 : List Int) (w : World) (h0 : IsRow .u8 w a0 n0 c0 z0) (h1 : IsRow .u8 w a1 n1 c1 z1) (m0 : n0 ≤ maxLen) (m1 : n1 ≤ maxLen) :
    Calls Try.prog 5 #[.slice a0 n0 c0, .slice a1 n1 c1] w fun e w' => e = .returned (.bool true) ∧ Below w.heap.size w w' := by
  have H0 : Hid (IsRow .u8 w a0 n0 c0 z0) := h0
  have H1 : Hid (IsRow .u8 w a1 n1 c1 z1) := h1
  clear h0 h1
  unfold maxLen at m0 m1
  by_cases g0 : 1048576 < n0
  · have g0' : decide (1048576 < (n0 : Int)) = true := decide_eq_true (by omega)
    go_enter Try.func5, Try.ntmps5
    go_wp2
    go_ret
    exact ⟨rfl, Below.refl _ _⟩
  have g0' : decide (1048576 < (n0 : Int)) = false := decide_eq_false (by omega)
  by_cases g1 : 1048576 < n1
  · have g1' : decide (1048576 < (n1 : Int)) = true := decide_eq_true (by omega)
    go_enter Try.func5, Try.ntmps5
    go_wp2
    go_ret
    exact ⟨rfl, Below.refl _ _⟩
  have g1' : decide (1048576 < (n1 : Int)) = false := decide_eq_false (by omega)
  obtain ⟨i0, hi, hz0, hz1, hz2⟩ := info_parts Try.infoI
  have HI : Hid (Try.prog.info? 3 = some i0 ∧ i0.zero = some (.int .i64 0) ∧ i0.size = 1 ∧ i0.bytes = 8) := ⟨hi, hz0, hz1, hz2⟩
  clear hi hz0 hz1 hz2
  have ST : Hid (Three w.heap.size w (((w.alloc (.cells #[] 3)).alloc (.cells #[] 3)).alloc (.cells #[] 3)) (.slice (some ⟨w.heap.size, 0, none⟩) 0 0) (.slice (some ⟨w.heap.size + 1, 0, none⟩) 0 0) (.slice (some ⟨w.heap.size + 1 + 1, 0, none⟩) 0 0) 0) := by
    refine ⟨fun _ => 0, fun _ => 0, w.heap.size, 0, w.heap.size + 1, 0, w.heap.size + 1 + 1, 0, fun _ => by show 0 < 256; omega, fun _ => by show 0 < 256; omega, rfl, rfl, rfl, by omega, by omega, by omega, own_empty (Nat.le_refl _) ?_ _, own_empty (by omega) ?_ _, own_empty (by omega) ?_ _, (((Below.refl _ _).alloc (Nat.le_refl _) _).alloc (by simp) _).alloc (by simp; omega) _⟩
    · rw [Deep.blk_alloc_lt _ _ _ (by simp; omega), Deep.blk_alloc_lt _ _ _ (by simp), Deep.blk_alloc_new]
    · rw [Deep.blk_alloc_lt _ _ _ (by simp)]
      have := Deep.blk_alloc_new (w.alloc (.cells #[] 3)) (.cells #[] 3)
      simpa using this
    · have := Deep.blk_alloc_new ((w.alloc (.cells #[] 3)).alloc (.cells #[] 3)) (.cells #[] 3)
      simpa using this
  go_enter Try.func5, Try.ntmps5
  go_wp2
  go_loopw [5, 6, 7, 8] (fun va vb vc i wr => ∃ k : Nat, k ≤ 4 ∧ i = .int .i64 k ∧ Three w.heap.size w wr va vb vc k) (fun _ _ _ i _ => 4 - (intOf i).toNat)
  case atStart => exact ⟨0, by omega, rfl, ST.out⟩
  case round =>
    clear ST
    obtain ⟨k, hk, rfl, X, Y, ga, ca, gb, cb, gc, cc, lX, lY, rfl, rfl, rfl, dab, dac, dbc, oa, ob, oc, hb⟩ := hrel
    by_cases hlt : k < 4
    · have LX : Hid (∀ j, X j < 256) := lX
      have LY : Hid (∀ j, Y j < 256) := lY
      have OA : Hid (wr.ownsRow w.heap.size 3 1 (.slice (some ⟨ga, 0, none⟩) k ca) k (ml X k)) := oa
      have OB : Hid (wr.ownsRow w.heap.size 3 1 (.slice (some ⟨gb, 0, none⟩) k cb) k (ml Y k)) := ob
      have OC : Hid (wr.ownsRow w.heap.size 3 1 (.slice (some ⟨gc, 0, none⟩) k cc) k (ml (fun j => X j ^^^ Y j) k)) := oc
      have HB : Hid (Below w.heap.size w wr) := hb
      have D : Hid (ga ≠ gb ∧ ga ≠ gc ∧ gb ≠ gc) := ⟨dab, dac, dbc⟩
      clear lX lY oa ob oc hb dab dac dbc
      go_wp2_with fail
      refine (at_any a0 n0 c0 z0 _ (H0.out.below HB.out) k 256 (by omega) (by omega) (by omega) (by omega)).mono ?_
      rintro e w1 ⟨⟨A, hA, rfl⟩, q1, rfl⟩
      have hsz := HB.out.size
      go_wp2_with (at_builtin; refine wpList_append_lies _ rfl _ _ 30 rfl w.heap.size 3 i0 (.int .i64 0) 1 8 Try.underlying30 HI.out.1 HI.out.2.1 HI.out.2.2.1 HI.out.2.2.2 rfl (by decide) (.slice (some ⟨ga, 0, none⟩) k ca) k _ rfl (by exact OA.out.alloc _) ⟨wr.heap.size, 0, none⟩ 1 1 [.int .i64 (A : Nat)] rfl rfl (by exact one_new (wr.drewN q1) _ _) (one_one _ rfl) (by omega) (by unfold maxLen; omega) (by omega) (by simp; omega) _ rfl ?_)
      intro ga' ca' w2 hown hgrow hat hlt2
      have ltb := (OB.out.lt gb rfl).2
      have ltc := (OC.out.lt gc rfl).2
      have OA2 : Hid (w2.ownsRow w.heap.size 3 1 (.slice (some ⟨ga', 0, none⟩) (k + 1) ca') (k + 1) (ml (upd X k A) (k + 1))) := by rw [ml_upd]; exact hown
      have OB2 : Hid (w2.ownsRow w.heap.size 3 1 (.slice (some ⟨gb, 0, none⟩) k cb) k (ml Y k)) := World.ownsRow.kept (w := (wr.drewN q1).alloc (.cells #[.int .i64 (A : Nat)] 3)) (by exact OB.out.alloc _) hgrow (.inr (fun e => D.out.1 (Option.some.inj e).symm))
      have OC2 : Hid (w2.ownsRow w.heap.size 3 1 (.slice (some ⟨gc, 0, none⟩) k cc) k (ml (fun j => X j ^^^ Y j) k)) := World.ownsRow.kept (w := (wr.drewN q1).alloc (.cells #[.int .i64 (A : Nat)] 3)) (by exact OC.out.alloc _) hgrow (.inr (fun e => D.out.2.1 (Option.some.inj e).symm))
      have HB2 : Hid (Below w.heap.size w w2) := ((below_drewN HB.out q1).alloc (by simpa using hsz) _).grown hgrow (by simp; omega) (fun b hb => by cases hb; exact (OA.out.lt ga rfl).1)
      have D2 : Hid (ga' ≠ gb ∧ ga' ≠ gc ∧ gb ≠ gc) := by
        have d := D.out
        rcases hat with e | e
        · have : ga = ga' := Option.some.inj e
          subst this; exact d
        · have e' : ga' = wr.heap.size + 1 := by simpa using e
          exact ⟨by omega, by omega, d.2.2⟩
      have hA' : A < 256 := by omega
      clear hown hgrow hat hlt2 ltb ltc hsz OA OB OC HB D
      go_wp2_with fail
      refine (at_any a1 n1 c1 z1 _ (H1.out.below HB2.out) k 256 (by omega) (by omega) (by omega) (by omega)).mono ?_
      rintro e w3 ⟨⟨C, hC, rfl⟩, q3, rfl⟩
      have hsz := HB2.out.size
      go_wp2_with (at_builtin; refine wpList_append_lies _ rfl _ _ 30 rfl w.heap.size 3 i0 (.int .i64 0) 1 8 Try.underlying30 HI.out.1 HI.out.2.1 HI.out.2.2.1 HI.out.2.2.2 rfl (by decide) (.slice (some ⟨gb, 0, none⟩) k cb) k _ rfl (by exact OB2.out.alloc _) ⟨w2.heap.size, 0, none⟩ 1 1 [.int .i64 (C : Nat)] rfl rfl (by exact one_new (w2.drewN q3) _ _) (one_one _ rfl) (by omega) (by unfold maxLen; omega) (by omega) (by simp; omega) _ rfl ?_)
      intro gb' cb' w4 hown hgrow hat hlt2
      have lta := (OA2.out.lt ga' rfl).2
      have ltc := (OC2.out.lt gc rfl).2
      have OB4 : Hid (w4.ownsRow w.heap.size 3 1 (.slice (some ⟨gb', 0, none⟩) (k + 1) cb') (k + 1) (ml (upd Y k C) (k + 1))) := by rw [ml_upd]; exact hown
      have OA4 : Hid (w4.ownsRow w.heap.size 3 1 (.slice (some ⟨ga', 0, none⟩) (k + 1) ca') (k + 1) (ml (upd X k A) (k + 1))) := World.ownsRow.kept (w := (w2.drewN q3).alloc (.cells #[.int .i64 (C : Nat)] 3)) (by exact OA2.out.alloc _) hgrow (.inr (fun e => D2.out.1 (Option.some.inj e)))
      have OC4 : Hid (w4.ownsRow w.heap.size 3 1 (.slice (some ⟨gc, 0, none⟩) k cc) k (ml (fun j => X j ^^^ Y j) k)) := World.ownsRow.kept (w := (w2.drewN q3).alloc (.cells #[.int .i64 (C : Nat)] 3)) (by exact OC2.out.alloc _) hgrow (.inr (fun e => D2.out.2.2 (Option.some.inj e).symm))
      have HB4 : Hid (Below w.heap.size w w4) := ((below_drewN HB2.out q3).alloc (by simpa using hsz) _).grown hgrow (by simp; omega) (fun b hb => by cases hb; exact (OB2.out.lt gb rfl).1)
      have D4 : Hid (ga' ≠ gb' ∧ ga' ≠ gc ∧ gb' ≠ gc) := by
        have d := D2.out
        rcases hat with e | e
        · have : gb = gb' := Option.some.inj e
          subst this; exact d
        · have e' : gb' = w2.heap.size + 1 := by simpa using e
          exact ⟨by omega, d.2.1, by omega⟩
      have hC' : C < 256 := by omega
      clear hown hgrow hat hlt2 lta ltc hsz OA2 OB2 OC2 HB2 D2
      have p1 : w4.cell? ⟨ga', k, none⟩ = some (.int .i64 (A : Nat)) := by rw [own_cell OA4.out (by omega)]; simp [upd]
      have p2 : w4.cell? ⟨gb', k, none⟩ = some (.int .i64 (C : Nat)) := by rw [own_cell OB4.out (by omega)]; simp [upd]
      have lta := (OA4.out.lt ga' rfl).2
      have ltb := (OB4.out.lt gb' rfl).2
      have hkk : (k : Int) < ((k + 1 : Nat) : Int) := by omega
      have ex : bits .xor .i64 (A : Int) (C : Int) = ((A ^^^ C : Nat) : Int) := i64_xor_nat A C (by omega) (by omega)
      have hsz := HB4.out.size
      go_wp2
      go_region_held_law (fun w' => w'.cell? ⟨ga', k, none⟩ = some (.int .i64 (A : Nat)) ∧ w'.cell? ⟨gb', k, none⟩ = some (.int .i64 (C : Nat))) (first | assumption | (simp [go_sem, World.cell?_alloc_past, *]))
        ((refine step_append_lies _ rfl (.tmp 48) (.tmp 58) 30 rfl w.heap.size 3 i0 (.int .i64 0) 1 8 Try.underlying30 HI.out.1 HI.out.2.1 HI.out.2.2.1 HI.out.2.2.2 rfl (by decide) (.slice (some ⟨gc, 0, none⟩) k cc) k _ rfl (by exact OC4.out.alloc _) ⟨w4.heap.size, 0, none⟩ 1 1 [.int .i64 (A ^^^ C : Nat)] rfl rfl (by exact one_new w4 _ _) (one_one _ rfl) (by omega) (by unfold maxLen; omega) (by omega) (by simp; omega) (w4.heap.size + 1) (by simp) ?_; intro gc' cc' w5 hown hgrow hat hlt2; have s1 : w5.cell? ⟨ga', k, none⟩ = some (.int .i64 (A : Nat)) ∧ w5.cell? ⟨gb', k, none⟩ = some (.int .i64 (C : Nat)) := far2 p1 p2 lta ltb D4.out.2.1 D4.out.2.2 hgrow))
      all_goals
        have lX' := upd_lt LX.out hA' k
        have lY' := upd_lt LY.out hC' k
        have OC5 : w5.ownsRow w.heap.size 3 1 (.slice (some ⟨gc', 0, none⟩) (k + 1) cc') (k + 1) (ml (fun j => upd X k A j ^^^ upd Y k C j) (k + 1)) := by rw [ml_sum]; exact hown
        have OA5 : w5.ownsRow w.heap.size 3 1 (.slice (some ⟨ga', 0, none⟩) (k + 1) ca') (k + 1) (ml (upd X k A) (k + 1)) := World.ownsRow.kept (w := (w4.alloc (.cells #[.int .i64 ((A ^^^ C : Nat) : Int)] 3)).drew) (by exact OA4.out.alloc _) hgrow (.inr (fun e => D4.out.2.1 (Option.some.inj e)))
        have OB5 : w5.ownsRow w.heap.size 3 1 (.slice (some ⟨gb', 0, none⟩) (k + 1) cb') (k + 1) (ml (upd Y k C) (k + 1)) := World.ownsRow.kept (w := (w4.alloc (.cells #[.int .i64 ((A ^^^ C : Nat) : Int)] 3)).drew) (by exact OB4.out.alloc _) hgrow (.inr (fun e => D4.out.2.2 (Option.some.inj e)))
        have HB5 : Below w.heap.size w w5 := ((HB4.out.alloc hsz _).drew).grown hgrow (by simp; omega) (fun b hb => by cases hb; exact (OC4.out.lt gc rfl).1)
        have D5 : ga' ≠ gb' ∧ ga' ≠ gc' ∧ gb' ≠ gc' := by
          have d := D4.out
          rcases hat with e | e
          · have : gc = gc' := Option.some.inj e
            subst this; exact d
          · exact ⟨d.1, by omega, by omega⟩
        have TT : Hid (Three w.heap.size w w5 (.slice (some ⟨ga', 0, none⟩) (k + 1) ca') (.slice (some ⟨gb', 0, none⟩) (k + 1) cb') (.slice (some ⟨gc', 0, none⟩) (k + 1) cc') (k + 1)) := ⟨_, _, ga', ca', gb', cb', gc', cc', lX', lY', rfl, rfl, rfl, D5.1, D5.2.1, D5.2.2, OA5, OB5, OC5, HB5⟩
        clear lX' lY' OC5 OA5 OB5 HB5 D5 hown hgrow hat hlt2 s1 p1 p2 OA4 OB4 OC4 HB4 D4 lta ltb hsz ex
        go_wp2
        go_roundw
        case rel => exact ⟨k + 1, by omega, by go_num, TT.out⟩
        case measure => simp [intOf]; omega
    · obtain rfl : k = 4 := by omega
      have uV : ∀ i, i < 4 → X i = (⟨X 0, X 1, X 2, X 3⟩ : Gf.Col).at i := fun i hi => by rcases four hi with rfl | rfl | rfl | rfl <;> rfl
      have uW : ∀ i, i < 4 → Y i = (⟨Y 0, Y 1, Y 2, Y 3⟩ : Gf.Col).at i := fun i hi => by rcases four hi with rfl | rfl | rfl | rfl <;> rfl
      have kV : (⟨X 0, X 1, X 2, X 3⟩ : Gf.Col).ok := ⟨lX 0, lX 1, lX 2, lX 3⟩
      have kW : (⟨Y 0, Y 1, Y 2, Y 3⟩ : Gf.Col).ok := ⟨lY 0, lY 1, lY 2, lY 3⟩
      have IA := ints_own oa uV
      have IB := ints_own ob uW
      have IC := ints_own (V := (⟨X 0, X 1, X 2, X 3⟩ : Gf.Col).add ⟨Y 0, Y 1, Y 2, Y 3⟩) oc (fun i hi => by rw [Gf.Col.at_add, ← uV i hi, ← uW i hi])
      clear uV uW oa ob oc lX lY
      generalize (⟨X 0, X 1, X 2, X 3⟩ : Gf.Col) = U at *
      generalize (⟨Y 0, Y 1, Y 2, Y 3⟩ : Gf.Col) = V at *
      have IA0 : Hid (Ints wr (some ⟨ga, 0, none⟩) 4 (fun i => (U.at i : Nat))) := IA
      have IB0 : Hid (Ints wr (some ⟨gb, 0, none⟩) 4 (fun i => (V.at i : Nat))) := IB
      have IC0 : Hid (Ints wr (some ⟨gc, 0, none⟩) 4 (fun i => ((U.add V).at i : Nat))) := IC
      have HB : Hid (Below w.heap.size w wr) := hb
      have KU : Hid U.ok := kV
      have KV : Hid V.ok := kW
      clear IA IB IC hb kV kW dab dac dbc
      go_wp2_with fail
      refine (implMix_col _ ca U KU.out _ IA0.out).mono ?_; rintro e w1 ⟨⟨px, kx, rfl, hI⟩, b1⟩
      have X1 : Hid (Ints w1 px 4 (fun i => (U.mix.at i : Nat))) := hI
      have IA1 : Hid (Ints w1 (some ⟨ga, 0, none⟩) 4 (fun i => (U.at i : Nat))) := IA0.out.below b1
      have IB1 : Hid (Ints w1 (some ⟨gb, 0, none⟩) 4 (fun i => (V.at i : Nat))) := IB0.out.below b1
      have IC1 : Hid (Ints w1 (some ⟨gc, 0, none⟩) 4 (fun i => ((U.add V).at i : Nat))) := IC0.out.below b1
      have HB1 : Hid (Below w.heap.size w w1) := HB.out.trans (b1.mono HB.out.size)
      clear hI b1 IA0 IB0 IC0 HB
      go_wp2_with fail
      refine (implMix_col _ cb V KV.out _ IB1.out).mono ?_; rintro e w2 ⟨⟨py, ky, rfl, hI⟩, b2⟩
      have Y2 : Hid (Ints w2 py 4 (fun i => (V.mix.at i : Nat))) := hI
      have X2 : Hid (Ints w2 px 4 (fun i => (U.mix.at i : Nat))) := X1.out.below b2
      have IA2 : Hid (Ints w2 (some ⟨ga, 0, none⟩) 4 (fun i => (U.at i : Nat))) := IA1.out.below b2
      have IC2 : Hid (Ints w2 (some ⟨gc, 0, none⟩) 4 (fun i => ((U.add V).at i : Nat))) := IC1.out.below b2
      have HB2 : Hid (Below w.heap.size w w2) := HB1.out.trans (b2.mono HB1.out.size)
      clear hI b2 IA1 IB1 IC1 HB1 X1
      go_wp2_with fail
      refine (implMix_col _ cc (U.add V) (Gf.Col.add_ok KU.out KV.out) _ IC2.out).mono ?_; rintro e w3 ⟨⟨pz, kz, rfl, hI⟩, b3⟩
      have Z3 : Hid (Ints w3 pz 4 (fun i => ((U.mix.at i ^^^ V.mix.at i : Nat) : Int))) := hI.congr (fun i hi => by rw [Gf.Col.mix_add KU.out KV.out, Gf.Col.at_add])
      have Y3 : Hid (Ints w3 py 4 (fun i => (V.mix.at i : Nat))) := Y2.out.below b3
      have X3 : Hid (Ints w3 px 4 (fun i => (U.mix.at i : Nat))) := X2.out.below b3
      have IA3 : Hid (Ints w3 (some ⟨ga, 0, none⟩) 4 (fun i => (U.at i : Nat))) := IA2.out.below b3
      have HB3 : Hid (Below w.heap.size w w3) := HB2.out.trans (b3.mono HB2.out.size)
      clear hI b3 IA2 IC2 HB2 X2 Y2
      go_wp2_with fail
      refine (specMix_col _ ca U KU.out _ IA3.out).mono ?_; rintro e w4 ⟨⟨pw, kw, rfl, hI⟩, b4⟩
      have W4 : Hid (Ints w4 pw 4 (fun i => (U.mix.at i : Nat))) := hI
      have Z4 : Hid (Ints w4 pz 4 (fun i => ((U.mix.at i ^^^ V.mix.at i : Nat) : Int))) := Z3.out.below b4
      have Y4 : Hid (Ints w4 py 4 (fun i => (V.mix.at i : Nat))) := Y3.out.below b4
      have X4 : Hid (Ints w4 px 4 (fun i => (U.mix.at i : Nat))) := X3.out.below b4
      have IA4 : Hid (Ints w4 (some ⟨ga, 0, none⟩) 4 (fun i => (U.at i : Nat))) := IA3.out.below b4
      have HB4 : Hid (Below w.heap.size w w4) := HB3.out.trans (b4.mono HB3.out.size)
      clear hI b4 IA3 HB3 X3 Y3 Z3
      go_wp2_with fail
      refine (sameInts_yes px pw 4 kx kw _ _ _ X4.out W4.out (fun _ _ => rfl) (by omega)).mono ?_; rintro e w5 ⟨rfl, q5, rfl⟩
      go_wp2_with fail
      have Z5 : Hid (Ints (w4.drewN q5) pz 4 (fun i => ((U.mix.at i ^^^ V.mix.at i : Nat) : Int))) := Z4.out.drewN q5
      have Y5 : Hid (Ints (w4.drewN q5) py 4 (fun i => (V.mix.at i : Nat))) := Y4.out.drewN q5
      have X5 : Hid (Ints (w4.drewN q5) px 4 (fun i => (U.mix.at i : Nat))) := X4.out.drewN q5
      have IA5 : Hid (Ints (w4.drewN q5) (some ⟨ga, 0, none⟩) 4 (fun i => (U.at i : Nat))) := IA4.out.drewN q5
      have HB5 : Hid (Below w.heap.size w (w4.drewN q5)) := below_drewN HB4.out q5
      clear Z4 Y4 X4 IA4 HB4 W4
      generalize w4.drewN q5 = wz at *
      obtain ⟨bx, ox, rfl, cx⟩ := X5.out.opened (by omega)
      obtain ⟨by_, oy, rfl, cy⟩ := Y5.out.opened (by omega)
      obtain ⟨bz, oz, rfl, cz⟩ := Z5.out.opened (by omega)
      have CX : Hid (∀ i, i < 4 → wz.cell? ⟨bx, ox + i, none⟩ = some (.int .i64 (U.mix.at i : Nat))) := cx
      have CY : Hid (∀ i, i < 4 → wz.cell? ⟨by_, oy + i, none⟩ = some (.int .i64 (V.mix.at i : Nat))) := cy
      have CZ : Hid (∀ i, i < 4 → wz.cell? ⟨bz, oz + i, none⟩ = some (.int .i64 ((U.mix.at i ^^^ V.mix.at i : Nat) : Int))) := cz
      clear cx cy cz
      go_loopw [17] (fun i wq => ∃ j : Nat, j ≤ 4 ∧ i = .int .i64 j ∧ ∃ q, wq = wz.drewN q) (fun i _ => 4 - (intOf i).toNat)
      case atStart => exact ⟨0, by omega, rfl, 0, rfl⟩
      case round =>
        obtain ⟨j, hj, rfl, q, rfl⟩ := hrel
        by_cases hj4 : j < 4
        · have d1 := CX.out j hj4
          have d2 := CY.out j hj4
          have d3 := CZ.out j hj4
          have l1 := Gf.Col.at_lt (Gf.Col.mix_ok KU.out) j
          have l2 := Gf.Col.at_lt (Gf.Col.mix_ok KV.out) j
          have hj' : (j : Int) < 4 := by omega
          have ex : bits .xor .i64 (U.mix.at j : Int) (V.mix.at j : Int) = ((U.mix.at j ^^^ V.mix.at j : Nat) : Int) := i64_xor_nat _ _ (by omega) (by omega)
          generalize U.mix.at j = P at *
          generalize V.mix.at j = R at *
          have es : (((P ^^^ R : Nat) : Int) != ((P ^^^ R : Nat) : Int)) = false := by simp
          generalize P ^^^ R = S at *
          rw [← World.cell?_drewN (n := q)] at d1 d2 d3
          generalize hwq : wz.drewN q = wq at *
          have HW : Hid (wz.drewN q = wq) := hwq
          clear hwq
          go_wp2
          go_quiet (fail)
          go_wp2
          go_roundw
          case rel => exact ⟨j + 1, by omega, by go_num, q + nq, by rw [← HW.out]; exact World.drewN_drewN _ _ _⟩
          case measure => simp [intOf]; omega
        · have hj' : ¬ (j : Int) < 4 := by omega
          have X6 : Hid (Ints (wz.drewN q) (some ⟨bx, ox, none⟩) 4 (fun i => ((Gf.mixN 1 U).at i : Nat))) := X5.out.drewN q
          have IA6 : Hid (Ints (wz.drewN q) (some ⟨ga, 0, none⟩) 4 (fun i => (U.at i : Nat))) := IA5.out.drewN q
          have HB6 : Hid (Below w.heap.size w (wz.drewN q)) := below_drewN HB5.out q
          clear X5 Y5 Z5 IA5 HB5 CX CY CZ
          generalize wz.drewN q = wy at *
          generalize (j : Int) = jj at *
          go_wp2
          go_loopw [9, 18, 19, 20] (fun x i _ _ wq => ∃ (n : Nat) (p : Option Addr) (c : Nat), n ≤ 3 ∧ i = .int .i64 n ∧ x = .slice p 4 c ∧ Ints wq p 4 (fun i => ((Gf.mixN (n + 1) U).at i : Nat)) ∧ Ints wq (some ⟨ga, 0, none⟩) 4 (fun i => (U.at i : Nat)) ∧ Below w.heap.size w wq) (fun _ i _ _ _ => 3 - (intOf i).toNat)
          case atStart => exact ⟨0, _, _, by omega, rfl, rfl, X6.out, IA6.out, HB6.out⟩
          case round =>
            obtain ⟨n, p, c, hn, rfl, rfl, hx, ha, hb⟩ := hrel
            have HX : Hid (Ints wr p 4 (fun i => ((Gf.mixN (n + 1) U).at i : Nat))) := hx
            have HA : Hid (Ints wr (some ⟨ga, 0, none⟩) 4 (fun i => (U.at i : Nat))) := ha
            have HBB : Hid (Below w.heap.size w wr) := hb
            clear hx ha hb X6 IA6 HB6
            by_cases hn3 : n < 3
            · go_wp2_with fail
              refine (implMix_col p c (Gf.mixN (n + 1) U) (Gf.mixN_ok _ KU.out) _ HX.out).mono ?_; rintro e w8 ⟨⟨p8, k8, rfl, hI⟩, b8⟩
              have X8 : Hid (Ints w8 p8 4 (fun i => ((Gf.mixN (n + 1 + 1) U).at i : Nat))) := hI
              have A8 : Hid (Ints w8 (some ⟨ga, 0, none⟩) 4 (fun i => (U.at i : Nat))) := HA.out.below b8
              have B8 : Hid (Below w.heap.size w w8) := HBB.out.trans (b8.mono HBB.out.size)
              clear hI b8
              go_wp2
              go_roundw
              case rel => exact ⟨n + 1, p8, k8, by omega, by go_num, rfl, X8.out, A8.out, B8.out⟩
              case measure => simp [intOf]; omega
            · have e4 : Hid (∀ i, i < 4 → (((Gf.mixN (n + 1) U).at i : Nat) : Int) = (U.at i : Nat)) := fun i hi => by
                rw [show n = 3 from by omega]
                show (((U.mix.mix.mix.mix).at i : Nat) : Int) = _
                rw [Gf.mix4 U KU.out]
              go_wp2_with fail
              refine (sameInts_yes p _ 4 c ca _ _ _ HX.out HA.out e4.out (by omega)).mono ?_; rintro e w9 ⟨rfl, q9, rfl⟩
              go_wp2
              go_ret
              exact ⟨rfl, below_drewN HBB.out q9⟩
end Go.Proofs.Ytpjlcllaoaekeaa
