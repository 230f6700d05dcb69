/-
  Contracts of the mixing of a column in the model (l01Mix, MixColumn).
-/
import Derived.Test.YtbhlgcenfanicaaMix
import Derived.Test.YtbhlgcenfanicaaGfLaws
import Derived.OwnWalk
import Derived.Laws.OwnMore
namespace Go.Proofs.Ytbhlgcenfanicaa
open Go.ChangeShapes Go.WideShapes Go.ChangeAt Go.RowKit
namespace Gf
/-- A column times a row of factors that is turned by i: after q of them, and whole. -/
def mpart (X F : Nat → Nat) (i : Nat) : Nat → Nat
  | 0 => 0
  | q + 1 => mpart X F i q ^^^ mul (X q) (F ((q + 4 - i) % 4))
def mrow (X F : Nat → Nat) (i : Nat) : Nat := mpart X F i 4
theorem mpart_lt (X F : Nat → Nat) (i q : Nat) (lX : ∀ i, i < 4 → X i < 256) (hq : q ≤ 4) : mpart X F i q < 256 := by
  induction q with
  | zero => simp [mpart]
  | succ q ih => exact xor_lt (ih (by omega)) (mul_lt _ _ (lX q (by omega)))
end Gf
theorem Ints.drewN {w : World} {a : Option Addr} {n : Nat} {f : Nat → Int} (h : Ints w a n f) (q : Nat) : Ints (w.drewN q) a n f := fun i hi => by
  obtain ⟨b, off, ha, hc⟩ := h i hi
  exact ⟨b, off, ha, by rw [World.cell?_drewN]; exact hc⟩
theorem ownsRow_drewN {w : World} {base : Nat} {e : TypeId} {size : Nat} {v : Value} {n : Nat} {xs : List Value} (h : w.ownsRow base e size v n xs) (q : Nat) : (w.drewN q).ownsRow base e size v n xs := h
/-- A slice of ints that is owned, as one that is read. -/
theorem ints_of_owned {w : World} {base : Nat} {v : Value} {n : Nat} {g : Nat → Int} (h : w.ownsRow base 3 1 v n ((List.range n).map fun j => Value.int .i64 (g j))) :
    ∃ p c, v = .slice p n c ∧ Ints w p n g := by
  obtain ⟨hl, ⟨rfl, rfl⟩ | ⟨gb, cap, cur, rfl, hb, hh, hn, hm, hs, ht⟩⟩ := h
  · exact ⟨none, 0, rfl, fun i hi => absurd hi (by omega)⟩
  · refine ⟨_, cap, rfl, fun i hi => ⟨gb, 0, rfl, ?_⟩⟩
    have h1 : (cur.toList.take (n * 1))[i]? = some (Value.int .i64 (g i)) := by rw [ht]; simp [hi]
    rw [List.getElem?_take, if_pos (by omega)] at h1
    simp only [World.cell?, hh, Nat.zero_add]
    simpa using h1
/-- What 'append' of one element reads: the element in a new block of its own. -/
theorem one_new (w : World) (v : Value) (t : TypeId) : ∀ j u, [v][j]? = some u → (w.alloc (.cells #[v] t)).cell? ((⟨w.heap.size, 0, none⟩ : Addr).add j) = some u := fun j u hj => by
  match j, hj with
  | 0, hj =>
    have e : v = u := by simpa using hj
    subst e
    simp [Addr.add]
theorem one_one (v : Value) (h : v.oneCell' = true) : ∀ u ∈ [v], u.oneCell' = true := fun u hu => by
  rw [List.mem_singleton] at hu; rw [hu]; exact h
set_option maxRecDepth 100000 in
set_option maxHeartbeats 4000000 in
/-- spec.l01Mix -/
theorem l01Mix_any (pa pb : Option Addr) (ca cb : Nat) (X F : Nat → Nat) (w : World) (hX : Ints w pa 4 (fun i => (X i : Nat))) (hF : Ints w pb 4 (fun i => (F i : Nat))) (lX : ∀ i, i < 4 → X i < 256) (lF : ∀ i, i < 4 → F i < 256) :
    Calls Try.prog 85 #[.slice pa 4 ca, .slice pb 4 cb] w fun e w' => (∃ p c, e = .returned (.slice p 4 c) ∧ Ints w' p 4 (fun i => (Gf.mrow X F i : Nat))) ∧ Below w.heap.size w w' := by
  obtain ⟨b1, o1, rfl, hc⟩ := hX.opened (by omega)
  obtain ⟨b2, o2, rfl, hd⟩ := hF.opened (by omega)
  have HC : Hid (∀ i, i < 4 → w.cell? ⟨b1, o1 + i, none⟩ = some (.int .i64 (X i : Nat))) := hc
  have HD : Hid (∀ i, i < 4 → w.cell? ⟨b2, o2 + i, none⟩ = some (.int .i64 (F i : Nat))) := hd
  have LX : Hid (∀ i, i < 4 → X i < 256) := lX
  have LF : Hid (∀ i, i < 4 → F i < 256) := lF
  clear hX hF hc hd lX lF
  obtain ⟨i0, hi, hz0, hz1, hz2⟩ := info_parts Try.infoI
  have HI : Hid (Try.prog.info? 3 = some i0 ∧ i0.zero = some (.int .i64 0) ∧ i0.size = 1 ∧ i0.bytes = 8) := ⟨hi, hz0, hz1, hz2⟩
  clear hi hz0 hz1 hz2
  go_enter Try.func85, Try.ntmps85
  go_wp2
  go_loopw [5, 6] (fun v i wr => ∃ k : Nat, k ≤ 4 ∧ i = .int .i64 k ∧ wr.ownsRow w.heap.size 3 1 v k ((List.range k).map fun j => Value.int .i64 (Gf.mrow X F j : Nat)) ∧ Below w.heap.size w wr) (fun _ i _ => 4 - (intOf i).toNat)
  case atStart =>
    refine ⟨0, by omega, rfl, ?_, (Below.refl _ _).alloc (Nat.le_refl _) _⟩
    exact ⟨rfl, .inr ⟨w.heap.size, 0, #[], rfl, Nat.le_refl _, Deep.blk_alloc_new _ _, Nat.le_refl _, by simp [maxLen], rfl, rfl⟩⟩
  case round =>
    obtain ⟨k, hk, rfl, hown, hb⟩ := hrel
    have HO : Hid (wr.ownsRow w.heap.size 3 1 u5 k ((List.range k).map fun j => Value.int .i64 (Gf.mrow X F j : Nat))) := hown
    have HB : Hid (Below w.heap.size w wr) := hb
    clear hown hb
    by_cases hlt : k < 4
    · go_wp2
      go_loopw [7, 8] (fun n j wq => ∃ q : Nat, q ≤ 4 ∧ j = .int .i64 q ∧ n = .int .i64 (Gf.mpart X F k q : Nat) ∧ ∃ r, wq = wr.drewN r) (fun _ j _ => 4 - (intOf j).toNat)
      case atStart => exact ⟨0, by omega, rfl, rfl, 0, rfl⟩
      case round =>
        obtain ⟨q, hq, rfl, rfl, r, rfl⟩ := hrel
        by_cases hq4 : q < 4
        · have lq := Gf.mpart_lt X F k q LX.out hq
          have E : Hid (Gf.mpart X F k (q + 1) = Gf.mpart X F k q ^^^ Gf.mul (X q) (F ((q + 4 - k) % 4))) := rfl
          have hm : (q + 4 - k) % 4 < 4 := Nat.mod_lt _ (by omega)
          have c1 : wr.cell? ⟨b1, o1 + q, none⟩ = some (.int .i64 (X q : Nat)) := by rw [HB.out.cell (cellBlock (HC.out q hq4))]; exact HC.out q hq4
          have c2 : wr.cell? ⟨b2, o2 + (q + 4 - k) % 4, none⟩ = some (.int .i64 (F ((q + 4 - k) % 4) : Nat)) := by rw [HB.out.cell (cellBlock (HD.out _ hm))]; exact HD.out _ hm
          have lx := LX.out q hq4
          have lf := LF.out _ hm
          have lm := Gf.mul_lt (X q) (F ((q + 4 - k) % 4)) lx
          have ew1 : IntKind.i64.wrap ((q : Int) - (k : Int)) = (q : Int) - (k : Int) := IntWalk.i64_in _ ⟨by omega, by omega⟩
          have ew2 : IntKind.i64.wrap ((q : Int) - (k : Int) + 4) = ((q + 4 - k : Nat) : Int) := by
            rw [show (q : Int) - (k : Int) + 4 = ((q + 4 - k : Nat) : Int) from by omega]
            exact IntWalk.i64_in _ ⟨by omega, by omega⟩
          have et : ((q + 4 - k : Nat) : Int).tmod 4 = (((q + 4 - k) % 4 : Nat) : Int) := (Int.ofNat_tmod (q + 4 - k) 4).symm
          have hm' : (((q + 4 - k) % 4 : Nat) : Int) < 4 := by omega
          have hq' : (q : Int) < 4 := by omega
          rw [← World.cell?_drewN (n := r)] at c1 c2
          generalize hwq : wr.drewN r = wq at *
          have HW : Hid (wr.drewN r = wq) := hwq
          clear hwq
          generalize (q + 4 - k) % 4 = M at *
          generalize q + 4 - k = N at *
          generalize Gf.mpart X F k q = V at *
          generalize X q = Y at *
          generalize F M = Z at *
          go_wp2
          go_quiet ((go_at_call 64; exact Calls.quiet_of_same (mul_any Y Z lx lf _)))
          go_wp2
          go_roundw
          case rel => exact ⟨q + 1, by omega, by go_num, val_int (by rw [E.out]; exact i64_xor_nat V _ (by omega) (by omega)), r + nq, by rw [← HW.out]; exact World.drewN_drewN _ _ _⟩
          case measure => simp [intOf]; omega
        · have E : Hid (Gf.mpart X F k q = Gf.mrow X F k) := by
            have : q = 4 := by omega
            rw [this]; rfl
          have HO' : Hid ((wr.drewN r).ownsRow w.heap.size 3 1 u5 k ((List.range k).map fun j => Value.int .i64 (Gf.mrow X F j : Nat))) := ownsRow_drewN HO.out r
          have HB' : Hid (Below w.heap.size w (wr.drewN r)) := below_drewN HB.out r
          have hq4' : ¬ (q : Int) < 4 := by omega
          rw [E.out]
          generalize (q : Int) = qq at *
          generalize wr.drewN r = wq at *
          have hsz := HB'.out.size
          go_wp2_with (at_builtin; refine wpList_append_own _ rfl _ _ 59 rfl w.heap.size 3 i0 (.int .i64 0) 1 8 Try.underlying59 HI.out.1 HI.out.2.1 HI.out.2.2.1 HI.out.2.2.2 rfl (by decide) u5 k _ rfl (HO'.out.alloc _) ⟨wq.heap.size, 0, none⟩ 1 1 [.int .i64 (Gf.mrow X F k : Nat)] rfl rfl (one_new _ _ _) (one_one _ rfl) (by unfold maxLen; omega) (by omega) (by simp; omega) ?_)
          intro v' w1 hown' hgrow _
          have HO1 : Hid (w1.ownsRow w.heap.size 3 1 v' (k + 1) ((List.range (k + 1)).map fun j => Value.int .i64 (Gf.mrow X F j : Nat))) := by
            rw [List.range_succ, List.map_append]; exact hown'
          have HB1 : Hid (Below w.heap.size w w1) := (HB'.out.alloc hsz _).grown hgrow (by simp; omega) (fun b hb => (HO'.out.lt b hb).1)
          clear hown' hgrow hsz HO' HB'
          go_wp2
          go_roundw
          case rel => exact ⟨k + 1, by omega, by go_num, HO1.out, HB1.out⟩
          case measure => simp [intOf]; omega
    · have hk4 : k = 4 := by omega
      obtain ⟨p, c, rfl, hI⟩ := ints_of_owned HO.out
      have HI4 : Hid (Ints wr p k (fun j => (Gf.mrow X F j : Nat))) := hI
      clear hI
      subst hk4
      go_wp2
      go_ret
      exact ⟨⟨p, c, rfl, HI4.out⟩, HB.out⟩
namespace Gf
def mixF : Nat → Nat
  | 0 => 2
  | 1 => 3
  | _ => 1
theorem mul_by : ∀ x, x < 256 → mul x 2 = dbl x ∧ mul x 3 = dbl x ^^^ x ∧ mul x 1 = x := by decide +kernel
theorem sum_eq (a b c d p q : Nat) : (((0 ^^^ p) ^^^ (q ^^^ b)) ^^^ c) ^^^ d = ((((a ^^^ b) ^^^ c) ^^^ d) ^^^ a) ^^^ (p ^^^ q) := by
  apply Nat.eq_of_testBit_eq
  intro i
  simp only [Nat.testBit_xor, Nat.zero_testBit]
  generalize a.testBit i = a, b.testBit i = b, c.testBit i = c, d.testBit i = d, p.testBit i = p, q.testBit i = q
  revert a b c d p q
  decide
theorem sum_eq1 (a b c d p q : Nat) : (((0 ^^^ a) ^^^ p) ^^^ (q ^^^ c)) ^^^ d = ((((a ^^^ b) ^^^ c) ^^^ d) ^^^ b) ^^^ (p ^^^ q) := by
  apply Nat.eq_of_testBit_eq
  intro i
  simp only [Nat.testBit_xor, Nat.zero_testBit]
  generalize a.testBit i = a, b.testBit i = b, c.testBit i = c, d.testBit i = d, p.testBit i = p, q.testBit i = q
  revert a b c d p q
  decide
theorem sum_eq2 (a b c d p q : Nat) : (((0 ^^^ a) ^^^ b) ^^^ p) ^^^ (q ^^^ d) = ((((a ^^^ b) ^^^ c) ^^^ d) ^^^ c) ^^^ (p ^^^ q) := by
  apply Nat.eq_of_testBit_eq
  intro i
  simp only [Nat.testBit_xor, Nat.zero_testBit]
  generalize a.testBit i = a, b.testBit i = b, c.testBit i = c, d.testBit i = d, p.testBit i = p, q.testBit i = q
  revert a b c d p q
  decide
theorem sum_eq3 (a b c d p q : Nat) : (((0 ^^^ (q ^^^ a)) ^^^ b) ^^^ c) ^^^ p = ((((a ^^^ b) ^^^ c) ^^^ d) ^^^ d) ^^^ (p ^^^ q) := by
  apply Nat.eq_of_testBit_eq
  intro i
  simp only [Nat.testBit_xor, Nat.zero_testBit]
  generalize a.testBit i = a, b.testBit i = b, c.testBit i = c, d.testBit i = d, p.testBit i = p, q.testBit i = q
  revert a b c d p q
  decide
theorem mrow_mix (X : Nat → Nat) (l : ∀ i, i < 4 → X i < 256) :
    mrow X mixF 0 = mx (X 0) (X 1) (X 2) (X 3) (X 0) (X 1) ∧ mrow X mixF 1 = mx (X 0) (X 1) (X 2) (X 3) (X 1) (X 2) ∧ mrow X mixF 2 = mx (X 0) (X 1) (X 2) (X 3) (X 2) (X 3) ∧ mrow X mixF 3 = mx (X 0) (X 1) (X 2) (X 3) (X 3) (X 0) := by
  have l0 := l 0 (by omega); have l1 := l 1 (by omega); have l2 := l 2 (by omega); have l3 := l 3 (by omega)
  have m0 := mul_by _ l0; have m1 := mul_by _ l1; have m2 := mul_by _ l2; have m3 := mul_by _ l3
  refine ⟨?_, ?_, ?_, ?_⟩
  · show (((0 ^^^ mul (X 0) 2) ^^^ mul (X 1) 3) ^^^ mul (X 2) 1) ^^^ mul (X 3) 1 = _
    rw [m0.1, m1.2.1, m2.2.2, m3.2.2, mx, dbl_xor_fin _ l0 _ l1]
    exact sum_eq _ _ _ _ _ _
  · show (((0 ^^^ mul (X 0) 1) ^^^ mul (X 1) 2) ^^^ mul (X 2) 3) ^^^ mul (X 3) 1 = _
    rw [m0.2.2, m1.1, m2.2.1, m3.2.2, mx, dbl_xor_fin _ l1 _ l2]
    exact sum_eq1 _ _ _ _ _ _
  · show (((0 ^^^ mul (X 0) 1) ^^^ mul (X 1) 1) ^^^ mul (X 2) 2) ^^^ mul (X 3) 3 = _
    rw [m0.2.2, m1.2.2, m2.1, m3.2.1, mx, dbl_xor_fin _ l2 _ l3]
    exact sum_eq2 _ _ _ _ _ _
  · show (((0 ^^^ mul (X 0) 3) ^^^ mul (X 1) 1) ^^^ mul (X 2) 1) ^^^ mul (X 3) 2 = _
    rw [m0.2.1, m1.2.2, m2.2.2, m3.1, mx, dbl_xor_fin _ l3 _ l0]
    exact sum_eq3 _ _ _ _ _ _
end Gf
end Go.Proofs.Ytbhlgcenfanicaa
