/-
  The walk of the law FnExactMixColumn: over any slice of ints it returns true and writes nothing that was there.
-/
import Derived.Test.YtpjlcllaoaekeahMixSpec
namespace Go.Proofs.Ytpjlcllaoaekeah
open Go.ChangeShapes Go.WideShapes Go.ChangeAt Go.RowKit
theorem mixRes_le {n m : Nat} {f g : Nat → Int} {code : Int} (h : MixRes n f m g code) : m ≤ 4 := by
  rcases h with ⟨_, rfl, _⟩ | ⟨_, _, rfl, _⟩ | ⟨_, _, rfl, _⟩ | ⟨_, _, rfl, _⟩ <;> omega
theorem ints_of_row {w : World} {b n : Nat} {f : Nat → Int} (h : w.rowIs b 3 n (fun i => .int .i64 (f i))) : Ints w (some ⟨b, 0, none⟩) n f := fun i hi => ⟨b, 0, rfl, by rw [Nat.zero_add]; exact h.cell hi⟩
set_option maxRecDepth 100000 in
set_option maxHeartbeats 4000000 in
theorem law_mixColumn (a : Option Addr) (n c : Nat) (f : Nat → Int) (w : World) (h : Ints w a n f) (hm : n ≤ maxLen) :
    Calls Try.prog 5 #[.slice a n c] w fun e w' => e = .returned (.bool true) ∧ Below w.heap.size w w' := by
  unfold maxLen at hm
  by_cases g0 : 1048576 < n
  · go_enter Try.func5, Try.ntmps5
    go_wp2
    go_ret
    exact ⟨rfl, Below.refl _ _⟩
  have g0' : decide (1048576 < (n : Int)) = false := decide_eq_false (by omega)
  have hn : n ≤ 1048576 := by omega
  have H0 : Hid (Ints w a n f) := h
  clear h g0
  go_enter Try.func5, Try.ntmps5
  go_wp2_with fail
  refine (toIntS_any a n c f _ H0.out hn).mono ?_; rintro e w1 ⟨rfl, r1, b1⟩
  have R1 : Hid (w1.rowIs w.heap.size 3 n (fun i => .int .i64 (f i))) := r1
  have B1 : Hid (Below w.heap.size w w1) := b1
  clear r1 b1
  go_wp2_with fail
  refine (specMix_any _ n n f _ (ints_of_row R1.out) hn).mono ?_; rintro e w2 ⟨⟨p0, m, k0, g, code, rfl, hr, hI⟩, b2⟩
  have M0 : Hid (MixRes n f m g code) := hr
  have I0 : Hid (Ints w2 p0 m g) := hI
  have B2 : Hid (Below w.heap.size w w2) := B1.out.trans (b2.mono B1.out.size)
  have hm4 := mixRes_le hr
  clear hr hI b2 R1 B1
  go_wp2_with fail
  refine (toIntS_any a n c f _ (H0.out.below B2.out) hn).mono ?_; rintro e w3 ⟨rfl, r3, b3⟩
  have R3 : Hid (w3.rowIs w2.heap.size 3 n (fun i => .int .i64 (f i))) := r3
  have I3 : Hid (Ints w3 p0 m g) := I0.out.below b3
  have B3 : Hid (Below w.heap.size w w3) := B2.out.trans (b3.mono B2.out.size)
  have S3 : Hid (w2.heap.size < w3.heap.size) := r3.lt
  clear r3 b3
  go_wp2_with fail
  refine (implMix_any _ n n f _ (ints_of_row R3.out) hn).mono ?_; rintro e w4 ⟨⟨pg, m', k1, g', code', rfl, hr, hO⟩, b4⟩
  obtain ⟨rfl, rfl, he⟩ := M0.out.same hr
  have E4 : Hid (∀ i, i < m → g' i = g i) := fun i hi => (he i hi).symm
  have O4 : Hid (OwnInts w4 w3.heap.size pg m g') := hO
  have I4 : Hid (Ints w4 p0 m g) := I3.out.below b4
  have R4 : Hid (w4.rowIs w2.heap.size 3 n (fun i => .int .i64 (f i))) := R3.out.of_block (b4.block _ S3.out)
  have B4 : Hid (Below w.heap.size w w4) := B3.out.trans (b4.mono B3.out.size)
  have S4 : Hid (w3.heap.size ≤ w4.heap.size) := b4.size
  clear hr hO b4 he R3
  go_wp2_with fail
  refine (eqIntS_yes pg p0 m k1 k0 g' g _ O4.out.ints I4.out E4.out (by omega)).mono ?_; rintro e w5 ⟨rfl, q5, rfl⟩
  have ce : (code != code) = false := by simp
  go_wp2_with fail
  refine (toIntS_any a n c f _ ((H0.out.below B4.out).drewN q5) hn).mono ?_; rintro e w6 ⟨rfl, r6, b6⟩
  have b6' : Below w4.heap.size w4 w6 := (below_drewN (Below.refl _ _) q5).trans b6
  have O6 : Hid (OwnInts w6 w3.heap.size pg m g') := O4.out.below b6'
  have I6 : Hid (Ints w6 p0 m g) := I4.out.below b6'
  have R6 : Hid (w6.rowIs w2.heap.size 3 n (fun i => .int .i64 (f i))) := R4.out.of_block (b6'.block _ (by have := S3.out; have := S4.out; omega))
  have T6 : Hid (Ints w6 (some ⟨w4.heap.size, 0, none⟩) n f) := ints_of_row r6
  have B6 : Hid (Below w.heap.size w w6) := B4.out.trans (b6'.mono B4.out.size)
  clear r6 b6 b6'
  go_wp2_with fail
  refine (eqIntS_yes _ _ n n n f f _ (ints_of_row R6.out) T6.out (fun _ _ => rfl) hn).mono ?_; rintro e w7 ⟨rfl, q7, rfl⟩
  go_wp2_with fail
  refine (markIntS_any _ w2.heap.size n n f _ (.inr ⟨w2.heap.size, Nat.le_refl _, rfl, R6.out⟩ : OwnInts (w6.drewN q7) w2.heap.size (some ⟨w2.heap.size, 0, none⟩) n f) hn).mono ?_; rintro e w8 ⟨rfl, _, on8, _⟩
  have D0 : Hid (∀ x y, p0 = some x → 0 < m → (some ⟨w2.heap.size, 0, none⟩ : Option Addr) = some y → y.block ≠ x.block) := fun x y hx hm hy => by
    obtain ⟨b, off, ha, hc⟩ := I0.out 0 hm
    rw [hx] at ha; cases ha; cases hy
    have := cellBlock hc
    show w2.heap.size ≠ b
    have h' : b < w2.heap.size := this
    omega
  have I8 : Hid (Ints w8 p0 m g) := by
    rcases Nat.eq_zero_or_pos m with hz | hp
    · exact fun i hi => absurd hi (by omega)
    · exact (I6.out.drewN q7).only on8 (fun x y hx hy => D0.out x y hx hp hy)
  have O8 : Hid (OwnInts w8 w3.heap.size pg m g') := by
    rcases (O6.out : OwnInts (w6.drewN q7) w3.heap.size pg m g') with hz | ⟨b, hB, ha, hr⟩
    · exact .inl hz
    · exact .inr ⟨b, hB, ha, hr.of_block (on8.block b (fun y hy => by cases hy; have := S3.out; show w2.heap.size ≠ b; omega))⟩
  have B8 : Hid (Below w.heap.size w w8) := (below_drewN B6.out q7).trans (on8.toBelow w.heap.size (fun y hy => by cases hy; exact B2.out.size))
  clear on8
  have kn : decide (((n + 1 : Nat) : Int) < 0) = false := decide_eq_false (by omega)
  have km : decide (((m + 1 : Nat) : Int) < 0) = false := decide_eq_false (by omega)
  have ks : (((m + 1 : Nat) : Int) != ((m + 1 : Nat) : Int)) = false := by simp
  generalize ((n + 1 : Nat) : Int) = N1 at *
  go_wp2_with fail
  refine (eqIntS_yes pg p0 m k1 k0 g' g _ O8.out.ints I8.out E4.out (by omega)).mono ?_; rintro e w9 ⟨rfl, q9, rfl⟩
  go_wp2_with fail
  refine (markIntS_any pg w3.heap.size m k1 g' (w8.drewN q9) (O8.out : OwnInts (w8.drewN q9) w3.heap.size pg m g') (by omega)).mono ?_; rintro e w10 ⟨rfl, o10, on10, z10⟩
  have I10 : Hid (Ints w10 p0 m g) := by
    rcases Nat.eq_zero_or_pos m with hz | hp
    · exact fun i hi => absurd hi (by omega)
    · refine (I8.out.drewN q9).only on10 (fun x y hx hy => ?_)
      obtain ⟨b, off, ha, hc⟩ := I0.out 0 hp
      rw [hx] at ha; cases ha
      have hb : b < w2.heap.size := cellBlock hc
      rcases O8.out with hz | ⟨b', hB, ha', _⟩
      · omega
      · rw [ha'] at hy; cases hy
        have := S3.out
        show b' ≠ b
        omega
  have O10 : Hid (OwnInts w10 w3.heap.size pg m (fun i => (i + 1 : Nat))) := o10
  have B10 : Hid (Below w.heap.size w w10) := by
    rcases O8.out with hz | ⟨b', hB, ha', _⟩
    · rw [z10 hz]; exact below_drewN B8.out q9
    · refine (below_drewN B8.out q9).trans (on10.toBelow w.heap.size (fun y hy => ?_))
      rw [ha'] at hy; cases hy
      have := S3.out; have := B2.out.size
      show w.heap.size ≤ b'
      omega
  clear o10 on10 z10
  go_wp2_with fail
  refine (heldIntS_yes pg m k1 _ O10.out.ints (by omega)).mono ?_; rintro e w11 ⟨rfl, rfl⟩
  go_wp2_with fail
  refine (toIntS_any a n c f _ (H0.out.below B10.out) hn).mono ?_; rintro e w12 ⟨rfl, r12, b12⟩
  have R12 : Hid (w12.rowIs w11.heap.size 3 n (fun i => .int .i64 (f i))) := r12
  have I12 : Hid (Ints w12 p0 m g) := I10.out.below b12
  have O12 : Hid (OwnInts w12 w3.heap.size pg m (fun i => (i + 1 : Nat))) := O10.out.below b12
  have B12 : Hid (Below w.heap.size w w12) := B10.out.trans (b12.mono B10.out.size)
  clear r12 b12
  go_wp2_with fail
  refine (implMix_any _ n n f _ (ints_of_row R12.out) hn).mono ?_; rintro e w13 ⟨⟨ph, m', k2, g2, code2, rfl, hr, hO⟩, b13⟩
  obtain ⟨rfl, rfl, he⟩ := M0.out.same hr
  have E13 : Hid (∀ i, i < m → g2 i = g i) := fun i hi => (he i hi).symm
  have O13 : Hid (OwnInts w13 w12.heap.size ph m g2) := hO
  have I13 : Hid (Ints w13 p0 m g) := I12.out.below b13
  have P13 : Hid (OwnInts w13 w3.heap.size pg m (fun i => (i + 1 : Nat))) := O12.out.below b13
  have B13 : Hid (Below w.heap.size w w13) := B12.out.trans (b13.mono B12.out.size)
  clear hr hO he b13
  go_wp2_with fail
  refine (eqIntS_yes ph p0 m k2 k0 g2 g _ O13.out.ints I13.out E13.out (by omega)).mono ?_; rintro e w14 ⟨rfl, q14, rfl⟩
  go_wp2_with fail
  refine (heldIntS_yes pg m k1 (w13.drewN q14) (P13.out.ints.drewN q14) (by omega)).mono ?_; rintro e w15 ⟨rfl, rfl⟩
  go_wp2
  go_ret
  exact ⟨rfl, below_drewN B13.out q14⟩
end Go.Proofs.Ytpjlcllaoaekeah
