/-
  The law FnEqual: two texts are told to be equal just if they are.
-/
import Derived.Test.YtbajdphiaibmgaaDraw
import Derived.Test.YtbajdphiaibmgaaEqual
import Derived.Test.YtbajdphiaibmgaaModelK
namespace Go.Proofs.Ytbajdphiaibmgaa
open Go.ChangeShapes Go.WideShapes Go.ChangeAt Go.RowKit
theorem kstr_same_iff {f g : Nat → Nat} {m : Nat} (hf : ∀ i, f i < 256) (hg : ∀ i, g i < 256) : kstr f 0 m = kstr g 0 m ↔ ∀ i, i < m → f i = g i := by
  constructor
  · intro h i hi
    have e1 := strB_kstr f 0 m i (by rw [Nat.zero_add]; exact hf i) hi
    have e2 := strB_kstr g 0 m i (by rw [Nat.zero_add]; exact hg i) hi
    rw [Nat.zero_add] at e1 e2
    rw [← e1, ← e2, h]
  · intro h
    exact kstr_congr (fun i hi => by rw [Nat.zero_add]; exact h i hi)
theorem toList_beq (A B : ByteArray) : (A.toList == B.toList) = decide (A = B) := by
  by_cases h : A = B
  · subst h; simp
  · rw [decide_eq_false h, beq_eq_false_iff_ne]
    intro g
    rw [ByteArray.toList_eq, ByteArray.toList_eq] at g
    exact h (bytes_inj g)
theorem eqI_text (b0 b1 n m c d : Nat) (f g : Nat → Nat) (hf : ∀ i, f i < 256) (hg : ∀ i, g i < 256) (hn : n ≤ 65536) (hm : m ≤ 65536) (w : World) (h : Code8 w (some ⟨b0, 0, none⟩) n f) (h' : Code8 w (some ⟨b1, 0, none⟩) m g) :
    Calls Try.prog 10 #[.slice (some ⟨b0, 0, none⟩) n c, .slice (some ⟨b1, 0, none⟩) m d] w fun e w' => e = .returned (.tuple #[.bool (decide (kstr f 0 n = kstr g 0 m)), .int .i64 0]) ∧ Below w.heap.size w w' := by
  by_cases e : n = m
  · subst e
    have := eqI_same (some ⟨b0, 0, none⟩) (some ⟨b1, 0, none⟩) n c d f g hf hg hn w h h'
    have hr : (((difF f g 0 n : Nat) : Int) == 0) = decide (kstr f 0 n = kstr g 0 n) := by
      by_cases q : kstr f 0 n = kstr g 0 n
      · rw [decide_eq_true q, (difF_zero f g 0 n).2 ⟨rfl, (kstr_same_iff hf hg).1 q⟩]; rfl
      · rw [decide_eq_false q, beq_eq_false_iff_ne]
        intro h0
        exact q ((kstr_same_iff hf hg).2 ((difF_zero f g 0 n).1 (by omega)).2)
    rw [hr] at this
    exact this
  · have q : kstr f 0 n ≠ kstr g 0 m := fun h0 => e (by have := congrArg ByteArray.size h0; rwa [kstr_size, kstr_size] at this)
    rw [decide_eq_false q]
    exact eqI_ne _ _ n m c d hn hm e w
set_option maxRecDepth 100000 in
set_option maxHeartbeats 4000000 in
theorem law_fnEqual (a1 a2 : Option Addr) (N1 C1 N2 C2 : Nat) (zs1 zs2 : List Int) (w : World) (h1 : IsRow .u8 w a1 N1 C1 zs1) (h2 : IsRow .u8 w a2 N2 C2 zs2) :
    Calls Try.prog 4 #[.slice a1 N1 C1, .slice a2 N2 C2] w fun e w' => e = .returned (.bool true) ∧ Below w.heap.size w w' := by
  by_cases h0 : N1 ≤ 1048576 ∧ N2 ≤ 1048576
  · obtain ⟨h01, h02⟩ := h0
    have e01 : ¬ (1048576 : Int) < (N1 : Int) := by omega
    have e02 : ¬ (1048576 : Int) < (N2 : Int) := by omega
    obtain ⟨z1, hz1, hc1⟩ := code8_of_row h1
    obtain ⟨z2, hz2, hc2⟩ := code8_of_row h2
    have B1 : Hid (∀ w : World, Code8 w a1 N1 z1 → Calls Try.prog 9 #[.slice a1 N1 C1, .int .i64 12] w fun e w' => SomeOwn w.heap.size w' e 12 ∧ Below w.heap.size w w') := fun w h => bytesOf_ex 12 (by omega) (by omega) a1 N1 C1 z1 hz1 (IsRow.lenLe h1) w h
    have B2 : Hid (∀ w : World, Code8 w a2 N2 z2 → Calls Try.prog 9 #[.slice a2 N2 C2, .int .i64 12] w fun e w' => SomeOwn w.heap.size w' e 12 ∧ Below w.heap.size w w') := fun w h => bytesOf_ex 12 (by omega) (by omega) a2 N2 C2 z2 hz2 (IsRow.lenLe h2) w h
    have Z1 : Hid (Code8 w a1 N1 z1) := hc1
    have Z2 : Hid (Code8 w a2 N2 z2) := hc2
    obtain ⟨i0, hi⟩ := info_parts Try.info8
    have HI : Hid (Try.prog.info? 5 = some i0 ∧ i0.zero = some (.int .u8 0) ∧ i0.size = 1 ∧ i0.bytes = 1) := hi
    clear h1 h2 hc1 hc2 hz1 hz2 hi
    go_enter Try.func4, Try.ntmps4
    go_wp2_with fail
    refine (B1.out _ Z1.out).mono ?_
    rintro e w1 ⟨⟨n, f, ga, ca, hn, hf, rfl, hown1⟩, hb1⟩
    obtain ⟨g', c', ⟨hga, hca⟩, e', ho1⟩ := own8_of_own hown1 (by intro e; cases e)
    cases e'
    have HB1 : Hid (Below w.heap.size w w1) := hb1
    have HA1 : Hid (Own8 w1 ga n f) := ho1
    have Z21 : Hid (Code8 w1 a2 N2 z2) := Z2.out.below hb1
    clear hb1 Z1 Z2 B1 hown1 ho1
    go_wp2_with fail
    refine (B2.out _ Z21.out).mono ?_
    rintro e w2 ⟨⟨m, g, gb, cb, hm, hg, rfl, hown2⟩, hb2⟩
    obtain ⟨g', c', ⟨hgb, hcb⟩, e', ho2⟩ := own8_of_own hown2 (by intro e; cases e)
    cases e'
    have HB2 : Hid (Below w.heap.size w w2) := HB1.out.trans (hb2.mono HB1.out.size)
    have HA2 : Hid (Own8 w2 ga n f) := HA1.out.below hb2
    have HG2 : Hid (Own8 w2 gb m g) := ho2
    clear hb2 Z21 B2 hown2 ho2 HB1 HA1
    have Q1 : Hid (∀ w : World, Own8 w ga n f → Own8 w gb m g → Calls Try.prog 10 #[.slice (some ⟨ga, 0, none⟩) n ca, .slice (some ⟨gb, 0, none⟩) m cb] w fun e w' => e = .returned (.tuple #[.bool (decide (kstr f 0 n = kstr g 0 m)), .int .i64 0]) ∧ Below w.heap.size w w') := fun w h h' => eqI_text ga gb n m ca cb f g hf hg (by omega) (by omega) w h.code h'.code
    have Q2 : Hid (∀ (b d : Nat) (w : World), Own8 w ga n f → Own8 w b n f → Calls Try.prog 10 #[.slice (some ⟨ga, 0, none⟩) n ca, .slice (some ⟨b, 0, none⟩) n d] w fun e w' => e = .returned (.tuple #[.bool true, .int .i64 0]) ∧ Below w.heap.size w w') := fun b d w h h' => by
      have := eqI_text ga b n n ca d f f hf hf (by omega) (by omega) w h.code h'.code
      rwa [decide_eq_true rfl] at this
    have Q3 : Hid (∀ (b d : Nat) (w : World), Calls Try.prog 10 #[.slice (some ⟨ga, 0, none⟩) n ca, .slice (some ⟨b, 0, none⟩) (n + 1) d] w fun e w' => e = .returned (.tuple #[.bool false, .int .i64 0]) ∧ Below w.heap.size w w') := fun b d w => eqI_ne _ _ n (n + 1) ca d (by omega) (by omega) (by omega) w
    have TB := toList_beq (kstr f 0 n) (kstr g 0 m)
    have CV1 : Hid (∀ w : World, Own8 w ga n f → (convert 22 9 (.slice (some ⟨ga, 0, none⟩) n ca)).run Try.prog w = .ok (.string (kstr f 0 n)) w) := fun w h => kstr_of_code (c := ca) h.code
    have CV2 : Hid (∀ w : World, Own8 w gb m g → (convert 22 9 (.slice (some ⟨gb, 0, none⟩) m cb)).run Try.prog w = .ok (.string (kstr g 0 m)) w) := fun w h => kstr_of_code (c := cb) h.code
    generalize hr : decide (kstr f 0 n = kstr g 0 m) = r at *
    generalize kstr f 0 n = TA at *
    generalize kstr g 0 m = TG at *
    clear hr hf hg
    go_wp2_with fail
    refine (Q1.out _ HA2.out HG2.out).mono ?_
    rintro e w3 ⟨rfl, hb3⟩
    have HB3 : Hid (Below w.heap.size w w3) := HB2.out.trans (hb3.mono HB2.out.size)
    have HA3 : Hid (Own8 w3 ga n f) := HA2.out.below hb3
    have HG3 : Hid (Own8 w3 gb m g) := HG2.out.below hb3
    clear hb3 HB2 HA2 HG2 Q1
    go_wp2_with (first
      | (at_builtin; refine wpList_append_own _ rfl (.tmp 33) _ 22 rfl w3.heap.size 5 i0 (.int .u8 0) 1 1 Try.underlying22 HI.out.1 HI.out.2.1 HI.out.2.2.1 HI.out.2.2.2 rfl (by decide) _ _ _ rfl (World.ownsRow_made w3 #[] 0 (Nat.le_refl _) (Nat.zero_le _) (by simp)) ⟨ga, 0, none⟩ n ca (bv n f) rfl (by rw [bv_length, Nat.mul_one]) ?qc (bv_one n f) (by unfold maxLen; omega) (by omega) (by simp) ?_))
    case qc =>
      intro j x hj
      exact Lib.cell?_alloc_some _ (bv_news HA3.out.code j x hj)
    intro v' w4 hown hgrow hnil
    have BG : Below w3.heap.size w3 w4 := ((Below.refl _ w3).alloc (Nat.le_refl _) _).grown hgrow (by simp) (by intro k hk; simp [Value.ownBlock] at hk; omega)
    have hown1 : w4.ownsRow w3.heap.size 5 1 v' n (bv n f) := by simpa using hown
    obtain ⟨g4, c4, hgc, rfl, ho4⟩ := own8_of_own hown1 hnil
    have HO4 : Hid (Own8 w4 g4 n f) := ho4
    have HB4 : Hid (Below w.heap.size w w4) := HB3.out.trans (BG.mono HB3.out.size)
    have HA4 : Hid (Own8 w4 ga n f) := HA3.out.below BG
    have HG4 : Hid (Own8 w4 gb m g) := HG3.out.below BG
    clear hown hown1 hgrow hnil BG hgc ho4 HB3 HA3 HG3
    go_wp2_with fail
    refine (Q2.out g4 c4 _ HA4.out HO4.out).mono ?_
    rintro e w5 ⟨rfl, hb5⟩
    have HB5 : Hid (Below w.heap.size w w5) := HB4.out.trans (hb5.mono HB4.out.size)
    have HA5 : Hid (Own8 w5 ga n f) := HA4.out.below hb5
    have HG5 : Hid (Own8 w5 gb m g) := HG4.out.below hb5
    clear hb5 HB4 HA4 HG4 HO4 Q2
    go_wp2_with (first
      | (at_builtin; refine wpList_append_own _ rfl (.tmp 41) _ 22 rfl w5.heap.size 5 i0 (.int .u8 0) 1 1 Try.underlying22 HI.out.1 HI.out.2.1 HI.out.2.2.1 HI.out.2.2.2 rfl (by decide) _ _ _ rfl (World.ownsRow_made w5 #[] 0 (Nat.le_refl _) (Nat.zero_le _) (by simp)) ⟨ga, 0, none⟩ n ca (bv n f) rfl (by rw [bv_length, Nat.mul_one]) ?qc (bv_one n f) (by unfold maxLen; omega) (by omega) (by simp) ?_))
    case qc =>
      intro j x hj
      exact Lib.cell?_alloc_some _ (bv_news HA5.out.code j x hj)
    intro v' w6 hown hgrow hnil
    have BG : Below w5.heap.size w5 w6 := ((Below.refl _ w5).alloc (Nat.le_refl _) _).grown hgrow (by simp) (by intro k hk; simp [Value.ownBlock] at hk; omega)
    have hown1 : w6.ownsRow w5.heap.size 5 1 v' n (bv n f) := by simpa using hown
    obtain ⟨g6, c6, hgc, rfl, -⟩ := own8_of_own hown1 hnil
    have HO6 : Hid (w6.ownsRow w5.heap.size 5 1 (.slice (some ⟨g6, 0, none⟩) n c6) n (bv n f)) := hown1
    have HB6 : Hid (Below w.heap.size w w6) := HB5.out.trans (BG.mono HB5.out.size)
    have HA6 : Hid (Own8 w6 ga n f) := HA5.out.below BG
    have HG6 : Hid (Own8 w6 gb m g) := HG5.out.below BG
    have hsa : ga < w5.heap.size := HA5.out.lt
    have hsb : gb < w5.heap.size := HG5.out.lt
    have hs6 := BG.size
    have hs5 := HB5.out.size
    clear hown hown1 hgrow hnil BG hgc HB5 HA5 HG5
    go_wp2_with (first
      | (at_builtin; refine wpList_append_own _ rfl (.tmp 43) _ 22 rfl w5.heap.size 5 i0 (.int .u8 0) 1 1 Try.underlying22 HI.out.1 HI.out.2.1 HI.out.2.2.1 HI.out.2.2.2 rfl (by decide) (.slice (some ⟨g6, 0, none⟩) n c6) n _ rfl (HO6.out.alloc _) ⟨w6.heap.size, 0, none⟩ 1 1 [.int .u8 0] rfl rfl (one_new8 w6 0 _) (one_one8 0) (by unfold maxLen; omega) (by omega) (by simp; omega) ?_))
    intro v' w7 hown hgrow hnil
    have BG : Below w5.heap.size w6 w7 := ((Below.refl w5.heap.size w6).alloc hs6 _).grown hgrow (by simp; omega) (fun b hb => (HO6.out.lt b hb).1)
    rw [show [Value.int .u8 0] = [.int .u8 ((0 : Nat) : Int)] from rfl, bv_ext] at hown
    obtain ⟨g7, c7, hgc, rfl, -⟩ := own8_of_own hown hnil
    have HB7 : Hid (Below w.heap.size w w7) := HB6.out.trans (BG.mono hs5)
    have HA7 : Hid (Own8 w7 ga n f) := HA6.out.of_block (BG.block _ hsa)
    have HG7 : Hid (Own8 w7 gb m g) := HG6.out.of_block (BG.block _ hsb)
    clear hown hgrow hnil BG hgc HB6 HA6 HG6 HO6
    go_wp2_with fail
    refine (Q3.out g7 c7 _).mono ?_
    rintro e w8 ⟨rfl, hb8⟩
    have HB8 : Hid (Below w.heap.size w w8) := HB7.out.trans (hb8.mono HB7.out.size)
    have cv1 := CV1.out w8 (HA7.out.below hb8)
    have cv2 := CV2.out w8 (HG7.out.below hb8)
    have hrr : (r == r) = true := by cases r <;> rfl
    clear hb8 HB7 HA7 HG7 CV1 CV2 Q3
    go_wp2
    go_ret
    exact ⟨rfl, HB8.out⟩
  · by_cases h3 : N1 ≤ 1048576
    · have e1 : ¬ (1048576 : Int) < (N1 : Int) := by omega
      have e2 : (1048576 : Int) < (N2 : Int) := by omega
      clear h0
      go_enter Try.func4, Try.ntmps4
      go_wp2
      go_ret
      exact ⟨rfl, Below.refl _ _⟩
    · have e1 : (1048576 : Int) < (N1 : Int) := by omega
      clear h0
      go_enter Try.func4, Try.ntmps4
      go_wp2
      go_ret
      exact ⟨rfl, Below.refl _ _⟩
end Go.Proofs.Ytbajdphiaibmgaa
