/-
  The law of round keys, one text: model, program, and the law's own look at both.
-/
import Derived.Test.YthfnpplpelinbaaKSpec
import Derived.Test.YthfnpplpelinbaaKImpl
import Derived.Test.YthfnpplpelinbaaStrS
namespace Go.Proofs.Ythfnpplpelinbaa
open Go.ChangeShapes Go.WideShapes Go.ChangeAt Go.RowKit
theorem l01Key_yes (s : ByteArray) (h : s.size = 16 ∨ s.size = 32) (w : World) : Calls Try.prog 26 #[.string s] w fun e w' => e = .returned (.bool true) ∧ w = w' := by
  rcases h with h | h
  · go_enter Try.func26, Try.ntmps26
    go_wp2
    go_ret
    exact ⟨rfl, rfl⟩
  · go_enter Try.func26, Try.ntmps26
    go_wp2
    go_ret
    exact ⟨rfl, rfl⟩
theorem l01Key_no (s : ByteArray) (h1 : s.size ≠ 16) (h2 : s.size ≠ 32) (w : World) : Calls Try.prog 26 #[.string s] w fun e w' => e = .returned (.bool false) ∧ w = w' := by
  have e1 : ((s.size : Int) == 16) = false := by rw [beq_eq_false_iff_ne]; omega
  have e2 : ((s.size : Int) == 32) = false := by rw [beq_eq_false_iff_ne]; omega
  go_enter Try.func26, Try.ntmps26
  go_wp2
  go_ret
  exact ⟨rfl, rfl⟩
theorem spec_long (s : ByteArray) (h : 65536 < s.size) (w : World) : Calls Try.prog 14 #[.string s] w fun e w' => e = .returned (.tuple #[.slice (some ⟨w.heap.size, 0, none⟩) 0 0, .int .i64 2]) ∧ Below w.heap.size w w' := by
  have e1 : (65536 : Int) < s.size := by omega
  go_enter Try.func14, Try.ntmps14
  go_wp2
  go_ret2
  exact ⟨rfl, (Below.refl _ _).alloc (Nat.le_refl _) _⟩
theorem spec_bad (s : ByteArray) (h : s.size ≤ 65536) (h1 : s.size ≠ 16) (h2 : s.size ≠ 32) (w : World) : Calls Try.prog 14 #[.string s] w fun e w' => e = .returned (.tuple #[.slice (some ⟨w.heap.size, 0, none⟩) 0 0, .int .i64 1]) ∧ Below w.heap.size w w' := by
  have e1 : ¬ (65536 : Int) < s.size := by omega
  go_enter Try.func14, Try.ntmps14
  go_wp2_with (go_at_call 26; refine (l01Key_no s h1 h2 _).mono ?_; rintro e w' ⟨rfl, rfl⟩)
  go_ret2
  exact ⟨rfl, (Below.refl _ _).alloc (Nat.le_refl _) _⟩
theorem strs_of_owned {w : World} {base : Nat} {v : Value} {n : Nat} {f : Nat → ByteArray} (h : w.ownsRow base 9 1 v n ((List.range n).map fun j => .string (f j))) (hn : 0 < n) :
    ∃ p c, v = .slice p n c ∧ Strs w p n f := by
  obtain ⟨g, cap, _, _, rfl, hc⟩ := owned_open h hn
  exact ⟨_, cap, rfl, fun i hi => ⟨g, 0, rfl, by rw [Nat.zero_add]; exact hc i hi⟩⟩
set_option maxRecDepth 100000 in
/-- spec.KeySchedule of a key -/
theorem specKeys_any (s : ByteArray) (n : Nat) (hn : n = 4 ∨ n = 8) (hs : s.size = n * 4) (w : World) :
    Calls Try.prog 14 #[.string s] w fun e w' => (∃ p c, e = .returned (.tuple #[.slice p (n + 7) c, .int .i64 0]) ∧ Strs w' p (n + 7) (fun j => kstr (Gf.ws (strB s) n (3 * n + 28)) (j * 16) 16)) ∧ Below w.heap.size w w' := by
  have e1 : ¬ (65536 : Int) < s.size := by omega
  have KO : Hid (∀ w : World, Calls Try.prog 26 #[.string s] w fun e w' => e = .returned (.bool true) ∧ w = w') := l01Key_yes s (by omega)
  have LK : Hid (∀ (b : Nat) (w : World), w.rowIs b 3 256 (fun j => .int .i64 (Gf.sub j : Nat)) → Calls Try.prog 29 #[.string s, .slice (some ⟨b, 0, none⟩) 256 256] w fun e w' => (∃ v, e = .returned v ∧ w'.ownsRow w.heap.size 9 1 v (n + 7) (ksVals (Gf.ws (strB s) n (3 * n + 28)) (n + 7))) ∧ Below w.heap.size w w') := fun b w h => l01Keys_any s n hn hs b w h
  have TA : Hid (∀ w : World, Calls Try.prog 27 #[] w fun e w' => (∃ b, w.heap.size ≤ b ∧ e = .returned (.slice (some ⟨b, 0, none⟩) 256 256) ∧ w'.rowIs b 3 256 (fun j => .int .i64 (Gf.sub j : Nat))) ∧ Below w.heap.size w w') := table_any
  generalize Gf.ws (strB s) n (3 * n + 28) = W at *
  clear hs hn
  go_enter Try.func14, Try.ntmps14
  go_wp2_with (go_at_call 26; refine (KO.out _).mono ?_; rintro e w' ⟨rfl, rfl⟩)
  refine (TA.out _).mono ?_
  rintro e w1 ⟨⟨b, hb, rfl, hrow⟩, hB1⟩
  have HR : Hid (w1.rowIs b 3 256 (fun j => .int .i64 (Gf.sub j : Nat))) := hrow
  have HB1 : Hid (Below w.heap.size w w1) := hB1
  clear hrow hB1
  go_wp2_with fail
  refine (LK.out b w1 HR.out).mono ?_
  rintro e w2 ⟨⟨v, rfl, hown⟩, hB2⟩
  obtain ⟨p, c, rfl, hstr⟩ := strs_of_owned hown (by omega)
  have HS : Hid (Strs w2 p (n + 7) (fun j => kstr W (j * 16) 16)) := hstr
  have HB2 : Hid (Below w.heap.size w w2) := HB1.out.trans (hB2.mono HB1.out.size)
  clear hown hstr hB2
  go_wp2
  go_ret2
  exact ⟨⟨p, c, rfl, HS.out⟩, HB2.out⟩
theorem rowIs_drewN {w : World} {b n : Nat} {t : TypeId} {f : Nat → Value} (h : w.rowIs b t n f) (q : Nat) : (w.drewN q).rowIs b t n f := h
theorem Strs.onlyB {w w' : World} {b pb po n : Nat} {f : Nat → ByteArray} (h : Strs w (some ⟨pb, po, none⟩) n f) (ho : OnlyB b w w') (hne : pb ≠ b) : Strs w' (some ⟨pb, po, none⟩) n f := fun i hi => by
  obtain ⟨b1, o1, ha, hc⟩ := h i hi
  cases ha
  exact ⟨pb, po, rfl, by rw [World.cell?_of_block (w := w) (ho.block pb (strBlock hc) hne)]; exact hc⟩
theorem strs0 (w : World) (a : Option Addr) (f : Nat → ByteArray) : Strs w a 0 f := fun i hi => absurd hi (by omega)
set_option maxRecDepth 100000 in
set_option maxHeartbeats 1000000 in
theorem law_keys_no (s : ByteArray) (code : Int) (hsz : s.size ≤ 1048576)
    (hsp : ∀ w : World, Calls Try.prog 14 #[.string s] w fun e w' => e = .returned (.tuple #[.slice (some ⟨w.heap.size, 0, none⟩) 0 0, .int .i64 code]) ∧ Below w.heap.size w w')
    (him : ∀ w : World, Calls Try.prog 13 #[.string s] w fun e w' => e = .returned (.tuple #[.slice none 0 0, .int .i64 code]) ∧ w' = w) (w : World) :
    Calls Try.prog 5 #[.string s] w fun e w' => e = .returned (.bool true) ∧ Below w.heap.size w w' := by
  have e1 : ¬ (1048576 : Int) < s.size := by omega
  have SP : Hid (∀ w : World, Calls Try.prog 14 #[.string s] w fun e w' => e = .returned (.tuple #[.slice (some ⟨w.heap.size, 0, none⟩) 0 0, .int .i64 code]) ∧ Below w.heap.size w w') := hsp
  have IM : Hid (∀ w : World, Calls Try.prog 13 #[.string s] w fun e w' => e = .returned (.tuple #[.slice none 0 0, .int .i64 code]) ∧ w = w') := fun w => (him w).mono fun e w' h => ⟨h.1, h.2.symm⟩
  have MN : Hid (∀ w : World, Calls Try.prog 17 #[.slice none 0 0, .int .i64 1] w fun e w' => e = .returned (.int .i64 1) ∧ w = w') := fun w => (markStringS_nil w).mono fun e w' h => ⟨h.1, h.2.symm⟩
  have HN : Hid (∀ w : World, Calls Try.prog 18 #[.slice none 0 0, .int .i64 1] w fun e w' => e = .returned (.int .i64 1) ∧ w = w') := fun w => (heldStringS_nil w).mono fun e w' h => ⟨h.1, h.2.symm⟩
  have EQ : Hid (∀ (b : Option Addr) (w : World), Calls Try.prog 16 #[.slice none 0 0, .slice b 0 0] w fun e w' => e = .returned (.bool true) ∧ ∃ q, w' = w.drewN q) := fun b w => eqStringS_yes none b 0 0 0 (fun _ => ⟨#[]⟩) (fun _ => ⟨#[]⟩) w (strs0 _ _ _) (strs0 _ _ _) (fun _ _ => rfl) (by omega)
  have hcc : (code != code) = false := by simp
  clear hsp him
  go_enter Try.func5, Try.ntmps5
  go_wp2_with fail
  refine (SP.out _).mono ?_
  rintro e w1 ⟨rfl, hb1⟩
  have HB : Hid (Below w.heap.size w w1) := hb1
  clear hb1
  go_wp2_with (first
    | (go_at_call 13; refine (IM.out _).mono ?_; rintro e w' ⟨rfl, rfl⟩)
    | (go_at_call 16; refine (EQ.out _ _).mono ?_; rintro e w' ⟨rfl, q, rfl⟩)
    | (go_at_call 17; refine (MN.out _).mono ?_; rintro e w' ⟨rfl, rfl⟩)
    | (go_at_call 18; refine (HN.out _).mono ?_; rintro e w' ⟨rfl, rfl⟩))
  go_ret
  exact ⟨rfl, below_drewN HB.out _⟩
set_option maxRecDepth 100000 in
set_option maxHeartbeats 2000000 in
theorem law_keys_yes (s : ByteArray) (n : Nat) (hn : n = 4 ∨ n = 8) (hs : s.size = n * 4) (w : World) :
    Calls Try.prog 5 #[.string s] w fun e w' => e = .returned (.bool true) ∧ Below w.heap.size w w' := by
  have e1 : ¬ (1048576 : Int) < s.size := by omega
  obtain ⟨F, hF⟩ : ∃ F : Nat → ByteArray, F = fun j => kstr (Gf.ws (strB s) n (3 * n + 28)) (j * 16) 16 := ⟨_, rfl⟩
  obtain ⟨M, hM⟩ : ∃ M, M = n + 7 := ⟨_, rfl⟩
  have SP : Hid (∀ w : World, Calls Try.prog 14 #[.string s] w fun e w' => (∃ p c, e = .returned (.tuple #[.slice p M c, .int .i64 0]) ∧ Strs w' p M F) ∧ Below w.heap.size w w') := by subst hF; subst hM; exact specKeys_any s n hn hs
  have IM : Hid (∀ w : World, Calls Try.prog 13 #[.string s] w fun e w' => (∃ b, w.heap.size ≤ b ∧ e = .returned (.tuple #[.slice (some ⟨b, 0, none⟩) M M, .int .i64 0]) ∧ w'.rowIs b 9 M (fun j => .string (F j))) ∧ Below w.heap.size w w') := by subst hF; subst hM; exact implKeys_any s n hn hs
  have hm : M ≤ 15 := by omega
  have hm0 : 0 < M := by omega
  clear hF hM hs hn
  have hcc : ((0 : Int) != 0) = false := by simp
  have hmm : (((M + 1 : Nat) : Int) != ((M + 1 : Nat) : Int)) = false := by simp
  have hmn : ¬ ((M + 1 : Nat) : Int) < 0 := by omega
  go_enter Try.func5, Try.ntmps5
  go_wp2_with fail
  refine (SP.out _).mono ?_
  rintro e w1 ⟨⟨p, c, rfl, hs1⟩, hb1⟩
  obtain ⟨pb, po, rfl, hp⟩ := hs1.opened hm0
  have hpb : pb < w1.heap.size := strBlock (hp 0 hm0)
  have HS1 : Hid (Strs w1 (some ⟨pb, po, none⟩) M F) := hs1
  have HB1 : Hid (Below w.heap.size w w1) := hb1
  clear hs1 hp hb1
  go_wp2_with fail
  refine (IM.out _).mono ?_
  rintro e w2 ⟨⟨b, hbb, rfl, hrow⟩, hb2⟩
  have HR2 : Hid (w2.rowIs b 9 M (fun j => .string (F j))) := hrow
  have HS2 : Hid (Strs w2 (some ⟨pb, po, none⟩) M F) := HS1.out.below hb2
  have HB2 : Hid (Below w.heap.size w w2) := HB1.out.trans (hb2.mono HB1.out.size)
  have hb2s := hb2.size
  have hws := HB1.out.size
  clear hrow hb2 HS1 HB1
  go_wp2_with fail
  refine (eqStringS_yes _ _ M M c F F _ (Strs.ofRow HR2.out) HS2.out (fun _ _ => rfl) (by omega)).mono ?_
  rintro e w3 ⟨rfl, q, rfl⟩
  go_wp2_with fail
  refine (markStringS_any b M M F _ (rowIs_drewN HR2.out q) (by omega)).mono ?_
  rintro e w3 ⟨rfl, hr3, ho3⟩
  have HR3 : Hid (w3.rowIs b 9 M (fun j => .string (mt (j + 1)))) := hr3
  have HS3 : Hid (Strs w3 (some ⟨pb, po, none⟩) M F) := Strs.onlyB (HS2.out.drewN q) ho3 (by omega)
  have HB3 : Hid (Below w.heap.size w w3) := (below_drewN HB2.out q).trans (ho3.toBelow (by omega) (by show w.heap.size ≤ w2.heap.size; omega))
  clear hr3 ho3 HR2 HS2 HB2
  go_wp2_with fail
  refine (heldStringS_yes b M M _ HR3.out (by omega)).mono ?_
  rintro e w4 ⟨rfl, hb4⟩
  have HR4 : Hid (w4.rowIs b 9 M (fun j => .string (mt (j + 1)))) := HR3.out.of_block (hb4.block b HR3.out.lt)
  have HS4 : Hid (Strs w4 (some ⟨pb, po, none⟩) M F) := HS3.out.below hb4
  have HB4 : Hid (Below w.heap.size w w4) := HB3.out.trans (hb4.mono HB3.out.size)
  clear hb4 HR3 HS3 HB3
  go_wp2_with fail
  refine (IM.out _).mono ?_
  rintro e w5 ⟨⟨b', hbb', rfl, hrow⟩, hb5⟩
  have HX5 : Hid (w5.rowIs b' 9 M (fun j => .string (F j))) := hrow
  have HR5 : Hid (w5.rowIs b 9 M (fun j => .string (mt (j + 1)))) := HR4.out.of_block (hb5.block b HR4.out.lt)
  have HS5 : Hid (Strs w5 (some ⟨pb, po, none⟩) M F) := HS4.out.below hb5
  have HB5 : Hid (Below w.heap.size w w5) := HB4.out.trans (hb5.mono HB4.out.size)
  clear hrow hb5 HR4 HS4 HB4
  go_wp2_with fail
  refine (eqStringS_yes _ _ M M c F F _ (Strs.ofRow HX5.out) HS5.out (fun _ _ => rfl) (by omega)).mono ?_
  rintro e w6 ⟨rfl, q', rfl⟩
  go_wp2_with fail
  refine (heldStringS_yes b M M _ (rowIs_drewN HR5.out q') (by omega)).mono ?_
  rintro e w6 ⟨rfl, hb6⟩
  have HB6 : Hid (Below w.heap.size w w6) := (below_drewN HB5.out q').trans (hb6.mono HB5.out.size)
  clear hb6 HR5 HS5 HX5 HB5
  go_wp2
  go_ret
  exact ⟨rfl, HB6.out⟩
theorem law_keySchedule (s : ByteArray) (w : World) : Calls Try.prog 5 #[.string s] w fun e w' => e = .returned (.bool true) ∧ Below w.heap.size w w' := by
  by_cases h0 : s.size ≤ 1048576
  · by_cases h1 : 65536 < s.size
    · exact law_keys_no s 2 h0 (spec_long s h1) (impl_long s h1) w
    · by_cases h2 : s.size = 16
      · exact law_keys_yes s 4 (Or.inl rfl) h2 w
      · by_cases h3 : s.size = 32
        · exact law_keys_yes s 8 (Or.inr rfl) h3 w
        · exact law_keys_no s 1 h0 (spec_bad s (by omega) h2 h3) (impl_bad s (by omega) h2 h3) w
  · have e1 : (1048576 : Int) < s.size := by omega
    go_enter Try.func5, Try.ntmps5
    go_wp2
    go_ret
    exact ⟨rfl, Below.refl _ _⟩
end Go.Proofs.Ythfnpplpelinbaa
