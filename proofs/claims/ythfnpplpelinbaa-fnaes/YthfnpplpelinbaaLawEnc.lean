/-
  The law of blocks encrypted: model, program, and the law's own look at both.
-/
import Derived.Test.YthfnpplpelinbaaESpec
import Derived.Test.YthfnpplpelinbaaEImpl
import Derived.Test.YthfnpplpelinbaaLawKeys
namespace Go.Proofs.Ythfnpplpelinbaa
open Go.ChangeShapes Go.WideShapes Go.ChangeAt Go.RowKit
theorem strB_key {W : Nat → Nat} (hW : ∀ j, W j < 256) (i j : Nat) (hj : j < 16) : strB (kstr W (i * 16) 16) j = Gf.keyAt W i j := strB_kstr W (i * 16) 16 j (hW _) hj
set_option maxRecDepth 100000 in
set_option maxHeartbeats 2000000 in
/-- spec.l01Encrypt -/
theorem l01Encrypt_any (pb po ck t m : Nat) (W : Nat → Nat) (hW : ∀ j, W j < 256) (hm : 1 ≤ m) (hm' : m ≤ 14) (s : ByteArray) (hs : s.size = 16) (w : World)
    (hk : Strs w (some ⟨pb, po, none⟩) (m + 1) (fun j => kstr W (j * 16) 16)) (ht : ∀ x, x < 256 → w.cell? ⟨t, x, none⟩ = some (.int .i64 (Gf.sub x : Nat))) :
    Calls Try.prog 28 #[.slice (some ⟨pb, po, none⟩) (m + 1) ck, .slice (some ⟨t, 0, none⟩) 256 256, .string s] w fun e w' => e = .returned (.string (kstr (Gf.enc W m (strB s)) 0 16)) ∧ Below w.heap.size w w' := by
  obtain ⟨_, _, hab, hcells⟩ := hk.opened (by omega)
  cases hab
  have HK : Hid (∀ i, i < m + 1 → w.cell? ⟨pb, po + i, none⟩ = some (.string (kstr W (i * 16) 16))) := hcells
  have HT : Hid (∀ x, x < 256 → w.cell? ⟨t, x, none⟩ = some (.int .i64 (Gf.sub x : Nat))) := ht
  have HW : Hid (∀ j, W j < 256) := hW
  have hpl : pb < w.heap.size := strBlock (hcells 0 (by omega))
  have htl : t < w.heap.size := strBlock (ht 0 (by omega))
  have LE : Hid (∀ i j, j < 16 → Gf.encTo W (strB s) i j < 256) := Gf.encTo_lt hW (fun j _ => strB_lt s j)
  have ST : Hid (∀ w : World, Calls Try.prog 44 #[.string s] w fun e w' => (∃ b c, w.heap.size ≤ b ∧ e = .returned (.slice (some ⟨b, 0, none⟩) 16 c) ∧ I16 w' b (strB s)) ∧ Below w.heap.size w w') := l01State_any s hs
  have XO : Hid (∀ (i b c : Nat) (f : Nat → Nat) (w : World), (∀ j, j < 16 → f j < 256) → I16 w b f → Calls Try.prog 45 #[.slice (some ⟨b, 0, none⟩) 16 c, .string (kstr W (i * 16) 16)] w fun e w' => e = .returned (.tuple #[]) ∧ I16 w' b (Gf.addK f (Gf.keyAt W i)) ∧ OnlyB b w w') := fun i b c f w hf h =>
    (l01Xor_any b c f hf (kstr W (i * 16) 16) (kstr_size _ _ _) w h).mono fun e w' ⟨he, hi, ho⟩ => ⟨he, hi.congr (fun j hj => by rw [strB_key hW i j hj]; rfl), ho⟩
  clear hk hcells ht hW hs
  go_enter Try.func28, Try.ntmps28
  go_wp2_with fail
  refine (ST.out _).mono ?_
  rintro e w1 ⟨⟨b, c, hb, rfl, hi⟩, hB⟩
  have c0 : w1.cell? ⟨pb, po, none⟩ = some (.string (kstr W (0 * 16) 16)) := by rw [hB.cell (p := ⟨pb, po, none⟩) hpl]; exact HK.out 0 (by omega)
  have HI : Hid (I16 w1 b (strB s)) := hi
  have HB : Hid (Below w.heap.size w w1) := hB
  clear hi hB
  go_wp2_with fail
  refine (XO.out 0 b c _ _ (fun j _ => strB_lt s j) HI.out).mono ?_
  rintro e w2 ⟨rfl, hi, ho⟩
  have H0 : Hid (∃ L c, w.heap.size ≤ L ∧ Value.slice (some ⟨b, 0, none⟩) 16 c = .slice (some ⟨L, 0, none⟩) 16 c ∧ I16 w2 L (Gf.encTo W (strB s) 0) ∧ Below w.heap.size w w2) := ⟨b, c, hb, rfl, hi, HB.out.trans (ho.toBelow hb HB.out.size)⟩
  have HI2 : Hid (I16 w2 b (Gf.encTo W (strB s) 0)) := hi
  have HB2 : Hid (Below w.heap.size w w2) := HB.out.trans (ho.toBelow hb HB.out.size)
  clear hi ho HI HB c0 H0 ST
  go_wp2
  go_loopw [7, 8] (fun v i wr => ∃ (k L cc : Nat), 1 ≤ k ∧ k ≤ m + 1 ∧ i = .int .i64 k ∧ w.heap.size ≤ L ∧ v = .slice (some ⟨L, 0, none⟩) 16 cc ∧ I16 wr L (if k ≤ m then Gf.encTo W (strB s) (k - 1) else Gf.enc W m (strB s)) ∧ Below w.heap.size w wr) (fun _ i _ => m + 1 - (intOf i).toNat)
  case atStart => exact ⟨1, b, c, by omega, by omega, rfl, hb, rfl, by rw [if_pos hm]; exact HI2.out, HB2.out⟩
  case round =>
    clear HI2 HB2
    obtain ⟨k, L, cc, hk1, hk2, rfl, hL, rfl, hi, hB⟩ := hrel
    by_cases hlt : k < m + 1
    · rw [if_pos (by omega)] at hi
      have ck : wr.cell? ⟨pb, po + k, none⟩ = some (.string (kstr W (k * 16) 16)) := by rw [hB.cell (p := ⟨pb, po + k, none⟩) hpl]; exact HK.out k hlt
      have HI : Hid (I16 wr L (Gf.encTo W (strB s) (k - 1))) := hi
      have HB : Hid (Below w.heap.size w wr) := hB
      have x1 : (k : Int) < (m : Int) + 1 := by omega
      clear hi hB
      go_wp2_with fail
      refine (l01Swap_any L cc t _ Gf.sub (LE.out (k - 1)) (by omega) _ HI.out (fun x hx => by rw [HB.out.cell (p := ⟨t, x, none⟩) htl]; exact HT.out x hx)).mono ?_
      rintro e w3 ⟨rfl, hi3, ho3⟩
      have HI3 : Hid (I16 w3 L (fun j => Gf.sub (Gf.encTo W (strB s) (k - 1) j))) := hi3
      have HB3 : Hid (Below w.heap.size w w3) := HB.out.trans (ho3.toBelow hL HB.out.size)
      clear hi3 ho3 HI HB ck
      go_wp2_with fail
      refine (l01Shift_any L cc _ _ HI3.out).mono ?_
      rintro e w4 ⟨⟨L4, hL4, rfl, hi4⟩, hb4⟩
      have HI4 : Hid (I16 w4 L4 (Gf.subTurn (Gf.encTo W (strB s) (k - 1)))) := hi4
      have HB4 : Hid (Below w.heap.size w w4) := HB3.out.trans (hb4.mono HB3.out.size)
      have hL4' : w.heap.size ≤ L4 := Nat.le_trans HB3.out.size hL4
      have LS : Hid (∀ j, j < 16 → Gf.subTurn (Gf.encTo W (strB s) (k - 1)) j < 256) := fun j _ => Gf.subTurn_lt (LE.out (k - 1)) j
      clear hi4 hb4 HI3 HB3
      by_cases hkm : k < m
      · have x2 : (k : Int) < (m : Int) := by omega
        go_wp2_with fail
        refine (l01Fast_any L4 16 _ LS.out _ HI4.out).mono ?_
        rintro e w5 ⟨⟨L5, hL5, rfl, hi5⟩, hb5⟩
        have HI5 : Hid (I16 w5 L5 (Gf.mixS (Gf.subTurn (Gf.encTo W (strB s) (k - 1))))) := hi5
        have HB5 : Hid (Below w.heap.size w w5) := HB4.out.trans (hb5.mono HB4.out.size)
        have hL5' : w.heap.size ≤ L5 := Nat.le_trans HB4.out.size hL5
        have ck : w5.cell? ⟨pb, po + k, none⟩ = some (.string (kstr W (k * 16) 16)) := by rw [HB5.out.cell (p := ⟨pb, po + k, none⟩) hpl]; exact HK.out k hlt
        clear hi5 hb5 HI4 HB4
        go_wp2_with fail
        refine (XO.out k L5 16 _ _ (Gf.mixS_lt LS.out) HI5.out).mono ?_
        rintro e w6 ⟨rfl, hi6, ho6⟩
        have HI6 : Hid (I16 w6 L5 (Gf.encTo W (strB s) k)) := by
          obtain ⟨q, rfl⟩ : ∃ q, k = q + 1 := ⟨k - 1, by omega⟩
          exact hi6
        have HB6 : Hid (Below w.heap.size w w6) := HB5.out.trans (ho6.toBelow hL5' HB5.out.size)
        clear hi6 ho6 HI5 HB5 ck
        go_wp2
        go_roundw
        case rel => exact ⟨k + 1, L5, 16, by omega, by omega, by go_num, hL5', rfl, by rw [if_pos (by omega)]; exact HI6.out, HB6.out⟩
        case measure => simp [intOf]; omega
      · have hke : Hid (k = m) := by show k = m; omega
        have x2 : ¬ (k : Int) < (m : Int) := by omega
        have ck : w4.cell? ⟨pb, po + k, none⟩ = some (.string (kstr W (k * 16) 16)) := by rw [HB4.out.cell (p := ⟨pb, po + k, none⟩) hpl]; exact HK.out k hlt
        go_wp2_with fail
        refine (XO.out k L4 16 _ _ LS.out HI4.out).mono ?_
        rintro e w6 ⟨rfl, hi6, ho6⟩
        have HI6 : Hid (I16 w6 L4 (Gf.enc W m (strB s))) := by
          have e := hke.out
          subst e
          exact hi6
        have HB6 : Hid (Below w.heap.size w w6) := HB4.out.trans (ho6.toBelow hL4' HB4.out.size)
        clear hi6 ho6 HI4 HB4 ck
        go_wp2
        go_roundw
        case rel => exact ⟨k + 1, L4, 16, by omega, by omega, by go_num, hL4', rfl, by rw [if_neg (by omega)]; exact HI6.out, HB6.out⟩
        case measure => simp [intOf]; omega
    · rw [if_neg (by omega)] at hi
      have HI : Hid (I16 wr L (Gf.enc W m (strB s))) := hi
      have HB : Hid (Below w.heap.size w wr) := hB
      have x1 : ¬ (k : Int) < (m : Int) + 1 := by omega
      clear hi hB
      go_wp2_with fail
      refine (l01Text_any L cc _ (fun j _ => Gf.enc_lt HW.out (fun j _ => strB_lt s j) j) _ HI.out).mono ?_
      rintro e w3 ⟨rfl, hb3⟩
      have HB3 : Hid (Below w.heap.size w w3) := HB.out.trans (hb3.mono HB.out.size)
      clear hb3 HI HB
      go_wp2
      go_ret
      exact ⟨rfl, HB3.out⟩
theorem specEnc_long (s t : ByteArray) (h : 65536 < s.size ∨ 65536 < t.size) (w : World) : Calls Try.prog 11 #[.string s, .string t] w fun e w' => e = .returned (.tuple #[.string ⟨#[]⟩, .int .i64 2]) ∧ w = w' := by
  by_cases h1 : 65536 < s.size
  · have e1 : (65536 : Int) < s.size := by omega
    go_enter Try.func11, Try.ntmps11
    go_wp2
    go_ret2
    exact ⟨rfl, rfl⟩
  · have e1 : ¬ (65536 : Int) < s.size := by omega
    have e2 : (65536 : Int) < t.size := by omega
    go_enter Try.func11, Try.ntmps11
    go_wp2
    go_ret2
    exact ⟨rfl, rfl⟩
theorem specEnc_bad (s t : ByteArray) (h1 : s.size ≤ 65536) (h2 : t.size ≤ 65536) (h : ¬ ((s.size = 16 ∨ s.size = 32) ∧ t.size = 16)) (w : World) : Calls Try.prog 11 #[.string s, .string t] w fun e w' => e = .returned (.tuple #[.string ⟨#[]⟩, .int .i64 1]) ∧ w = w' := by
  have e1 : ¬ (65536 : Int) < s.size := by omega
  have e2 : ¬ (65536 : Int) < t.size := by omega
  by_cases hk : s.size = 16 ∨ s.size = 32
  · have e3 : ((t.size : Int) != 16) = true := by rw [bne_iff_ne]; omega
    have KO : Hid (∀ w : World, Calls Try.prog 26 #[.string s] w fun e w' => e = .returned (.bool true) ∧ w = w') := l01Key_yes s hk
    clear h hk
    go_enter Try.func11, Try.ntmps11
    go_wp2_with (go_at_call 26; refine (KO.out _).mono ?_; rintro e w' ⟨rfl, rfl⟩)
    go_ret2
    exact ⟨rfl, rfl⟩
  · have KO : Hid (∀ w : World, Calls Try.prog 26 #[.string s] w fun e w' => e = .returned (.bool false) ∧ w = w') := l01Key_no s (by omega) (by omega)
    clear h hk
    go_enter Try.func11, Try.ntmps11
    go_wp2_with (go_at_call 26; refine (KO.out _).mono ?_; rintro e w' ⟨rfl, rfl⟩)
    go_ret2
    exact ⟨rfl, rfl⟩
set_option maxRecDepth 100000 in
theorem specEnc_yes (s t : ByteArray) (n : Nat) (hn : n = 4 ∨ n = 8) (hs : s.size = n * 4) (ht : t.size = 16) (w : World) :
    Calls Try.prog 11 #[.string s, .string t] w fun e w' => e = .returned (.tuple #[.string (kstr (Gf.enc (Gf.ws (strB s) n (3 * n + 28)) (n + 6) (strB t)) 0 16), .int .i64 0]) ∧ Below w.heap.size w w' := by
  have e1 : ¬ (65536 : Int) < s.size := by omega
  have e2 : ¬ (65536 : Int) < t.size := by omega
  have e3 : ((t.size : Int) != 16) = false := by rw [bne_eq_false_iff_eq]; omega
  have KO : Hid (∀ w : World, Calls Try.prog 26 #[.string s] w fun e w' => e = .returned (.bool true) ∧ w = w') := l01Key_yes s (by omega)
  have LK : Hid (∀ (b : Nat) (w : World), w.rowIs b 3 256 (fun j => .int .i64 (Gf.sub j : Nat)) → Calls Try.prog 29 #[.string s, .slice (some ⟨b, 0, none⟩) 256 256] w fun e w' => (∃ v, e = .returned v ∧ w'.ownsRow w.heap.size 9 1 v (n + 7) (ksVals (Gf.ws (strB s) n (3 * n + 28)) (n + 7))) ∧ Below w.heap.size w w') := fun b w h => l01Keys_any s n hn hs b w h
  have TA : Hid (∀ w : World, Calls Try.prog 27 #[] w fun e w' => (∃ b, w.heap.size ≤ b ∧ e = .returned (.slice (some ⟨b, 0, none⟩) 256 256) ∧ w'.rowIs b 3 256 (fun j => .int .i64 (Gf.sub j : Nat))) ∧ Below w.heap.size w w') := table_any
  have LW : Hid (∀ j, Gf.ws (strB s) n (3 * n + 28) j < 256) := Gf.ws_lt (strB_lt s) _
  generalize Gf.ws (strB s) n (3 * n + 28) = W at *
  have EN : Hid (∀ (pb po ck b : Nat) (w : World), Strs w (some ⟨pb, po, none⟩) (n + 7) (fun j => kstr W (j * 16) 16) → w.rowIs b 3 256 (fun j => .int .i64 (Gf.sub j : Nat)) → Calls Try.prog 28 #[.slice (some ⟨pb, po, none⟩) (n + 7) ck, .slice (some ⟨b, 0, none⟩) 256 256, .string t] w fun e w' => e = .returned (.string (kstr (Gf.enc W (n + 6) (strB t)) 0 16)) ∧ Below w.heap.size w w') := fun pb po ck b w h1 h2 => l01Encrypt_any pb po ck b (n + 6) W LW.out (by omega) (by omega) t ht w h1 (fun x hx => h2.cell hx)
  clear hs hn ht
  go_enter Try.func11, Try.ntmps11
  go_wp2_with (go_at_call 26; refine (KO.out _).mono ?_; rintro e w' ⟨rfl, rfl⟩)
  refine (TA.out _).mono ?_
  rintro e w1 ⟨⟨b, hb, rfl, hrow⟩, hB1⟩
  have HR : Hid (w1.rowIs b 3 256 (fun j => .int .i64 (Gf.sub j : Nat))) := hrow
  have HB1 : Hid (Below w.heap.size w w1) := hB1
  clear hrow hB1
  go_wp2_with fail
  refine (LK.out b w1 HR.out).mono ?_
  rintro e w2 ⟨⟨v, rfl, hown⟩, hB2⟩
  obtain ⟨p, c, rfl, hstr⟩ := strs_of_owned hown (by omega)
  obtain ⟨pb, po, rfl, _⟩ := hstr.opened (by omega)
  have HS : Hid (Strs w2 (some ⟨pb, po, none⟩) (n + 7) (fun j => kstr W (j * 16) 16)) := hstr
  have HR2 : Hid (w2.rowIs b 3 256 (fun j => .int .i64 (Gf.sub j : Nat))) := HR.out.of_block (hB2.block b HR.out.lt)
  have HB2 : Hid (Below w.heap.size w w2) := HB1.out.trans (hB2.mono HB1.out.size)
  clear hown hstr hB2 HR HB1
  go_wp2_with fail
  refine (EN.out pb po c b w2 HS.out HR2.out).mono ?_
  rintro e w3 ⟨rfl, hB3⟩
  have HB3 : Hid (Below w.heap.size w w3) := HB2.out.trans (hB3.mono HB2.out.size)
  clear hB3
  go_wp2
  go_ret2
  exact ⟨rfl, HB3.out⟩
set_option maxRecDepth 100000 in
/-- Where both answer alike the law holds. -/
theorem law_enc_of (s t r : ByteArray) (code : Int) (h1 : s.size ≤ 1048576) (h2 : t.size ≤ 1048576)
    (hsp : ∀ w : World, Calls Try.prog 11 #[.string s, .string t] w fun e w' => e = .returned (.tuple #[.string r, .int .i64 code]) ∧ Below w.heap.size w w')
    (him : ∀ w : World, Calls Try.prog 10 #[.string s, .string t] w fun e w' => e = .returned (.tuple #[.string r, .int .i64 code]) ∧ Below w.heap.size w w') (w : World) :
    Calls Try.prog 6 #[.string s, .string t] w fun e w' => e = .returned (.bool true) ∧ Below w.heap.size w w' := by
  have e1 : ¬ (1048576 : Int) < s.size := by omega
  have e2 : ¬ (1048576 : Int) < t.size := by omega
  have SP : Hid (∀ w : World, Calls Try.prog 11 #[.string s, .string t] w fun e w' => e = .returned (.tuple #[.string r, .int .i64 code]) ∧ Below w.heap.size w w') := hsp
  have IM : Hid (∀ w : World, Calls Try.prog 10 #[.string s, .string t] w fun e w' => e = .returned (.tuple #[.string r, .int .i64 code]) ∧ Below w.heap.size w w') := him
  have hcc : (code != code) = false := by simp
  clear hsp him
  go_enter Try.func6, Try.ntmps6
  go_wp2_with fail
  refine (SP.out _).mono ?_
  rintro e w1 ⟨rfl, hb1⟩
  have HB1 : Hid (Below w.heap.size w w1) := hb1
  clear hb1
  go_wp2_with fail
  refine (IM.out _).mono ?_
  rintro e w2 ⟨rfl, hb2⟩
  have HB2 : Hid (Below w.heap.size w w2) := HB1.out.trans (hb2.mono HB1.out.size)
  clear hb2
  go_wp2
  go_ret
  exact ⟨rfl, HB2.out⟩
theorem calls_same {N : Nat} {args : Array Value} {v : Value} (h : ∀ w : World, Calls Try.prog N args w fun e w' => e = .returned v ∧ w = w') : ∀ w : World, Calls Try.prog N args w fun e w' => e = .returned v ∧ Below w.heap.size w w' := fun w => (h w).mono fun e w' hh => ⟨hh.1, by rw [← hh.2]; exact Below.refl _ _⟩
theorem law_encryptBlock (s t : ByteArray) (w : World) : Calls Try.prog 6 #[.string s, .string t] w fun e w' => e = .returned (.bool true) ∧ Below w.heap.size w w' := by
  by_cases h1 : s.size ≤ 1048576
  · by_cases h2 : t.size ≤ 1048576
    · by_cases h3 : 65536 < s.size ∨ 65536 < t.size
      · exact law_enc_of s t _ 2 h1 h2 (calls_same (specEnc_long s t h3)) (calls_same (implEnc_no s t 2 (by decide) (fault_long s t h3))) w
      · by_cases h4 : (s.size = 16 ∨ s.size = 32) ∧ t.size = 16
        · rcases h4.1 with h5 | h5
          · exact law_enc_of s t _ 0 h1 h2 (specEnc_yes s t 4 (Or.inl rfl) h5 h4.2) (implEnc_yes s t 4 (Or.inl rfl) h5 h4.2) w
          · exact law_enc_of s t _ 0 h1 h2 (specEnc_yes s t 8 (Or.inr rfl) h5 h4.2) (implEnc_yes s t 8 (Or.inr rfl) h5 h4.2) w
        · exact law_enc_of s t _ 1 h1 h2 (calls_same (specEnc_bad s t (by omega) (by omega) h4)) (calls_same (implEnc_no s t 1 (by decide) (fault_bad s t (by omega) (by omega) h4))) w
    · have e1 : ¬ (1048576 : Int) < s.size := by omega
      have e2 : (1048576 : Int) < t.size := by omega
      go_enter Try.func6, Try.ntmps6
      go_wp2
      go_ret
      exact ⟨rfl, Below.refl _ _⟩
  · have e1 : (1048576 : Int) < s.size := by omega
    go_enter Try.func6, Try.ntmps6
    go_wp2
    go_ret
    exact ⟨rfl, Below.refl _ _⟩
end Go.Proofs.Ythfnpplpelinbaa
