/-
  The law FnAes: what is encrypted is decrypted, and no two blocks become the same under one key.
-/
import Derived.Test.YthfnpplpelinbaaLawFnKeys
import Derived.Test.YthfnpplpelinbaaLawDec
import Derived.Test.YthfnpplpelinbaaAesMath
namespace Go.Proofs.Ythfnpplpelinbaa
open Go.ChangeShapes Go.WideShapes Go.ChangeAt Go.RowKit
theorem text_beq {x y a b : ByteArray} (h1 : a = b → x = y) (h2 : x = y → a = b) : (x.toList == y.toList) = (a.toList == b.toList) := by
  by_cases e : a = b
  · rw [h1 e, e]; simp
  · have e' : x ≠ y := fun h => e (h2 h)
    have l1 : x.toList ≠ y.toList := fun h => e' (ba_ext (by rw [← ByteArray.toList_eq, ← ByteArray.toList_eq]; exact h))
    have l2 : a.toList ≠ b.toList := fun h => e (ba_ext (by rw [← ByteArray.toList_eq, ← ByteArray.toList_eq]; exact h))
    rw [beq_eq_false_iff_ne.2 l1, beq_eq_false_iff_ne.2 l2]
theorem seven_list (n : Nat) (y : Nat → Nat) : ((List.range (n + 1)).map fun j => Value.int .u8 ((if j = 0 then 7 else y (j - 1) : Nat) : Int)) = [.int .u8 7] ++ ((List.range n).map fun j => Value.int .u8 (y j : Nat)) := by
  rw [List.range_succ_eq_map, List.map_cons, List.map_map]
  rfl
theorem seven_code (w : World) (t : TypeId) : Code8 (w.alloc (.cells #[.int .u8 7] t)) (some ⟨w.heap.size, 0, none⟩) 1 (fun _ => 7) := fun i hi => by
  obtain rfl : i = 0 := by omega
  exact ⟨w.heap.size, 0, rfl, by simp⟩
theorem seven_news (w : World) (x : Addr) (n : Nat) (y : Nat → Nat) (t : TypeId) (h : Code8 w (some x) n y) : ∀ j u, ((List.range n).map fun j => Value.int .u8 (y j : Nat))[j]? = some u → (w.alloc (.cells #[.int .u8 7] t)).cell? (x.add j) = some u := fun j u hj => by
  have hjn : j < n := by have := (List.getElem?_eq_some_iff.1 hj).1; simpa using this
  obtain ⟨cb, off, ha, hc⟩ := h j hjn
  cases ha
  rw [Addr.add_mid, World.cell?_alloc_lt _ _ _ (strBlock hc), hc]
  simpa [hjn] using hj
set_option maxRecDepth 100000 in
set_option maxHeartbeats 4000000 in
theorem law_aes (a0 a1 : Option Addr) (n0 c0 n1 c1 : Nat) (z0 z1 : List Int) (w : World) (h0 : IsRow .u8 w a0 n0 c0 z0) (h1 : IsRow .u8 w a1 n1 c1 z1) (m0 : n0 ≤ maxLen) (m1 : n1 ≤ maxLen) :
    Calls Try.prog 3 #[.slice a0 n0 c0, .slice a1 n1 c1] w fun e w' => e = .returned (.bool true) ∧ Below w.heap.size w w' := by
  have m0' : (n0 : Int) ≤ 9223372036854775807 := by unfold maxLen at m0; omega
  have m1' : (n1 : Int) ≤ 9223372036854775807 := by unfold maxLen at m1; omega
  by_cases hbig0 : 1048576 < n0
  · have e1 : (1048576 : Int) < n0 := by omega
    go_enter Try.func3, Try.ntmps3
    go_wp2
    go_ret
    exact ⟨rfl, Below.refl _ _⟩
  · have e1 : ¬ (1048576 : Int) < n0 := by omega
    by_cases hbig1 : 1048576 < n1
    · have e2 : (1048576 : Int) < n1 := by omega
      go_enter Try.func3, Try.ntmps3
      go_wp2
      go_ret
      exact ⟨rfl, Below.refl _ _⟩
    · have e2 : ¬ (1048576 : Int) < n1 := by omega
      obtain ⟨i0, hi, hz0, hz1, hz2⟩ := info_parts Try.infoByte
      have HI : Hid (Try.prog.info? 5 = some i0 ∧ i0.zero = some (.int .u8 0) ∧ i0.size = 1 ∧ i0.bytes = 1) := ⟨hi, hz0, hz1, hz2⟩
      clear hi hz0 hz1 hz2
      obtain ⟨y0, hy0, hk0⟩ := code8_of_row h0
      obtain ⟨y1, hy1, hk1⟩ := code8_of_row h1
      have BA : Below w.heap.size w (w.alloc (.cells #[.int .i64 16, .int .i64 32] 3)) := (Below.refl _ _).alloc (Nat.le_refl _) _
      have H1 : Hid (IsRow .u8 (w.alloc (.cells #[.int .i64 16, .int .i64 32] 3)) a1 n1 c1 z1) := h1.below BA
      have AT : Hid (Calls Try.prog 9 #[.slice a1 n1 c1, .int .i64 0, .int .i64 2] (w.alloc (.cells #[.int .i64 16, .int .i64 32] 3)) fun e w' => (∃ r : Nat, (r : Int) < 2 ∧ e = .returned (.int .i64 r)) ∧ ∃ q, w' = (w.alloc (.cells #[.int .i64 16, .int .i64 32] 3)).drewN q) := at_any a1 n1 c1 z1 _ H1.out 0 2 (by omega) (by omega) (by omega) (by omega)
      have HK0 : Hid (Code8 w a0 n0 y0) := hk0
      have HK1 : Hid (Code8 w a1 n1 y1) := hk1
      have NIL : Hid ((a1 = none ∧ n1 = 0 ∧ c1 = 0) ∨ ∃ x, a1 = some x) := by
        rcases h1 with ⟨h, h', h'', _⟩ | ⟨x, h, _⟩
        · exact .inl ⟨h, h', h''⟩
        · exact .inr ⟨x, h⟩
      clear hk0 hk1 h0 h1 BA H1
      go_enter Try.func3, Try.ntmps3
      go_wp2_with fail
      refine Calls.mono AT.out ?_
      rintro e w1 ⟨⟨r, hr, rfl⟩, q, rfl⟩
      have B1 : Hid (Below w.heap.size w ((w.alloc (.cells #[.int .i64 16, .int .i64 32] 3)).drewN q)) := below_drewN ((Below.refl _ _).alloc (Nat.le_refl _) _) q
      have K0 : Hid (Code8 ((w.alloc (.cells #[.int .i64 16, .int .i64 32] 3)).drewN q) a0 n0 y0) := HK0.out.below B1.out
      have K1 : Hid (Code8 ((w.alloc (.cells #[.int .i64 16, .int .i64 32] 3)).drewN q) a1 n1 y1) := HK1.out.below B1.out
      clear HK0 HK1 AT
      rcases (show r = 0 ∨ r = 1 by omega) with rfl | rfl
      · rcases NIL.out with ⟨rfl, rfl, rfl⟩ | ⟨x, rfl⟩
        · go_wp2_with fail
          refine (blobOf_any (4 * 4) (by omega) (by omega) a0 n0 c0 y0 hy0 m0 _ K0.out).mono ?_
          rintro e w2 ⟨rfl, hb2⟩
          have szk : (kstr (byteK n0 y0 0 (n0 % 1000)) 0 (4 * 4)).size = 4 * 4 := kstr_size _ _ _
          have B2 : Hid (Below w.heap.size w w2) := B1.out.trans (hb2.mono B1.out.size)
          have K1' := K1.out.below hb2
          clear hb2 B1 K0 K1
          have K1 : Hid (Code8 w2 none 0 y1) := K1'
          clear K1'
          generalize kstr (byteK n0 y0 0 (n0 % 1000)) 0 (4 * 4) = s1 at *
          go_wp2_with fail
          refine (blobOf_any 16 (by omega) (by omega) none 0 0 y1 hy1 (by unfold maxLen; omega) _ K1.out).mono ?_
          rintro e w3 ⟨rfl, hb3⟩
          have sza : (kstr (byteK 0 y1 0 (0 % 1000)) 0 16).size = 16 := kstr_size _ _ _
          have B3 : Hid (Below w.heap.size w w3) := B2.out.trans (hb3.mono B2.out.size)
          have K1' := K1.out.below hb3
          clear hb3 B2 K1
          have K1 : Hid (Code8 w3 none 0 y1) := K1'
          clear K1'
          generalize kstr (byteK 0 y1 0 (0 % 1000)) 0 16 = sa at *
          have B4 : Hid (Below w.heap.size w (w3.alloc (.cells #[.int .u8 7] 5))) := B3.out.alloc B3.out.size _
          have K4 : Hid (Code8 (w3.alloc (.cells #[.int .u8 7] 5)) (some ⟨w3.heap.size, 0, none⟩) 1 (fun _ => 7)) := seven_code w3 _
          clear B3 K1
          go_wp2_with fail
          refine (blobOf_any 16 (by omega) (by omega) (some ⟨w3.heap.size, 0, none⟩) 1 1 (fun _ => 7) (fun _ => by show 7 < 256; omega) (by unfold maxLen; omega) _ K4.out).mono ?_
          rintro e w5 ⟨rfl, hb5⟩
          have szb : (kstr (byteK 1 (fun _ => 7) 0 (1 % 1000)) 0 16).size = 16 := kstr_size _ _ _
          have B5 : Hid (Below w.heap.size w w5) := B4.out.trans (hb5.mono B4.out.size)
          clear hb5 B4 K4
          generalize kstr (byteK 1 (fun _ => 7) 0 (1 % 1000)) 0 16 = sb at *
          have LW : ∀ j, Gf.ws (strB s1) 4 (3 * 4 + 28) j < 256 := Gf.ws_lt (strB_lt s1) _
          have EA : Hid (∀ w : World, Calls Try.prog 10 #[.string s1, .string sa] w fun e w' => e = .returned (.tuple #[.string (kstr (Gf.enc (Gf.ws (strB s1) 4 (3 * 4 + 28)) (4 + 6) (strB sa)) 0 16), .int .i64 0]) ∧ Below w.heap.size w w') := implEnc_yes s1 sa 4 (by decide) szk sza
          have EB : Hid (∀ w : World, Calls Try.prog 10 #[.string s1, .string sb] w fun e w' => e = .returned (.tuple #[.string (kstr (Gf.enc (Gf.ws (strB s1) 4 (3 * 4 + 28)) (4 + 6) (strB sb)) 0 16), .int .i64 0]) ∧ Below w.heap.size w w') := implEnc_yes s1 sb 4 (by decide) szk szb
          have ES : Hid (∀ w : World, Calls Try.prog 11 #[.string s1, .string sa] w fun e w' => e = .returned (.tuple #[.string (kstr (Gf.enc (Gf.ws (strB s1) 4 (3 * 4 + 28)) (4 + 6) (strB sa)) 0 16), .int .i64 0]) ∧ Below w.heap.size w w') := specEnc_yes s1 sa 4 (by decide) szk sza
          have DA : Hid (∀ w : World, Calls Try.prog 12 #[.string s1, .string (kstr (Gf.enc (Gf.ws (strB s1) 4 (3 * 4 + 28)) (4 + 6) (strB sa)) 0 16)] w fun e w' => e = .returned (.tuple #[.string sa, .int .i64 0]) ∧ Below w.heap.size w w') := fun w => (implDec_yes s1 (kstr (Gf.enc (Gf.ws (strB s1) 4 (3 * 4 + 28)) (4 + 6) (strB sa)) 0 16) 4 (by decide) szk (kstr_size _ _ _) w).mono fun e w' h => ⟨by rw [h.1, dec_enc_text (by omega) LW sa sza], h.2⟩
          have IM : Hid (∀ w : World, Calls Try.prog 13 #[.string s1] w fun e w' => (∃ b, w.heap.size ≤ b ∧ e = .returned (.tuple #[.slice (some ⟨b, 0, none⟩) (4 + 7) (4 + 7), .int .i64 0]) ∧ w'.rowIs b 9 (4 + 7) (fun j => .string (kstr (Gf.ws (strB s1) 4 (3 * 4 + 28)) (j * 16) 16))) ∧ Below w.heap.size w w') := implKeys_any s1 4 (by decide) szk
          have SP : Hid (∀ w : World, Calls Try.prog 14 #[.string s1] w fun e w' => (∃ p c, e = .returned (.tuple #[.slice p (4 + 7) c, .int .i64 0]) ∧ Strs w' p (4 + 7) (fun j => kstr (Gf.ws (strB s1) 4 (3 * 4 + 28)) (j * 16) 16)) ∧ Below w.heap.size w w') := specKeys_any s1 4 (by decide) szk
          have XY : ((kstr (Gf.enc (Gf.ws (strB s1) 4 (3 * 4 + 28)) (4 + 6) (strB sa)) 0 16).toList == (kstr (Gf.enc (Gf.ws (strB s1) 4 (3 * 4 + 28)) (4 + 6) (strB sb)) 0 16).toList) = (sa.toList == sb.toList) := text_beq (fun e => by rw [e]) (fun e => enc_inj (by omega) LW sa sb sza szb e)
          generalize kstr (Gf.enc (Gf.ws (strB s1) 4 (3 * 4 + 28)) (4 + 6) (strB sa)) 0 16 = X at *
          generalize kstr (Gf.enc (Gf.ws (strB s1) 4 (3 * 4 + 28)) (4 + 6) (strB sb)) 0 16 = Y at *
          clear LW sza szb
          go_wp2_with fail
          refine (EA.out _).mono ?_
          rintro e w6 ⟨rfl, hb⟩
          have B6 : Hid (Below w.heap.size w w6) := B5.out.trans (hb.mono B5.out.size)
          clear hb B5
          go_wp2_with fail
          refine (EB.out _).mono ?_
          rintro e w7 ⟨rfl, hb⟩
          have B7 : Hid (Below w.heap.size w w7) := B6.out.trans (hb.mono B6.out.size)
          clear hb B6
          go_wp2_with fail
          refine (ES.out _).mono ?_
          rintro e w8 ⟨rfl, hb⟩
          have B8 : Hid (Below w.heap.size w w8) := B7.out.trans (hb.mono B7.out.size)
          clear hb B7
          go_wp2_with fail
          refine (DA.out _).mono ?_
          rintro e w9 ⟨rfl, hb⟩
          have B9 : Hid (Below w.heap.size w w9) := B8.out.trans (hb.mono B8.out.size)
          clear hb B8
          go_wp2_with fail
          refine (EA.out _).mono ?_
          rintro e w10 ⟨rfl, hb⟩
          have B10 : Hid (Below w.heap.size w w10) := B9.out.trans (hb.mono B9.out.size)
          clear hb B9
          go_wp2_with fail
          refine (IM.out _).mono ?_
          rintro e w11 ⟨⟨b4, hb4, rfl, hr4⟩, hb⟩
          have R4 : Hid (w11.rowIs b4 9 (4 + 7) (fun j => .string (kstr (Gf.ws (strB s1) 4 (3 * 4 + 28)) (j * 16) 16))) := hr4
          have B11 : Hid (Below w.heap.size w w11) := B10.out.trans (hb.mono B10.out.size)
          clear hb hr4 B10
          go_wp2_with fail
          refine (SP.out _).mono ?_
          rintro e w12 ⟨⟨p, cp, rfl, hs12⟩, hb⟩
          have Q4 : Hid (w12.rowIs b4 9 (4 + 7) (fun j => .string (kstr (Gf.ws (strB s1) 4 (3 * 4 + 28)) (j * 16) 16))) := R4.out.of_block (hb.block b4 R4.out.lt)
          have B12 : Hid (Below w.heap.size w w12) := B11.out.trans (hb.mono B11.out.size)
          have ST : Hid (∀ (c d : Nat), Calls Try.prog 15 #[.slice (some ⟨b4, 0, none⟩) (4 + 7) c, .slice p (4 + 7) d] w12 fun e w' => e = .returned (.bool true) ∧ ∃ q, w' = w12.drewN q) := fun c d => sameTexts_yes _ _ (4 + 7) c d _ _ w12 (Strs.ofRow Q4.out) hs12 (fun _ _ => rfl) (by omega)
          have szI : (s1.size : Int) = 16 := by omega
          clear hs12 hb B11 R4 Q4 EA EB ES DA IM SP
          go_wp2_with (go_at_call 15; refine (ST.out _ _).mono ?_; rintro e w' ⟨rfl, q, rfl⟩)
          go_ret
          exact ⟨rfl, below_drewN B12.out _⟩
        · go_wp2_with fail
          refine (blobOf_any (4 * 4) (by omega) (by omega) a0 n0 c0 y0 hy0 m0 _ K0.out).mono ?_
          rintro e w2 ⟨rfl, hb2⟩
          have szk : (kstr (byteK n0 y0 0 (n0 % 1000)) 0 (4 * 4)).size = 4 * 4 := kstr_size _ _ _
          have B2 : Hid (Below w.heap.size w w2) := B1.out.trans (hb2.mono B1.out.size)
          have K1' := K1.out.below hb2
          clear hb2 B1 K0 K1
          have K1 : Hid (Code8 w2 (some x) n1 y1) := K1'
          clear K1'
          generalize kstr (byteK n0 y0 0 (n0 % 1000)) 0 (4 * 4) = s1 at *
          go_wp2_with fail
          refine (blobOf_any 16 (by omega) (by omega) (some x) n1 c1 y1 hy1 m1 _ K1.out).mono ?_
          rintro e w3 ⟨rfl, hb3⟩
          have sza : (kstr (byteK n1 y1 0 (n1 % 1000)) 0 16).size = 16 := kstr_size _ _ _
          have B3 : Hid (Below w.heap.size w w3) := B2.out.trans (hb3.mono B2.out.size)
          have K1' := K1.out.below hb3
          clear hb3 B2 K1
          have K1 : Hid (Code8 w3 (some x) n1 y1) := K1'
          clear K1'
          generalize kstr (byteK n1 y1 0 (n1 % 1000)) 0 16 = sa at *
          have OW : Hid ((w3.alloc (.cells #[.int .u8 7] 5)).ownsRow w3.heap.size 5 1 (.slice (some ⟨w3.heap.size, 0, none⟩) 1 1) 1 [.int .u8 7]) := ⟨rfl, .inr ⟨w3.heap.size, 1, #[.int .u8 7], rfl, Nat.le_refl _, Deep.blk_alloc_new _ _, Nat.le_refl _, by simp [maxLen], rfl, rfl⟩⟩
          have NW : Hid (∀ j u, ((List.range n1).map fun j => Value.int .u8 (y1 j : Nat))[j]? = some u → (w3.alloc (.cells #[.int .u8 7] 5)).cell? (x.add j) = some u) := seven_news w3 x n1 y1 _ K1.out
          have ON : Hid (∀ u ∈ ((List.range n1).map fun j => Value.int .u8 (y1 j : Nat)), u.oneCell' = true) := fun u hu => by
            obtain ⟨i, _, rfl⟩ := List.mem_map.1 hu
            rfl
          go_wp2_with (at_builtin; refine wpList_append_own _ rfl _ _ 22 rfl w3.heap.size 5 i0 (.int .u8 0) 1 1 Try.underlying22 HI.out.1 HI.out.2.1 HI.out.2.2.1 HI.out.2.2.2 rfl (by decide) (.slice (some ⟨w3.heap.size, 0, none⟩) 1 1) 1 [.int .u8 7] rfl OW.out x n1 c1 ((List.range n1).map fun j => .int .u8 (y1 j : Nat)) rfl (by simp) NW.out ON.out (by unfold maxLen; omega) (by omega) (by simp) ?_)
          intro v' w4 hown hgrow _
          have B4 : Hid (Below w.heap.size w w4) := (B3.out.alloc B3.out.size _).trans (((Below.refl _ _).grown hgrow (by simp) (fun k hk => by cases hk; exact Nat.le_refl _)).mono B3.out.size)
          have OW4 : w4.ownsRow w3.heap.size 5 1 v' (n1 + 1) ((List.range (n1 + 1)).map fun j => .int .u8 ((if j = 0 then 7 else y1 (j - 1) : Nat) : Int)) := by
            have h := hown
            rw [Nat.add_comm 1 n1] at h
            rw [seven_list n1 y1]
            exact h
          obtain ⟨g, cg, hg1, hg2, rfl, hgc⟩ := owned_open OW4 (by omega)
          have K4 : Hid (Code8 w4 (some ⟨g, 0, none⟩) (n1 + 1) (fun j => if j = 0 then 7 else y1 (j - 1))) := fun i hi => ⟨g, 0, rfl, by rw [Nat.zero_add]; exact hgc i hi⟩
          clear hown hgrow OW4 hgc OW NW ON B3 K1
          go_wp2_with fail
          refine (blobOf_any 16 (by omega) (by omega) (some ⟨g, 0, none⟩) (n1 + 1) cg (fun j => if j = 0 then 7 else y1 (j - 1)) (fun i => by show (if i = 0 then 7 else y1 (i - 1)) < 256; split; omega; exact hy1 _) (by unfold maxLen; omega) _ K4.out).mono ?_
          rintro e w5 ⟨rfl, hb5⟩
          have szb : (kstr (byteK (n1 + 1) (fun j => if j = 0 then 7 else y1 (j - 1)) 0 ((n1 + 1) % 1000)) 0 16).size = 16 := kstr_size _ _ _
          have B5 : Hid (Below w.heap.size w w5) := B4.out.trans (hb5.mono B4.out.size)
          clear hb5 B4 K4
          generalize kstr (byteK (n1 + 1) (fun j => if j = 0 then 7 else y1 (j - 1)) 0 ((n1 + 1) % 1000)) 0 16 = sb at *
          have LW : ∀ j, Gf.ws (strB s1) 4 (3 * 4 + 28) j < 256 := Gf.ws_lt (strB_lt s1) _
          have EA : Hid (∀ w : World, Calls Try.prog 10 #[.string s1, .string sa] w fun e w' => e = .returned (.tuple #[.string (kstr (Gf.enc (Gf.ws (strB s1) 4 (3 * 4 + 28)) (4 + 6) (strB sa)) 0 16), .int .i64 0]) ∧ Below w.heap.size w w') := implEnc_yes s1 sa 4 (by decide) szk sza
          have EB : Hid (∀ w : World, Calls Try.prog 10 #[.string s1, .string sb] w fun e w' => e = .returned (.tuple #[.string (kstr (Gf.enc (Gf.ws (strB s1) 4 (3 * 4 + 28)) (4 + 6) (strB sb)) 0 16), .int .i64 0]) ∧ Below w.heap.size w w') := implEnc_yes s1 sb 4 (by decide) szk szb
          have ES : Hid (∀ w : World, Calls Try.prog 11 #[.string s1, .string sa] w fun e w' => e = .returned (.tuple #[.string (kstr (Gf.enc (Gf.ws (strB s1) 4 (3 * 4 + 28)) (4 + 6) (strB sa)) 0 16), .int .i64 0]) ∧ Below w.heap.size w w') := specEnc_yes s1 sa 4 (by decide) szk sza
          have DA : Hid (∀ w : World, Calls Try.prog 12 #[.string s1, .string (kstr (Gf.enc (Gf.ws (strB s1) 4 (3 * 4 + 28)) (4 + 6) (strB sa)) 0 16)] w fun e w' => e = .returned (.tuple #[.string sa, .int .i64 0]) ∧ Below w.heap.size w w') := fun w => (implDec_yes s1 (kstr (Gf.enc (Gf.ws (strB s1) 4 (3 * 4 + 28)) (4 + 6) (strB sa)) 0 16) 4 (by decide) szk (kstr_size _ _ _) w).mono fun e w' h => ⟨by rw [h.1, dec_enc_text (by omega) LW sa sza], h.2⟩
          have IM : Hid (∀ w : World, Calls Try.prog 13 #[.string s1] w fun e w' => (∃ b, w.heap.size ≤ b ∧ e = .returned (.tuple #[.slice (some ⟨b, 0, none⟩) (4 + 7) (4 + 7), .int .i64 0]) ∧ w'.rowIs b 9 (4 + 7) (fun j => .string (kstr (Gf.ws (strB s1) 4 (3 * 4 + 28)) (j * 16) 16))) ∧ Below w.heap.size w w') := implKeys_any s1 4 (by decide) szk
          have SP : Hid (∀ w : World, Calls Try.prog 14 #[.string s1] w fun e w' => (∃ p c, e = .returned (.tuple #[.slice p (4 + 7) c, .int .i64 0]) ∧ Strs w' p (4 + 7) (fun j => kstr (Gf.ws (strB s1) 4 (3 * 4 + 28)) (j * 16) 16)) ∧ Below w.heap.size w w') := specKeys_any s1 4 (by decide) szk
          have XY : ((kstr (Gf.enc (Gf.ws (strB s1) 4 (3 * 4 + 28)) (4 + 6) (strB sa)) 0 16).toList == (kstr (Gf.enc (Gf.ws (strB s1) 4 (3 * 4 + 28)) (4 + 6) (strB sb)) 0 16).toList) = (sa.toList == sb.toList) := text_beq (fun e => by rw [e]) (fun e => enc_inj (by omega) LW sa sb sza szb e)
          generalize kstr (Gf.enc (Gf.ws (strB s1) 4 (3 * 4 + 28)) (4 + 6) (strB sa)) 0 16 = X at *
          generalize kstr (Gf.enc (Gf.ws (strB s1) 4 (3 * 4 + 28)) (4 + 6) (strB sb)) 0 16 = Y at *
          clear LW sza szb
          go_wp2_with fail
          refine (EA.out _).mono ?_
          rintro e w6 ⟨rfl, hb⟩
          have B6 : Hid (Below w.heap.size w w6) := B5.out.trans (hb.mono B5.out.size)
          clear hb B5
          go_wp2_with fail
          refine (EB.out _).mono ?_
          rintro e w7 ⟨rfl, hb⟩
          have B7 : Hid (Below w.heap.size w w7) := B6.out.trans (hb.mono B6.out.size)
          clear hb B6
          go_wp2_with fail
          refine (ES.out _).mono ?_
          rintro e w8 ⟨rfl, hb⟩
          have B8 : Hid (Below w.heap.size w w8) := B7.out.trans (hb.mono B7.out.size)
          clear hb B7
          go_wp2_with fail
          refine (DA.out _).mono ?_
          rintro e w9 ⟨rfl, hb⟩
          have B9 : Hid (Below w.heap.size w w9) := B8.out.trans (hb.mono B8.out.size)
          clear hb B8
          go_wp2_with fail
          refine (EA.out _).mono ?_
          rintro e w10 ⟨rfl, hb⟩
          have B10 : Hid (Below w.heap.size w w10) := B9.out.trans (hb.mono B9.out.size)
          clear hb B9
          go_wp2_with fail
          refine (IM.out _).mono ?_
          rintro e w11 ⟨⟨b4, hb4, rfl, hr4⟩, hb⟩
          have R4 : Hid (w11.rowIs b4 9 (4 + 7) (fun j => .string (kstr (Gf.ws (strB s1) 4 (3 * 4 + 28)) (j * 16) 16))) := hr4
          have B11 : Hid (Below w.heap.size w w11) := B10.out.trans (hb.mono B10.out.size)
          clear hb hr4 B10
          go_wp2_with fail
          refine (SP.out _).mono ?_
          rintro e w12 ⟨⟨p, cp, rfl, hs12⟩, hb⟩
          have Q4 : Hid (w12.rowIs b4 9 (4 + 7) (fun j => .string (kstr (Gf.ws (strB s1) 4 (3 * 4 + 28)) (j * 16) 16))) := R4.out.of_block (hb.block b4 R4.out.lt)
          have B12 : Hid (Below w.heap.size w w12) := B11.out.trans (hb.mono B11.out.size)
          have ST : Hid (∀ (c d : Nat), Calls Try.prog 15 #[.slice (some ⟨b4, 0, none⟩) (4 + 7) c, .slice p (4 + 7) d] w12 fun e w' => e = .returned (.bool true) ∧ ∃ q, w' = w12.drewN q) := fun c d => sameTexts_yes _ _ (4 + 7) c d _ _ w12 (Strs.ofRow Q4.out) hs12 (fun _ _ => rfl) (by omega)
          have szI : (s1.size : Int) = 16 := by omega
          clear hs12 hb B11 R4 Q4 EA EB ES DA IM SP
          go_wp2_with (go_at_call 15; refine (ST.out _ _).mono ?_; rintro e w' ⟨rfl, q, rfl⟩)
          go_ret
          exact ⟨rfl, below_drewN B12.out _⟩
      · rcases NIL.out with ⟨rfl, rfl, rfl⟩ | ⟨x, rfl⟩
        · go_wp2_with fail
          refine (blobOf_any (8 * 4) (by omega) (by omega) a0 n0 c0 y0 hy0 m0 _ K0.out).mono ?_
          rintro e w2 ⟨rfl, hb2⟩
          have szk : (kstr (byteK n0 y0 0 (n0 % 1000)) 0 (8 * 4)).size = 8 * 4 := kstr_size _ _ _
          have B2 : Hid (Below w.heap.size w w2) := B1.out.trans (hb2.mono B1.out.size)
          have K1' := K1.out.below hb2
          clear hb2 B1 K0 K1
          have K1 : Hid (Code8 w2 none 0 y1) := K1'
          clear K1'
          generalize kstr (byteK n0 y0 0 (n0 % 1000)) 0 (8 * 4) = s1 at *
          go_wp2_with fail
          refine (blobOf_any 16 (by omega) (by omega) none 0 0 y1 hy1 (by unfold maxLen; omega) _ K1.out).mono ?_
          rintro e w3 ⟨rfl, hb3⟩
          have sza : (kstr (byteK 0 y1 0 (0 % 1000)) 0 16).size = 16 := kstr_size _ _ _
          have B3 : Hid (Below w.heap.size w w3) := B2.out.trans (hb3.mono B2.out.size)
          have K1' := K1.out.below hb3
          clear hb3 B2 K1
          have K1 : Hid (Code8 w3 none 0 y1) := K1'
          clear K1'
          generalize kstr (byteK 0 y1 0 (0 % 1000)) 0 16 = sa at *
          have B4 : Hid (Below w.heap.size w (w3.alloc (.cells #[.int .u8 7] 5))) := B3.out.alloc B3.out.size _
          have K4 : Hid (Code8 (w3.alloc (.cells #[.int .u8 7] 5)) (some ⟨w3.heap.size, 0, none⟩) 1 (fun _ => 7)) := seven_code w3 _
          clear B3 K1
          go_wp2_with fail
          refine (blobOf_any 16 (by omega) (by omega) (some ⟨w3.heap.size, 0, none⟩) 1 1 (fun _ => 7) (fun _ => by show 7 < 256; omega) (by unfold maxLen; omega) _ K4.out).mono ?_
          rintro e w5 ⟨rfl, hb5⟩
          have szb : (kstr (byteK 1 (fun _ => 7) 0 (1 % 1000)) 0 16).size = 16 := kstr_size _ _ _
          have B5 : Hid (Below w.heap.size w w5) := B4.out.trans (hb5.mono B4.out.size)
          clear hb5 B4 K4
          generalize kstr (byteK 1 (fun _ => 7) 0 (1 % 1000)) 0 16 = sb at *
          have LW : ∀ j, Gf.ws (strB s1) 8 (3 * 8 + 28) j < 256 := Gf.ws_lt (strB_lt s1) _
          have EA : Hid (∀ w : World, Calls Try.prog 10 #[.string s1, .string sa] w fun e w' => e = .returned (.tuple #[.string (kstr (Gf.enc (Gf.ws (strB s1) 8 (3 * 8 + 28)) (8 + 6) (strB sa)) 0 16), .int .i64 0]) ∧ Below w.heap.size w w') := implEnc_yes s1 sa 8 (by decide) szk sza
          have EB : Hid (∀ w : World, Calls Try.prog 10 #[.string s1, .string sb] w fun e w' => e = .returned (.tuple #[.string (kstr (Gf.enc (Gf.ws (strB s1) 8 (3 * 8 + 28)) (8 + 6) (strB sb)) 0 16), .int .i64 0]) ∧ Below w.heap.size w w') := implEnc_yes s1 sb 8 (by decide) szk szb
          have ES : Hid (∀ w : World, Calls Try.prog 11 #[.string s1, .string sa] w fun e w' => e = .returned (.tuple #[.string (kstr (Gf.enc (Gf.ws (strB s1) 8 (3 * 8 + 28)) (8 + 6) (strB sa)) 0 16), .int .i64 0]) ∧ Below w.heap.size w w') := specEnc_yes s1 sa 8 (by decide) szk sza
          have DA : Hid (∀ w : World, Calls Try.prog 12 #[.string s1, .string (kstr (Gf.enc (Gf.ws (strB s1) 8 (3 * 8 + 28)) (8 + 6) (strB sa)) 0 16)] w fun e w' => e = .returned (.tuple #[.string sa, .int .i64 0]) ∧ Below w.heap.size w w') := fun w => (implDec_yes s1 (kstr (Gf.enc (Gf.ws (strB s1) 8 (3 * 8 + 28)) (8 + 6) (strB sa)) 0 16) 8 (by decide) szk (kstr_size _ _ _) w).mono fun e w' h => ⟨by rw [h.1, dec_enc_text (by omega) LW sa sza], h.2⟩
          have IM : Hid (∀ w : World, Calls Try.prog 13 #[.string s1] w fun e w' => (∃ b, w.heap.size ≤ b ∧ e = .returned (.tuple #[.slice (some ⟨b, 0, none⟩) (8 + 7) (8 + 7), .int .i64 0]) ∧ w'.rowIs b 9 (8 + 7) (fun j => .string (kstr (Gf.ws (strB s1) 8 (3 * 8 + 28)) (j * 16) 16))) ∧ Below w.heap.size w w') := implKeys_any s1 8 (by decide) szk
          have SP : Hid (∀ w : World, Calls Try.prog 14 #[.string s1] w fun e w' => (∃ p c, e = .returned (.tuple #[.slice p (8 + 7) c, .int .i64 0]) ∧ Strs w' p (8 + 7) (fun j => kstr (Gf.ws (strB s1) 8 (3 * 8 + 28)) (j * 16) 16)) ∧ Below w.heap.size w w') := specKeys_any s1 8 (by decide) szk
          have XY : ((kstr (Gf.enc (Gf.ws (strB s1) 8 (3 * 8 + 28)) (8 + 6) (strB sa)) 0 16).toList == (kstr (Gf.enc (Gf.ws (strB s1) 8 (3 * 8 + 28)) (8 + 6) (strB sb)) 0 16).toList) = (sa.toList == sb.toList) := text_beq (fun e => by rw [e]) (fun e => enc_inj (by omega) LW sa sb sza szb e)
          generalize kstr (Gf.enc (Gf.ws (strB s1) 8 (3 * 8 + 28)) (8 + 6) (strB sa)) 0 16 = X at *
          generalize kstr (Gf.enc (Gf.ws (strB s1) 8 (3 * 8 + 28)) (8 + 6) (strB sb)) 0 16 = Y at *
          clear LW sza szb
          go_wp2_with fail
          refine (EA.out _).mono ?_
          rintro e w6 ⟨rfl, hb⟩
          have B6 : Hid (Below w.heap.size w w6) := B5.out.trans (hb.mono B5.out.size)
          clear hb B5
          go_wp2_with fail
          refine (EB.out _).mono ?_
          rintro e w7 ⟨rfl, hb⟩
          have B7 : Hid (Below w.heap.size w w7) := B6.out.trans (hb.mono B6.out.size)
          clear hb B6
          go_wp2_with fail
          refine (ES.out _).mono ?_
          rintro e w8 ⟨rfl, hb⟩
          have B8 : Hid (Below w.heap.size w w8) := B7.out.trans (hb.mono B7.out.size)
          clear hb B7
          go_wp2_with fail
          refine (DA.out _).mono ?_
          rintro e w9 ⟨rfl, hb⟩
          have B9 : Hid (Below w.heap.size w w9) := B8.out.trans (hb.mono B8.out.size)
          clear hb B8
          go_wp2_with fail
          refine (EA.out _).mono ?_
          rintro e w10 ⟨rfl, hb⟩
          have B10 : Hid (Below w.heap.size w w10) := B9.out.trans (hb.mono B9.out.size)
          clear hb B9
          go_wp2_with fail
          refine (IM.out _).mono ?_
          rintro e w11 ⟨⟨b4, hb4, rfl, hr4⟩, hb⟩
          have R4 : Hid (w11.rowIs b4 9 (8 + 7) (fun j => .string (kstr (Gf.ws (strB s1) 8 (3 * 8 + 28)) (j * 16) 16))) := hr4
          have B11 : Hid (Below w.heap.size w w11) := B10.out.trans (hb.mono B10.out.size)
          clear hb hr4 B10
          go_wp2_with fail
          refine (SP.out _).mono ?_
          rintro e w12 ⟨⟨p, cp, rfl, hs12⟩, hb⟩
          have Q4 : Hid (w12.rowIs b4 9 (8 + 7) (fun j => .string (kstr (Gf.ws (strB s1) 8 (3 * 8 + 28)) (j * 16) 16))) := R4.out.of_block (hb.block b4 R4.out.lt)
          have B12 : Hid (Below w.heap.size w w12) := B11.out.trans (hb.mono B11.out.size)
          have ST : Hid (∀ (c d : Nat), Calls Try.prog 15 #[.slice (some ⟨b4, 0, none⟩) (8 + 7) c, .slice p (8 + 7) d] w12 fun e w' => e = .returned (.bool true) ∧ ∃ q, w' = w12.drewN q) := fun c d => sameTexts_yes _ _ (8 + 7) c d _ _ w12 (Strs.ofRow Q4.out) hs12 (fun _ _ => rfl) (by omega)
          have szI : (s1.size : Int) = 32 := by omega
          clear hs12 hb B11 R4 Q4 EA EB ES DA IM SP
          go_wp2_with (go_at_call 15; refine (ST.out _ _).mono ?_; rintro e w' ⟨rfl, q, rfl⟩)
          go_ret
          exact ⟨rfl, below_drewN B12.out _⟩
        · go_wp2_with fail
          refine (blobOf_any (8 * 4) (by omega) (by omega) a0 n0 c0 y0 hy0 m0 _ K0.out).mono ?_
          rintro e w2 ⟨rfl, hb2⟩
          have szk : (kstr (byteK n0 y0 0 (n0 % 1000)) 0 (8 * 4)).size = 8 * 4 := kstr_size _ _ _
          have B2 : Hid (Below w.heap.size w w2) := B1.out.trans (hb2.mono B1.out.size)
          have K1' := K1.out.below hb2
          clear hb2 B1 K0 K1
          have K1 : Hid (Code8 w2 (some x) n1 y1) := K1'
          clear K1'
          generalize kstr (byteK n0 y0 0 (n0 % 1000)) 0 (8 * 4) = s1 at *
          go_wp2_with fail
          refine (blobOf_any 16 (by omega) (by omega) (some x) n1 c1 y1 hy1 m1 _ K1.out).mono ?_
          rintro e w3 ⟨rfl, hb3⟩
          have sza : (kstr (byteK n1 y1 0 (n1 % 1000)) 0 16).size = 16 := kstr_size _ _ _
          have B3 : Hid (Below w.heap.size w w3) := B2.out.trans (hb3.mono B2.out.size)
          have K1' := K1.out.below hb3
          clear hb3 B2 K1
          have K1 : Hid (Code8 w3 (some x) n1 y1) := K1'
          clear K1'
          generalize kstr (byteK n1 y1 0 (n1 % 1000)) 0 16 = sa at *
          have OW : Hid ((w3.alloc (.cells #[.int .u8 7] 5)).ownsRow w3.heap.size 5 1 (.slice (some ⟨w3.heap.size, 0, none⟩) 1 1) 1 [.int .u8 7]) := ⟨rfl, .inr ⟨w3.heap.size, 1, #[.int .u8 7], rfl, Nat.le_refl _, Deep.blk_alloc_new _ _, Nat.le_refl _, by simp [maxLen], rfl, rfl⟩⟩
          have NW : Hid (∀ j u, ((List.range n1).map fun j => Value.int .u8 (y1 j : Nat))[j]? = some u → (w3.alloc (.cells #[.int .u8 7] 5)).cell? (x.add j) = some u) := seven_news w3 x n1 y1 _ K1.out
          have ON : Hid (∀ u ∈ ((List.range n1).map fun j => Value.int .u8 (y1 j : Nat)), u.oneCell' = true) := fun u hu => by
            obtain ⟨i, _, rfl⟩ := List.mem_map.1 hu
            rfl
          go_wp2_with (at_builtin; refine wpList_append_own _ rfl _ _ 22 rfl w3.heap.size 5 i0 (.int .u8 0) 1 1 Try.underlying22 HI.out.1 HI.out.2.1 HI.out.2.2.1 HI.out.2.2.2 rfl (by decide) (.slice (some ⟨w3.heap.size, 0, none⟩) 1 1) 1 [.int .u8 7] rfl OW.out x n1 c1 ((List.range n1).map fun j => .int .u8 (y1 j : Nat)) rfl (by simp) NW.out ON.out (by unfold maxLen; omega) (by omega) (by simp) ?_)
          intro v' w4 hown hgrow _
          have B4 : Hid (Below w.heap.size w w4) := (B3.out.alloc B3.out.size _).trans (((Below.refl _ _).grown hgrow (by simp) (fun k hk => by cases hk; exact Nat.le_refl _)).mono B3.out.size)
          have OW4 : w4.ownsRow w3.heap.size 5 1 v' (n1 + 1) ((List.range (n1 + 1)).map fun j => .int .u8 ((if j = 0 then 7 else y1 (j - 1) : Nat) : Int)) := by
            have h := hown
            rw [Nat.add_comm 1 n1] at h
            rw [seven_list n1 y1]
            exact h
          obtain ⟨g, cg, hg1, hg2, rfl, hgc⟩ := owned_open OW4 (by omega)
          have K4 : Hid (Code8 w4 (some ⟨g, 0, none⟩) (n1 + 1) (fun j => if j = 0 then 7 else y1 (j - 1))) := fun i hi => ⟨g, 0, rfl, by rw [Nat.zero_add]; exact hgc i hi⟩
          clear hown hgrow OW4 hgc OW NW ON B3 K1
          go_wp2_with fail
          refine (blobOf_any 16 (by omega) (by omega) (some ⟨g, 0, none⟩) (n1 + 1) cg (fun j => if j = 0 then 7 else y1 (j - 1)) (fun i => by show (if i = 0 then 7 else y1 (i - 1)) < 256; split; omega; exact hy1 _) (by unfold maxLen; omega) _ K4.out).mono ?_
          rintro e w5 ⟨rfl, hb5⟩
          have szb : (kstr (byteK (n1 + 1) (fun j => if j = 0 then 7 else y1 (j - 1)) 0 ((n1 + 1) % 1000)) 0 16).size = 16 := kstr_size _ _ _
          have B5 : Hid (Below w.heap.size w w5) := B4.out.trans (hb5.mono B4.out.size)
          clear hb5 B4 K4
          generalize kstr (byteK (n1 + 1) (fun j => if j = 0 then 7 else y1 (j - 1)) 0 ((n1 + 1) % 1000)) 0 16 = sb at *
          have LW : ∀ j, Gf.ws (strB s1) 8 (3 * 8 + 28) j < 256 := Gf.ws_lt (strB_lt s1) _
          have EA : Hid (∀ w : World, Calls Try.prog 10 #[.string s1, .string sa] w fun e w' => e = .returned (.tuple #[.string (kstr (Gf.enc (Gf.ws (strB s1) 8 (3 * 8 + 28)) (8 + 6) (strB sa)) 0 16), .int .i64 0]) ∧ Below w.heap.size w w') := implEnc_yes s1 sa 8 (by decide) szk sza
          have EB : Hid (∀ w : World, Calls Try.prog 10 #[.string s1, .string sb] w fun e w' => e = .returned (.tuple #[.string (kstr (Gf.enc (Gf.ws (strB s1) 8 (3 * 8 + 28)) (8 + 6) (strB sb)) 0 16), .int .i64 0]) ∧ Below w.heap.size w w') := implEnc_yes s1 sb 8 (by decide) szk szb
          have ES : Hid (∀ w : World, Calls Try.prog 11 #[.string s1, .string sa] w fun e w' => e = .returned (.tuple #[.string (kstr (Gf.enc (Gf.ws (strB s1) 8 (3 * 8 + 28)) (8 + 6) (strB sa)) 0 16), .int .i64 0]) ∧ Below w.heap.size w w') := specEnc_yes s1 sa 8 (by decide) szk sza
          have DA : Hid (∀ w : World, Calls Try.prog 12 #[.string s1, .string (kstr (Gf.enc (Gf.ws (strB s1) 8 (3 * 8 + 28)) (8 + 6) (strB sa)) 0 16)] w fun e w' => e = .returned (.tuple #[.string sa, .int .i64 0]) ∧ Below w.heap.size w w') := fun w => (implDec_yes s1 (kstr (Gf.enc (Gf.ws (strB s1) 8 (3 * 8 + 28)) (8 + 6) (strB sa)) 0 16) 8 (by decide) szk (kstr_size _ _ _) w).mono fun e w' h => ⟨by rw [h.1, dec_enc_text (by omega) LW sa sza], h.2⟩
          have IM : Hid (∀ w : World, Calls Try.prog 13 #[.string s1] w fun e w' => (∃ b, w.heap.size ≤ b ∧ e = .returned (.tuple #[.slice (some ⟨b, 0, none⟩) (8 + 7) (8 + 7), .int .i64 0]) ∧ w'.rowIs b 9 (8 + 7) (fun j => .string (kstr (Gf.ws (strB s1) 8 (3 * 8 + 28)) (j * 16) 16))) ∧ Below w.heap.size w w') := implKeys_any s1 8 (by decide) szk
          have SP : Hid (∀ w : World, Calls Try.prog 14 #[.string s1] w fun e w' => (∃ p c, e = .returned (.tuple #[.slice p (8 + 7) c, .int .i64 0]) ∧ Strs w' p (8 + 7) (fun j => kstr (Gf.ws (strB s1) 8 (3 * 8 + 28)) (j * 16) 16)) ∧ Below w.heap.size w w') := specKeys_any s1 8 (by decide) szk
          have XY : ((kstr (Gf.enc (Gf.ws (strB s1) 8 (3 * 8 + 28)) (8 + 6) (strB sa)) 0 16).toList == (kstr (Gf.enc (Gf.ws (strB s1) 8 (3 * 8 + 28)) (8 + 6) (strB sb)) 0 16).toList) = (sa.toList == sb.toList) := text_beq (fun e => by rw [e]) (fun e => enc_inj (by omega) LW sa sb sza szb e)
          generalize kstr (Gf.enc (Gf.ws (strB s1) 8 (3 * 8 + 28)) (8 + 6) (strB sa)) 0 16 = X at *
          generalize kstr (Gf.enc (Gf.ws (strB s1) 8 (3 * 8 + 28)) (8 + 6) (strB sb)) 0 16 = Y at *
          clear LW sza szb
          go_wp2_with fail
          refine (EA.out _).mono ?_
          rintro e w6 ⟨rfl, hb⟩
          have B6 : Hid (Below w.heap.size w w6) := B5.out.trans (hb.mono B5.out.size)
          clear hb B5
          go_wp2_with fail
          refine (EB.out _).mono ?_
          rintro e w7 ⟨rfl, hb⟩
          have B7 : Hid (Below w.heap.size w w7) := B6.out.trans (hb.mono B6.out.size)
          clear hb B6
          go_wp2_with fail
          refine (ES.out _).mono ?_
          rintro e w8 ⟨rfl, hb⟩
          have B8 : Hid (Below w.heap.size w w8) := B7.out.trans (hb.mono B7.out.size)
          clear hb B7
          go_wp2_with fail
          refine (DA.out _).mono ?_
          rintro e w9 ⟨rfl, hb⟩
          have B9 : Hid (Below w.heap.size w w9) := B8.out.trans (hb.mono B8.out.size)
          clear hb B8
          go_wp2_with fail
          refine (EA.out _).mono ?_
          rintro e w10 ⟨rfl, hb⟩
          have B10 : Hid (Below w.heap.size w w10) := B9.out.trans (hb.mono B9.out.size)
          clear hb B9
          go_wp2_with fail
          refine (IM.out _).mono ?_
          rintro e w11 ⟨⟨b4, hb4, rfl, hr4⟩, hb⟩
          have R4 : Hid (w11.rowIs b4 9 (8 + 7) (fun j => .string (kstr (Gf.ws (strB s1) 8 (3 * 8 + 28)) (j * 16) 16))) := hr4
          have B11 : Hid (Below w.heap.size w w11) := B10.out.trans (hb.mono B10.out.size)
          clear hb hr4 B10
          go_wp2_with fail
          refine (SP.out _).mono ?_
          rintro e w12 ⟨⟨p, cp, rfl, hs12⟩, hb⟩
          have Q4 : Hid (w12.rowIs b4 9 (8 + 7) (fun j => .string (kstr (Gf.ws (strB s1) 8 (3 * 8 + 28)) (j * 16) 16))) := R4.out.of_block (hb.block b4 R4.out.lt)
          have B12 : Hid (Below w.heap.size w w12) := B11.out.trans (hb.mono B11.out.size)
          have ST : Hid (∀ (c d : Nat), Calls Try.prog 15 #[.slice (some ⟨b4, 0, none⟩) (8 + 7) c, .slice p (8 + 7) d] w12 fun e w' => e = .returned (.bool true) ∧ ∃ q, w' = w12.drewN q) := fun c d => sameTexts_yes _ _ (8 + 7) c d _ _ w12 (Strs.ofRow Q4.out) hs12 (fun _ _ => rfl) (by omega)
          have szI : (s1.size : Int) = 32 := by omega
          clear hs12 hb B11 R4 Q4 EA EB ES DA IM SP
          go_wp2_with (go_at_call 15; refine (ST.out _ _).mono ?_; rintro e w' ⟨rfl, q, rfl⟩)
          go_ret
          exact ⟨rfl, below_drewN B12.out _⟩
end Go.Proofs.Ythfnpplpelinbaa
