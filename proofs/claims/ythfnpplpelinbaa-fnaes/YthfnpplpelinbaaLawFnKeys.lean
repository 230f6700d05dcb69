/-
  The law FnKeys: round keys begin with the key itself, there are as many as its length tells, and no two keys of one length have the same first ones.
-/
import Derived.Test.YthfnpplpelinbaaLawKeys
import Derived.Test.YthfnpplpelinbaaSrc
namespace Go.Proofs.Ythfnpplpelinbaa
open Go.ChangeShapes Go.WideShapes Go.ChangeAt Go.RowKit
def FIRST4 (s : ByteArray) : Prop := kstr (Gf.ws (strB s) 4 (3 * 4 + 28)) (0 * 16) 16 = s
def FIRST8 (s : ByteArray) : Prop := kstr (Gf.ws (strB s) 8 (3 * 8 + 28)) (0 * 16) 16 ++ kstr (Gf.ws (strB s) 8 (3 * 8 + 28)) (1 * 16) 16 = s
theorem first4 (s : ByteArray) (h : s.size = 4 * 4) : FIRST4 s := by
  show _ = s
  rw [kstr_congr (K := Gf.ws (strB s) 4 (3 * 4 + 28)) (L := strB s) (o := 0 * 16) (p := 0) (n := 16) (fun i hi => by rw [Gf.ws_key _ _ (by omega)])]
  have := kstr_self s
  rw [h] at this
  exact this
theorem first8 (s : ByteArray) (h : s.size = 8 * 4) : FIRST8 s := by
  show _ = s
  have e := kstr_append (Gf.ws (strB s) 8 (3 * 8 + 28)) 0 16 16
  rw [show 0 * 16 = 0 from rfl, show 1 * 16 = 0 + 16 from rfl, e, kstr_congr (K := Gf.ws (strB s) 8 (3 * 8 + 28)) (L := strB s) (o := 0) (p := 0) (n := 16 + 16) (fun i hi => by rw [Gf.ws_key _ _ (by omega)])]
  have := kstr_self s
  rw [h] at this
  exact this
set_option maxRecDepth 100000 in
set_option maxHeartbeats 2000000 in
theorem law_fnKeys (a0 a1 : Option Addr) (n0 c0 n1 c1 : Nat) (z0 z1 : List Int) (w : World) (h0 : IsRow .u8 w a0 n0 c0 z0) (h1 : IsRow .u8 w a1 n1 c1 z1) (m0 : n0 ≤ maxLen) (m1 : n1 ≤ maxLen) :
    Calls Try.prog 4 #[.slice a0 n0 c0, .slice a1 n1 c1] w fun e w' => e = .returned (.bool true) ∧ Below w.heap.size w w' := by
  have m0' : (n0 : Int) ≤ 9223372036854775807 := by unfold maxLen at m0; omega
  have m1' : (n1 : Int) ≤ 9223372036854775807 := by unfold maxLen at m1; omega
  by_cases hbig0 : 1048576 < n0
  · have e1 : (1048576 : Int) < n0 := by omega
    go_enter Try.func4, Try.ntmps4
    go_wp2
    go_ret
    exact ⟨rfl, Below.refl _ _⟩
  · have e1 : ¬ (1048576 : Int) < n0 := by omega
    by_cases hbig1 : 1048576 < n1
    · have e2 : (1048576 : Int) < n1 := by omega
      go_enter Try.func4, Try.ntmps4
      go_wp2
      go_ret
      exact ⟨rfl, Below.refl _ _⟩
    · have e2 : ¬ (1048576 : Int) < n1 := by omega
      obtain ⟨y0, hy0, hk0⟩ := code8_of_row h0
      obtain ⟨y1, hy1, hk1⟩ := code8_of_row h1
      have BA : Below w.heap.size w (w.alloc (.cells #[.int .i64 16, .int .i64 32] 3)) := (Below.refl _ _).alloc (Nat.le_refl _) _
      have H1 : Hid (IsRow .u8 (w.alloc (.cells #[.int .i64 16, .int .i64 32] 3)) a1 n1 c1 z1) := h1.below BA
      have AT : Hid (Calls Try.prog 9 #[.slice a1 n1 c1, .int .i64 0, .int .i64 2] (w.alloc (.cells #[.int .i64 16, .int .i64 32] 3)) fun e w' => (∃ r : Nat, (r : Int) < 2 ∧ e = .returned (.int .i64 r)) ∧ ∃ q, w' = (w.alloc (.cells #[.int .i64 16, .int .i64 32] 3)).drewN q) := at_any a1 n1 c1 z1 _ H1.out 0 2 (by omega) (by omega) (by omega) (by omega)
      have HK0 : Hid (Code8 w a0 n0 y0) := hk0
      have HK1 : Hid (Code8 w a1 n1 y1) := hk1
      clear hk0 hk1 h0 h1 BA H1 hbig0 hbig1
      go_enter Try.func4, Try.ntmps4
      go_wp2_with fail
      refine Calls.mono AT.out ?_
      rintro e w1 ⟨⟨r, hr, rfl⟩, q, rfl⟩
      have B1 : Hid (Below w.heap.size w ((w.alloc (.cells #[.int .i64 16, .int .i64 32] 3)).drewN q)) := below_drewN ((Below.refl _ _).alloc (Nat.le_refl _) _) q
      have K0 : Hid (Code8 ((w.alloc (.cells #[.int .i64 16, .int .i64 32] 3)).drewN q) a0 n0 y0) := HK0.out.below B1.out
      have K1 : Hid (Code8 ((w.alloc (.cells #[.int .i64 16, .int .i64 32] 3)).drewN q) a1 n1 y1) := HK1.out.below B1.out
      clear HK0 HK1 AT
      rcases (show r = 0 ∨ r = 1 by omega) with rfl | rfl
      · go_wp2_with fail
        refine (blobOf_any (4 * 4) (by omega) (by omega) a0 n0 c0 y0 hy0 m0 _ K0.out).mono ?_
        rintro e w2 ⟨rfl, hb2⟩
        have sz1 : (kstr (byteK n0 y0 0 (n0 % 1000)) 0 (4 * 4)).size = 4 * 4 := kstr_size _ _ _
        have B2 : Hid (Below w.heap.size w w2) := B1.out.trans (hb2.mono B1.out.size)
        have K1' : Hid (Code8 w2 a1 n1 y1) := K1.out.below hb2
        clear hb2 B1 K0 K1
        generalize kstr (byteK n0 y0 0 (n0 % 1000)) 0 (4 * 4) = s1 at *
        go_wp2_with fail
        refine (blobOf_any (4 * 4) (by omega) (by omega) a1 n1 c1 y1 hy1 m1 _ K1'.out).mono ?_
        rintro e w3 ⟨rfl, hb3⟩
        have sz2 : (kstr (byteK n1 y1 0 (n1 % 1000)) 0 (4 * 4)).size = 4 * 4 := kstr_size _ _ _
        have B3 : Hid (Below w.heap.size w w3) := B2.out.trans (hb3.mono B2.out.size)
        clear hb3 B2 K1'
        generalize kstr (byteK n1 y1 0 (n1 % 1000)) 0 (4 * 4) = s2 at *
        have IM1 : Hid (∀ w : World, Calls Try.prog 13 #[.string s1] w fun e w' => (∃ b, w.heap.size ≤ b ∧ e = .returned (.tuple #[.slice (some ⟨b, 0, none⟩) (4 + 7) (4 + 7), .int .i64 0]) ∧ w'.rowIs b 9 (4 + 7) (fun j => .string (kstr (Gf.ws (strB s1) 4 (3 * 4 + 28)) (j * 16) 16))) ∧ Below w.heap.size w w') := implKeys_any s1 4 (by decide) sz1
        have IM2 : Hid (∀ w : World, Calls Try.prog 13 #[.string s2] w fun e w' => (∃ b, w.heap.size ≤ b ∧ e = .returned (.tuple #[.slice (some ⟨b, 0, none⟩) (4 + 7) (4 + 7), .int .i64 0]) ∧ w'.rowIs b 9 (4 + 7) (fun j => .string (kstr (Gf.ws (strB s2) 4 (3 * 4 + 28)) (j * 16) 16))) ∧ Below w.heap.size w w') := implKeys_any s2 4 (by decide) sz2
        have SP1 : Hid (∀ w : World, Calls Try.prog 14 #[.string s1] w fun e w' => (∃ p c, e = .returned (.tuple #[.slice p (4 + 7) c, .int .i64 0]) ∧ Strs w' p (4 + 7) (fun j => kstr (Gf.ws (strB s1) 4 (3 * 4 + 28)) (j * 16) 16)) ∧ Below w.heap.size w w') := specKeys_any s1 4 (by decide) sz1
        have E1 : Hid (FIRST4 s1) := first4 s1 sz1
        have E2 : Hid (FIRST4 s2) := first4 s2 sz2
        clear sz1 sz2
        go_wp2_with fail
        refine (IM1.out _).mono ?_
        rintro e w4 ⟨⟨b4, hb4, rfl, hr4⟩, hB4⟩
        have R4 : Hid (w4.rowIs b4 9 (4 + 7) (fun j => .string (kstr (Gf.ws (strB s1) 4 (3 * 4 + 28)) (j * 16) 16))) := hr4
        have B4 : Hid (Below w.heap.size w w4) := B3.out.trans (hB4.mono B3.out.size)
        clear hr4 hB4 B3
        go_wp2_with fail
        refine (IM2.out _).mono ?_
        rintro e w5 ⟨⟨b5, hb5, rfl, hr5⟩, hB5⟩
        have R5 : Hid (w5.rowIs b5 9 (4 + 7) (fun j => .string (kstr (Gf.ws (strB s2) 4 (3 * 4 + 28)) (j * 16) 16))) := hr5
        have R4' : Hid (w5.rowIs b4 9 (4 + 7) (fun j => .string (kstr (Gf.ws (strB s1) 4 (3 * 4 + 28)) (j * 16) 16))) := R4.out.of_block (hB5.block b4 R4.out.lt)
        have B5 : Hid (Below w.heap.size w w5) := B4.out.trans (hB5.mono B4.out.size)
        clear hr5 hB5 B4 R4
        go_wp2_with fail
        refine (SP1.out _).mono ?_
        rintro e w6 ⟨⟨p, cp, rfl, hs6⟩, hB6⟩
        have S6 : Hid (Strs w6 p (4 + 7) (fun j => kstr (Gf.ws (strB s1) 4 (3 * 4 + 28)) (j * 16) 16)) := hs6
        have Q5 : Hid (w6.rowIs b5 9 (4 + 7) (fun j => .string (kstr (Gf.ws (strB s2) 4 (3 * 4 + 28)) (j * 16) 16))) := R5.out.of_block (hB6.block b5 R5.out.lt)
        have Q4 : Hid (w6.rowIs b4 9 (4 + 7) (fun j => .string (kstr (Gf.ws (strB s1) 4 (3 * 4 + 28)) (j * 16) 16))) := R4'.out.of_block (hB6.block b4 R4'.out.lt)
        have B6 : Hid (Below w.heap.size w w6) := B5.out.trans (hB6.mono B5.out.size)
        have c40 := Q4.out.cell (i := 0) (by omega)
        have c41 := Q4.out.cell (i := 1) (by omega)
        have c50 := Q5.out.cell (i := 0) (by omega)
        have c51 := Q5.out.cell (i := 1) (by omega)
        have z40 := kstr_size (Gf.ws (strB s1) 4 (3 * 4 + 28)) (0 * 16) 16
        have z41 := kstr_size (Gf.ws (strB s1) 4 (3 * 4 + 28)) (1 * 16) 16
        have z50 := kstr_size (Gf.ws (strB s2) 4 (3 * 4 + 28)) (0 * 16) 16
        have z51 := kstr_size (Gf.ws (strB s2) 4 (3 * 4 + 28)) (1 * 16) 16
        have EF1 := E1.out
        have EF2 := E2.out
        unfold FIRST4 at EF1 EF2
        have ST : Hid (∀ (c d : Nat), Calls Try.prog 15 #[.slice (some ⟨b4, 0, none⟩) (4 + 7) c, .slice p (4 + 7) d] w6 fun e w' => e = .returned (.bool true) ∧ ∃ q, w' = w6.drewN q) := fun c d => sameTexts_yes _ _ (4 + 7) c d _ _ w6 (Strs.ofRow Q4.out) S6.out (fun _ _ => rfl) (by omega)
        clear hs6 hB6 B5 R5 R4' E1 E2 S6 Q4 Q5
        generalize kstr (Gf.ws (strB s1) 4 (3 * 4 + 28)) (0 * 16) 16 = k40 at *
        generalize kstr (Gf.ws (strB s1) 4 (3 * 4 + 28)) (1 * 16) 16 = k41 at *
        generalize kstr (Gf.ws (strB s2) 4 (3 * 4 + 28)) (0 * 16) 16 = k50 at *
        generalize kstr (Gf.ws (strB s2) 4 (3 * 4 + 28)) (1 * 16) 16 = k51 at *
        go_wp2_with (go_at_call 15; refine (ST.out _ _).mono ?_; rintro e w' ⟨rfl, q, rfl⟩)
        go_ret
        exact ⟨rfl, below_drewN B6.out _⟩
      · go_wp2_with fail
        refine (blobOf_any (8 * 4) (by omega) (by omega) a0 n0 c0 y0 hy0 m0 _ K0.out).mono ?_
        rintro e w2 ⟨rfl, hb2⟩
        have sz1 : (kstr (byteK n0 y0 0 (n0 % 1000)) 0 (8 * 4)).size = 8 * 4 := kstr_size _ _ _
        have B2 : Hid (Below w.heap.size w w2) := B1.out.trans (hb2.mono B1.out.size)
        have K1' : Hid (Code8 w2 a1 n1 y1) := K1.out.below hb2
        clear hb2 B1 K0 K1
        generalize kstr (byteK n0 y0 0 (n0 % 1000)) 0 (8 * 4) = s1 at *
        go_wp2_with fail
        refine (blobOf_any (8 * 4) (by omega) (by omega) a1 n1 c1 y1 hy1 m1 _ K1'.out).mono ?_
        rintro e w3 ⟨rfl, hb3⟩
        have sz2 : (kstr (byteK n1 y1 0 (n1 % 1000)) 0 (8 * 4)).size = 8 * 4 := kstr_size _ _ _
        have B3 : Hid (Below w.heap.size w w3) := B2.out.trans (hb3.mono B2.out.size)
        clear hb3 B2 K1'
        generalize kstr (byteK n1 y1 0 (n1 % 1000)) 0 (8 * 4) = s2 at *
        have IM1 : Hid (∀ w : World, Calls Try.prog 13 #[.string s1] w fun e w' => (∃ b, w.heap.size ≤ b ∧ e = .returned (.tuple #[.slice (some ⟨b, 0, none⟩) (8 + 7) (8 + 7), .int .i64 0]) ∧ w'.rowIs b 9 (8 + 7) (fun j => .string (kstr (Gf.ws (strB s1) 8 (3 * 8 + 28)) (j * 16) 16))) ∧ Below w.heap.size w w') := implKeys_any s1 8 (by decide) sz1
        have IM2 : Hid (∀ w : World, Calls Try.prog 13 #[.string s2] w fun e w' => (∃ b, w.heap.size ≤ b ∧ e = .returned (.tuple #[.slice (some ⟨b, 0, none⟩) (8 + 7) (8 + 7), .int .i64 0]) ∧ w'.rowIs b 9 (8 + 7) (fun j => .string (kstr (Gf.ws (strB s2) 8 (3 * 8 + 28)) (j * 16) 16))) ∧ Below w.heap.size w w') := implKeys_any s2 8 (by decide) sz2
        have SP1 : Hid (∀ w : World, Calls Try.prog 14 #[.string s1] w fun e w' => (∃ p c, e = .returned (.tuple #[.slice p (8 + 7) c, .int .i64 0]) ∧ Strs w' p (8 + 7) (fun j => kstr (Gf.ws (strB s1) 8 (3 * 8 + 28)) (j * 16) 16)) ∧ Below w.heap.size w w') := specKeys_any s1 8 (by decide) sz1
        have E1 : Hid (FIRST8 s1) := first8 s1 sz1
        have E2 : Hid (FIRST8 s2) := first8 s2 sz2
        clear sz1 sz2
        go_wp2_with fail
        refine (IM1.out _).mono ?_
        rintro e w4 ⟨⟨b4, hb4, rfl, hr4⟩, hB4⟩
        have R4 : Hid (w4.rowIs b4 9 (8 + 7) (fun j => .string (kstr (Gf.ws (strB s1) 8 (3 * 8 + 28)) (j * 16) 16))) := hr4
        have B4 : Hid (Below w.heap.size w w4) := B3.out.trans (hB4.mono B3.out.size)
        clear hr4 hB4 B3
        go_wp2_with fail
        refine (IM2.out _).mono ?_
        rintro e w5 ⟨⟨b5, hb5, rfl, hr5⟩, hB5⟩
        have R5 : Hid (w5.rowIs b5 9 (8 + 7) (fun j => .string (kstr (Gf.ws (strB s2) 8 (3 * 8 + 28)) (j * 16) 16))) := hr5
        have R4' : Hid (w5.rowIs b4 9 (8 + 7) (fun j => .string (kstr (Gf.ws (strB s1) 8 (3 * 8 + 28)) (j * 16) 16))) := R4.out.of_block (hB5.block b4 R4.out.lt)
        have B5 : Hid (Below w.heap.size w w5) := B4.out.trans (hB5.mono B4.out.size)
        clear hr5 hB5 B4 R4
        go_wp2_with fail
        refine (SP1.out _).mono ?_
        rintro e w6 ⟨⟨p, cp, rfl, hs6⟩, hB6⟩
        have S6 : Hid (Strs w6 p (8 + 7) (fun j => kstr (Gf.ws (strB s1) 8 (3 * 8 + 28)) (j * 16) 16)) := hs6
        have Q5 : Hid (w6.rowIs b5 9 (8 + 7) (fun j => .string (kstr (Gf.ws (strB s2) 8 (3 * 8 + 28)) (j * 16) 16))) := R5.out.of_block (hB6.block b5 R5.out.lt)
        have Q4 : Hid (w6.rowIs b4 9 (8 + 7) (fun j => .string (kstr (Gf.ws (strB s1) 8 (3 * 8 + 28)) (j * 16) 16))) := R4'.out.of_block (hB6.block b4 R4'.out.lt)
        have B6 : Hid (Below w.heap.size w w6) := B5.out.trans (hB6.mono B5.out.size)
        have c40 := Q4.out.cell (i := 0) (by omega)
        have c41 := Q4.out.cell (i := 1) (by omega)
        have c50 := Q5.out.cell (i := 0) (by omega)
        have c51 := Q5.out.cell (i := 1) (by omega)
        have z40 := kstr_size (Gf.ws (strB s1) 8 (3 * 8 + 28)) (0 * 16) 16
        have z41 := kstr_size (Gf.ws (strB s1) 8 (3 * 8 + 28)) (1 * 16) 16
        have z50 := kstr_size (Gf.ws (strB s2) 8 (3 * 8 + 28)) (0 * 16) 16
        have z51 := kstr_size (Gf.ws (strB s2) 8 (3 * 8 + 28)) (1 * 16) 16
        have EF1 := E1.out
        have EF2 := E2.out
        unfold FIRST8 at EF1 EF2
        have ST : Hid (∀ (c d : Nat), Calls Try.prog 15 #[.slice (some ⟨b4, 0, none⟩) (8 + 7) c, .slice p (8 + 7) d] w6 fun e w' => e = .returned (.bool true) ∧ ∃ q, w' = w6.drewN q) := fun c d => sameTexts_yes _ _ (8 + 7) c d _ _ w6 (Strs.ofRow Q4.out) S6.out (fun _ _ => rfl) (by omega)
        clear hs6 hB6 B5 R5 R4' E1 E2 S6 Q4 Q5
        generalize kstr (Gf.ws (strB s1) 8 (3 * 8 + 28)) (0 * 16) 16 = k40 at *
        generalize kstr (Gf.ws (strB s1) 8 (3 * 8 + 28)) (1 * 16) 16 = k41 at *
        generalize kstr (Gf.ws (strB s2) 8 (3 * 8 + 28)) (0 * 16) 16 = k50 at *
        generalize kstr (Gf.ws (strB s2) 8 (3 * 8 + 28)) (1 * 16) 16 = k51 at *
        go_wp2_with (go_at_call 15; refine (ST.out _ _).mono ?_; rintro e w' ⟨rfl, q, rfl⟩)
        go_ret
        exact ⟨rfl, below_drewN B6.out _⟩
end Go.Proofs.Ythfnpplpelinbaa
