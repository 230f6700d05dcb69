/-
  The law of blocks encrypted: model, program, and the law's own look at both.
-/
import Derived.Test.YtonccbgolbcjfabDoorJ14
import Derived.Test.YtonccbgolbcjfabDoorJ07
import Derived.Test.YtonccbgolbcjfabDoorByteS
import Derived.Test.YtonccbgolbcjfabDoorJ08
import Derived.Test.YtonccbgolbcjfabDoorPadS
import Derived.Test.YtonccbgolbcjfabDoorTxt
import Derived.Test.YtonccbgolbcjfabDoorJ10
namespace Go.Proofs.YtonccbgolbcjfabDoor
open Go.ChangeShapes Go.WideShapes Go.ChangeAt Go.RowKit
theorem strB_key {W : Nat → Nat} (hW : ∀ j, W j < 256) (i j : Nat) (hj : j < 16) : strB (kstr W (i * 16) 16) j = Gf.keyAt W i j := strB_kstr W (i * 16) 16 j (hW _) hj
set_option maxRecDepth 100000 in
set_option maxHeartbeats 2000000 in
/-- spec.l01Encrypt -/
theorem l01Encrypt_any (pb po ck t m : Nat) (W : Nat → Nat) (hW : ∀ j, W j < 256) (hm : 1 ≤ m) (hm' : m ≤ 14) (s : ByteArray) (hs : s.size = 16) (w : World)
    (hk : Strs w (some ⟨pb, po, none⟩) (m + 1) (fun j => kstr W (j * 16) 16)) (ht : ∀ x, x < 256 → w.cell? ⟨t, x, none⟩ = some (.int .i64 (Gf.sub x : Nat))) :
    Calls Tryd.prog 45 #[.slice (some ⟨pb, po, none⟩) (m + 1) ck, .slice (some ⟨t, 0, none⟩) 256 256, .string s] w fun e w' => e = .returned (.string (kstr (Gf.enc W m (strB s)) 0 16)) ∧ Below w.heap.size w w' := by
  obtain ⟨_, _, hab, hcells⟩ := hk.opened (by omega)
  cases hab
  have HK : Hid (∀ i, i < m + 1 → w.cell? ⟨pb, po + i, none⟩ = some (.string (kstr W (i * 16) 16))) := hcells
  have HT : Hid (∀ x, x < 256 → w.cell? ⟨t, x, none⟩ = some (.int .i64 (Gf.sub x : Nat))) := ht
  have HW : Hid (∀ j, W j < 256) := hW
  have hpl : pb < w.heap.size := strBlock (hcells 0 (by omega))
  have htl : t < w.heap.size := strBlock (ht 0 (by omega))
  have LE : Hid (∀ i j, j < 16 → Gf.encTo W (strB s) i j < 256) := Gf.encTo_lt hW (fun j _ => strB_lt s j)
  have ST : Hid (∀ w : World, Calls Tryd.prog 59 #[.string s] w fun e w' => (∃ b c, w.heap.size ≤ b ∧ e = .returned (.slice (some ⟨b, 0, none⟩) 16 c) ∧ I16 w' b (strB s)) ∧ Below w.heap.size w w') := l01State_any s hs
  have XO : Hid (∀ (i b c : Nat) (f : Nat → Nat) (w : World), (∀ j, j < 16 → f j < 256) → I16 w b f → Calls Tryd.prog 60 #[.slice (some ⟨b, 0, none⟩) 16 c, .string (kstr W (i * 16) 16)] w fun e w' => e = .returned (.tuple #[]) ∧ I16 w' b (Gf.addK f (Gf.keyAt W i)) ∧ OnlyB b w w') := fun i b c f w hf h =>
    (l01Xor_any b c f hf (kstr W (i * 16) 16) (kstr_size _ _ _) w h).mono fun e w' ⟨he, hi, ho⟩ => ⟨he, hi.congr (fun j hj => by rw [strB_key hW i j hj]; rfl), ho⟩
  clear hk hcells ht hW hs
  go_enter Tryd.func45, Tryd.ntmps45
  go_wp2_with fail
  refine (ST.out _).mono ?_
  rintro e w1 ⟨⟨b, c, hb, rfl, hi⟩, hB⟩
  have c0 : w1.cell? ⟨pb, po, none⟩ = some (.string (kstr W (0 * 16) 16)) := by rw [hB.cell (p := ⟨pb, po, none⟩) hpl]; exact HK.out 0 (by omega)
  have HI : Hid (I16 w1 b (strB s)) := hi
  have HB : Hid (Below w.heap.size w w1) := hB
  clear hi hB
  go_wp2_with fail
  refine (XO.out 0 b c _ _ (fun j _ => strB_lt s j) HI.out).mono ?_
  rintro e w2 ⟨rfl, hi, ho⟩
  have H0 : Hid (∃ L c, w.heap.size ≤ L ∧ Value.slice (some ⟨b, 0, none⟩) 16 c = .slice (some ⟨L, 0, none⟩) 16 c ∧ I16 w2 L (Gf.encTo W (strB s) 0) ∧ Below w.heap.size w w2) := ⟨b, c, hb, rfl, hi, HB.out.trans (ho.toBelow hb HB.out.size)⟩
  have HI2 : Hid (I16 w2 b (Gf.encTo W (strB s) 0)) := hi
  have HB2 : Hid (Below w.heap.size w w2) := HB.out.trans (ho.toBelow hb HB.out.size)
  clear hi ho HI HB c0 H0 ST
  go_wp2
  go_loopw [7, 8] (fun v i wr => ∃ (k L cc : Nat), 1 ≤ k ∧ k ≤ m + 1 ∧ i = .int .i64 k ∧ w.heap.size ≤ L ∧ v = .slice (some ⟨L, 0, none⟩) 16 cc ∧ I16 wr L (if k ≤ m then Gf.encTo W (strB s) (k - 1) else Gf.enc W m (strB s)) ∧ Below w.heap.size w wr) (fun _ i _ => m + 1 - (intOf i).toNat)
  case atStart => exact ⟨1, b, c, by omega, by omega, rfl, hb, rfl, by rw [if_pos hm]; exact HI2.out, HB2.out⟩
  case round =>
    clear HI2 HB2
    obtain ⟨k, L, cc, hk1, hk2, rfl, hL, rfl, hi, hB⟩ := hrel
    by_cases hlt : k < m + 1
    · rw [if_pos (by omega)] at hi
      have ck : wr.cell? ⟨pb, po + k, none⟩ = some (.string (kstr W (k * 16) 16)) := by rw [hB.cell (p := ⟨pb, po + k, none⟩) hpl]; exact HK.out k hlt
      have HI : Hid (I16 wr L (Gf.encTo W (strB s) (k - 1))) := hi
      have HB : Hid (Below w.heap.size w wr) := hB
      have x1 : (k : Int) < (m : Int) + 1 := by omega
      clear hi hB
      go_wp2_with fail
      refine (l01Swap_any L cc t _ Gf.sub (LE.out (k - 1)) (by omega) _ HI.out (fun x hx => by rw [HB.out.cell (p := ⟨t, x, none⟩) htl]; exact HT.out x hx)).mono ?_
      rintro e w3 ⟨rfl, hi3, ho3⟩
      have HI3 : Hid (I16 w3 L (fun j => Gf.sub (Gf.encTo W (strB s) (k - 1) j))) := hi3
      have HB3 : Hid (Below w.heap.size w w3) := HB.out.trans (ho3.toBelow hL HB.out.size)
      clear hi3 ho3 HI HB ck
      go_wp2_with fail
      refine (l01Shift_any L cc _ _ HI3.out).mono ?_
      rintro e w4 ⟨⟨L4, hL4, rfl, hi4⟩, hb4⟩
      have HI4 : Hid (I16 w4 L4 (Gf.subTurn (Gf.encTo W (strB s) (k - 1)))) := hi4
      have HB4 : Hid (Below w.heap.size w w4) := HB3.out.trans (hb4.mono HB3.out.size)
      have hL4' : w.heap.size ≤ L4 := Nat.le_trans HB3.out.size hL4
      have LS : Hid (∀ j, j < 16 → Gf.subTurn (Gf.encTo W (strB s) (k - 1)) j < 256) := fun j _ => Gf.subTurn_lt (LE.out (k - 1)) j
      clear hi4 hb4 HI3 HB3
      by_cases hkm : k < m
      · have x2 : (k : Int) < (m : Int) := by omega
        go_wp2_with fail
        refine (l01Fast_any L4 16 _ LS.out _ HI4.out).mono ?_
        rintro e w5 ⟨⟨L5, hL5, rfl, hi5⟩, hb5⟩
        have HI5 : Hid (I16 w5 L5 (Gf.mixS (Gf.subTurn (Gf.encTo W (strB s) (k - 1))))) := hi5
        have HB5 : Hid (Below w.heap.size w w5) := HB4.out.trans (hb5.mono HB4.out.size)
        have hL5' : w.heap.size ≤ L5 := Nat.le_trans HB4.out.size hL5
        have ck : w5.cell? ⟨pb, po + k, none⟩ = some (.string (kstr W (k * 16) 16)) := by rw [HB5.out.cell (p := ⟨pb, po + k, none⟩) hpl]; exact HK.out k hlt
        clear hi5 hb5 HI4 HB4
        go_wp2_with fail
        refine (XO.out k L5 16 _ _ (Gf.mixS_lt LS.out) HI5.out).mono ?_
        rintro e w6 ⟨rfl, hi6, ho6⟩
        have HI6 : Hid (I16 w6 L5 (Gf.encTo W (strB s) k)) := by
          obtain ⟨q, rfl⟩ : ∃ q, k = q + 1 := ⟨k - 1, by omega⟩
          exact hi6
        have HB6 : Hid (Below w.heap.size w w6) := HB5.out.trans (ho6.toBelow hL5' HB5.out.size)
        clear hi6 ho6 HI5 HB5 ck
        go_wp2
        go_roundw
        case rel => exact ⟨k + 1, L5, 16, by omega, by omega, by go_num, hL5', rfl, by rw [if_pos (by omega)]; exact HI6.out, HB6.out⟩
        case measure => simp [intOf]; omega
      · have hke : Hid (k = m) := by show k = m; omega
        have x2 : ¬ (k : Int) < (m : Int) := by omega
        have ck : w4.cell? ⟨pb, po + k, none⟩ = some (.string (kstr W (k * 16) 16)) := by rw [HB4.out.cell (p := ⟨pb, po + k, none⟩) hpl]; exact HK.out k hlt
        go_wp2_with fail
        refine (XO.out k L4 16 _ _ LS.out HI4.out).mono ?_
        rintro e w6 ⟨rfl, hi6, ho6⟩
        have HI6 : Hid (I16 w6 L4 (Gf.enc W m (strB s))) := by
          have e := hke.out
          subst e
          exact hi6
        have HB6 : Hid (Below w.heap.size w w6) := HB4.out.trans (ho6.toBelow hL4' HB4.out.size)
        clear hi6 ho6 HI4 HB4 ck
        go_wp2
        go_roundw
        case rel => exact ⟨k + 1, L4, 16, by omega, by omega, by go_num, hL4', rfl, by rw [if_neg (by omega)]; exact HI6.out, HB6.out⟩
        case measure => simp [intOf]; omega
    · rw [if_neg (by omega)] at hi
      have HI : Hid (I16 wr L (Gf.enc W m (strB s))) := hi
      have HB : Hid (Below w.heap.size w wr) := hB
      have x1 : ¬ (k : Int) < (m : Int) + 1 := by omega
      clear hi hB
      go_wp2_with fail
      refine (l01Text_any L cc _ (fun j _ => Gf.enc_lt HW.out (fun j _ => strB_lt s j) j) _ HI.out).mono ?_
      rintro e w3 ⟨rfl, hb3⟩
      have HB3 : Hid (Below w.heap.size w w3) := HB.out.trans (hb3.mono HB.out.size)
      clear hb3 HI HB
      go_wp2
      go_ret
      exact ⟨rfl, HB3.out⟩
end Go.Proofs.YtonccbgolbcjfabDoor

/-
  The model's keys and table as they lie in memory, and its encrypting with them; texts put together.
-/
namespace Go.Proofs.YtonccbgolbcjfabDoor
open Go.ChangeShapes Go.WideShapes Go.ChangeAt Go.RowKit
/-- The model's round keys and table of substitutes. -/
def MK (w : World) (pb po tb m : Nat) (W : Nat → Nat) : Prop := Strs w (some ⟨pb, po, none⟩) (m + 1) (fun j => kstr W (j * 16) 16) ∧ w.rowIs tb 3 256 (fun j => .int .i64 (Gf.sub j : Nat))
theorem MK.lt {w : World} {pb po tb m : Nat} {W : Nat → Nat} (h : MK w pb po tb m W) : pb < w.heap.size ∧ tb < w.heap.size := by
  obtain ⟨b, o, ha, hc⟩ := h.1 0 (by omega)
  cases ha
  exact ⟨strBlock hc, h.2.lt⟩
theorem MK.below {w w' : World} {pb po tb m : Nat} {W : Nat → Nat} (h : MK w pb po tb m W) (hb : Below w.heap.size w w') : MK w' pb po tb m W := ⟨h.1.below hb, h.2.of_block (hb.block tb h.2.lt)⟩
theorem MK.belowAt {w w' : World} {B pb po tb m : Nat} {W : Nat → Nat} (h : MK w pb po tb m W) (hb : Below B w w') (h1 : pb < B) (h2 : tb < B) : MK w' pb po tb m W :=
  ⟨fun i hi => by
    obtain ⟨b, o, ha, hc⟩ := h.1 i hi
    cases ha
    exact ⟨pb, po, rfl, by rw [hb.cell (p := ⟨pb, po + i, none⟩) h1]; exact hc⟩, h.2.of_block (hb.block tb h2)⟩
theorem MK.onlyB {w w' : World} {b pb po tb m : Nat} {W : Nat → Nat} (h : MK w pb po tb m W) (ho : OnlyB b w w') (h1 : pb ≠ b) (h2 : tb ≠ b) : MK w' pb po tb m W := ⟨h.1.onlyB ho h1, h.2.of_block (ho.block tb h.2.lt h2)⟩
theorem MK.drewN {w : World} {pb po tb m : Nat} {W : Nat → Nat} (h : MK w pb po tb m W) (q : Nat) : MK (w.drewN q) pb po tb m W := ⟨h.1.drewN q, rowIs_drewN h.2 q⟩
theorem MK.alloc {w : World} {pb po tb m : Nat} {W : Nat → Nat} (h : MK w pb po tb m W) (o : Obj) : MK (w.alloc o) pb po tb m W := h.below ((Below.refl _ _).alloc (Nat.le_refl _) _)
theorem mEnc (pb po ck tb m : Nat) (W : Nat → Nat) (hW : ∀ j, W j < 256) (hm : 1 ≤ m) (hm' : m ≤ 14) (s : ByteArray) (hs : s.size = 16) (w : World) (h : MK w pb po tb m W) :
    Calls Tryd.prog 45 #[.slice (some ⟨pb, po, none⟩) (m + 1) ck, .slice (some ⟨tb, 0, none⟩) 256 256, .string s] w fun e w' => e = .returned (.string (kstr (Gf.enc W m (strB s)) 0 16)) ∧ Below w.heap.size w w' :=
  l01Encrypt_any pb po ck tb m W hW hm hm' s hs w h.1 (fun _ hx => h.2.cell hx)
/-- The keys of a key, behind the table. -/
theorem mKeys (s : ByteArray) (kn : Nat) (hn : kn = 4 ∨ kn = 8) (hs : s.size = kn * 4) (tb : Nat) (w : World) (h : w.rowIs tb 3 256 (fun j => .int .i64 (Gf.sub j : Nat))) :
    Calls Tryd.prog 44 #[.string s, .slice (some ⟨tb, 0, none⟩) 256 256] w fun e w' => (∃ pb po ck, e = .returned (.slice (some ⟨pb, po, none⟩) (kn + 6 + 1) ck) ∧ MK w' pb po tb (kn + 6) (Gf.ws (strB s) kn (3 * kn + 28))) ∧ Below w.heap.size w w' :=
  (l01Keys_any s kn hn hs tb w h).mono fun e w' hh => by
    obtain ⟨⟨v, rfl, hown⟩, hB⟩ := hh
    obtain ⟨p, c, rfl, hstr⟩ := strs_of_owned hown (by omega)
    obtain ⟨pb, po, rfl, _⟩ := hstr.opened (by omega)
    exact ⟨⟨pb, po, c, rfl, hstr, h.of_block (hB.block tb h.lt)⟩, hB⟩
theorem OnlyB.drewS {b : Nat} {w w' : World} (h : OnlyB b w w') : OnlyB b w w'.drew := ⟨h.os, h.tape, h.output, h.size, h.block⟩
end Go.Proofs.YtonccbgolbcjfabDoor

/-
  The model's stream: l02Four, l02Ctr, CtrXor.
-/
namespace Go.Proofs.YtonccbgolbcjfabDoor
open Go.ChangeShapes Go.WideShapes Go.ChangeAt Go.RowKit
theorem l02Four_any (k : Nat) (hk : k ≤ 100000) (w : World) :
    Calls Tryd.prog 33 #[.int .i64 (k : Int)] w fun e w' => e = .returned (.slice (some ⟨w.heap.size, 0, none⟩) 4 4) ∧ Own8 w' w.heap.size 4 (fun j => k / 256 ^ (3 - j) % 256) ∧ Below w.heap.size w w' := by
  go_enter Tryd.func33, Tryd.ntmps33
  go_wp2
  go_ret
  refine ⟨rfl, Own8.ofRow (World.rowIs_alloc w #[.int .u8 ((k : Int) / 16777216), .int .u8 ((k : Int) / 65536), .int .u8 ((k : Int) / 256 % 256), .int .u8 ((k : Int) % 256)] 5 _ (fun i hi => ?_)), (Below.refl _ _).alloc (Nat.le_refl _) _⟩
  have hi' : i < 4 := by simpa using hi
  rcases (show i = 0 ∨ i = 1 ∨ i = 2 ∨ i = 3 by omega) with rfl | rfl | rfl | rfl
  · exact congrArg some (numEq8 (by show (k : Int) / 16777216 = ((k / 16777216 % 256 : Nat) : Int); omega))
  · exact congrArg some (numEq8 (by show (k : Int) / 65536 = ((k / 65536 % 256 : Nat) : Int); omega))
  · exact congrArg some (numEq8 (by show (k : Int) / 256 % 256 = ((k / 256 % 256 : Nat) : Int); omega))
  · exact congrArg some (numEq8 (by show (k : Int) % 256 = ((k / 1 % 256 : Nat) : Int); omega))
theorem ctr_text (s : ByteArray) (hs : s.size = 12) (k : Nat) : Gf.Same (strB (s ++ kstr (fun j => k / 256 ^ (3 - j) % 256) 0 4)) (ctrBlk (strB s) k) := fun j hj => by
  rw [strB_append, hs]
  unfold ctrBlk
  by_cases h : j < 12
  · rw [if_pos h, if_pos h]
  · rw [if_neg h, if_neg h, strB_kstr _ 0 4 _ (by rw [Nat.zero_add]; exact Nat.mod_lt _ (by omega)) (by omega), Nat.zero_add, show 3 - (j - 12) = 15 - j from by omega]
set_option maxRecDepth 100000 in
set_option maxHeartbeats 4000000 in
/-- spec.l02Ctr -/
theorem l02Ctr_any (k s : ByteArray) (kn b o n c : Nat) (f : Nat → Nat) (hkn : kn = 4 ∨ kn = 8) (hk : k.size = kn * 4) (hs : s.size = 12) (hn : n ≤ 65536) (hf : ∀ i, f i < 256) (w : World) (h : Code8 w (some ⟨b, o, none⟩) n f) :
    Calls Tryd.prog 31 #[.string k, .string s, .slice (some ⟨b, o, none⟩) n c] w fun e w' => RetB w w' e n (ctrF (Gf.ws (strB k) kn (3 * kn + 28)) (kn + 6) (strB s) f) ∧ Below w.heap.size w w' := by
  obtain ⟨i0, hi⟩ := info_parts Tryd.info8
  have HI : Hid (Tryd.prog.info? 5 = some i0 ∧ i0.zero = some (.int .u8 0) ∧ i0.size = 1 ∧ i0.bytes = 1) := hi
  have TA : Hid (∀ w : World, Calls Tryd.prog 43 #[] w fun e w' => (∃ b, w.heap.size ≤ b ∧ e = .returned (.slice (some ⟨b, 0, none⟩) 256 256) ∧ w'.rowIs b 3 256 (fun j => .int .i64 (Gf.sub j : Nat))) ∧ Below w.heap.size w w') := table_any
  have KE : Hid (∀ (tb : Nat) (w : World), w.rowIs tb 3 256 (fun j => .int .i64 (Gf.sub j : Nat)) → Calls Tryd.prog 44 #[.string k, .slice (some ⟨tb, 0, none⟩) 256 256] w fun e w' => (∃ pb po ck, e = .returned (.slice (some ⟨pb, po, none⟩) (kn + 6 + 1) ck) ∧ MK w' pb po tb (kn + 6) (Gf.ws (strB k) kn (3 * kn + 28))) ∧ Below w.heap.size w w') := fun tb w h => mKeys k kn hkn hk tb w h
  have LW : Hid (∀ j, Gf.ws (strB k) kn (3 * kn + 28) j < 256) := Gf.ws_lt (strB_lt k) _
  generalize Gf.ws (strB k) kn (3 * kn + 28) = W at *
  obtain ⟨m, hm⟩ : ∃ m, m = kn + 6 := ⟨_, rfl⟩
  have hm1 : 1 ≤ m := by omega
  have hm2 : m ≤ 14 := by omega
  rw [← hm] at KE ⊢
  have FO : Hid (∀ (k : Nat) (w : World), k ≤ 100000 → Calls Tryd.prog 33 #[.int .i64 (k : Int)] w fun e w' => e = .returned (.slice (some ⟨w.heap.size, 0, none⟩) 4 4) ∧ Own8 w' w.heap.size 4 (fun j => k / 256 ^ (3 - j) % 256) ∧ Below w.heap.size w w') := fun k w h => l02Four_any k h w
  have EN : Hid (∀ (pb po ck tb k : Nat) (w : World), MK w pb po tb m W → Calls Tryd.prog 45 #[.slice (some ⟨pb, po, none⟩) (m + 1) ck, .slice (some ⟨tb, 0, none⟩) 256 256, .string (s ++ kstr (fun j => k / 256 ^ (3 - j) % 256) 0 4)] w fun e w' => e = .returned (.string (kstr (Gf.enc W m (ctrBlk (strB s) k)) 0 16)) ∧ Below w.heap.size w w') := fun pb po ck tb k w h =>
    (mEnc pb po ck tb m W LW.out hm1 hm2 _ (by rw [ByteArray.size_append, kstr_size, hs]) w h).mono fun e w' hh => ⟨by rw [hh.1, kstr_same (Gf.same_enc (ctr_text s hs k))], hh.2⟩
  have HC : Hid (Code8 w (some ⟨b, o, none⟩) n f) := h
  have HF : Hid (∀ i, f i < 256) := hf
  clear h hf hkn hk hm hi
  go_enter Tryd.func31, Tryd.ntmps31
  go_wp2_with fail
  refine (TA.out _).mono ?_
  rintro e w1 ⟨⟨tb, htb, rfl, hrow⟩, hB1⟩
  have HR : Hid (w1.rowIs tb 3 256 (fun j => .int .i64 (Gf.sub j : Nat))) := hrow
  have HB1 : Hid (Below w.heap.size w w1) := hB1
  clear hrow hB1
  go_wp2_with fail
  refine (KE.out tb w1 HR.out).mono ?_
  rintro e w2 ⟨⟨pb, po, ck, rfl, hmk⟩, hB2⟩
  have HM : Hid (MK w2 pb po tb m W) := hmk
  have HB2 : Hid (Below w.heap.size w w2) := HB1.out.trans (hB2.mono HB1.out.size)
  have HC2 : Hid (Code8 w2 (some ⟨b, o, none⟩) n f) := HC.out.below HB2.out
  have hpt := hmk.lt
  clear hmk hB2 HR HB1 HC TA KE
  go_wp2_with (at_builtin; refine wpList_append_own _ rfl _ _ 30 rfl w2.heap.size 5 i0 (.int .u8 0) 1 1 Tryd.underlying30 HI.out.1 HI.out.2.1 HI.out.2.2.1 HI.out.2.2.2 rfl (by decide) _ _ _ rfl (World.ownsRow_made w2 #[] 0 (Nat.le_refl _) (Nat.zero_le _) (by simp)) ⟨b, o, none⟩ n c (bv n f) rfl (by rw [bv_length, Nat.mul_one]) ?qc2 (bv_one n f) (by unfold maxLen; omega) (by omega) (by simp) ?_)
  case qc2 =>
    intro j u hj
    exact Lib.cell?_alloc_some _ (bv_news HC2.out j u hj)
  intro v' w3 hown hgrow hnil
  have BG : Below w2.heap.size w2 w3 := ((Below.refl _ w2).alloc (Nat.le_refl _) _).grown hgrow (by simp) (by intro k hk; simp [Value.ownBlock] at hk; omega)
  obtain ⟨ob, C, ⟨hob, hnC⟩, rfl, ho⟩ := own8_of_own hown hnil
  have HO : Hid (Own8 w3 ob n f) := ho
  have HM3 : Hid (MK w3 pb po tb m W) := HM.out.below BG
  have HB3 : Hid (Below w.heap.size w w3) := HB2.out.trans (BG.mono HB2.out.size)
  have hw2 := HB2.out.size
  have hp1 : pb ≠ ob := by have := hpt.1; omega
  have hp2 : tb ≠ ob := by have := hpt.2; omega
  have hwo : w.heap.size ≤ ob := Nat.le_trans hw2 hob
  clear hown hgrow hnil ho BG HM HB2 HC2
  go_wp2_with fail
  go_loopw [10, 11, 12] (fun i _ _ wr => ∃ q : Nat, 16 * q ≤ n + 15 ∧ i = .int .i64 (16 * (q : Int)) ∧ Own8 wr ob n (fun x => if x < 16 * q then ctrF W m (strB s) f x else f x) ∧ MK wr pb po tb m W ∧ Below w.heap.size w wr) (fun i _ _ _ => n + 16 - (intOf i).toNat)
  case atStart => exact ⟨0, by omega, rfl, HO.out.congr (fun x hx => by rw [if_neg (by omega)]), HM3.out, HB3.out⟩
  case round =>
    clear HO HM3 HB3
    obtain ⟨q, hq, rfl, ho, hmk, hb⟩ := hrel
    have HO : Hid (Own8 wr ob n (fun x => if x < 16 * q then ctrF W m (strB s) f x else f x)) := ho
    have HM : Hid (MK wr pb po tb m W) := hmk
    have HB : Hid (Below w.heap.size w wr) := hb
    clear ho hmk hb
    by_cases hlt : 16 * q < n
    · have g1 : 16 * (q : Int) < (n : Int) := by omega
      have g2 : 16 * (q : Int) / 16 = (q : Int) := by omega
      have g3 : (16 * (q : Int)).tdiv 16 = (q : Int) := by rw [Int.tdiv_eq_ediv_of_nonneg (by omega)]; omega
      have ENq : Hid (∀ w : World, MK w pb po tb m W → Calls Tryd.prog 45 #[.slice (some ⟨pb, po, none⟩) (m + 1) ck, .slice (some ⟨tb, 0, none⟩) 256 256, .string (s ++ kstr (fun j => (1 + q) / 256 ^ (3 - j) % 256) 0 4)] w fun e w' => e = .returned (.string (kstr (Gf.enc W m (ctrBlk (strB s) (1 + q))) 0 16)) ∧ Below w.heap.size w w') := fun w h => EN.out pb po ck tb (1 + q) w h
      have FOq : Hid (∀ w : World, Calls Tryd.prog 33 #[.int .i64 (1 + (q : Int))] w fun e w' => e = .returned (.slice (some ⟨w.heap.size, 0, none⟩) 4 4) ∧ Own8 w' w.heap.size 4 (fun j => (1 + q) / 256 ^ (3 - j) % 256) ∧ Below w.heap.size w w') := fun w => FO.out (1 + q) w (by omega)
      have sz4 : ((kstr (fun j => (1 + q) / 256 ^ (3 - j) % 256) 0 4).size : Int) = 4 := by rw [kstr_size]; rfl
      have szs : (s.size : Int) = 12 := by omega
      go_wp2_with fail
      refine (FOq.out _).mono ?_
      rintro e w4 ⟨rfl, hf4, hb4⟩
      have hcv := kstr_of_code (c := 4) hf4.code
      have HO4 : Hid (Own8 w4 ob n (fun x => if x < 16 * q then ctrF W m (strB s) f x else f x)) := HO.out.below hb4
      have HM4 : Hid (MK w4 pb po tb m W) := HM.out.below hb4
      have HB4 : Hid (Below w.heap.size w w4) := HB.out.trans (hb4.mono HB.out.size)
      clear hf4 hb4 HO HM HB FOq
      generalize kstr (fun j => (1 + q) / 256 ^ (3 - j) % 256) 0 4 = T4 at *
      generalize wr.heap.size = fb at *
      go_wp2_with fail
      refine (ENq.out _ HM4.out).mono ?_
      rintro e w5 ⟨rfl, hb5⟩
      have HO5 : Hid (Own8 w5 ob n (fun x => if x < 16 * q then ctrF W m (strB s) f x else f x)) := HO4.out.below hb5
      have HM5 : Hid (MK w5 pb po tb m W) := HM4.out.below hb5
      have HB5 : Hid (Below w.heap.size w w5) := HB4.out.trans (hb5.mono HB4.out.size)
      clear hb5 HO4 HM4 HB4 ENq hcv sz4 szs
      obtain ⟨E, hE⟩ : ∃ E, E = Gf.enc W m (ctrBlk (strB s) (1 + q)) := ⟨_, rfl⟩
      have HE : Hid (E = Gf.enc W m (ctrBlk (strB s) (1 + q))) := hE
      have lE : Hid (∀ j, E j < 256) := by show ∀ j, E j < 256; rw [hE]; exact fun j => Gf.enc_lt LW.out (fun j _ => ctrBlk_lt (strB_lt s) _ j) j
      rw [← hE]
      clear hE
      have EG : Hid (∀ j (h : j < (kstr E 0 16).size), ((kstr E 0 16)[j].toNat : Int) = (E j : Nat)) := fun j h => by
        have := kstr_get E 0 16 j (by rw [Nat.zero_add]; exact lE.out j) h
        rwa [Nat.zero_add] at this
      have sz16 : Hid ((kstr E 0 16).size = 16) := kstr_size _ _ _
      generalize kstr E 0 16 = ES at *
      go_wp2_with fail
      go_loopw [12] (fun j wx => ∃ r : Nat, r ≤ 16 ∧ 16 * q + r ≤ n ∧ j = .int .i64 (16 * (q : Int) + (r : Int)) ∧ Own8 wx ob n (fun x => if x < 16 * q + r then ctrF W m (strB s) f x else f x) ∧ OnlyB ob w5 wx) (fun j _ => n + 16 - (intOf j).toNat)
      case atStart => exact ⟨0, by omega, by omega, numEq8 (by omega), HO5.out.congr (fun x hx => by rw [Nat.add_zero]), OnlyB.refl _ _⟩
      case round =>
        clear HO5
        obtain ⟨r, hr, hrn, rfl, ho, hoB⟩ := hrel
        have HO : Hid (Own8 wr ob n (fun x => if x < 16 * q + r then ctrF W m (strB s) f x else f x)) := ho
        have HOB : Hid (OnlyB ob w5 wr) := hoB
        by_cases hin : 16 * q + r < n ∧ r < 16
        · obtain ⟨hin1, hin2⟩ := hin
          have t1 : 16 * (q : Int) + (r : Int) < (n : Int) := by omega
          have t2 : 16 * (q : Int) + (r : Int) < 16 * (q : Int) + 16 := by omega
          have t0 : (0 : Int) ≤ 16 * (q : Int) + (r : Int) := by omega
          have er : 16 * (q : Int) + (r : Int) - 16 * (q : Int) = (r : Int) := by omega
          have et : (16 * (q : Int) + (r : Int)).toNat = 16 * q + r := by omega
          have c1 := ho.cell hin1
          simp only [Nat.lt_irrefl, if_false] at c1
          have f1 := ho.frozen (16 * q + r)
          have hES : r < ES.size := by rw [sz16.out]; exact hin2
          have t3 : (0 : Int) ≤ (r : Int) := by omega
          have t4 : (r : Int) < (ES.size : Int) := by omega
          have eg := EG.out r hES
          have l1 := HF.out (16 * q + r)
          have l2 := lE.out r
          have ex : bits .xor .u8 (f (16 * q + r) : Int) (E r : Int) = ((f (16 * q + r) ^^^ E r : Nat) : Int) := u8_xor_nat _ _ l1 l2
          have HV : Hid (∀ x, x < n → (if x = 16 * q + r then f (16 * q + r) ^^^ E r else if x < 16 * q + r then ctrF W m (strB s) f x else f x) = if x < 16 * q + (r + 1) then ctrF W m (strB s) f x else f x) := fun x hx => by
            by_cases e : x = 16 * q + r
            · subst e
              rw [if_pos rfl, if_pos (by omega), HE.out]
              unfold ctrF ctrK
              rw [show (16 * q + r) / 16 + 1 = 1 + q from by omega, show (16 * q + r) % 16 = r from by omega]
            · rw [if_neg e]
              by_cases e2 : x < 16 * q + r
              · rw [if_pos e2, if_pos (by omega)]
              · rw [if_neg e2, if_neg (by omega)]
          obtain ⟨V, hV⟩ : ∃ V, V = f (16 * q + r) ^^^ E r := ⟨_, rfl⟩
          rw [← hV] at ex HV
          have HER : Hid (16 * (q : Int) + (r : Int) + 1 = 16 * (q : Int) + ((r + 1 : Nat) : Int)) := by show 16 * (q : Int) + (r : Int) + 1 = _; omega
          clear hV ho hoB HE EN FO LW
          generalize f (16 * q + r) = A1 at *
          generalize E r = A2 at *
          go_wp2_with fail
          go_region
          go_wp2
          go_roundw
          case rel =>
            refine ⟨r + 1, by omega, by omega, numEq8 HER.out, ?_, ?_⟩
            · exact (HO.out.set (16 * q + r) V).congr HV.out
            · exact (HOB.out.setCell _ _).drewS
          case measure => simp [intOf]; omega
        · have HO2 : Hid (Own8 wr ob n (fun x => if x < 16 * (q + 1) then ctrF W m (strB s) f x else f x)) := ho.congr (fun x hx => by
            by_cases e : x < 16 * q + r
            · rw [if_pos e, if_pos (by omega)]
            · rw [if_neg e, if_neg (by omega)])
          have HM2 : Hid (MK wr pb po tb m W) := HM5.out.onlyB hoB hp1 hp2
          have HB2 : Hid (Below w.heap.size w wr) := HB5.out.trans (hoB.toBelow hwo HB5.out.size)
          have HQ : Hid (16 * (q : Int) + 16 = 16 * ((q + 1 : Nat) : Int)) := by show 16 * (q : Int) + 16 = _; omega
          clear ho hoB HO HOB HM5 HB5 EG lE HE EN FO
          by_cases hn1 : 16 * q + r < n
          · have t1 : 16 * (q : Int) + (r : Int) < (n : Int) := by omega
            have t2 : ¬ 16 * (q : Int) + (r : Int) < 16 * (q : Int) + 16 := by omega
            go_wp2
            go_roundw
            case rel => exact ⟨q + 1, by omega, numEq8 HQ.out, HO2.out, HM2.out, HB2.out⟩
            case measure => simp [intOf]; omega
          · have t1 : ¬ 16 * (q : Int) + (r : Int) < (n : Int) := by omega
            go_wp2
            go_roundw
            case rel => exact ⟨q + 1, by omega, numEq8 HQ.out, HO2.out, HM2.out, HB2.out⟩
            case measure => simp [intOf]; omega
    · have g1 : ¬ 16 * (q : Int) < (n : Int) := by omega
      have HO2 : Hid (Own8 wr ob n (ctrF W m (strB s) f)) := HO.out.congr (fun x hx => by rw [if_pos (by omega)])
      clear HO HM EN FO
      go_wp2
      go_ret
      exact ⟨⟨ob, C, ⟨hwo, hnC⟩, rfl, HO2.out⟩, HB.out⟩
end Go.Proofs.YtonccbgolbcjfabDoor

/-
  The model's l02Ctr again, with the room behind its answer told.
-/
namespace Go.Proofs.YtonccbgolbcjfabDoor
open Go.ChangeShapes Go.WideShapes Go.ChangeAt Go.RowKit
set_option maxRecDepth 100000 in
set_option maxHeartbeats 4000000 in
theorem l02CtrC_any (k s : ByteArray) (kn b o n c : Nat) (f : Nat → Nat) (hkn : kn = 4 ∨ kn = 8) (hk : k.size = kn * 4) (hs : s.size = 12) (hn : n ≤ 65536) (hf : ∀ i, f i < 256) (w : World) (h : Code8 w (some ⟨b, o, none⟩) n f) :
    Calls Tryd.prog 31 #[.string k, .string s, .slice (some ⟨b, o, none⟩) n c] w fun e w' => RetC w w' e n (ctrF (Gf.ws (strB k) kn (3 * kn + 28)) (kn + 6) (strB s) f) ∧ Below w.heap.size w w' := by
  obtain ⟨i0, hi⟩ := info_parts Tryd.info8
  have HI : Hid (Tryd.prog.info? 5 = some i0 ∧ i0.zero = some (.int .u8 0) ∧ i0.size = 1 ∧ i0.bytes = 1) := hi
  have TA : Hid (∀ w : World, Calls Tryd.prog 43 #[] w fun e w' => (∃ b, w.heap.size ≤ b ∧ e = .returned (.slice (some ⟨b, 0, none⟩) 256 256) ∧ w'.rowIs b 3 256 (fun j => .int .i64 (Gf.sub j : Nat))) ∧ Below w.heap.size w w') := table_any
  have KE : Hid (∀ (tb : Nat) (w : World), w.rowIs tb 3 256 (fun j => .int .i64 (Gf.sub j : Nat)) → Calls Tryd.prog 44 #[.string k, .slice (some ⟨tb, 0, none⟩) 256 256] w fun e w' => (∃ pb po ck, e = .returned (.slice (some ⟨pb, po, none⟩) (kn + 6 + 1) ck) ∧ MK w' pb po tb (kn + 6) (Gf.ws (strB k) kn (3 * kn + 28))) ∧ Below w.heap.size w w') := fun tb w h => mKeys k kn hkn hk tb w h
  have LW : Hid (∀ j, Gf.ws (strB k) kn (3 * kn + 28) j < 256) := Gf.ws_lt (strB_lt k) _
  generalize Gf.ws (strB k) kn (3 * kn + 28) = W at *
  obtain ⟨m, hm⟩ : ∃ m, m = kn + 6 := ⟨_, rfl⟩
  have hm1 : 1 ≤ m := by omega
  have hm2 : m ≤ 14 := by omega
  rw [← hm] at KE ⊢
  have FO : Hid (∀ (k : Nat) (w : World), k ≤ 100000 → Calls Tryd.prog 33 #[.int .i64 (k : Int)] w fun e w' => e = .returned (.slice (some ⟨w.heap.size, 0, none⟩) 4 4) ∧ Own8 w' w.heap.size 4 (fun j => k / 256 ^ (3 - j) % 256) ∧ Below w.heap.size w w') := fun k w h => l02Four_any k h w
  have EN : Hid (∀ (pb po ck tb k : Nat) (w : World), MK w pb po tb m W → Calls Tryd.prog 45 #[.slice (some ⟨pb, po, none⟩) (m + 1) ck, .slice (some ⟨tb, 0, none⟩) 256 256, .string (s ++ kstr (fun j => k / 256 ^ (3 - j) % 256) 0 4)] w fun e w' => e = .returned (.string (kstr (Gf.enc W m (ctrBlk (strB s) k)) 0 16)) ∧ Below w.heap.size w w') := fun pb po ck tb k w h =>
    (mEnc pb po ck tb m W LW.out hm1 hm2 _ (by rw [ByteArray.size_append, kstr_size, hs]) w h).mono fun e w' hh => ⟨by rw [hh.1, kstr_same (Gf.same_enc (ctr_text s hs k))], hh.2⟩
  have HC : Hid (Code8 w (some ⟨b, o, none⟩) n f) := h
  have HF : Hid (∀ i, f i < 256) := hf
  clear h hf hkn hk hm hi
  go_enter Tryd.func31, Tryd.ntmps31
  go_wp2_with fail
  refine (TA.out _).mono ?_
  rintro e w1 ⟨⟨tb, htb, rfl, hrow⟩, hB1⟩
  have HR : Hid (w1.rowIs tb 3 256 (fun j => .int .i64 (Gf.sub j : Nat))) := hrow
  have HB1 : Hid (Below w.heap.size w w1) := hB1
  clear hrow hB1
  go_wp2_with fail
  refine (KE.out tb w1 HR.out).mono ?_
  rintro e w2 ⟨⟨pb, po, ck, rfl, hmk⟩, hB2⟩
  have HM : Hid (MK w2 pb po tb m W) := hmk
  have HB2 : Hid (Below w.heap.size w w2) := HB1.out.trans (hB2.mono HB1.out.size)
  have HC2 : Hid (Code8 w2 (some ⟨b, o, none⟩) n f) := HC.out.below HB2.out
  have hpt := hmk.lt
  clear hmk hB2 HR HB1 HC TA KE
  go_wp2_with (at_builtin; refine wpList_append_own _ rfl _ _ 30 rfl w2.heap.size 5 i0 (.int .u8 0) 1 1 Tryd.underlying30 HI.out.1 HI.out.2.1 HI.out.2.2.1 HI.out.2.2.2 rfl (by decide) _ _ _ rfl (World.ownsRow_made w2 #[] 0 (Nat.le_refl _) (Nat.zero_le _) (by simp)) ⟨b, o, none⟩ n c (bv n f) rfl (by rw [bv_length, Nat.mul_one]) ?qc2 (bv_one n f) (by unfold maxLen; omega) (by omega) (by simp) ?_)
  case qc2 =>
    intro j u hj
    exact Lib.cell?_alloc_some _ (bv_news HC2.out j u hj)
  intro v' w3 hown hgrow hnil
  have BG : Below w2.heap.size w2 w3 := ((Below.refl _ w2).alloc (Nat.le_refl _) _).grown hgrow (by simp) (by intro k hk; simp [Value.ownBlock] at hk; omega)
  obtain ⟨ob, C, ⟨hob, hnC⟩, rfl, ho⟩ := ownC_of_own hown hnil
  have HO : Hid (OwnC C w3 ob n f) := ho
  have HM3 : Hid (MK w3 pb po tb m W) := HM.out.below BG
  have HB3 : Hid (Below w.heap.size w w3) := HB2.out.trans (BG.mono HB2.out.size)
  have hw2 := HB2.out.size
  have hp1 : pb ≠ ob := by have := hpt.1; omega
  have hp2 : tb ≠ ob := by have := hpt.2; omega
  have hwo : w.heap.size ≤ ob := Nat.le_trans hw2 hob
  clear hown hgrow hnil ho BG HM HB2 HC2
  go_wp2_with fail
  go_loopw [10, 11, 12] (fun i _ _ wr => ∃ q : Nat, 16 * q ≤ n + 15 ∧ i = .int .i64 (16 * (q : Int)) ∧ OwnC C wr ob n (fun x => if x < 16 * q then ctrF W m (strB s) f x else f x) ∧ MK wr pb po tb m W ∧ Below w.heap.size w wr) (fun i _ _ _ => n + 16 - (intOf i).toNat)
  case atStart => exact ⟨0, by omega, rfl, HO.out.congr (fun x hx => by rw [if_neg (by omega)]), HM3.out, HB3.out⟩
  case round =>
    clear HO HM3 HB3
    obtain ⟨q, hq, rfl, ho, hmk, hb⟩ := hrel
    have HO : Hid (OwnC C wr ob n (fun x => if x < 16 * q then ctrF W m (strB s) f x else f x)) := ho
    have HM : Hid (MK wr pb po tb m W) := hmk
    have HB : Hid (Below w.heap.size w wr) := hb
    clear ho hmk hb
    by_cases hlt : 16 * q < n
    · have g1 : 16 * (q : Int) < (n : Int) := by omega
      have g2 : 16 * (q : Int) / 16 = (q : Int) := by omega
      have g3 : (16 * (q : Int)).tdiv 16 = (q : Int) := by rw [Int.tdiv_eq_ediv_of_nonneg (by omega)]; omega
      have ENq : Hid (∀ w : World, MK w pb po tb m W → Calls Tryd.prog 45 #[.slice (some ⟨pb, po, none⟩) (m + 1) ck, .slice (some ⟨tb, 0, none⟩) 256 256, .string (s ++ kstr (fun j => (1 + q) / 256 ^ (3 - j) % 256) 0 4)] w fun e w' => e = .returned (.string (kstr (Gf.enc W m (ctrBlk (strB s) (1 + q))) 0 16)) ∧ Below w.heap.size w w') := fun w h => EN.out pb po ck tb (1 + q) w h
      have FOq : Hid (∀ w : World, Calls Tryd.prog 33 #[.int .i64 (1 + (q : Int))] w fun e w' => e = .returned (.slice (some ⟨w.heap.size, 0, none⟩) 4 4) ∧ Own8 w' w.heap.size 4 (fun j => (1 + q) / 256 ^ (3 - j) % 256) ∧ Below w.heap.size w w') := fun w => FO.out (1 + q) w (by omega)
      have sz4 : ((kstr (fun j => (1 + q) / 256 ^ (3 - j) % 256) 0 4).size : Int) = 4 := by rw [kstr_size]; rfl
      have szs : (s.size : Int) = 12 := by omega
      go_wp2_with fail
      refine (FOq.out _).mono ?_
      rintro e w4 ⟨rfl, hf4, hb4⟩
      have hcv := kstr_of_code (c := 4) hf4.code
      have HO4 : Hid (OwnC C w4 ob n (fun x => if x < 16 * q then ctrF W m (strB s) f x else f x)) := HO.out.below hb4
      have HM4 : Hid (MK w4 pb po tb m W) := HM.out.below hb4
      have HB4 : Hid (Below w.heap.size w w4) := HB.out.trans (hb4.mono HB.out.size)
      clear hf4 hb4 HO HM HB FOq
      generalize kstr (fun j => (1 + q) / 256 ^ (3 - j) % 256) 0 4 = T4 at *
      generalize wr.heap.size = fb at *
      go_wp2_with fail
      refine (ENq.out _ HM4.out).mono ?_
      rintro e w5 ⟨rfl, hb5⟩
      have HO5 : Hid (OwnC C w5 ob n (fun x => if x < 16 * q then ctrF W m (strB s) f x else f x)) := HO4.out.below hb5
      have HM5 : Hid (MK w5 pb po tb m W) := HM4.out.below hb5
      have HB5 : Hid (Below w.heap.size w w5) := HB4.out.trans (hb5.mono HB4.out.size)
      clear hb5 HO4 HM4 HB4 ENq hcv sz4 szs
      obtain ⟨E, hE⟩ : ∃ E, E = Gf.enc W m (ctrBlk (strB s) (1 + q)) := ⟨_, rfl⟩
      have HE : Hid (E = Gf.enc W m (ctrBlk (strB s) (1 + q))) := hE
      have lE : Hid (∀ j, E j < 256) := by show ∀ j, E j < 256; rw [hE]; exact fun j => Gf.enc_lt LW.out (fun j _ => ctrBlk_lt (strB_lt s) _ j) j
      rw [← hE]
      clear hE
      have EG : Hid (∀ j (h : j < (kstr E 0 16).size), ((kstr E 0 16)[j].toNat : Int) = (E j : Nat)) := fun j h => by
        have := kstr_get E 0 16 j (by rw [Nat.zero_add]; exact lE.out j) h
        rwa [Nat.zero_add] at this
      have sz16 : Hid ((kstr E 0 16).size = 16) := kstr_size _ _ _
      generalize kstr E 0 16 = ES at *
      go_wp2_with fail
      go_loopw [12] (fun j wx => ∃ r : Nat, r ≤ 16 ∧ 16 * q + r ≤ n ∧ j = .int .i64 (16 * (q : Int) + (r : Int)) ∧ OwnC C wx ob n (fun x => if x < 16 * q + r then ctrF W m (strB s) f x else f x) ∧ OnlyB ob w5 wx) (fun j _ => n + 16 - (intOf j).toNat)
      case atStart => exact ⟨0, by omega, by omega, numEq8 (by omega), HO5.out.congr (fun x hx => by rw [Nat.add_zero]), OnlyB.refl _ _⟩
      case round =>
        clear HO5
        obtain ⟨r, hr, hrn, rfl, ho, hoB⟩ := hrel
        have HO : Hid (OwnC C wr ob n (fun x => if x < 16 * q + r then ctrF W m (strB s) f x else f x)) := ho
        have HOB : Hid (OnlyB ob w5 wr) := hoB
        by_cases hin : 16 * q + r < n ∧ r < 16
        · obtain ⟨hin1, hin2⟩ := hin
          have t1 : 16 * (q : Int) + (r : Int) < (n : Int) := by omega
          have t2 : 16 * (q : Int) + (r : Int) < 16 * (q : Int) + 16 := by omega
          have t0 : (0 : Int) ≤ 16 * (q : Int) + (r : Int) := by omega
          have er : 16 * (q : Int) + (r : Int) - 16 * (q : Int) = (r : Int) := by omega
          have et : (16 * (q : Int) + (r : Int)).toNat = 16 * q + r := by omega
          have c1 := ho.cell hin1
          simp only [Nat.lt_irrefl, if_false] at c1
          have f1 := ho.frozen (16 * q + r)
          have hES : r < ES.size := by rw [sz16.out]; exact hin2
          have t3 : (0 : Int) ≤ (r : Int) := by omega
          have t4 : (r : Int) < (ES.size : Int) := by omega
          have eg := EG.out r hES
          have l1 := HF.out (16 * q + r)
          have l2 := lE.out r
          have ex : bits .xor .u8 (f (16 * q + r) : Int) (E r : Int) = ((f (16 * q + r) ^^^ E r : Nat) : Int) := u8_xor_nat _ _ l1 l2
          have HV : Hid (∀ x, x < n → (if x = 16 * q + r then f (16 * q + r) ^^^ E r else if x < 16 * q + r then ctrF W m (strB s) f x else f x) = if x < 16 * q + (r + 1) then ctrF W m (strB s) f x else f x) := fun x hx => by
            by_cases e : x = 16 * q + r
            · subst e
              rw [if_pos rfl, if_pos (by omega), HE.out]
              unfold ctrF ctrK
              rw [show (16 * q + r) / 16 + 1 = 1 + q from by omega, show (16 * q + r) % 16 = r from by omega]
            · rw [if_neg e]
              by_cases e2 : x < 16 * q + r
              · rw [if_pos e2, if_pos (by omega)]
              · rw [if_neg e2, if_neg (by omega)]
          obtain ⟨V, hV⟩ : ∃ V, V = f (16 * q + r) ^^^ E r := ⟨_, rfl⟩
          rw [← hV] at ex HV
          have HER : Hid (16 * (q : Int) + (r : Int) + 1 = 16 * (q : Int) + ((r + 1 : Nat) : Int)) := by show 16 * (q : Int) + (r : Int) + 1 = _; omega
          clear hV ho hoB HE EN FO LW
          generalize f (16 * q + r) = A1 at *
          generalize E r = A2 at *
          go_wp2_with fail
          go_region
          go_wp2
          go_roundw
          case rel =>
            refine ⟨r + 1, by omega, by omega, numEq8 HER.out, ?_, ?_⟩
            · exact (HO.out.set (16 * q + r) V).congr HV.out
            · exact (HOB.out.setCell _ _).drewS
          case measure => simp [intOf]; omega
        · have HO2 : Hid (OwnC C wr ob n (fun x => if x < 16 * (q + 1) then ctrF W m (strB s) f x else f x)) := ho.congr (fun x hx => by
            by_cases e : x < 16 * q + r
            · rw [if_pos e, if_pos (by omega)]
            · rw [if_neg e, if_neg (by omega)])
          have HM2 : Hid (MK wr pb po tb m W) := HM5.out.onlyB hoB hp1 hp2
          have HB2 : Hid (Below w.heap.size w wr) := HB5.out.trans (hoB.toBelow hwo HB5.out.size)
          have HQ : Hid (16 * (q : Int) + 16 = 16 * ((q + 1 : Nat) : Int)) := by show 16 * (q : Int) + 16 = _; omega
          clear ho hoB HO HOB HM5 HB5 EG lE HE EN FO
          by_cases hn1 : 16 * q + r < n
          · have t1 : 16 * (q : Int) + (r : Int) < (n : Int) := by omega
            have t2 : ¬ 16 * (q : Int) + (r : Int) < 16 * (q : Int) + 16 := by omega
            go_wp2
            go_roundw
            case rel => exact ⟨q + 1, by omega, numEq8 HQ.out, HO2.out, HM2.out, HB2.out⟩
            case measure => simp [intOf]; omega
          · have t1 : ¬ 16 * (q : Int) + (r : Int) < (n : Int) := by omega
            go_wp2
            go_roundw
            case rel => exact ⟨q + 1, by omega, numEq8 HQ.out, HO2.out, HM2.out, HB2.out⟩
            case measure => simp [intOf]; omega
    · have g1 : ¬ 16 * (q : Int) < (n : Int) := by omega
      have HO2 : Hid (OwnC C wr ob n (ctrF W m (strB s) f)) := HO.out.congr (fun x hx => by rw [if_pos (by omega)])
      clear HO HM EN FO
      go_wp2
      go_ret
      exact ⟨⟨ob, C, ⟨hwo, hnC⟩, rfl, HO2.out⟩, HB.out⟩
end Go.Proofs.YtonccbgolbcjfabDoor
