/-
  Texts of the proof, joined: ModelK, CtrS, CtrCS, KeysS, MarkK, OfSealBytes, SealS, OpenS.
-/
import Derived.Test.YtbecnaabmlkjjabGreatDoorP27
import Derived.Test.YtbecnaabmlkjjabGreatDoorP02
import Derived.Test.YtbecnaabmlkjjabGreatDoorP21
import Derived.Test.YtbecnaabmlkjjabGreatDoorP05
import Derived.Test.YtbecnaabmlkjjabGreatDoorP22
import Derived.Test.YtbecnaabmlkjjabGreatDoorP13
import Derived.Test.YtbecnaabmlkjjabGreatDoorP04
import Derived.Test.YtbecnaabmlkjjabGreatDoorP23
import Derived.Test.YtbecnaabmlkjjabGreatDoorP25
import Derived.Test.YtbecnaabmlkjjabGreatDoorP24
namespace Go.Proofs.YtbecnaabmlkjjabGreatDoor
open Go.ChangeShapes Go.WideShapes Go.ChangeAt Go.RowKit
/-- The model's round keys and table of substitutes. -/
def MK (w : World) (pb po tb m : Nat) (W : Nat → Nat) : Prop := Strs w (some ⟨pb, po, none⟩) (m + 1) (fun j => kstr W (j * 16) 16) ∧ w.rowIs tb 3 256 (fun j => .int .i64 (Gf.sub j : Nat))
theorem MK.lt {w : World} {pb po tb m : Nat} {W : Nat → Nat} (h : MK w pb po tb m W) : pb < w.heap.size ∧ tb < w.heap.size := by
  obtain ⟨b, o, ha, hc⟩ := h.1 0 (by omega)
  cases ha
  exact ⟨strBlock hc, h.2.lt⟩
theorem MK.below {w w' : World} {pb po tb m : Nat} {W : Nat → Nat} (h : MK w pb po tb m W) (hb : Below w.heap.size w w') : MK w' pb po tb m W := ⟨h.1.below hb, h.2.of_block (hb.block tb h.2.lt)⟩
theorem MK.belowAt {w w' : World} {B pb po tb m : Nat} {W : Nat → Nat} (h : MK w pb po tb m W) (hb : Below B w w') (h1 : pb < B) (h2 : tb < B) : MK w' pb po tb m W :=
  ⟨fun i hi => by
    obtain ⟨b, o, ha, hc⟩ := h.1 i hi
    cases ha
    exact ⟨pb, po, rfl, by rw [hb.cell (p := ⟨pb, po + i, none⟩) h1]; exact hc⟩, h.2.of_block (hb.block tb h2)⟩
theorem MK.onlyB {w w' : World} {b pb po tb m : Nat} {W : Nat → Nat} (h : MK w pb po tb m W) (ho : OnlyB b w w') (h1 : pb ≠ b) (h2 : tb ≠ b) : MK w' pb po tb m W := ⟨h.1.onlyB ho h1, h.2.of_block (ho.block tb h.2.lt h2)⟩
theorem MK.drewN {w : World} {pb po tb m : Nat} {W : Nat → Nat} (h : MK w pb po tb m W) (q : Nat) : MK (w.drewN q) pb po tb m W := ⟨h.1.drewN q, rowIs_drewN h.2 q⟩
theorem MK.alloc {w : World} {pb po tb m : Nat} {W : Nat → Nat} (h : MK w pb po tb m W) (o : Obj) : MK (w.alloc o) pb po tb m W := h.below ((Below.refl _ _).alloc (Nat.le_refl _) _)
theorem mEnc (pb po ck tb m : Nat) (W : Nat → Nat) (hW : ∀ j, W j < 256) (hm : 1 ≤ m) (hm' : m ≤ 14) (s : ByteArray) (hs : s.size = 16) (w : World) (h : MK w pb po tb m W) :
    Calls Tryz.prog 98 #[.slice (some ⟨pb, po, none⟩) (m + 1) ck, .slice (some ⟨tb, 0, none⟩) 256 256, .string s] w fun e w' => e = .returned (.string (kstr (Gf.enc W m (strB s)) 0 16)) ∧ Below w.heap.size w w' :=
  l01Encrypt_any pb po ck tb m W hW hm hm' s hs w h.1 (fun _ hx => h.2.cell hx)
/-- The keys of a key, behind the table. -/
theorem mKeys (s : ByteArray) (kn : Nat) (hn : kn = 4 ∨ kn = 8) (hs : s.size = kn * 4) (tb : Nat) (w : World) (h : w.rowIs tb 3 256 (fun j => .int .i64 (Gf.sub j : Nat))) :
    Calls Tryz.prog 97 #[.string s, .slice (some ⟨tb, 0, none⟩) 256 256] w fun e w' => (∃ pb po ck, e = .returned (.slice (some ⟨pb, po, none⟩) (kn + 6 + 1) ck) ∧ MK w' pb po tb (kn + 6) (Gf.ws (strB s) kn (3 * kn + 28))) ∧ Below w.heap.size w w' :=
  (l01Keys_any s kn hn hs tb w h).mono fun e w' hh => by
    obtain ⟨⟨v, rfl, hown⟩, hB⟩ := hh
    obtain ⟨p, c, rfl, hstr⟩ := strs_of_owned hown (by omega)
    obtain ⟨pb, po, rfl, _⟩ := hstr.opened (by omega)
    exact ⟨⟨pb, po, c, rfl, hstr, h.of_block (hB.block tb h.lt)⟩, hB⟩
theorem OnlyB.drewS {b : Nat} {w w' : World} (h : OnlyB b w w') : OnlyB b w w'.drew := ⟨h.os, h.tape, h.output, h.size, h.block⟩
end Go.Proofs.YtbecnaabmlkjjabGreatDoor
namespace Go.Proofs.YtbecnaabmlkjjabGreatDoor
open Go.ChangeShapes Go.WideShapes Go.ChangeAt Go.RowKit
theorem l02Four_any (k : Nat) (hk : k ≤ 100000) (w : World) :
    Calls Tryz.prog 76 #[.int .i64 (k : Int)] w fun e w' => e = .returned (.slice (some ⟨w.heap.size, 0, none⟩) 4 4) ∧ Own8 w' w.heap.size 4 (fun j => k / 256 ^ (3 - j) % 256) ∧ Below w.heap.size w w' := by
  go_enter Tryz.func76, Tryz.ntmps76
  go_wp2
  go_ret
  refine ⟨rfl, Own8.ofRow (World.rowIs_alloc w #[.int .u8 ((k : Int) / 16777216), .int .u8 ((k : Int) / 65536), .int .u8 ((k : Int) / 256 % 256), .int .u8 ((k : Int) % 256)] 5 _ (fun i hi => ?_)), (Below.refl _ _).alloc (Nat.le_refl _) _⟩
  have hi' : i < 4 := by simpa using hi
  rcases (show i = 0 ∨ i = 1 ∨ i = 2 ∨ i = 3 by omega) with rfl | rfl | rfl | rfl
  · exact congrArg some (numEq8 (by show (k : Int) / 16777216 = ((k / 16777216 % 256 : Nat) : Int); omega))
  · exact congrArg some (numEq8 (by show (k : Int) / 65536 = ((k / 65536 % 256 : Nat) : Int); omega))
  · exact congrArg some (numEq8 (by show (k : Int) / 256 % 256 = ((k / 256 % 256 : Nat) : Int); omega))
  · exact congrArg some (numEq8 (by show (k : Int) % 256 = ((k / 1 % 256 : Nat) : Int); omega))
theorem ctr_text (s : ByteArray) (hs : s.size = 12) (k : Nat) : Gf.Same (strB (s ++ kstr (fun j => k / 256 ^ (3 - j) % 256) 0 4)) (ctrBlk (strB s) k) := fun j hj => by
  rw [strB_append, hs]
  unfold ctrBlk
  by_cases h : j < 12
  · rw [if_pos h, if_pos h]
  · rw [if_neg h, if_neg h, strB_kstr _ 0 4 _ (by rw [Nat.zero_add]; exact Nat.mod_lt _ (by omega)) (by omega), Nat.zero_add, show 3 - (j - 12) = 15 - j from by omega]
end Go.Proofs.YtbecnaabmlkjjabGreatDoor
namespace Go.Proofs.YtbecnaabmlkjjabGreatDoor
open Go.ChangeShapes Go.WideShapes Go.ChangeAt Go.RowKit
set_option maxRecDepth 100000 in
set_option maxHeartbeats 4000000 in
theorem l02CtrC_any (k s : ByteArray) (kn b o n c : Nat) (f : Nat → Nat) (hkn : kn = 4 ∨ kn = 8) (hk : k.size = kn * 4) (hs : s.size = 12) (hn : n ≤ 65536) (hf : ∀ i, f i < 256) (w : World) (h : Code8 w (some ⟨b, o, none⟩) n f) :
    Calls Tryz.prog 86 #[.string k, .string s, .slice (some ⟨b, o, none⟩) n c] w fun e w' => RetC w w' e n (ctrF (Gf.ws (strB k) kn (3 * kn + 28)) (kn + 6) (strB s) f) ∧ Below w.heap.size w w' := by
  obtain ⟨i0, hi⟩ := info_parts Tryz.info8
  have HI : Hid (Tryz.prog.info? 5 = some i0 ∧ i0.zero = some (.int .u8 0) ∧ i0.size = 1 ∧ i0.bytes = 1) := hi
  have TA : Hid (∀ w : World, Calls Tryz.prog 96 #[] w fun e w' => (∃ b, w.heap.size ≤ b ∧ e = .returned (.slice (some ⟨b, 0, none⟩) 256 256) ∧ w'.rowIs b 3 256 (fun j => .int .i64 (Gf.sub j : Nat))) ∧ Below w.heap.size w w') := table_any
  have KE : Hid (∀ (tb : Nat) (w : World), w.rowIs tb 3 256 (fun j => .int .i64 (Gf.sub j : Nat)) → Calls Tryz.prog 97 #[.string k, .slice (some ⟨tb, 0, none⟩) 256 256] w fun e w' => (∃ pb po ck, e = .returned (.slice (some ⟨pb, po, none⟩) (kn + 6 + 1) ck) ∧ MK w' pb po tb (kn + 6) (Gf.ws (strB k) kn (3 * kn + 28))) ∧ Below w.heap.size w w') := fun tb w h => mKeys k kn hkn hk tb w h
  have LW : Hid (∀ j, Gf.ws (strB k) kn (3 * kn + 28) j < 256) := Gf.ws_lt (strB_lt k) _
  generalize Gf.ws (strB k) kn (3 * kn + 28) = W at *
  obtain ⟨m, hm⟩ : ∃ m, m = kn + 6 := ⟨_, rfl⟩
  have hm1 : 1 ≤ m := by omega
  have hm2 : m ≤ 14 := by omega
  rw [← hm] at KE ⊢
  have FO : Hid (∀ (k : Nat) (w : World), k ≤ 100000 → Calls Tryz.prog 76 #[.int .i64 (k : Int)] w fun e w' => e = .returned (.slice (some ⟨w.heap.size, 0, none⟩) 4 4) ∧ Own8 w' w.heap.size 4 (fun j => k / 256 ^ (3 - j) % 256) ∧ Below w.heap.size w w') := fun k w h => l02Four_any k h w
  have EN : Hid (∀ (pb po ck tb k : Nat) (w : World), MK w pb po tb m W → Calls Tryz.prog 98 #[.slice (some ⟨pb, po, none⟩) (m + 1) ck, .slice (some ⟨tb, 0, none⟩) 256 256, .string (s ++ kstr (fun j => k / 256 ^ (3 - j) % 256) 0 4)] w fun e w' => e = .returned (.string (kstr (Gf.enc W m (ctrBlk (strB s) k)) 0 16)) ∧ Below w.heap.size w w') := fun pb po ck tb k w h =>
    (mEnc pb po ck tb m W LW.out hm1 hm2 _ (by rw [ByteArray.size_append, kstr_size, hs]) w h).mono fun e w' hh => ⟨by rw [hh.1, kstr_same (Gf.same_enc (ctr_text s hs k))], hh.2⟩
  have HC : Hid (Code8 w (some ⟨b, o, none⟩) n f) := h
  have HF : Hid (∀ i, f i < 256) := hf
  clear h hf hkn hk hm hi
  go_enter Tryz.func86, Tryz.ntmps86
  go_wp2_with fail
  refine (TA.out _).mono ?_
  rintro e w1 ⟨⟨tb, htb, rfl, hrow⟩, hB1⟩
  have HR : Hid (w1.rowIs tb 3 256 (fun j => .int .i64 (Gf.sub j : Nat))) := hrow
  have HB1 : Hid (Below w.heap.size w w1) := hB1
  clear hrow hB1
  go_wp2_with fail
  refine (KE.out tb w1 HR.out).mono ?_
  rintro e w2 ⟨⟨pb, po, ck, rfl, hmk⟩, hB2⟩
  have HM : Hid (MK w2 pb po tb m W) := hmk
  have HB2 : Hid (Below w.heap.size w w2) := HB1.out.trans (hB2.mono HB1.out.size)
  have HC2 : Hid (Code8 w2 (some ⟨b, o, none⟩) n f) := HC.out.below HB2.out
  have hpt := hmk.lt
  clear hmk hB2 HR HB1 HC TA KE
  go_wp2_with (at_builtin; refine wpList_append_own _ rfl _ _ 88 rfl w2.heap.size 5 i0 (.int .u8 0) 1 1 Tryz.underlying88 HI.out.1 HI.out.2.1 HI.out.2.2.1 HI.out.2.2.2 rfl (by decide) _ _ _ rfl (World.ownsRow_made w2 #[] 0 (Nat.le_refl _) (Nat.zero_le _) (by simp)) ⟨b, o, none⟩ n c (bv n f) rfl (by rw [bv_length, Nat.mul_one]) ?qc2 (bv_one n f) (by unfold maxLen; omega) (by omega) (by simp) ?_)
  case qc2 =>
    intro j u hj
    exact Lib.cell?_alloc_some _ (bv_news HC2.out j u hj)
  intro v' w3 hown hgrow hnil
  have BG : Below w2.heap.size w2 w3 := ((Below.refl _ w2).alloc (Nat.le_refl _) _).grown hgrow (by simp) (by intro k hk; simp [Value.ownBlock] at hk; omega)
  obtain ⟨ob, C, ⟨hob, hnC⟩, rfl, ho⟩ := ownC_of_own hown hnil
  have HO : Hid (OwnC C w3 ob n f) := ho
  have HM3 : Hid (MK w3 pb po tb m W) := HM.out.below BG
  have HB3 : Hid (Below w.heap.size w w3) := HB2.out.trans (BG.mono HB2.out.size)
  have hw2 := HB2.out.size
  have hp1 : pb ≠ ob := by have := hpt.1; omega
  have hp2 : tb ≠ ob := by have := hpt.2; omega
  have hwo : w.heap.size ≤ ob := Nat.le_trans hw2 hob
  clear hown hgrow hnil ho BG HM HB2 HC2
  go_wp2_with fail
  go_loopw [10, 11, 12] (fun i _ _ wr => ∃ q : Nat, 16 * q ≤ n + 15 ∧ i = .int .i64 (16 * (q : Int)) ∧ OwnC C wr ob n (fun x => if x < 16 * q then ctrF W m (strB s) f x else f x) ∧ MK wr pb po tb m W ∧ Below w.heap.size w wr) (fun i _ _ _ => n + 16 - (intOf i).toNat)
  case atStart => exact ⟨0, by omega, rfl, HO.out.congr (fun x hx => by rw [if_neg (by omega)]), HM3.out, HB3.out⟩
  case round =>
    clear HO HM3 HB3
    obtain ⟨q, hq, rfl, ho, hmk, hb⟩ := hrel
    have HO : Hid (OwnC C wr ob n (fun x => if x < 16 * q then ctrF W m (strB s) f x else f x)) := ho
    have HM : Hid (MK wr pb po tb m W) := hmk
    have HB : Hid (Below w.heap.size w wr) := hb
    clear ho hmk hb
    by_cases hlt : 16 * q < n
    · have g1 : 16 * (q : Int) < (n : Int) := by omega
      have g2 : 16 * (q : Int) / 16 = (q : Int) := by omega
      have g3 : (16 * (q : Int)).tdiv 16 = (q : Int) := by rw [Int.tdiv_eq_ediv_of_nonneg (by omega)]; omega
      have ENq : Hid (∀ w : World, MK w pb po tb m W → Calls Tryz.prog 98 #[.slice (some ⟨pb, po, none⟩) (m + 1) ck, .slice (some ⟨tb, 0, none⟩) 256 256, .string (s ++ kstr (fun j => (1 + q) / 256 ^ (3 - j) % 256) 0 4)] w fun e w' => e = .returned (.string (kstr (Gf.enc W m (ctrBlk (strB s) (1 + q))) 0 16)) ∧ Below w.heap.size w w') := fun w h => EN.out pb po ck tb (1 + q) w h
      have FOq : Hid (∀ w : World, Calls Tryz.prog 76 #[.int .i64 (1 + (q : Int))] w fun e w' => e = .returned (.slice (some ⟨w.heap.size, 0, none⟩) 4 4) ∧ Own8 w' w.heap.size 4 (fun j => (1 + q) / 256 ^ (3 - j) % 256) ∧ Below w.heap.size w w') := fun w => FO.out (1 + q) w (by omega)
      have sz4 : ((kstr (fun j => (1 + q) / 256 ^ (3 - j) % 256) 0 4).size : Int) = 4 := by rw [kstr_size]; rfl
      have szs : (s.size : Int) = 12 := by omega
      go_wp2_with fail
      refine (FOq.out _).mono ?_
      rintro e w4 ⟨rfl, hf4, hb4⟩
      have hcv := kstr_of_code (c := 4) hf4.code
      have HO4 : Hid (OwnC C w4 ob n (fun x => if x < 16 * q then ctrF W m (strB s) f x else f x)) := HO.out.below hb4
      have HM4 : Hid (MK w4 pb po tb m W) := HM.out.below hb4
      have HB4 : Hid (Below w.heap.size w w4) := HB.out.trans (hb4.mono HB.out.size)
      clear hf4 hb4 HO HM HB FOq
      generalize kstr (fun j => (1 + q) / 256 ^ (3 - j) % 256) 0 4 = T4 at *
      generalize wr.heap.size = fb at *
      go_wp2_with fail
      refine (ENq.out _ HM4.out).mono ?_
      rintro e w5 ⟨rfl, hb5⟩
      have HO5 : Hid (OwnC C w5 ob n (fun x => if x < 16 * q then ctrF W m (strB s) f x else f x)) := HO4.out.below hb5
      have HM5 : Hid (MK w5 pb po tb m W) := HM4.out.below hb5
      have HB5 : Hid (Below w.heap.size w w5) := HB4.out.trans (hb5.mono HB4.out.size)
      clear hb5 HO4 HM4 HB4 ENq hcv sz4 szs
      obtain ⟨E, hE⟩ : ∃ E, E = Gf.enc W m (ctrBlk (strB s) (1 + q)) := ⟨_, rfl⟩
      have HE : Hid (E = Gf.enc W m (ctrBlk (strB s) (1 + q))) := hE
      have lE : Hid (∀ j, E j < 256) := by show ∀ j, E j < 256; rw [hE]; exact fun j => Gf.enc_lt LW.out (fun j _ => ctrBlk_lt (strB_lt s) _ j) j
      rw [← hE]
      clear hE
      have EG : Hid (∀ j (h : j < (kstr E 0 16).size), ((kstr E 0 16)[j].toNat : Int) = (E j : Nat)) := fun j h => by
        have := kstr_get E 0 16 j (by rw [Nat.zero_add]; exact lE.out j) h
        rwa [Nat.zero_add] at this
      have sz16 : Hid ((kstr E 0 16).size = 16) := kstr_size _ _ _
      generalize kstr E 0 16 = ES at *
      go_wp2_with fail
      go_loopw [12] (fun j wx => ∃ r : Nat, r ≤ 16 ∧ 16 * q + r ≤ n ∧ j = .int .i64 (16 * (q : Int) + (r : Int)) ∧ OwnC C wx ob n (fun x => if x < 16 * q + r then ctrF W m (strB s) f x else f x) ∧ OnlyB ob w5 wx) (fun j _ => n + 16 - (intOf j).toNat)
      case atStart => exact ⟨0, by omega, by omega, numEq8 (by omega), HO5.out.congr (fun x hx => by rw [Nat.add_zero]), OnlyB.refl _ _⟩
      case round =>
        clear HO5
        obtain ⟨r, hr, hrn, rfl, ho, hoB⟩ := hrel
        have HO : Hid (OwnC C wr ob n (fun x => if x < 16 * q + r then ctrF W m (strB s) f x else f x)) := ho
        have HOB : Hid (OnlyB ob w5 wr) := hoB
        by_cases hin : 16 * q + r < n ∧ r < 16
        · obtain ⟨hin1, hin2⟩ := hin
          have t1 : 16 * (q : Int) + (r : Int) < (n : Int) := by omega
          have t2 : 16 * (q : Int) + (r : Int) < 16 * (q : Int) + 16 := by omega
          have t0 : (0 : Int) ≤ 16 * (q : Int) + (r : Int) := by omega
          have er : 16 * (q : Int) + (r : Int) - 16 * (q : Int) = (r : Int) := by omega
          have et : (16 * (q : Int) + (r : Int)).toNat = 16 * q + r := by omega
          have c1 := ho.cell hin1
          simp only [Nat.lt_irrefl, if_false] at c1
          have f1 := ho.frozen (16 * q + r)
          have hES : r < ES.size := by rw [sz16.out]; exact hin2
          have t3 : (0 : Int) ≤ (r : Int) := by omega
          have t4 : (r : Int) < (ES.size : Int) := by omega
          have eg := EG.out r hES
          have l1 := HF.out (16 * q + r)
          have l2 := lE.out r
          have ex : bits .xor .u8 (f (16 * q + r) : Int) (E r : Int) = ((f (16 * q + r) ^^^ E r : Nat) : Int) := u8_xor_nat _ _ l1 l2
          have HV : Hid (∀ x, x < n → (if x = 16 * q + r then f (16 * q + r) ^^^ E r else if x < 16 * q + r then ctrF W m (strB s) f x else f x) = if x < 16 * q + (r + 1) then ctrF W m (strB s) f x else f x) := fun x hx => by
            by_cases e : x = 16 * q + r
            · subst e
              rw [if_pos rfl, if_pos (by omega), HE.out]
              unfold ctrF ctrK
              rw [show (16 * q + r) / 16 + 1 = 1 + q from by omega, show (16 * q + r) % 16 = r from by omega]
            · rw [if_neg e]
              by_cases e2 : x < 16 * q + r
              · rw [if_pos e2, if_pos (by omega)]
              · rw [if_neg e2, if_neg (by omega)]
          obtain ⟨V, hV⟩ : ∃ V, V = f (16 * q + r) ^^^ E r := ⟨_, rfl⟩
          rw [← hV] at ex HV
          have HER : Hid (16 * (q : Int) + (r : Int) + 1 = 16 * (q : Int) + ((r + 1 : Nat) : Int)) := by show 16 * (q : Int) + (r : Int) + 1 = _; omega
          clear hV ho hoB HE EN FO LW
          generalize f (16 * q + r) = A1 at *
          generalize E r = A2 at *
          go_wp2_with fail
          go_region
          go_wp2
          go_roundw
          case rel =>
            refine ⟨r + 1, by omega, by omega, numEq8 HER.out, ?_, ?_⟩
            · exact (HO.out.set (16 * q + r) V).congr HV.out
            · exact (HOB.out.setCell _ _).drewS
          case measure => simp [intOf]; omega
        · have HO2 : Hid (OwnC C wr ob n (fun x => if x < 16 * (q + 1) then ctrF W m (strB s) f x else f x)) := ho.congr (fun x hx => by
            by_cases e : x < 16 * q + r
            · rw [if_pos e, if_pos (by omega)]
            · rw [if_neg e, if_neg (by omega)])
          have HM2 : Hid (MK wr pb po tb m W) := HM5.out.onlyB hoB hp1 hp2
          have HB2 : Hid (Below w.heap.size w wr) := HB5.out.trans (hoB.toBelow hwo HB5.out.size)
          have HQ : Hid (16 * (q : Int) + 16 = 16 * ((q + 1 : Nat) : Int)) := by show 16 * (q : Int) + 16 = _; omega
          clear ho hoB HO HOB HM5 HB5 EG lE HE EN FO
          by_cases hn1 : 16 * q + r < n
          · have t1 : 16 * (q : Int) + (r : Int) < (n : Int) := by omega
            have t2 : ¬ 16 * (q : Int) + (r : Int) < 16 * (q : Int) + 16 := by omega
            go_wp2
            go_roundw
            case rel => exact ⟨q + 1, by omega, numEq8 HQ.out, HO2.out, HM2.out, HB2.out⟩
            case measure => simp [intOf]; omega
          · have t1 : ¬ 16 * (q : Int) + (r : Int) < (n : Int) := by omega
            go_wp2
            go_roundw
            case rel => exact ⟨q + 1, by omega, numEq8 HQ.out, HO2.out, HM2.out, HB2.out⟩
            case measure => simp [intOf]; omega
    · have g1 : ¬ 16 * (q : Int) < (n : Int) := by omega
      have HO2 : Hid (OwnC C wr ob n (ctrF W m (strB s) f)) := HO.out.congr (fun x hx => by rw [if_pos (by omega)])
      clear HO HM EN FO
      go_wp2
      go_ret
      exact ⟨⟨ob, C, ⟨hwo, hnC⟩, rfl, HO2.out⟩, HB.out⟩
end Go.Proofs.YtbecnaabmlkjjabGreatDoor
namespace Go.Proofs.YtbecnaabmlkjjabGreatDoor
open Go.ChangeShapes Go.WideShapes Go.ChangeAt Go.RowKit
set_option maxRecDepth 100000 in
set_option maxHeartbeats 2000000 in
theorem l04Keys_any (k : ByteArray) (hk : k.size = 32) (w : World) :
    Calls Tryz.prog 84 #[.string k] w fun e w' => e = .returned (.tuple #[.string (encS k), .string (tagS k)]) ∧ Below w.heap.size w w' := by
  have MA : Hid (∀ (b0 b1 c : Nat) (w : World), Code8 w (some ⟨b0, 0, none⟩) 4 sealF → Code8 w (some ⟨b1, 0, none⟩) 32 (strB k) → Calls Tryz.prog 95 #[.slice (some ⟨b0, 0, none⟩) 4 4, .slice (some ⟨b1, 0, none⟩) 32 c] w fun e w' => e = .returned (.string (secS k)) ∧ Below w.heap.size w w') := fun b0 b1 c w h0 h1 => l03Hmac_any b0 0 4 4 b1 0 32 c sealF (strB k) sealF_lt (strB_lt k) (by omega) (by omega) w h0 h1
  have EX : Hid (∀ (b : Nat) (w : World), Code8 w (some ⟨b, 0, none⟩) 4 keysF → Calls Tryz.prog 94 #[.string (secS k), .slice (some ⟨b, 0, none⟩) 4 4, .int .i64 64] w fun e w' => e = .returned (.string (kstr (pairF k) 0 64)) ∧ Below w.heap.size w w') := fun b w h => by
    have := l03Expand_any (secS k) (by rw [secS_size]; omega) b 0 4 4 64 keysF keysF_lt (by omega) (by omega) w h
    rw [secS_size] at this
    exact this
  have lG : ∀ i, pairF k i < 256 := pairF_lt k
  have hE : encS k = kstr (pairF k) 0 32 := rfl
  have hT : tagS k = kstr (pairF k) 32 32 := rfl
  rw [hE, hT]
  clear hE hT
  generalize pairF k = G at *
  generalize secS k = SE at *
  have hbs : (kstr G 0 64).size = 64 := kstr_size _ _ _
  have hx1 : (kstr G 0 64).extract 0 32 = kstr G 0 32 := by
    have := kstr_extract (kstr G 0 64) 0 32 (by rw [hbs]; omega)
    rw [Nat.zero_add] at this
    rw [this]
    exact kstr_congr (fun i hi => by rw [Nat.zero_add, strB_kstr _ 0 64 i (by rw [Nat.zero_add]; exact lG _) (by omega), Nat.zero_add])
  have hx2 : (kstr G 0 64).extract 32 64 = kstr G 32 32 := by
    have := kstr_extract (kstr G 0 64) 32 32 (by rw [hbs]; omega)
    rw [this]
    exact kstr_congr (fun i hi => by rw [strB_kstr _ 0 64 (32 + i) (by rw [Nat.zero_add]; exact lG _) (by omega), Nat.zero_add])
  generalize kstr G 0 64 = BO at *
  generalize kstr G 0 32 = S1 at *
  generalize kstr G 32 32 = S2 at *
  clear lG
  obtain ⟨wA, hwA⟩ : ∃ wA, wA = w.alloc (.cells #[.int .u8 115, .int .u8 101, .int .u8 97, .int .u8 108] 5 (4, 5)) := ⟨_, rfl⟩
  have hcv1 : (convert 88 88 (.slice (some ⟨w.heap.size, 0, none⟩) 4 4)).run Tryz.prog (w.alloc (.cells #[.int .u8 115, .int .u8 101, .int .u8 97, .int .u8 108] 5)) = .ok (.slice (some ⟨w.heap.size, 0, none⟩) 4 4) wA := by
    rw [hwA]
    exact conv_rowS w #[.int .u8 115, .int .u8 101, .int .u8 97, .int .u8 108] 4 4
  have AA : Below w.heap.size w wA := by rw [hwA]; exact (Below.refl _ _).alloc (Nat.le_refl _) _
  have SC : Code8 wA (some ⟨w.heap.size, 0, none⟩) 4 sealF := by rw [hwA]; exact seal_code w
  clear hwA
  obtain ⟨w2, c2, hcv2, hk2, hb2, _⟩ := bytesOfM k wA
  rw [hk] at hcv2 hk2
  have H0 : Hid (Code8 w2 (some ⟨w.heap.size, 0, none⟩) 4 sealF) := SC.below hb2
  have H1 : Hid (Code8 w2 (some ⟨wA.heap.size, 0, none⟩) 32 (strB k)) := hk2
  have B2 : Hid (Below w.heap.size w w2) := AA.trans (hb2.mono AA.size)
  clear AA hk2 hb2 SC
  generalize wA.heap.size = bA0 at *
  go_enter Tryz.func84, Tryz.ntmps84
  go_wp2_with fail
  refine (MA.out _ _ _ _ H0.out H1.out).mono ?_
  rintro e w3 ⟨rfl, hb3⟩
  have B3 : Hid (Below w.heap.size w w3) := B2.out.trans (hb3.mono B2.out.size)
  clear hb3 B2 H0 H1 hcv1 hcv2 MA
  obtain ⟨wB, hwB⟩ : ∃ wB, wB = w3.alloc (.cells #[.int .u8 107, .int .u8 101, .int .u8 121, .int .u8 115] 5 (4, 5)) := ⟨_, rfl⟩
  have hcv5 : (convert 88 88 (.slice (some ⟨w3.heap.size, 0, none⟩) 4 4)).run Tryz.prog (w3.alloc (.cells #[.int .u8 107, .int .u8 101, .int .u8 121, .int .u8 115] 5)) = .ok (.slice (some ⟨w3.heap.size, 0, none⟩) 4 4) wB := by
    rw [hwB]
    exact conv_rowS w3 #[.int .u8 107, .int .u8 101, .int .u8 121, .int .u8 115] 4 4
  have AA : Below w3.heap.size w3 wB := by rw [hwB]; exact (Below.refl _ _).alloc (Nat.le_refl _) _
  have B4 : Hid (Below w.heap.size w wB) := B3.out.trans (AA.mono B3.out.size)
  have KC : Hid (Code8 wB (some ⟨w3.heap.size, 0, none⟩) 4 keysF) := by show Code8 _ _ _ _; rw [hwB]; exact keys_code w3
  clear AA B3 hwB
  go_wp2_with fail
  refine (EX.out w3.heap.size _ KC.out).mono ?_
  rintro e w5 ⟨rfl, hb5⟩
  have B5 : Hid (Below w.heap.size w w5) := B4.out.trans (hb5.mono B4.out.size)
  clear hb5 B4 hcv5 EX
  go_wp2_with fail
  go_quiet (fail)
  go_wp2
  go_ret2
  exact ⟨rfl, below_drewN8 B5.out _⟩
end Go.Proofs.YtbecnaabmlkjjabGreatDoor
namespace Go.Proofs.YtbecnaabmlkjjabGreatDoor
open Go.ChangeShapes Go.WideShapes Go.ChangeAt Go.RowKit
end Go.Proofs.YtbecnaabmlkjjabGreatDoor
namespace Go.Proofs.YtbecnaabmlkjjabGreatDoor
open Go.ChangeShapes Go.WideShapes Go.ChangeAt Go.RowKit
end Go.Proofs.YtbecnaabmlkjjabGreatDoor
namespace Go.Proofs.YtbecnaabmlkjjabGreatDoor
open Go.ChangeShapes Go.WideShapes Go.ChangeAt Go.RowKit
end Go.Proofs.YtbecnaabmlkjjabGreatDoor
namespace Go.Proofs.YtbecnaabmlkjjabGreatDoor
open Go.ChangeShapes Go.WideShapes Go.ChangeAt Go.RowKit
theorem okT_iff (k s : ByteArray) (m : Nat) (fx : Nat → Nat) (n : Nat) (f : Nat → Nat) (hf : ∀ i, f i < 256) : okT k s m fx n f = true ↔ tagT k s m fx n f = kstr (fun i => f (n + i)) 0 16 := by
  have hs := tagT_size k s m fx n f
  unfold okT
  generalize tagT k s m fx n f = TT at *
  have e1 : (((difF (strB TT) (fun i => f (n + i)) 0 16 : Nat) : Int) == 0) = true ↔ difF (strB TT) (fun i => f (n + i)) 0 16 = 0 := by rw [beq_iff_eq]; omega
  rw [e1, difF_zero]
  constructor
  · intro h
    have := kstr_self TT
    rw [hs] at this
    rw [← this]
    exact kstr_congr (fun i hi => by rw [Nat.zero_add]; exact h.2 i hi)
  · intro h
    refine ⟨rfl, fun i hi => ?_⟩
    rw [h]
    exact (strB_kstr (fun i => f (n + i)) 0 16 i (hf _) hi).trans (by show f (n + (0 + i)) = f (n + i); rw [Nat.zero_add])
def RetOpenS (w w' : World) (e : Ending) (n : Nat) (F : Nat → Nat) (r : Bool) : Prop := if r then RetB2 w w' e n F (.bool true) else ∃ a c, e = .returned (.tuple #[.slice a 0 c, .bool false])
theorem RetOpenS.no {w w' : World} {e : Ending} {n : Nat} {F : Nat → Nat} (h : ∃ a c, e = .returned (.tuple #[.slice a 0 c, .bool false])) : RetOpenS w w' e n F false := by unfold RetOpenS; rw [if_neg (by decide)]; exact h
theorem RetOpenS.yes {w w' : World} {e : Ending} {n : Nat} {F : Nat → Nat} (h : RetB2 w w' e n F (.bool true)) : RetOpenS w w' e n F true := by unfold RetOpenS; rw [if_pos rfl]; exact h
set_option maxRecDepth 100000 in
set_option maxHeartbeats 4000000 in
theorem l04Open_any (k s : ByteArray) (xb xo m xc b n c : Nat) (fx f : Nat → Nat) (hk : k.size = 32) (hs : s.size = 12) (hm : m ≤ 65536) (hn : n + 16 ≤ 65536) (hcap : n + 16 ≤ c) (hfx : ∀ i, fx i < 256) (hf : ∀ i, f i < 256) (w : World) (hx : Code8 w (some ⟨xb, xo, none⟩) m fx) (hc : Code8 w (some ⟨b, 0, none⟩) (n + 16) f) :
    Calls Tryz.prog 68 #[.string k, .string s, .slice (some ⟨xb, xo, none⟩) m xc, .slice (some ⟨b, 0, none⟩) (n + 16) c] w fun e w' => RetOpenS w w' e n (streamF k s f) (okT k s m fx n f) ∧ Below w.heap.size w w' := by
  have KE : Hid (∀ w : World, Calls Tryz.prog 84 #[.string k] w fun e w' => e = .returned (.tuple #[.string (encS k), .string (tagS k)]) ∧ Below w.heap.size w w') := fun w => l04Keys_any k hk w
  have CX : Hid (∀ w : World, Code8 w (some ⟨b, 0, none⟩) n f → Calls Tryz.prog 86 #[.string (encS k), .string s, .slice (some ⟨b, 0, none⟩) n c] w fun e w' => RetC w w' e n (streamF k s f) ∧ Below w.heap.size w w') := fun w h => l02CtrC_any (encS k) s 8 b 0 n c f (.inr rfl) (by rw [encS_size]) hs (by omega) hf w h
  have TG : Hid (∀ (w : World), Code8 w (some ⟨xb, xo, none⟩) m fx → Code8 w (some ⟨b, 0, none⟩) n f → Calls Tryz.prog 85 #[.string (tagS k), .string s, .slice (some ⟨xb, xo, none⟩) m xc, .slice (some ⟨b, 0, none⟩) n c] w fun e w' => e = .returned (.string (tagT k s m fx n f)) ∧ Below w.heap.size w w') := fun w h1 h2 => l04Tag_any k s xb xo m xc b 0 n c fx f hs hm (by omega) hfx hf w h1 h2
  have OI : Hid (okT k s m fx n f = true ↔ tagT k s m fx n f = kstr (fun i => f (n + i)) 0 16) := okT_iff k s m fx n f hf
  generalize okT k s m fx n f = OKB at *
  generalize tagT k s m fx n f = TT at *
  generalize streamF k s f = F at *
  generalize encS k = E at *
  generalize tagS k = TK at *
  have HX : Hid (Code8 w (some ⟨xb, xo, none⟩) m fx) := hx
  have HC : Hid (Code8 w (some ⟨b, 0, none⟩) n f) := fun i hi => hc i (by omega)
  have HE : Hid (Code8 w (some ⟨b, n, none⟩) 16 (fun i => f (n + i))) := code8_of (fun i hi => by
    obtain ⟨b', o', e, hcc⟩ := hc (n + i) (by omega)
    cases e
    rw [Nat.zero_add] at hcc
    exact hcc)
  have x2 : ((n + 16 : Nat) : Int) - 16 = (n : Int) := by omega
  have x1 : ¬ (n : Int) < 0 := by omega
  have x3 : (n : Int) ≤ (c : Int) := by omega
  have x4 : (n : Int) ≤ ((n + 16 : Nat) : Int) := by omega
  have x5 : n + 16 - n = 16 := by omega
  clear hx hc hfx hf hk hs
  obtain ⟨L, hL⟩ : ∃ L, L = n + 16 := ⟨_, rfl⟩
  rw [← hL] at x2 x4 x5 ⊢
  have x6 : (L : Int) ≤ (c : Int) := by omega
  have xc0 : ¬ c - n = 0 := by omega
  clear hL
  generalize hTB : kstr (fun i => f (n + i)) 0 16 = TB at *
  have HTB : Hid (kstr (fun i => f (n + i)) 0 16 = TB) := hTB
  clear hTB
  go_enter Tryz.func68, Tryz.ntmps68
  go_upto_region 5 with (go_at_call 84; refine (KE.out _).mono ?_; rintro e w1 ⟨rfl, hb1⟩)
  have B2 : Hid (Below w.heap.size w w1.drew) := (Below.trans (Below.refl _ _) hb1).drew
  have H : Code8 w1.drew (some ⟨b, n, none⟩) 16 (fun i => f (n + i)) := HE.out.below B2.out
  clear hb1 KE
  refine wp_region_noPanic ?_
  refine wp_region_held_drew (S := fun w' => Code8 w' (some ⟨b, n, none⟩) 16 (fun i => f (n + i))) (by kernel_rfl) H (fun _ => ?_)
  refine wpAnyH_take (i := 0) (v := .string TK) rfl (by kernel_rfl) (by kernel_rfl) (by kernel_rfl) (fun _ _ _ h => h) (Or.inl ⟨by rfl, ?_⟩) H ?_
  · intro w' hSw; clear hSw; go_simp
  change wpAnyH _ _ _ _ _ _ _ { tmps := #[_, _, _, _, _, _, _, _, _, _, _, _, _, _, _, _, _, _, _, _, _, _, _, _, _, _, _, _, _, _, _, _, _, _, _, _, _, _, _, _, _, _, _], defers := _ } _
  refine wpAnyH_take (i := 1) (v := .string s) rfl (by kernel_rfl) (by kernel_rfl) (by kernel_rfl) (fun _ _ _ h => h) (Or.inl ⟨by rfl, ?_⟩) H ?_
  · intro w' hSw; clear hSw; go_simp
  change wpAnyH _ _ _ _ _ _ _ { tmps := #[_, _, _, _, _, _, _, _, _, _, _, _, _, _, _, _, _, _, _, _, _, _, _, _, _, _, _, _, _, _, _, _, _, _, _, _, _, _, _, _, _, _, _], defers := _ } _
  refine wpAnyH_take (i := 2) (v := .slice (some ⟨xb, xo, none⟩) m xc) rfl (by kernel_rfl) (by kernel_rfl) (by kernel_rfl) (fun _ _ _ h => h) (Or.inl ⟨by rfl, ?_⟩) H ?_
  · intro w' hSw; clear hSw; go_simp
  change wpAnyH _ _ _ _ _ _ _ { tmps := #[_, _, _, _, _, _, _, _, _, _, _, _, _, _, _, _, _, _, _, _, _, _, _, _, _, _, _, _, _, _, _, _, _, _, _, _, _, _, _, _, _, _, _], defers := _ } _
  refine wpAnyH_take (i := 3) (v := .slice (some ⟨b, 0, none⟩) L c) rfl (by kernel_rfl) (by kernel_rfl) (by kernel_rfl) (fun _ _ _ h => h) (Or.inl ⟨by rfl, ?_⟩) H ?_
  · intro w' hSw; clear hSw; go_simp
  change wpAnyH _ _ _ _ _ _ _ { tmps := #[_, _, _, _, _, _, _, _, _, _, _, _, _, _, _, _, _, _, _, _, _, _, _, _, _, _, _, _, _, _, _, _, _, _, _, _, _, _, _, _, _, _, _], defers := _ } _
  refine wpAnyH_take (i := 4) (v := .int .i64 (n : Int)) rfl (by kernel_rfl) (by kernel_rfl) (by kernel_rfl) (fun _ _ _ h => h) (Or.inl ⟨by rfl, ?_⟩) H ?_
  · intro w' hSw; clear hSw; go_simp
  change wpAnyH _ _ _ _ _ _ _ { tmps := #[_, _, _, _, _, _, _, _, _, _, _, _, _, _, _, _, _, _, _, _, _, _, _, _, _, _, _, _, _, _, _, _, _, _, _, _, _, _, _, _, _, _, _], defers := _ } _
  refine wpAnyH_take (i := 5) (v := .slice (some ⟨b, 0, none⟩) n c) rfl (by kernel_rfl) (by kernel_rfl) (by kernel_rfl) (fun _ _ _ h => h) (Or.inl ⟨by rfl, ?_⟩) H ?_
  · intro w' hSw; clear hSw; go_simp
  change wpAnyH _ _ _ _ _ _ _ { tmps := #[_, _, _, _, _, _, _, _, _, _, _, _, _, _, _, _, _, _, _, _, _, _, _, _, _, _, _, _, _, _, _, _, _, _, _, _, _, _, _, _, _, _, _], defers := _ } _
  refine wpAnyH_take (i := 7) (v := .slice (some ⟨b, 0, none⟩) L c) rfl (by kernel_rfl) (by kernel_rfl) (by kernel_rfl) (fun _ _ _ h => h) (Or.inl ⟨by rfl, ?_⟩) H ?_
  · intro w' hSw; clear hSw; go_simp
  change wpAnyH _ _ _ _ _ _ _ { tmps := #[_, _, _, _, _, _, _, _, _, _, _, _, _, _, _, _, _, _, _, _, _, _, _, _, _, _, _, _, _, _, _, _, _, _, _, _, _, _, _, _, _, _, _], defers := _ } _
  refine wpAnyH_take (i := 8) (v := .int .i64 (n : Int)) rfl (by kernel_rfl) (by kernel_rfl) (by kernel_rfl) (fun _ _ _ h => h) (Or.inl ⟨by rfl, ?_⟩) H ?_
  · intro w' hSw; clear hSw; go_simp
  change wpAnyH _ _ _ _ _ _ _ { tmps := #[_, _, _, _, _, _, _, _, _, _, _, _, _, _, _, _, _, _, _, _, _, _, _, _, _, _, _, _, _, _, _, _, _, _, _, _, _, _, _, _, _, _, _], defers := _ } _
  refine wpAnyH_take (i := 9) (v := .slice (some ⟨b, n, none⟩) 16 (c - n)) rfl (by kernel_rfl) (by kernel_rfl) (by kernel_rfl) (fun _ _ _ h => h) (Or.inl ⟨by rfl, ?_⟩) H ?_
  · intro w' hSw; clear hSw; go_simp; intro h; omega
  change wpAnyH _ _ _ _ _ _ _ { tmps := #[_, _, _, _, _, _, _, _, _, _, _, _, _, _, _, _, _, _, _, _, _, _, _, _, _, _, _, _, _, _, _, _, _, _, _, _, _, _, _, _, _, _, _], defers := _ } _
  refine wpAnyH_take (i := 10) (v := .string TB) rfl (by kernel_rfl) (by kernel_rfl) (by kernel_rfl) (fun _ _ _ h => h) (Or.inl ⟨by rfl, ?_⟩) H ?_
  · intro w' hSw; have := kstr_of_code (c := c - n) hSw; rw [HTB.out] at this; clear hSw; go_simp
  change wpAnyH _ _ _ _ _ _ _ { tmps := #[_, _, _, _, _, _, _, _, _, _, _, _, _, _, _, _, _, _, _, _, _, _, _, _, _, _, _, _, _, _, _, _, _, _, _, _, _, _, _, _, _, _, _], defers := _ } _
  refine wpAnyH_ready (rs := [6]) (by kernel_rfl) (by simp) ?_
  refine AllReadyH.cons rfl (fun KK hK => ?_) AllReadyH.nil
  go_simp
  refine (TG.out w1.drew (HX.out.below B2.out) (HC.out.below B2.out)).mono ?_
  rintro e w3 ⟨rfl, hb3⟩
  have B3 : Hid (Below w.heap.size w w3) := B2.out.trans (hb3.mono B2.out.size)
  replace H : Code8 w3 (some ⟨b, n, none⟩) 16 (fun i => f (n + i)) := H.below hb3
  clear hb3 B2 TG HX
  refine hK.out _ _ H (fun _ => ?_)
  clear hK KK
  change wpAnyH _ _ _ _ _ _ _ { tmps := #[_, _, _, _, _, _, _, _, _, _, _, _, _, _, _, _, _, _, _, _, _, _, _, _, _, _, _, _, _, _, _, _, _, _, _, _, _, _, _, _, _, _, _], defers := _ } _
  by_cases hq : TT = TB
  · have hb : OKB = true := OI.out.2 hq
    subst hb hq
    have H' := H
    refine wpAnyH_take (i := 11) (v := .bool false) rfl (by kernel_rfl) (by kernel_rfl) (by kernel_rfl) (fun _ _ _ h => h) (Or.inl ⟨by rfl, ?_⟩) H ?_
    · intro w' hSw; clear hSw; go_simp
    change wpAnyH _ _ _ _ _ _ _ { tmps := #[_, _, _, _, _, _, _, _, _, _, _, _, _, _, _, _, _, _, _, _, _, _, _, _, _, _, _, _, _, _, _, _, _, _, _, _, _, _, _, _, _, _, _], defers := _ } _
    clear H H' OI
    refine wpAnyH_done (by kernel_rfl) ?_ _
    refine NoPanic.normal ?_
    go_wp2_with fail
    refine (CX.out w3 (HC.out.below B3.out)).mono ?_
    rintro e w4 ⟨⟨g, cg, ⟨hg, hcg⟩, rfl, ho⟩, hb4⟩
    have B4 : Hid (Below w.heap.size w w4) := B3.out.trans (hb4.mono B3.out.size)
    have O4 : Hid (Own8 w4 g n F) := ho.own
    have hgw : w.heap.size ≤ g := Nat.le_trans B3.out.size hg
    clear ho hb4 hg B3 HC CX
    go_wp2
    go_ret2
    exact ⟨RetOpenS.yes ⟨g, cg, ⟨hgw, hcg⟩, rfl, O4.out⟩, B4.out⟩
  · have hb : OKB = false := by
      cases OKB with
      | false => rfl
      | true => exact absurd (OI.out.1 rfl) hq
    subst hb
    have hne : ¬ TT.toList = TB.toList := fun g => hq (by rw [ByteArray.toList_eq, ByteArray.toList_eq] at g; exact ba_ext g)
    refine wpAnyH_take (i := 11) (v := .bool true) rfl (by kernel_rfl) (by kernel_rfl) (by kernel_rfl) (fun _ _ _ h => h) (Or.inl ⟨by rfl, ?_⟩) H ?_
    · intro w' hSw; clear hSw; go_simp
    change wpAnyH _ _ _ _ _ _ _ { tmps := #[_, _, _, _, _, _, _, _, _, _, _, _, _, _, _, _, _, _, _, _, _, _, _, _, _, _, _, _, _, _, _, _, _, _, _, _, _, _, _, _, _, _, _], defers := _ } _
    clear H OI
    refine wpAnyH_done (by kernel_rfl) ?_ _
    refine NoPanic.normal ?_
    have B4 : Hid (Below w.heap.size w (w3.alloc (.cells #[] 5))) := B3.out.alloc B3.out.size _
    go_wp2
    go_ret2
    exact ⟨RetOpenS.no ⟨_, _, rfl⟩, B4.out⟩
end Go.Proofs.YtbecnaabmlkjjabGreatDoor
