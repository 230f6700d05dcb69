/-
  Texts of the proof, joined: RgTag, RowM, InAny, Nonce, SlotOk.
-/
import Derived.Test.YtboekhegbachpaaGreatDoorRows
import Derived.Below
import Derived.Test.YtboekhegbachpaaGreatDoorS10
import Derived.Test.YtboekhegbachpaaGreatDoorS12
import Derived.ArgAppend
import Derived.Lib.AppendStr
import Derived.Laws.IdiomStrings
import Derived.Laws.AppendOwnNone
import Derived.WalkKit
import Derived.ProofKit
import Derived.WalkSmall
import Derived.Test.YtboekhegbachpaaGreatDoorS11
import Derived.Deep.Cut
import Derived.Deep.CutRange
import Derived.Deep.DeepCutAuto
import Derived.BigRegion
import Derived.Test.YtboekhegbachpaaGreatDoorS04
import Derived.Laws.ResultCell
import Derived.ChangeOld
namespace Go.Proofs.YtboekhegbachpaaGreatDoor
open Go.RowKit
set_option linter.unusedVariables false
theorem hid {p : Prop} (h : p) : Hid p := h
theorem tg0 {p : Prop} (q0 : p) (_ : True) : p := q0
theorem tg1 {p : Prop} (q1 : p) (_ : True) : p := q1
theorem tg2 {p : Prop} (q2 : p) (_ : True) : p := q2
theorem tg3 {p : Prop} (q3 : p) (_ : True) : p := q3
theorem tg4 {p : Prop} (q4 : p) (_ : True) : p := q4
theorem tg5 {p : Prop} (q5 : p) (_ : True) : p := q5
theorem tg6 {p : Prop} (q6 : p) (_ : True) : p := q6
theorem tg7 {p : Prop} (q7 : p) (_ : True) : p := q7
theorem tg8 {p : Prop} (q8 : p) (_ : True) : p := q8
theorem tg9 {p : Prop} (q9 : p) (_ : True) : p := q9
theorem tg10 {p : Prop} (q10 : p) (_ : True) : p := q10
theorem tg11 {p : Prop} (q11 : p) (_ : True) : p := q11
theorem tg12 {p : Prop} (q12 : p) (_ : True) : p := q12
theorem tg13 {p : Prop} (q13 : p) (_ : True) : p := q13
theorem tg14 {p : Prop} (q14 : p) (_ : True) : p := q14
theorem tg15 {p : Prop} (q15 : p) (_ : True) : p := q15
theorem tg40 {p : Prop} (q40 : p) (_ : True) : p := q40
end Go.Proofs.YtboekhegbachpaaGreatDoor
namespace Go.Proofs.YtboekhegbachpaaGreatDoor
open Go.ChangeShapes Go.WideShapes Go.ChangeAt Go.RowKit
def RowM (w : World) (g n cap : Nat) (F : Nat → Nat) : Prop := n ≤ cap ∧ (∀ i, i < n → w.cell? ⟨g, i, none⟩ = some (.int .u8 ((F i : Nat) : Int))) ∧ (∀ i, i < cap → (w.cell? ⟨g, i, none⟩).isSome = true ∧ w.frozen? ⟨g, i, none⟩ = false) ∧ g < w.heap.size
theorem RowM.code {w : World} {g n cap : Nat} {F : Nat → Nat} (h : RowM w g n cap F) : Code8 w (some ⟨g, 0, none⟩) n F := code8_of (fun i hi => by rw [Nat.zero_add]; exact h.2.1 i hi)
theorem RowM.below {w w' : World} {g n cap : Nat} {F : Nat → Nat} (h : RowM w g n cap F) (hb : Below w.heap.size w w') : RowM w' g n cap F :=
 ⟨h.1, fun i hi => by rw [hb.cell (p := ⟨g, i, none⟩) h.2.2.2]; exact h.2.1 i hi, fun i hi => ⟨by rw [hb.cell (p := ⟨g, i, none⟩) h.2.2.2]; exact (h.2.2.1 i hi).1, by rw [hb.frozen (p := ⟨g, i, none⟩) h.2.2.2]; exact (h.2.2.1 i hi).2⟩, Nat.lt_of_lt_of_le h.2.2.2 hb.size⟩
theorem RowM.congr {w : World} {g n cap : Nat} {F G : Nat → Nat} (h : RowM w g n cap F) (e : ∀ i, i < n → F i = G i) : RowM w g n cap G := ⟨h.1, fun i hi => by rw [← e i hi]; exact h.2.1 i hi, h.2.2⟩
theorem bytesOfR (s : ByteArray) (w : World) : ∃ wz gc, (convert 9 84 (.string s)).run Tryz.prog w = .ok (.slice (some ⟨w.heap.size, 0, none⟩) s.size gc) wz ∧ RowM wz w.heap.size s.size gc (strB s) ∧ Below w.heap.size w wz := by
 obtain ⟨gc, hgc⟩ : ∃ gc, gc = grownCap w s.size 0 5 := ⟨_, rfl⟩
 have hge : s.size ≤ gc := by rw [hgc]; exact grownCap_ge _ _ _ _
 have hsz : (bytesRow s gc).size = gc := by
  unfold bytesRow
  rw [Array.size_append, Array.size_map, Array.size_replicate]
  show s.size + (gc - s.size) = gc
  omega
 have hrun := run_bytes_of_string w 9 84 5 s Tryz.underlying9 Tryz.underlying84 Tryz.underlying5
 rw [← hgc, hsz] at hrun
 refine ⟨_, gc, hrun, ⟨hge, fun r hr => ?_, fun r hr => ⟨?_, ?_⟩, ?_⟩, (Below.refl _ _).drew.alloc (Nat.le_refl _) _⟩
 ·have e := World.cell?_alloc_mark w.drew (bytesRow s gc) 5 (gc, gc + 1) r
  refine e.trans ?_
  rw [bytesRow_at s gc r hr]
  simp [strB, hr, ByteArray.getElem_eq_getElem_data]
 ·have e := World.cell?_alloc_mark w.drew (bytesRow s gc) 5 (gc, gc + 1) r
  have e2 : (w.drew.alloc (.cells (bytesRow s gc) 5 (gc, gc + 1))).cell? ⟨w.heap.size, r, none⟩ = (bytesRow s gc)[r]? := e
  rw [e2, Array.getElem?_eq_getElem (by omega)]
  rfl
 ·show (w.drew.alloc (.cells (bytesRow s gc) 5 (gc, gc + 1))).frozen? ⟨w.drew.heap.size, r, none⟩ = false
  rw [World.frozen?_alloc_mark]
  simp
  intro h
  omega
 ·show w.heap.size < (w.drew.alloc _).heap.size
  simp
theorem appendM (w : World) (B g n cap : Nat) (F : Nat → Nat) (sb so m c : Nat) (f : Nat → Nat) (hB : B ≤ g) (hBw : B ≤ w.heap.size) (hnm : n + m ≤ 2000000) (h : RowM w g n cap F) (hs : Code8 w (some ⟨sb, so, none⟩) m f) (ty : TypeId) :
  ∃ g' cap' w', (Builtin.append_ #[84, 84] ty #[.slice (some ⟨g, 0, none⟩) n cap, .slice (some ⟨sb, so, none⟩) m c]).run Tryz.prog w = .ok (.slice (some ⟨g', 0, none⟩) (n + m) cap') w' ∧ RowM w' g' (n + m) cap' (Sha.cat n F f) ∧ Below B w w' ∧ B ≤ g' := by
 obtain ⟨i0, h1, h2, h3, h4⟩ := info_parts Tryz.info8
 by_cases hroom : n + m ≤ cap
 ·have hth : w.there g 0 cap := fun j hj => by rw [Nat.zero_add]; exact h.2.2.1 j hj
  have hth2 := World.there_setCells hth g n (bv m f)
  have hin : (w.setCells g n (bv m f)).rangeAt g n (bv m f) := World.rangeAt_setCells_same w g n (bv m f) (fun j hj => by rw [bv_length] at hj; exact h.2.2.1 (n + j) (by omega))
  refine ⟨g, cap, w.setCells g n (bv m f), ?_, ⟨hroom, fun i hi => ?_, fun i hi => by have := hth2 i hi; rwa [Nat.zero_add] at this, Nat.lt_of_lt_of_le h.2.2.2 (below_setCells hB (bv m f) n w (Below.refl B w)).size⟩, below_setCells hB _ _ _ (Below.refl _ _), hB⟩
  ·have := run_append_room_cells (P := Tryz.prog) w 84 ty 5 i0 Tryz.underlying84 h1 g 0 n cap ⟨sb, so, none⟩ m c (bv m f) (by rw [bv_length, h3, Nat.mul_one]) (bv_news hs) (bv_one _ _) hroom (fun j hj => by rw [bv_length] at hj; rw [h3, Nat.zero_add, Nat.mul_one]; exact (h.2.2.1 (n + j) (by omega)).1) (fun j hj => by rw [bv_length] at hj; rw [h3, Nat.zero_add, Nat.mul_one]; exact (h.2.2.1 (n + j) (by omega)).2)
   rw [h3, Nat.zero_add, Nat.mul_one] at this
   exact this
  ·unfold Sha.cat
   by_cases hin2 : i < n
   ·rw [if_pos hin2, World.cell?_setCells_out g (bv m f) n w ⟨g, i, none⟩ (fun _ _ => .inl hin2)]
    exact h.2.1 i hin2
   ·rw [if_neg hin2]
    have := hin (i - n) _ (bv_at (f := f) (show i - n < m by omega))
    rwa [show n + (i - n) = i from by omega] at this
 ·obtain ⟨v', w', hr, ho, hg⟩ := run_append_arg_grows (P := Tryz.prog) w 84 ty 5 i0 (.int .u8 0) 1 1 Tryz.underlying84 h1 h2 h3 h4 rfl (by decide) ⟨g, 0, none⟩ n cap (bv n F) (by rw [bv_length, Nat.mul_one]) (bv_news h.code) ⟨sb, so, none⟩ m c (bv m f) (by rw [bv_length, Nat.mul_one]) (bv_news hs) (by omega) (by unfold maxLen; omega) (by omega)
  rw [bv_append] at ho
  have hne : v' ≠ .slice none 0 0 := fun e => by
   subst e
   rcases ho.2 with ⟨_, h0⟩ | ⟨g', cap', cur, h0, _⟩
   ·have := h.1; omega
   ·cases h0
  obtain ⟨hl, ⟨e, _⟩ | ⟨g', cap', cur, rfl, hb, hh, hn', hm', hs', ht'⟩⟩ := ho
  ·exact absurd e hne
  ·have hB2 : Below B w w' := (Below.refl B w).grown hg hBw (fun k hk => by cases hk)
   refine ⟨g', cap', w', hr, ⟨hn', fun i hi => ?_, fun i hi => ⟨?_, ?_⟩, ?_⟩, hB2, by omega⟩
   ·have h1 : (cur.toList.take ((n + m) * 1))[i]? = some (.int .u8 ((Sha.cat n F f i : Nat) : Int)) := by rw [ht']; exact bv_at hi
    rw [List.getElem?_take, if_pos (by omega), Array.getElem?_toList] at h1
    simp [World.cell?, hh, h1]
   ·simp [World.cell?, hh]; omega
   ·simp [World.frozen?, hh]
   ·rcases Nat.lt_or_ge g' w'.heap.size with k | k
    ·exact k
    ·rw [Array.getElem?_eq_none k] at hh; cases hh
def RetM (B : Nat) (w' : World) (e : Ending) (n : Nat) (f : Nat → Nat) : Prop := ∃ g c, e = .returned (.slice (some ⟨g, 0, none⟩) n c) ∧ B ≤ g ∧ RowM w' g n c f
set_option maxRecDepth 100000 in
set_option maxHeartbeats 1000000 in
theorem appendNumberM_any (B g k c x sz : Nat) (f : Nat → Nat) (hsz : sz ≤ 8) (hk : k ≤ 900000) (w : World) (hBg : B ≤ g) (hB : B ≤ w.heap.size) (h : RowM w g k c f) :
  Calls Tryz.prog 71 #[.slice (some ⟨g, 0, none⟩) k c, .int .i64 (x : Int), .int .i64 (sz : Int)] w fun e w' => RetM B w' e (k + sz) (numF k sz x f) ∧ Below B w w' := by
 have HO0 : Hid (RowM w g k c f) := h
 have HBg : Hid (B ≤ g) := hBg
 clear h hBg
 go_enter Tryz.func71, Tryz.ntmps71
 go_wp2
 go_loopw [0, 7] (fun s i wr => ∃ r g c : Nat, r ≤ sz ∧ i = .int .i64 ((sz : Int) - 1 - (r : Int)) ∧ s = .slice (some ⟨g, 0, none⟩) (k + r) c ∧ B ≤ g ∧ RowM wr g (k + r) c (numF k sz x f) ∧ Below B w wr) (fun _ i _ => (intOf i + 1).toNat)
 case atStart =>
  refine ⟨0, g, c, by omega, numEq8 (by omega), rfl, HBg.out, ?_, Below.refl _ _⟩
  exact HO0.out.congr (fun i hi => by unfold numF; rw [if_pos (by omega)])
 case round =>
  clear HO0 HBg
  obtain ⟨r, g, c, hr, rfl, rfl, hBg, hown, hb⟩ := hrel
  have HO : Hid (RowM wr g (k + r) c (numF k sz x f)) := hown
  have HB : Hid (Below B w wr) := hb
  have HBg : Hid (B ≤ g) := hBg
  clear hown hb hBg
  by_cases hlt : r < sz
  ·have x0 : (0 : Int) ≤ (sz : Int) - 1 - (r : Int) := by omega
   obtain ⟨s, hs⟩ : ∃ s, s = 8 * (sz - 1 - r) := ⟨_, rfl⟩
   have e8 : (8 : Int) * ((sz : Int) - 1 - (r : Int)) = (s : Int) := by omega
   have s0 : (0 : Int) ≤ (s : Int) := by omega
   have s1 : (s : Int) ≤ 64 := by omega
   have eX : (x : Int) / 2 ^ s = ((x / 2 ^ s : Nat) : Int) := by simp
   have HX : Hid (numF k sz x f (k + r) = x / 2 ^ s % 256) := by show numF _ _ _ _ _ = _; unfold numF; rw [if_neg (by omega), show k + r - k = r from by omega, hs]
   generalize x / 2 ^ s = y at *
   have eY : (y : Int) % 256 = ((y % 256 : Nat) : Int) := by omega
   generalize y % 256 = Y at *
   have hsz2 : B ≤ wr.heap.size := Nat.le_trans hB HB.out.size
   have hA : Below wr.heap.size wr (wr.alloc (.cells #[.int .u8 (Y : Nat)] 5)) := (Below.refl _ _).alloc (Nat.le_refl _) _
   obtain ⟨g2, c2, w2, hap, hr2, hb2, hB2⟩ := appendM (wr.alloc (.cells #[.int .u8 (Y : Nat)] 5)) B g (k + r) c (numF k sz x f) wr.heap.size 0 1 1 (fun _ => Y) HBg.out (Nat.le_trans hsz2 hA.size) (by omega) (HO.out.below hA) (code8_of (fun i hi => by
     obtain rfl : i = 0 := by omega
     simp)) 84
   have HAP : Hid _ := hap
   have HR2 : Hid (RowM w2 g2 (k + r + 1) c2 (numF k sz x f)) := hr2.congr (fun j hj => by
    unfold Sha.cat
    by_cases e : j < k + r
    ·rw [if_pos e]
    ·rw [if_neg e, show j = k + r from by omega]; exact HX.out.symm)
   have HB2 : Hid (Below B w w2) := HB.out.trans ((hA.mono hsz2).trans hb2)
   have HG2 : Hid (B ≤ g2) := hB2
   have HK : Hid ((sz : Int) - 1 - (r : Int) - 1 = (sz : Int) - 1 - ((r + 1 : Nat) : Int)) := by show _ = _; omega
   clear hs hA hap hr2 hb2 hB2 HO HB HBg
   go_wp2_with (at_builtin; refine Lib.wpList_append_run _ rfl (.tmp 14) (.tmp 20) _ _ rfl _ _ rfl rfl _ _ HAP.out ?_)
   go_roundw
   case rel => exact ⟨r + 1, g2, c2, by omega, numEq8 HK.out, rfl, HG2.out, HR2.out, HB2.out⟩
   case measure => simp [intOf]; omega
  ·have x0 : ¬ (0 : Int) ≤ (sz : Int) - 1 - (r : Int) := by omega
   obtain rfl : r = sz := by omega
   go_wp2
   go_ret
   exact ⟨⟨g, c, rfl, HBg.out, HO.out⟩, HB.out⟩
end Go.Proofs.YtboekhegbachpaaGreatDoor
namespace Go.Proofs.YtboekhegbachpaaGreatDoor
open Go.ChangeShapes Go.WideShapes Go.ChangeAt Go.RowKit
theorem in_any (x a b : Int) (r : Bool) (hr : r = decide (a ≤ x ∧ x ≤ b)) (w : World) :
  Calls Tryz.prog 50 #[.int .i64 x, .int .i64 a, .int .i64 b] w fun e w' => e = .returned (.bool r) ∧ w = w' := by
 by_cases h1 : a ≤ x
 ·by_cases h2 : x ≤ b
  ·obtain rfl : r = true := by rw [hr]; simp; omega
   clear hr
   go_enter Tryz.func50, Tryz.ntmps50
   go_wp2
   go_ret
   exact ⟨rfl, rfl⟩
  ·obtain rfl : r = false := by rw [hr]; simp; omega
   clear hr
   go_enter Tryz.func50, Tryz.ntmps50
   go_wp2
   go_ret
   exact ⟨rfl, rfl⟩
 ·obtain rfl : r = false := by rw [hr]; simp; omega
  clear hr
  go_enter Tryz.func50, Tryz.ntmps50
  go_wp2
  go_ret
  exact ⟨rfl, rfl⟩
end Go.Proofs.YtboekhegbachpaaGreatDoor
namespace Go.Proofs.YtboekhegbachpaaGreatDoor
open Go.ChangeShapes Go.WideShapes Go.ChangeAt Go.RowKit
def fourF (k j : Nat) : Nat := k / 256 ^ (3 - j) % 256
def nonceF (p v : Nat) : Nat → Nat := numF 8 4 v (numF 4 4 p (fun _ => 0))
theorem four_num (k x : Nat) (f : Nat → Nat) (i : Nat) : numF k 4 x f (k + i) = fourF x i := by
 unfold numF fourF
 rw [if_neg (by omega), show k + i - k = i from by omega, show (4 : Nat) - 1 - i = 3 - i from by omega, Nat.pow_mul]
theorem nonce_text (p v : Nat) : kstr (fourF 0) 0 4 ++ kstr (fourF p) 0 4 ++ kstr (fourF v) 0 4 = kstr (nonceF p v) 0 12 := by
 have e0 : kstr (fourF 0) 0 4 = kstr (nonceF p v) 0 4 := kstr_congr (fun i hi => by
  unfold nonceF
  rw [Nat.zero_add]
  show fourF 0 i = if i < 8 then (if i < 4 then 0 else _) else _
  rw [if_pos (by omega), if_pos hi]
  unfold fourF
  rw [Nat.zero_div])
 have e1 : kstr (fourF p) 0 4 = kstr (nonceF p v) 4 4 := kstr_congr (fun i hi => by
  rw [Nat.zero_add]
  show fourF p i = if 4 + i < 8 then numF 4 4 p (fun _ => 0) (4 + i) else _
  rw [if_pos (by omega), four_num])
 have e2 : kstr (fourF v) 0 4 = kstr (nonceF p v) 8 4 := kstr_congr (fun i hi => by
  rw [Nat.zero_add]
  exact (four_num 8 v _ i).symm)
 rw [e0, e1, e2, kstr_append, kstr_append]
theorem l02FourB_any (k : Nat) (hk : k < 4294967296) (w : World) :
  Calls Tryz.prog 64 #[.int .i64 (k : Int)] w fun e w' => e = .returned (.slice (some ⟨w.heap.size, 0, none⟩) 4 4) ∧ Own8 w' w.heap.size 4 (fourF k) ∧ Below w.heap.size w w' := by
 go_enter Tryz.func64, Tryz.ntmps64
 go_wp2
 go_ret
 refine ⟨rfl, Own8.ofRow (World.rowIs_alloc w #[.int .u8 ((k : Int) / 16777216), .int .u8 ((k : Int) / 65536 % 256), .int .u8 ((k : Int) / 256 % 256), .int .u8 ((k : Int) % 256)] 5 _ (fun i hi => ?_)), (Below.refl _ _).alloc (Nat.le_refl _) _⟩
 have hi' : i < 4 := by simpa using hi
 rcases (show i = 0 ∨ i = 1 ∨ i = 2 ∨ i = 3 by omega) with rfl | rfl | rfl | rfl
 ·exact congrArg some (numEq8 (by show (k : Int) / 16777216 = ((k / 16777216 % 256 : Nat) : Int); omega))
 ·exact congrArg some (numEq8 (by show (k : Int) / 65536 % 256 = ((k / 65536 % 256 : Nat) : Int); omega))
 ·exact congrArg some (numEq8 (by show (k : Int) / 256 % 256 = ((k / 256 % 256 : Nat) : Int); omega))
 ·exact congrArg some (numEq8 (by show (k : Int) % 256 = ((k / 1 % 256 : Nat) : Int); omega))
set_option maxRecDepth 100000 in
set_option maxHeartbeats 1000000 in
theorem l04Nonce_any (p v : Nat) (hp : p < 4294967296) (hv : v < 4294967296) (w : World) :
  Calls Tryz.prog 62 #[.int .i64 (p : Int), .int .i64 (v : Int)] w fun e w' => e = .returned (.string (kstr (nonceF p v) 0 12)) ∧ Below w.heap.size w w' := by
 have FO : Hid (∀ (k : Nat) (w : World), k < 4294967296 → Calls Tryz.prog 64 #[.int .i64 (k : Int)] w fun e w' => e = .returned (.slice (some ⟨w.heap.size, 0, none⟩) 4 4) ∧ Own8 w' w.heap.size 4 (fourF k) ∧ Below w.heap.size w w') := fun k w h => l02FourB_any k h w
 have F0 : Hid (∀ (w : World), Calls Tryz.prog 64 #[.int .i64 0] w fun e w' => e = .returned (.slice (some ⟨w.heap.size, 0, none⟩) 4 4) ∧ Own8 w' w.heap.size 4 (fourF 0) ∧ Below w.heap.size w w') := fun w => FO.out 0 w (by omega)
 rw [← nonce_text]
 have z0 : (kstr (fourF 0) 0 4).size = 4 := kstr_size _ _ _
 have z1 : (kstr (fourF p) 0 4).size = 4 := kstr_size _ _ _
 have z2 : (kstr (fourF v) 0 4).size = 4 := kstr_size _ _ _
 generalize hg0 : kstr (fourF 0) 0 4 = s0 at *
 generalize hg1 : kstr (fourF p) 0 4 = s1 at *
 generalize hg2 : kstr (fourF v) 0 4 = s2 at *
 go_enter Tryz.func62, Tryz.ntmps62
 go_upto_region 1 with fail
 refine wp_region_noPanic ?_
 refine wp_region_held_drew (S := fun _ => True) (by kernel_rfl) trivial (fun _ => ?_)
 refine wpAnyH_take (i := 2) (v := .int .i64 (p : Int)) rfl (by kernel_rfl) (by kernel_rfl) (by kernel_rfl) (fun _ _ _ h => h) (Or.inl ⟨by rfl, ?_⟩) trivial ?_
 ·intro w hSw; go_simp
 change wpAnyH _ _ _ _ _ _ _ { tmps := #[_,_,_,_,_,_,_,_,_,_,_,_,_,_,_], defers := [] } _
 refine wpAnyH_take (i := 6) (v := .int .i64 (v : Int)) rfl (by kernel_rfl) (by kernel_rfl) (by kernel_rfl) (fun _ _ _ h => h) (Or.inl ⟨by rfl, ?_⟩) trivial ?_
 ·intro w hSw; go_simp
 change wpAnyH _ _ _ _ _ _ _ { tmps := #[_,_,_,_,_,_,_,_,_,_,_,_,_,_,_], defers := [] } _
 refine wpAnyH_ready (rs := [0]) (by kernel_rfl) (by simp) ?_
 refine AllReadyH.cons rfl (fun KK hK => ?_) AllReadyH.nil
 go_simp
 refine (F0.out _).mono ?_
 rintro e w1 ⟨rfl, ho1, hb1⟩
 refine hK.out _ _ trivial (fun _ => ?_)
 clear hK KK
 change wpAnyH _ _ _ _ _ _ _ { tmps := #[_,_,_,_,_,_,_,_,_,_,_,_,_,_,_], defers := [] } _
 have HB1 : Hid (Below w.heap.size w w1) := (Below.refl _ w).drew.trans hb1
 change Own8 w1 w.heap.size 4 (fourF 0) at ho1
 change wpAnyH _ _ _ _ _ _ _ { tmps := #[_,_,_,_,_, .slice (some ⟨w.heap.size, 0, none⟩) 4 4, _,_,_,_,_,_,_,_,_], defers := [] } _
 clear hb1
 refine wpAnyH_strong (S' := fun w' => Own8 w' w.heap.size 4 (fourF 0)) (fun _ _ => trivial) _ _ _ _ ?_
 refine wpAnyH_take (i := 1) (v := .string s0) rfl (by kernel_rfl) (by kernel_rfl) (by kernel_rfl) (fun _ _ _ h => h) (Or.inl ⟨by rfl, ?_⟩) ho1 ?_
 ·intro w' hSw
  have := kstr_of_code (c := 4) hSw.code
  rw [hg0] at this
  go_simp
 change wpAnyH _ _ _ _ _ _ _ { tmps := #[_,_,_,_,_,_,_,_,_,_,_,_,_,_,_], defers := [] } _
 refine wpAnyH_ready (rs := [3]) (by kernel_rfl) (by simp) ?_
 refine AllReadyH.cons rfl (fun KK hK => ?_) AllReadyH.nil
 go_simp
 refine (FO.out p _ hp).mono ?_
 rintro e w2 ⟨rfl, ho2, hb2⟩
 have hk2 : Own8 w2 w.heap.size 4 (fourF 0) := ho1.below hb2
 refine hK.out _ _ hk2 (fun _ => ?_)
 clear hK KK
 change wpAnyH _ _ _ _ _ _ _ { tmps := #[_,_,_,_,_,_,_,_,_,_,_,_,_,_,_], defers := [] } _
 have HB2 : Hid (Below w.heap.size w w2) := HB1.out.trans (hb2.mono HB1.out.size)
 clear hb2 HB1 ho1
 generalize w1.heap.size = b1 at *
 refine wpAnyH_strong (S' := fun w' => Own8 w' b1 4 (fourF p) ∧ Own8 w' w.heap.size 4 (fourF 0)) (fun _ h => h.2) _ _ _ _ ?_
 refine wpAnyH_take (i := 4) (v := .string s1) rfl (by kernel_rfl) (by kernel_rfl) (by kernel_rfl) (fun _ _ _ h => h) (Or.inl ⟨by rfl, ?_⟩) ⟨ho2, hk2⟩ ?_
 ·intro w' hSw
  have := kstr_of_code (c := 4) hSw.1.code
  rw [hg1] at this
  go_simp
 change wpAnyH _ _ _ _ _ _ _ { tmps := #[_,_,_,_,_,_,_,_,_,_,_,_,_,_,_], defers := [] } _
 refine wpAnyH_take (i := 5) (v := .string (s0 ++ s1)) rfl (by kernel_rfl) (by kernel_rfl) (by kernel_rfl) (fun _ _ _ h => h) (Or.inl ⟨by rfl, ?_⟩) ⟨ho2, hk2⟩ ?_
 ·intro w' hSw; go_simp
 change wpAnyH _ _ _ _ _ _ _ { tmps := #[_,_,_,_,_,_,_,_,_,_,_,_,_,_,_], defers := [] } _
 refine wpAnyH_ready (rs := [7]) (by kernel_rfl) (by simp) ?_
 refine AllReadyH.cons rfl (fun KK hK => ?_) AllReadyH.nil
 go_simp
 refine (FO.out v _ hv).mono ?_
 rintro e w3 ⟨rfl, ho3, hb3⟩
 refine hK.out _ _ ⟨ho2.below hb3, hk2.below hb3⟩ (fun _ => ?_)
 clear hK KK
 change wpAnyH _ _ _ _ _ _ _ { tmps := #[_,_,_,_,_,_,_,_,_,_,_,_,_,_,_], defers := [] } _
 have HB3 : Hid (Below w.heap.size w w3) := HB2.out.trans (hb3.mono HB2.out.size)
 have hS3 : Own8 w3 b1 4 (fourF p) ∧ Own8 w3 w.heap.size 4 (fourF 0) := ⟨ho2.below hb3, hk2.below hb3⟩
 clear hb3 HB2 ho2 hk2
 generalize w2.heap.size = b2 at *
 refine wpAnyH_strong (S' := fun w' => Own8 w' b2 4 (fourF v) ∧ Own8 w' b1 4 (fourF p) ∧ Own8 w' w.heap.size 4 (fourF 0)) (fun _ h => h.2) _ _ _ _ ?_
 refine wpAnyH_take (i := 8) (v := .string s2) rfl (by kernel_rfl) (by kernel_rfl) (by kernel_rfl) (fun _ _ _ h => h) (Or.inl ⟨by rfl, ?_⟩) ⟨ho3, hS3⟩ ?_
 ·intro w' hSw
  have := kstr_of_code (c := 4) hSw.1.code
  rw [hg2] at this
  go_simp
 change wpAnyH _ _ _ _ _ _ _ { tmps := #[_,_,_,_,_,_,_,_,_,_,_,_,_,_,_], defers := [] } _
 refine wpAnyH_take (i := 9) (v := .string (s0 ++ s1 ++ s2)) rfl (by kernel_rfl) (by kernel_rfl) (by kernel_rfl) (fun _ _ _ h => h) (Or.inl ⟨by rfl, ?_⟩) ⟨ho3, hS3⟩ ?_
 ·intro w' hSw; go_simp
 change wpAnyH _ _ _ _ _ _ _ { tmps := #[_,_,_,_,_,_,_,_,_,_,_,_,_,_,_], defers := [] } _
 refine wpAnyH_take (i := 10) (v := .string (s0 ++ s1 ++ s2)) rfl (by kernel_rfl) (by kernel_rfl) (by kernel_rfl) (fun _ _ _ h => h) (Or.inl ⟨by rfl, ?_⟩) ⟨ho3, hS3⟩ ?_
 ·intro w' hSw; go_simp
 change wpAnyH _ _ _ _ _ _ _ { tmps := #[_,_,_,_,_,_,_,_,_,_,_,_,_,_,_], defers := [] } _
 clear hS3 ho3
 refine wpAnyH_done (by kernel_rfl) ?_ _
 refine NoPanic.normal ?_
 go_wp2
 go_ret
 exact ⟨rfl, HB3.out⟩
theorem isWord_any (x : Int) (r : Bool) (hr : r = decide (0 ≤ x ∧ x ≤ 4294967295)) (w : World) :
  Calls Tryz.prog 75 #[.int .i64 x] w fun e w' => e = .returned (.bool r) ∧ w = w' := by
 by_cases h1 : 0 ≤ x
 ·by_cases h2 : x ≤ 4294967295
  ·obtain rfl : r = true := by rw [hr]; simp; omega
   clear hr
   go_enter Tryz.func75, Tryz.ntmps75
   go_wp2
   go_ret
   exact ⟨rfl, rfl⟩
  ·obtain rfl : r = false := by rw [hr]; simp; omega
   clear hr
   go_enter Tryz.func75, Tryz.ntmps75
   go_wp2
   go_ret
   exact ⟨rfl, rfl⟩
 ·obtain rfl : r = false := by rw [hr]; simp; omega
  clear hr
  go_enter Tryz.func75, Tryz.ntmps75
  go_wp2
  go_ret
  exact ⟨rfl, rfl⟩
theorem mkFour (w : World) : ∃ w', (Instr.makeSlice 84 (.int .i64 4) (.int .i64 12)).run Tryz.prog w = .ok (.slice (some ⟨w.heap.size, 0, none⟩) 4 12) w' ∧ RowM w' w.heap.size 4 12 (fun _ => 0) ∧ Below w.heap.size w w' := by
 obtain ⟨i0, h1, h2, h3, h4⟩ := info_parts Tryz.info8
 have hr := run_make (P := Tryz.prog) w 84 5 i0 (.int .u8 0) Tryz.underlying84 h1 h2 .i64 .i64 4 12 (by omega) (by omega) (by rw [h4]; omega) (by omega)
 rw [h3] at hr
 have hrow := World.rowIs_made w (.int .u8 0) 12 5
 exact ⟨_, hr, ⟨by omega, fun i hi => hrow.cell (by omega), fun i hi => ⟨by rw [show (w.alloc (.cells (madeCells (Value.cells (.int .u8 0)) ((12 : Int).toNat * 1)) 5)).cell? ⟨w.heap.size, i, none⟩ = some (.int .u8 0) from hrow.cell hi]; rfl, hrow.frozen i⟩, hrow.lt⟩, (Below.refl _ _).alloc (Nat.le_refl _) _⟩
set_option maxRecDepth 100000 in
theorem implNonce_yes (p v : Nat) (hp : p < 4294967296) (hv : v < 4294967296) (w : World) :
  Calls Tryz.prog 68 #[.int .i64 (p : Int), .int .i64 (v : Int)] w fun e w' => e = .returned (.tuple #[.string (kstr (nonceF p v) 0 12), .int .i64 0]) ∧ Below w.heap.size w w' := by
 have L1 : Hid (∀ w : World, Calls Tryz.prog 75 #[.int .i64 (p : Int)] w fun e w' => e = .returned (.bool true) ∧ w = w') := fun w => isWord_any p true (by simp; omega) w
 have L2 : Hid (∀ w : World, Calls Tryz.prog 75 #[.int .i64 (v : Int)] w fun e w' => e = .returned (.bool true) ∧ w = w') := fun w => isWord_any v true (by simp; omega) w
 have AN : Hid (∀ (g k c x : Nat) (f : Nat → Nat) (w1 : World), k ≤ 1000 → w.heap.size ≤ g → w.heap.size ≤ w1.heap.size → RowM w1 g k c f → Calls Tryz.prog 71 #[.slice (some ⟨g, 0, none⟩) k c, .int .i64 (x : Int), .int .i64 4] w1 fun e w' => RetM w.heap.size w' e (k + 4) (numF k 4 x f) ∧ Below w.heap.size w1 w') := fun g k c x f w1 hk h1 h2 h => appendNumberM_any w.heap.size g k c x 4 f (by omega) (by omega) w1 h1 h2 h
 obtain ⟨X, hX⟩ : ∃ X, X = kstr (nonceF p v) 0 12 := ⟨_, rfl⟩
 rw [← hX]
 have HX : Hid (X = kstr (nonceF p v) 0 12) := hX
 clear hX
 obtain ⟨w0, hmk, hr0, hb0⟩ := mkFour w
 have R0 : Hid (RowM w0 w.heap.size 4 12 (fun _ => 0)) := hr0
 have B0 : Hid (Below w.heap.size w w0) := hb0
 clear hp hv hr0 hb0
 go_enter Tryz.func68, Tryz.ntmps68
 go_wp2_with fail
 refine (L1.out _).mono ?_
 rintro e w1 ⟨rfl, rfl⟩
 go_wp2_with fail
 refine (L2.out _).mono ?_
 rintro e w1 ⟨rfl, rfl⟩
 go_wp2_with fail
 refine (AN.out w.heap.size 4 12 p _ w0 (by omega) (Nat.le_refl _) B0.out.size R0.out).mono ?_
 rintro e w1 ⟨⟨g1, c1, rfl, hg1, hr1⟩, hb1⟩
 have R1 : Hid (RowM w1 g1 (4 + 4) c1 (numF 4 4 p (fun _ => 0))) := hr1
 have B1 : Hid (Below w.heap.size w w1) := B0.out.trans hb1
 have G1 : Hid (w.heap.size ≤ g1) := hg1
 clear hr1 hb1 hg1 R0 B0 hmk
 go_wp2_with fail
 refine (AN.out g1 8 c1 v _ w1 (by omega) G1.out B1.out.size R1.out).mono ?_
 rintro e w2 ⟨⟨g2, c2, rfl, hg2, hr2⟩, hb2⟩
 have B2 : Hid (Below w.heap.size w w2) := B1.out.trans hb2
 have hcv := kstr_of_code (c := c2) hr2.code
 change (convert 84 9 (.slice (some ⟨g2, 0, none⟩) 12 c2)).run Tryz.prog w2 = .ok (.string (kstr (nonceF p v) 0 12)) w2 at hcv
 rw [← HX.out] at hcv
 clear hr2 hb2 hg2 R1 B1 G1 AN
 go_wp2
 go_ret2
 exact ⟨rfl, B2.out⟩
end Go.Proofs.YtboekhegbachpaaGreatDoor
namespace Go.Proofs.YtboekhegbachpaaGreatDoor
open Go.ChangeShapes Go.WideShapes Go.ChangeAt Go.RowKit
set_option linter.unusedVariables false
def SlotR (ep : Int) (s : ByteArray) : Prop := 1 ≤ ep ∧ ep ≤ 4294967295 ∧ s.size ≤ 170
theorem retCell1 {P : Program} {fn : Func} {p : Tmp} {ty : TypeId} {tmps : Array Value} {w : World} {b : Nat} {v : Value} {Post : Ending → World → Prop} (h : fn.results = #[.cell p ty]) (hp : tmps.getD p undef = .pointer (some ⟨b, 0, none⟩)) (hl : (loadVar ty ⟨b, 0, none⟩).run P w = .ok v w) (hq : Post (.returned v) w) : bodyPost P fn Post .ret { tmps := tmps, defers := [] } w :=
 bodyPost_ret (results_cell_one h tmps P w hp hl) rfl hq
theorem retCell2 {P : Program} {fn : Func} {p u : Tmp} {ty : TypeId} {tmps : Array Value} {w : World} {b : Nat} {v x : Value} {Post : Ending → World → Prop} (h : fn.results = #[.cell p ty, .tmp u]) (hp : tmps.getD p undef = .pointer (some ⟨b, 0, none⟩)) (hu : tmps.getD u undef = x) (hl : (loadVar ty ⟨b, 0, none⟩).run P w = .ok v w) (hq : Post (.returned (.tuple #[v, x])) w) : bodyPost P fn Post .ret { tmps := tmps, defers := [] } w := by
 refine bodyPost_ret (v := .tuple #[v, x]) ?_ rfl hq
 rw [results_cell_tmp h, hp, hu]
 simp [asAddr, hl, Result.andThen]
theorem slot0 (w : World) (ep : Int) (s : ByteArray) (t : TypeId) : (w.alloc (.cells #[.int .i64 ep, .string s] t)).cell? ⟨w.heap.size, 0, none⟩ = some (.int .i64 ep) := by simp
theorem slot1 (w : World) (ep : Int) (s : ByteArray) (t : TypeId) : (w.alloc (.cells #[.int .i64 ep, .string s] t)).cell? ⟨w.heap.size, 1, none⟩ = some (.string s) := by simp
set_option maxRecDepth 100000 in
theorem implSlotOK_any (ep : Int) (s : ByteArray) (r : Bool) (hr : r = true ↔ SlotR ep s) (w : World) :
  Calls Tryz.prog 36 #[.agg #[.int .i64 ep, .string s]] w fun e w' => e = .returned (.bool r) ∧ Below w.heap.size w w' := by
 have A1 : Hid (Below w.heap.size w (w.alloc (.cells #[.int .i64 ep, .string s] 64))) := (Below.refl _ _).alloc (Nat.le_refl _) _
 unfold SlotR at hr
 by_cases h1 : 1 ≤ ep
 ·by_cases h2 : ep ≤ 4294967295
  ·by_cases h3 : s.size ≤ 170
   ·obtain rfl : r = true := hr.2 (by omega)
    have h3' : (s.size : Int) ≤ 170 := by omega
    clear hr h3
    go_enter Tryz.func36, Tryz.ntmps36
    go_wp2
    go_ret
    exact ⟨rfl, A1.out⟩
   ·obtain rfl : r = false := Bool.eq_false_iff.2 (fun h => by have := hr.1 h; omega)
    have h3' : ¬ (s.size : Int) ≤ 170 := by omega
    clear hr h3
    go_enter Tryz.func36, Tryz.ntmps36
    go_wp2
    go_ret
    exact ⟨rfl, A1.out⟩
  ·obtain rfl : r = false := Bool.eq_false_iff.2 (fun h => by have := hr.1 h; omega)
   clear hr
   go_enter Tryz.func36, Tryz.ntmps36
   go_wp2
   go_ret
   exact ⟨rfl, A1.out⟩
 ·obtain rfl : r = false := Bool.eq_false_iff.2 (fun h => by have := hr.1 h; omega)
  clear hr
  go_enter Tryz.func36, Tryz.ntmps36
  go_wp2
  go_ret
  exact ⟨rfl, A1.out⟩
set_option maxRecDepth 100000 in
theorem specSlotOK_any (ep : Int) (s : ByteArray) (r : Bool) (hr : r = true ↔ SlotR ep s) (w : World) :
  Calls Tryz.prog 63 #[.agg #[.int .i64 ep, .string s]] w fun e w' => e = .returned (.bool r) ∧ Below w.heap.size w w' := by
 have A1 : Hid (Below w.heap.size w (w.alloc (.cells #[.int .i64 ep, .string s] 64))) := (Below.refl _ _).alloc (Nat.le_refl _) _
 unfold SlotR at hr
 obtain ⟨q, hq⟩ : ∃ q : Bool, q = decide (1 ≤ ep ∧ ep ≤ 4294967295) := ⟨_, rfl⟩
 have IN : Hid (∀ w : World, Calls Tryz.prog 50 #[.int .i64 ep, .int .i64 1, .int .i64 4294967295] w fun e w' => e = .returned (.bool q) ∧ w = w') := fun w => in_any ep 1 4294967295 q hq w
 cases q with
 | true =>
  have hq' := of_decide_eq_true hq.symm
  by_cases h3 : s.size ≤ 170
  ·obtain rfl : r = true := hr.2 (by omega)
   have h3' : (s.size : Int) ≤ 170 := by omega
   have h4 : decide ((s.size : Int) ≤ 170) = true := decide_eq_true h3'
   clear hr h3 hq hq'
   go_enter Tryz.func63, Tryz.ntmps63
   go_wp2_with fail
   refine (IN.out _).mono ?_
   rintro e v1 ⟨rfl, rfl⟩
   go_wp2
   go_ret
   exact ⟨rfl, A1.out⟩
  ·obtain rfl : r = false := Bool.eq_false_iff.2 (fun h => by have := hr.1 h; omega)
   have h3' : ¬ (s.size : Int) ≤ 170 := by omega
   have h4 : decide ((s.size : Int) ≤ 170) = false := decide_eq_false h3'
   clear hr h3 hq hq'
   go_enter Tryz.func63, Tryz.ntmps63
   go_wp2_with fail
   refine (IN.out _).mono ?_
   rintro e v1 ⟨rfl, rfl⟩
   go_wp2
   go_ret
   exact ⟨rfl, A1.out⟩
 | false =>
  have hq' := of_decide_eq_false hq.symm
  obtain rfl : r = false := Bool.eq_false_iff.2 (fun h => by have := hr.1 h; omega)
  clear hr hq hq'
  go_enter Tryz.func63, Tryz.ntmps63
  go_wp2_with fail
  refine (IN.out _).mono ?_
  rintro e v1 ⟨rfl, rfl⟩
  go_wp2
  go_ret
  exact ⟨rfl, A1.out⟩
end Go.Proofs.YtboekhegbachpaaGreatDoor
