/-
  Texts of the proof, joined: SlotS.
-/
import Derived.Test.YtboekhegbachpaaGreatDoorS18
import Derived.Test.YtboekhegbachpaaGreatDoorS30
import Derived.Test.YtboekhegbachpaaGreatDoorS32
import Derived.Test.YtboekhegbachpaaGreatDoorS36
import Derived.Test.YtboekhegbachpaaGreatDoorS37
import Derived.Test.YtboekhegbachpaaGreatDoorS11
import Derived.Test.YtboekhegbachpaaGreatDoorS01
import Derived.Lib.AppendZeros
import Derived.Deep.Cut
import Derived.Deep.CutRange
import Derived.Deep.DeepCutAuto
import Derived.Test.YtboekhegbachpaaGreatDoorTkH
namespace Go.Proofs.YtboekhegbachpaaGreatDoor
open Go.ChangeShapes Go.WideShapes Go.ChangeAt Go.RowKit
set_option linter.unusedVariables false
def LitX (w : World) (b : Nat) : Prop := w.heap[b]? = some (.cells #[.int .u8 115, .int .u8 108, .int .u8 111, .int .u8 116] 5)
theorem LitX.lt {w : World} {b : Nat} (h : LitX w b) : b < w.heap.size := by
 have := (Array.getElem?_eq_some_iff.1 h).1
 exact this
theorem LitX.below {w w' : World} {b : Nat} (h : LitX w b) (hb : Below w.heap.size w w') : LitX w' b := (hb.block b h.lt).trans h
theorem LitX.made (w : World) : LitX (w.alloc (.cells #[.int .u8 115, .int .u8 108, .int .u8 111, .int .u8 116] 5)) w.heap.size := by
 show (w.heap.push _)[w.heap.size]? = _
 simp
theorem conv_lit (w : World) (b : Nat) (h : LitX w b) : ∃ w', (convert 84 84 (.slice (some ⟨b, 0, none⟩) 4 4)).run Tryz.prog w = .ok (.slice (some ⟨b, 0, none⟩) 4 4) w' ∧ Code8 w' (some ⟨b, 0, none⟩) 4 slotX ∧ OnlyB b w w' ∧ (∀ i, w'.cell? i = w.cell? i) := by
 have h' : w.heap[b]? = some (.cells #[.int .u8 115, .int .u8 108, .int .u8 111, .int .u8 116] 5) := h
 have hsh : w.shape? b = some (5, 4) := by
  unfold World.shape?
  rw [h]
  rfl
 have hr : (convert 84 84 (.slice (some ⟨b, 0, none⟩) 4 4)).run Tryz.prog w = .ok (.slice (some ⟨b, 0, none⟩) 4 4) (w.freeze ⟨b, 4, none⟩ 1) := by
  simp [convert, run_underlying Tryz.underlying84, run_underlying Tryz.underlying5, markStringish, hsh]
 have hcell : ∀ i, (w.freeze ⟨b, 4, none⟩ 1).cell? i = w.cell? i := fun i => by
  unfold World.freeze
  rw [if_neg (by decide)]
  unfold World.cell?
  simp only [Array.getElem?_modify]
  by_cases e : b = i.block
  ·rw [if_pos e, ← e, h']
   rfl
  ·rw [if_neg e]
 refine ⟨_, hr, ?_, ?_, hcell⟩
 ·refine code8_of (fun i hi => ?_)
  rw [hcell, Nat.zero_add]
  unfold World.cell?
  rw [h']
  rcases (show i = 0 ∨ i = 1 ∨ i = 2 ∨ i = 3 by omega) with rfl | rfl | rfl | rfl <;> rfl
 ·unfold World.freeze
  rw [if_neg (by decide)]
  refine ⟨rfl, rfl, rfl, by simp, fun k hk hne => ?_⟩
  show (w.heap.modify b _)[k]? = w.heap[k]?
  rw [Array.getElem?_modify, if_neg (fun e => hne e.symm)]
theorem code8_cells {w w' : World} {a : Option Addr} {n : Nat} {f : Nat → Nat} (h : Code8 w a n f) (e : ∀ i, w'.cell? i = w.cell? i) : Code8 w' a n f := fun i hi => by
 obtain ⟨b, o, ha, hc⟩ := h i hi
 exact ⟨b, o, ha, by rw [e]; exact hc⟩
theorem rowM_of_own8 {w : World} {b n : Nat} {f : Nat → Nat} (h : Own8 w b n f) : RowM w b n n f := ⟨Nat.le_refl _, fun i hi => h.cell hi, fun i hi => ⟨by rw [h.cell hi]; rfl, h.frozen i⟩, h.lt⟩
theorem RowM.onlyB {w w' : World} {g b n cap : Nat} {F : Nat → Nat} (h : RowM w g n cap F) (ho : OnlyB b w w') (hne : g ≠ b) : RowM w' g n cap F := by
 have hbk := ho.block g h.2.2.2 hne
 have hc : ∀ i, w'.cell? ⟨g, i, none⟩ = w.cell? ⟨g, i, none⟩ := fun i => by simp [World.cell?, hbk]
 have hf : ∀ i, w'.frozen? ⟨g, i, none⟩ = w.frozen? ⟨g, i, none⟩ := fun i => by simp [World.frozen?, hbk]
 exact ⟨h.1, fun i hi => by rw [hc]; exact h.2.1 i hi, fun i hi => ⟨by rw [hc]; exact (h.2.2.1 i hi).1, by rw [hf]; exact (h.2.2.1 i hi).2⟩, Nat.lt_of_lt_of_le h.2.2.2 ho.size⟩
def CellAt (w : World) (b i : Nat) (v : Value) : Prop := w.cell? ⟨b, i, none⟩ = some v
theorem CellAt.below {w w' : World} {b i : Nat} {v : Value} (h : CellAt w b i v) (hb : Below w.heap.size w w') : CellAt w' b i v := (hb.cell (p := ⟨b, i, none⟩) (strBlock h)).trans h
structure Sl2 (b : Nat) (ep : Int) (d : ByteArray) (w : World) : Prop where
 c0 : w.cell? ⟨b, 0, none⟩ = some (.int .i64 ep)
 c1 : w.cell? ⟨b, 1, none⟩ = some (.string d)
 fr : ∀ i, w.frozen? ⟨b, i, none⟩ = false
 lt : b < w.heap.size
theorem Sl2.below {b : Nat} {ep : Int} {d : ByteArray} {w w' : World} (h : Sl2 b ep d w) (hb : Below w.heap.size w w') : Sl2 b ep d w' := ⟨(hb.cell (p := ⟨b, 0, none⟩) h.lt).trans h.c0, (hb.cell (p := ⟨b, 1, none⟩) h.lt).trans h.c1, fun i => (hb.frozen (p := ⟨b, i, none⟩) h.lt).trans (h.fr i), Nat.lt_of_lt_of_le h.lt hb.size⟩
theorem Sl2.made (w : World) (ep : Int) (d : ByteArray) (t : TypeId) : Sl2 w.heap.size ep d (w.alloc (.cells #[.int .i64 ep, .string d] t)) := ⟨by simp, by simp, fun i => by simp, by simp⟩
theorem Sl2.madeAt {w : World} {b : Nat} (hb : w.heap.size = b) (ep : Int) (d : ByteArray) (t : TypeId) : Sl2 b ep d (w.alloc (.cells #[.int .i64 ep, .string d] t)) := by subst hb; exact Sl2.made w ep d t
theorem Sl2.only {b c : Nat} {ep : Int} {d : ByteArray} {w w' : World} (h : Sl2 b ep d w) (ho : OnlyB c w w') (hne : b ≠ c) : Sl2 b ep d w' := by
 have hbk := ho.block b h.lt hne
 exact ⟨by rw [← h.c0]; simp [World.cell?, hbk], by rw [← h.c1]; simp [World.cell?, hbk], fun i => by rw [← h.fr i]; simp [World.frozen?, hbk], Nat.lt_of_lt_of_le h.lt ho.size⟩
theorem Sl2.put {b : Nat} {ep : Int} {d : ByteArray} {w : World} (h : Sl2 b ep d w) (x : ByteArray) : Sl2 b ep x (w.setCell ⟨b, 1, none⟩ (.string x)) := ⟨(World.cell?_setCell_other _ ⟨b, 1, none⟩ ⟨b, 0, none⟩ _ (fun q => by have := congrArg Addr.off q; simp at this)).trans h.c0, World.cell?_setCell_same _ _ _ (by rw [h.c1]), fun i => by rw [World.frozen?_setCell]; exact h.fr i, by simpa using h.lt⟩
theorem conv_zero {w : World} {a : Option Addr} {c : Nat} : (convert 84 9 (.slice a 0 c)).run Tryz.prog w = .ok (.string ⟨#[]⟩) w := by
 cases a with
 | none => simp [convert, run_underlying Tryz.underlying84, run_underlying Tryz.underlying5, run_underlying Tryz.underlying9, Conv.bytesToString, Result.andThen]; rfl
 | some x => simp [convert, run_underlying Tryz.underlying84, run_underlying Tryz.underlying5, run_underlying Tryz.underlying9, Conv.bytesToString, Result.andThen]; rfl
theorem RetOpenS.both {w w' : World} {e : Ending} {n : Nat} {F : Nat → Nat} {r : Bool} (h : RetOpenS w w' e n F r) : ∃ a l c, e = .returned (.tuple #[.slice a l c, .bool r]) ∧ (r = true → l = n ∧ ∃ g, a = some ⟨g, 0, none⟩ ∧ Code8 w' (some ⟨g, 0, none⟩) n F) ∧ (r = false → l = 0) := by
 cases r with
 | true =>
  obtain ⟨g, c, -, rfl, ho⟩ : RetB2 w w' e n F (.bool true) := by unfold RetOpenS at h; rw [if_pos rfl] at h; exact h
  exact ⟨_, _, _, rfl, fun _ => ⟨rfl, g, rfl, ho.code⟩, fun q => (by cases q)⟩
 | false =>
  obtain ⟨a, c, rfl⟩ : ∃ a c, e = .returned (.tuple #[.slice a 0 c, .bool false]) := by unfold RetOpenS at h; rw [if_neg (by decide)] at h; exact h
  exact ⟨_, _, _, rfl, fun q => (by cases q), fun _ => rfl⟩
theorem word_congr {f g : Nat → Nat} (h : ∀ i, i < 4 → f i = g i) : Sha.word f 0 = Sha.word g 0 := by
 unfold Sha.word
 rw [h (4 * 0) (by omega), h (4 * 0 + 1) (by omega), h (4 * 0 + 2) (by omega), h (4 * 0 + 3) (by omega)]
theorem strB_drop (t : ByteArray) (o n : Nat) (h : o + n = t.size) : strB (t.extract o t.size) = fun i => strB t (o + i) := by
 have e := kstr_extract t o n (by omega)
 rw [h] at e
 funext i
 rw [e]
 by_cases hi : i < n
 ·exact strB_kstr _ o n i (strB_lt _ _) hi
 ·unfold strB
  rw [dif_neg (by rw [kstr_size]; exact hi), dif_neg (by omega)]
def numB (f : Nat → Nat) : Nat → Nat
 | 0 => 0
 | q + 1 => numB f q * 256 + f q
theorem numB_lt (f : Nat → Nat) (hf : ∀ i, f i < 256) : ∀ q, numB f q < 256 ^ q
 | 0 => by show 0 < 1; omega
 | q + 1 => by
  have := numB_lt f hf q
  have h2 := hf q
  show numB f q * 256 + f q < 256 ^ q * 256
  omega
set_option maxRecDepth 100000 in
theorem l06Number_any (t : ByteArray) (ht : t.size = 4) (w : World) :
  Calls Tryz.prog 60 #[.string t] w fun e w' => e = .returned (.int .i64 ((Sha.word (strB t) 0 : Nat) : Int)) ∧ w = w' := by
 have e4 : Sha.word (strB t) 0 = numB (strB t) 4 := by rw [word_num _ (strB_lt t)]; simp [numB]
 rw [e4]
 have hnb := numB_lt (strB t) (strB_lt t)
 go_enter Tryz.func60, Tryz.ntmps60
 go_wp2
 go_loopw [3, 4] (fun n i wr => ∃ q : Nat, q ≤ 4 ∧ i = .int .i64 (q : Int) ∧ n = .int .i64 ((numB (strB t) q : Nat) : Int) ∧ wr = w) (fun _ i _ => 4 - (intOf i).toNat)
 case atStart => exact ⟨0, by omega, rfl, rfl, rfl⟩
 case round =>
  obtain ⟨q, hq, rfl, rfl, rfl⟩ := hrel
  by_cases hlt : q < 4
  ·have hlt' : (q : Int) < (t.size : Int) := by omega
   have hqs : q < t.size := by omega
   have hq0 : (0 : Int) ≤ (q : Int) := by omega
   have es := strB_eq t q hqs
   have HN : Hid (numB (strB t) (q + 1) = numB (strB t) q * 256 + strB t q) := rfl
   have hb := hnb q
   have hl := strB_lt t q
   have hb2 : numB (strB t) q < 16777216 := by
    rcases (show q = 0 ∨ q = 1 ∨ q = 2 ∨ q = 3 by omega) with rfl | rfl | rfl | rfl
    ·exact Nat.lt_of_lt_of_le hb (by decide)
    ·exact Nat.lt_of_lt_of_le hb (by decide)
    ·exact Nat.lt_of_lt_of_le hb (by decide)
    ·exact hb
   generalize numB (strB t) q = N at *
   generalize strB t q = S at *
   clear hb hnb e4
   go_wp2
   go_roundw
   case rel => exact ⟨q + 1, by omega, by go_num, numEq8 (by rw [HN.out]; push_cast; omega), trivial⟩
   case measure => simp [intOf]; omega
  ·obtain rfl : q = 4 := by omega
   have hlt' : ¬ ((4 : Nat) : Int) < (t.size : Int) := by omega
   clear hnb e4
   go_wp2
   go_ret
   exact ⟨rfl, rfl⟩
set_option maxRecDepth 100000 in
set_option maxHeartbeats 4000000 in
theorem l06Read_short (k : ByteArray) (p : Int) (t : ByteArray) (hn : t.size < 20) (w : World) :
  Calls Tryz.prog 47 #[.string k, .int .i64 p, .string t] w fun e w' => e = .returned (.tuple #[.agg #[.int .i64 0, .string ⟨#[]⟩], .bool false]) ∧ Below w.heap.size w w' := by
 have x1 : (t.size : Int) < 20 := by omega
 clear hn
 go_enter Tryz.func47, Tryz.ntmps47
 go_wp2
 exact retCell2 (b := w.heap.size) (v := .agg #[.int .i64 0, .string ⟨#[]⟩]) Tryz.results47 rfl rfl (by go_simp) ⟨rfl, (Below.refl _ _).alloc (Nat.le_refl _) _⟩
set_option maxRecDepth 100000 in
set_option maxHeartbeats 8000000 in
theorem l06Read_long (k : ByteArray) (p m : Nat) (t : ByteArray) (hk : k.size = 32) (hp : p < 4294967296) (hm : m ≤ 65516) (htm : t.size = m + 20) (w : World) :
  Calls Tryz.prog 47 #[.string k, .int .i64 (p : Int), .string t] w fun e w' => e = .returned (.tuple #[.agg #[.int .i64 (rdE k p t.size (strB t)), .string (rdD k p t.size (strB t))], .bool (rdS k p t.size (strB t))]) ∧ Below w.heap.size w w' := by
 have hW := Sha.word_lt (strB t) 0
 obtain ⟨T4, hT4⟩ : ∃ T4, T4 = t.extract 0 4 := ⟨_, rfl⟩
 obtain ⟨X, hX⟩ : ∃ X, X = t.extract 4 t.size := ⟨_, rfl⟩
 have hT4k : T4 = kstr (strB t) 0 4 := by rw [hT4]; exact kstr_extract t 0 4 (by omega)
 have hT4s : T4.size = 4 := by rw [hT4k]; exact kstr_size _ _ _
 have hXB : strB X = fun i => strB t (4 + i) := by rw [hX]; exact strB_drop t 4 (m + 16) (by omega)
 have hXs : X.size = m + 16 := by
  have := kstr_extract t 4 (m + 16) (by omega)
  rw [show 4 + (m + 16) = t.size from by omega, ← hX] at this
  rw [this]; exact kstr_size _ _ _
 have NU : Hid (∀ w : World, Calls Tryz.prog 60 #[.string T4] w fun e w' => e = .returned (.int .i64 ((Sha.word (strB t) 0 : Nat) : Int)) ∧ w = w') := fun w => by
  have := l06Number_any T4 hT4s w
  rw [word_congr (g := strB t) (fun i hi => by rw [hT4k]; have := strB_kstr (strB t) 0 4 i (strB_lt _ _) hi; rwa [Nat.zero_add] at this)] at this
  exact this
 have NO : Hid (∀ w : World, Calls Tryz.prog 62 #[.int .i64 (p : Int), .int .i64 ((Sha.word (strB t) 0 : Nat) : Int)] w fun e w' => e = .returned (.string (rdN p (strB t))) ∧ Below w.heap.size w w') := fun w => l04Nonce_any p _ hp hW w
 have hNz : (rdN p (strB t)).size = 12 := kstr_size _ _ _
 have OP : Hid (∀ (xb cb gc : Nat) (w : World), X.size ≤ gc → Code8 w (some ⟨xb, 0, none⟩) 4 slotX → Code8 w (some ⟨cb, 0, none⟩) X.size (strB X) → Calls Tryz.prog 61 #[.string k, .string (rdN p (strB t)), .slice (some ⟨xb, 0, none⟩) 4 4, .slice (some ⟨cb, 0, none⟩) X.size gc] w fun e w' => RetOpenS w w' e m (streamF k (rdN p (strB t)) (fun i => strB t (4 + i))) (okT k (rdN p (strB t)) 4 slotX m (fun i => strB t (4 + i))) ∧ Below w.heap.size w w') := fun xb cb gc w hg h1 h2 => by
  rw [hXs] at hg h2 ⊢
  rw [hXB] at h2
  exact l04Open_any k _ xb 0 4 4 cb m gc slotX _ hk hNz (by omega) (by omega) hg slotX_lt (fun i => strB_lt _ _) w h1 h2
 have RS : Hid (rdS k p t.size (strB t) = (okT k (rdN p (strB t)) 4 slotX m (fun i => strB t (4 + i)) && decide (1 ≤ Sha.word (strB t) 0 ∧ m ≤ 170))) := by
  show rdS _ _ _ _ = _
  unfold rdS
  rw [htm, show m + 20 - 20 = m from by omega, show decide (20 ≤ m + 20) = true from decide_eq_true (by omega), Bool.true_and]
 have RY : Hid (rdS k p t.size (strB t) = true → rdE k p t.size (strB t) = (Sha.word (strB t) 0 : Nat) ∧ rdD k p t.size (strB t) = kstr (streamF k (rdN p (strB t)) (fun i => strB t (4 + i))) 0 m) := fun h => by
  have := rd_yes h
  rw [htm, show m + 20 - 20 = m from by omega] at this
  rw [htm]
  exact ⟨this.1, this.2.1⟩
 have RN : Hid (rdS k p t.size (strB t) = false → rdE k p t.size (strB t) = 0 ∧ rdD k p t.size (strB t) = ⟨#[]⟩) := fun h => ⟨(rd_no h).1, (rd_no h).2.1⟩
 have SK : Hid (∀ (d : ByteArray) (r : Bool) (w : World), (r = true ↔ SlotR ((Sha.word (strB t) 0 : Nat) : Int) d) → Calls Tryz.prog 63 #[.agg #[.int .i64 ((Sha.word (strB t) 0 : Nat) : Int), .string d]] w fun e w' => e = .returned (.bool r) ∧ Below w.heap.size w w') := fun d r w hr => specSlotOK_any _ d r hr w
 generalize rdS k p t.size (strB t) = RB at *
 generalize rdE k p t.size (strB t) = RE at *
 generalize rdD k p t.size (strB t) = RD at *
 generalize okT k (rdN p (strB t)) 4 slotX m (fun i => strB t (4 + i)) = OKB at *
 generalize streamF k (rdN p (strB t)) (fun i => strB t (4 + i)) = F at *
 generalize rdN p (strB t) = NN at *
 generalize Sha.word (strB t) 0 = W at *
 have HW : Hid (W < 4294967296) := hW
 have HXM : Hid (X.size = m + 16 ∧ t.size = m + 20) := ⟨hXs, htm⟩
 have x1 : ¬ (t.size : Int) < 20 := by omega
 have x4 : (4 : Int) ≤ (t.size : Int) := by omega
 have HXE : Hid (t.extract 4 t.size = X) := hX.symm
 clear hW hT4k hT4s hXB hXs hNz hk hp hm htm hX
 have Z0 : Hid (Sl2 w.heap.size 0 ⟨#[]⟩ (w.alloc (.cells #[.int .i64 0, .string ⟨#[]⟩] 64))) := Sl2.made w _ _ _
 have A1 : Hid (Below w.heap.size w (w.alloc (.cells #[.int .i64 0, .string ⟨#[]⟩] 64))) := (Below.refl _ _).alloc (Nat.le_refl _) _
 go_enter Tryz.func47, Tryz.ntmps47
 go_wp2_with fail
 rw [← hT4]
 generalize (w.alloc (.cells #[.int .i64 0, .string ⟨#[]⟩] 64)) = v1 at *
 refine (NU.out _).mono ?_
 rintro e v1' ⟨rfl, rfl⟩
 clear hT4
 have hb : Below v1.heap.size v1 (v1.alloc (.cells #[.int .i64 (W : Int), .string ⟨#[]⟩] 64)) := (Below.refl _ _).alloc (Nat.le_refl _) _
 have C0 : Hid (Sl2 v1.heap.size (W : Int) ⟨#[]⟩ (v1.alloc (.cells #[.int .i64 (W : Int), .string ⟨#[]⟩] 64))) := Sl2.made v1 _ _ _
 have NB : Hid (w.heap.size < v1.heap.size) := Z0.out.lt
 replace Z0 : Hid (Sl2 w.heap.size 0 ⟨#[]⟩ (v1.alloc (.cells #[.int .i64 (W : Int), .string ⟨#[]⟩] 64))) := Z0.out.below hb
 replace A1 : Hid (Below w.heap.size w (v1.alloc (.cells #[.int .i64 (W : Int), .string ⟨#[]⟩] 64))) := A1.out.trans (hb.mono A1.out.size)
 clear hb NU
 go_wp2_with fail
 generalize (v1.alloc (.cells #[.int .i64 (W : Int), .string ⟨#[]⟩] 64)) = v2 at *
 obtain ⟨sb, hsb⟩ : ∃ x, x = v1.heap.size := ⟨_, rfl⟩
 rw [← hsb] at C0 NB ⊢
 clear hsb
 go_cut [9, 10] (fun dv okv wx => ∃ (a : Option Addr) (l c : Nat), dv = .slice a l c ∧ okv = .bool OKB ∧ (OKB = true → l = m ∧ ∃ g, a = some ⟨g, 0, none⟩ ∧ Code8 wx (some ⟨g, 0, none⟩) m F) ∧ (OKB = false → l = 0) ∧ Sl2 sb (W : Int) ⟨#[]⟩ wx ∧ Sl2 w.heap.size 0 ⟨#[]⟩ wx ∧ Below w.heap.size w wx)
 case first =>
  have hb : Below v2.heap.size v2 v2.drew := (Below.refl _ _).drew
  have H : Sl2 sb (W : Int) ⟨#[]⟩ v2.drew := C0.out.below hb
  replace A1 := hid (A1.out.trans (hb.mono A1.out.size))
  replace Z0 := hid (Z0.out.below hb)
  clear hb C0
  refine wp_region_noPanic ?_
  refine wp_region_held_drew (S := fun w' => Sl2 sb (W : Int) ⟨#[]⟩ w') (by kernel_rfl) H (fun _ => ?_)
  generalize v2.drew = y0 at *
  refine tkH (i := 0) (v := .string k) rfl (by kernel_rfl) (by rfl) ?_ H ?_
  ·intro w' hSw; go_simp
  change wpAnyH _ _ _ _ _ _ _ { tmps := #[_,_,_,_,_,_,_,_,_,_,_,_,_,_,_,_,_,_,_,_,_,_,_,_,_,_,_,_,_,_,_,_,_,_,_,_,_,_,_,_,_,_,_,_,_], defers := _ } _
  refine tkH (i := 1) (v := .int .i64 (p : Int)) rfl (by kernel_rfl) (by rfl) ?_ H ?_
  ·intro w' hSw; go_simp
  change wpAnyH _ _ _ _ _ _ _ { tmps := #[_,_,_,_,_,_,_,_,_,_,_,_,_,_,_,_,_,_,_,_,_,_,_,_,_,_,_,_,_,_,_,_,_,_,_,_,_,_,_,_,_,_,_,_,_], defers := _ } _
  refine tkH (i := 2) (v := .pointer (some ⟨sb, 0, none⟩)) rfl (by kernel_rfl) (by rfl) ?_ H ?_
  ·intro w' hSw; go_simp
  change wpAnyH _ _ _ _ _ _ _ { tmps := #[_,_,_,_,_,_,_,_,_,_,_,_,_,_,_,_,_,_,_,_,_,_,_,_,_,_,_,_,_,_,_,_,_,_,_,_,_,_,_,_,_,_,_,_,_], defers := _ } _
  refine tkH (i := 3) (v := .int .i64 (W : Int)) rfl (by kernel_rfl) (by rfl) ?_ H ?_
  ·intro w' hSw; have t0 := hSw.c0; clear hSw; go_simp
  change wpAnyH _ _ _ _ _ _ _ { tmps := #[_,_,_,_,_,_,_,_,_,_,_,_,_,_,_,_,_,_,_,_,_,_,_,_,_,_,_,_,_,_,_,_,_,_,_,_,_,_,_,_,_,_,_,_,_], defers := _ } _
  refine tkH (i := 7) (v := .string t) rfl (by kernel_rfl) (by rfl) ?_ H ?_
  ·intro w' hSw; go_simp
  change wpAnyH _ _ _ _ _ _ _ { tmps := #[_,_,_,_,_,_,_,_,_,_,_,_,_,_,_,_,_,_,_,_,_,_,_,_,_,_,_,_,_,_,_,_,_,_,_,_,_,_,_,_,_,_,_,_,_], defers := _ } _
  refine tkH (i := 8) (v := .string X) rfl (by kernel_rfl) (by rfl) ?_ H ?_
  ·intro w' hSw; have e9 := HXE.out; go_simp
  change wpAnyH _ _ _ _ _ _ _ { tmps := #[_,_,_,_,_,_,_,_,_,_,_,_,_,_,_,_,_,_,_,_,_,_,_,_,_,_,_,_,_,_,_,_,_,_,_,_,_,_,_,_,_,_,_,_,_], defers := _ } _
  refine wpAnyH_ready (rs := [4, 5, 9]) (by kernel_rfl) (by simp) ?_
  refine (AllReadyH.cons rfl (fun KK hK => ?_) (AllReadyH.cons rfl (fun KK hK => ?_) (AllReadyH.cons rfl (fun KK hK => ?_) AllReadyH.nil)))
  go_simp
  refine (NO.out _).mono ?_
  rintro e y1 ⟨rfl, hb⟩
  replace A1 := hid (A1.out.trans (hb.mono A1.out.size))
  replace Z0 := hid (Z0.out.below hb)
  replace H := H.below hb
  clear hb
  refine hK.out _ _ H (fun _ => ?_)
  clear hK KK
  change wpAnyH _ _ _ _ _ _ _ { tmps := #[_,_,_,_,_,_,_,_,_,_,_,_,_,_,_,_,_,_,_,_,_,_,_,_,_,_,_,_,_,_,_,_,_,_,_,_,_,_,_,_,_,_,_,_,_], defers := _ } _
  apply tg0
  rotate_left
  exact trivial
  have hb : Below y0.heap.size y0 (y0.alloc (.cells #[.int .u8 115, .int .u8 108, .int .u8 111, .int .u8 116] 5)) := (Below.refl _ _).alloc (Nat.le_refl _) _
  have LX : Hid (LitX (y0.alloc (.cells #[.int .u8 115, .int .u8 108, .int .u8 111, .int .u8 116] 5)) y0.heap.size) := LitX.made _
  have XG : Hid (w.heap.size < y0.heap.size ∧ sb < y0.heap.size) := ⟨Z0.out.lt, H.lt⟩
  go_simp
  replace H := H.below hb
  generalize (y0.alloc (.cells #[.int .u8 115, .int .u8 108, .int .u8 111, .int .u8 116] 5)) = y1 at *
  replace A1 := hid (A1.out.trans (hb.mono A1.out.size))
  replace Z0 := hid (Z0.out.below hb)
  obtain ⟨xb, hxb⟩ : ∃ x, x = y0.heap.size := ⟨_, rfl⟩
  rw [← hxb] at LX XG ⊢
  clear hb hxb
  refine hK.out _ _ H (fun _ => ?_)
  clear hK KK
  change wpAnyH _ _ _ _ _ _ _ { tmps := #[_,_,_,_,_,_,_,_,_,_,_,_,_,_,_,_,_,_,_,_,_,_,_,_,_,_,_,_,_,_,_,_,_,_,_,_,_,_,_,_,_,_,_,_,_], defers := _ } _
  apply tg1
  rotate_left
  exact trivial
  obtain ⟨y1, gc, hcv, hx, hb, hgc⟩ := bytesOfM X y0
  go_simp
  replace A1 := hid (A1.out.trans (hb.mono A1.out.size))
  replace Z0 := hid (Z0.out.below hb)
  replace H := H.below hb
  have CD : Hid (Code8 y1 (some ⟨y0.heap.size, 0, none⟩) X.size (strB X)) := hx
  have GC : Hid (X.size ≤ gc) := hgc
  obtain ⟨cb, hcb⟩ : ∃ x, x = y0.heap.size := ⟨_, rfl⟩
  rw [← hcb] at CD ⊢
  clear hcv hx hb hcb hgc
  refine hK.out _ _ H (fun _ => ?_)
  clear hK KK
  change wpAnyH _ _ _ _ _ _ _ { tmps := #[_,_,_,_,_,_,_,_,_,_,_,_,_,_,_,_,_,_,_,_,_,_,_,_,_,_,_,_,_,_,_,_,_,_,_,_,_,_,_,_,_,_,_,_,_], defers := _ } _
  apply tg2
  rotate_left
  exact trivial
  case' q2 =>
   refine wpAnyH_ready (rs := [4, 5]) (by kernel_rfl) (by simp) ?_
   refine (AllReadyH.cons rfl (fun KK hK => ?_) (AllReadyH.cons rfl (fun KK hK => ?_) AllReadyH.nil))
   go_simp
   refine (NO.out _).mono ?_
   rintro e y2 ⟨rfl, hb⟩
   replace A1 := hid (A1.out.trans (hb.mono A1.out.size))
   replace Z0 := hid (Z0.out.below hb)
   replace CD := hid (CD.out.below hb)
   replace H := H.below hb
   clear hb
   refine hK.out _ _ H (fun _ => ?_)
   clear hK KK
   change wpAnyH _ _ _ _ _ _ _ { tmps := #[_,_,_,_,_,_,_,_,_,_,_,_,_,_,_,_,_,_,_,_,_,_,_,_,_,_,_,_,_,_,_,_,_,_,_,_,_,_,_,_,_,_,_,_,_], defers := _ } _
   apply tg3
   rotate_left
   exact trivial
   have hb : Below y1.heap.size y1 (y1.alloc (.cells #[.int .u8 115, .int .u8 108, .int .u8 111, .int .u8 116] 5)) := (Below.refl _ _).alloc (Nat.le_refl _) _
   have LX : Hid (LitX (y1.alloc (.cells #[.int .u8 115, .int .u8 108, .int .u8 111, .int .u8 116] 5)) y1.heap.size) := LitX.made _
   have XG : Hid (w.heap.size < y1.heap.size ∧ sb < y1.heap.size) := ⟨Z0.out.lt, H.lt⟩
   go_simp
   replace H := H.below hb
   generalize (y1.alloc (.cells #[.int .u8 115, .int .u8 108, .int .u8 111, .int .u8 116] 5)) = y2 at *
   replace A1 := hid (A1.out.trans (hb.mono A1.out.size))
   replace Z0 := hid (Z0.out.below hb)
   replace CD := hid (CD.out.below hb)
   obtain ⟨xb, hxb⟩ : ∃ x, x = y1.heap.size := ⟨_, rfl⟩
   rw [← hxb] at LX XG ⊢
   clear hb hxb
   refine hK.out _ _ H (fun _ => ?_)
   clear hK KK
   change wpAnyH _ _ _ _ _ _ _ { tmps := #[_,_,_,_,_,_,_,_,_,_,_,_,_,_,_,_,_,_,_,_,_,_,_,_,_,_,_,_,_,_,_,_,_,_,_,_,_,_,_,_,_,_,_,_,_], defers := _ } _
   apply tg4
   rotate_left
   exact trivial
  case' q1 =>
   refine wpAnyH_ready (rs := [4, 6, 9]) (by kernel_rfl) (by simp) ?_
   refine (AllReadyH.cons rfl (fun KK hK => ?_) (AllReadyH.cons rfl (fun KK hK => ?_) (AllReadyH.cons rfl (fun KK hK => ?_) AllReadyH.nil)))
   go_simp
   refine (NO.out _).mono ?_
   rintro e y2 ⟨rfl, hb⟩
   replace A1 := hid (A1.out.trans (hb.mono A1.out.size))
   replace Z0 := hid (Z0.out.below hb)
   replace LX := hid (LX.out.below hb)
   replace H := H.below hb
   clear hb
   refine hK.out _ _ H (fun _ => ?_)
   clear hK KK
   change wpAnyH _ _ _ _ _ _ _ { tmps := #[_,_,_,_,_,_,_,_,_,_,_,_,_,_,_,_,_,_,_,_,_,_,_,_,_,_,_,_,_,_,_,_,_,_,_,_,_,_,_,_,_,_,_,_,_], defers := _ } _
   apply tg5
   rotate_left
   exact trivial
   obtain ⟨y2, hcv, hx, ho, hce⟩ := conv_lit y1 xb LX.out
   go_simp
   replace A1 := hid (A1.out.trans (ho.toBelow (Nat.le_of_lt XG.out.1) A1.out.size))
   replace Z0 := hid (Z0.out.only ho (Nat.ne_of_lt XG.out.1))
   replace H := H.only ho (Nat.ne_of_lt XG.out.2)
   have XC : Hid (Code8 y2 (some ⟨xb, 0, none⟩) 4 slotX) := hx
   clear hcv hx ho hce LX XG
   refine hK.out _ _ H (fun _ => ?_)
   clear hK KK
   change wpAnyH _ _ _ _ _ _ _ { tmps := #[_,_,_,_,_,_,_,_,_,_,_,_,_,_,_,_,_,_,_,_,_,_,_,_,_,_,_,_,_,_,_,_,_,_,_,_,_,_,_,_,_,_,_,_,_], defers := _ } _
   apply tg6
   rotate_left
   exact trivial
   obtain ⟨y2, gc, hcv, hx, hb, hgc⟩ := bytesOfM X y1
   go_simp
   replace A1 := hid (A1.out.trans (hb.mono A1.out.size))
   replace Z0 := hid (Z0.out.below hb)
   replace LX := hid (LX.out.below hb)
   replace H := H.below hb
   have CD : Hid (Code8 y2 (some ⟨y1.heap.size, 0, none⟩) X.size (strB X)) := hx
   have GC : Hid (X.size ≤ gc) := hgc
   obtain ⟨cb, hcb⟩ : ∃ x, x = y1.heap.size := ⟨_, rfl⟩
   rw [← hcb] at CD ⊢
   clear hcv hx hb hcb hgc
   refine hK.out _ _ H (fun _ => ?_)
   clear hK KK
   change wpAnyH _ _ _ _ _ _ _ { tmps := #[_,_,_,_,_,_,_,_,_,_,_,_,_,_,_,_,_,_,_,_,_,_,_,_,_,_,_,_,_,_,_,_,_,_,_,_,_,_,_,_,_,_,_,_,_], defers := _ } _
   apply tg4
   rotate_left
   exact trivial
  case' q0 =>
   refine wpAnyH_ready (rs := [5, 9]) (by kernel_rfl) (by simp) ?_
   refine (AllReadyH.cons rfl (fun KK hK => ?_) (AllReadyH.cons rfl (fun KK hK => ?_) AllReadyH.nil))
   have hb : Below y1.heap.size y1 (y1.alloc (.cells #[.int .u8 115, .int .u8 108, .int .u8 111, .int .u8 116] 5)) := (Below.refl _ _).alloc (Nat.le_refl _) _
   have LX : Hid (LitX (y1.alloc (.cells #[.int .u8 115, .int .u8 108, .int .u8 111, .int .u8 116] 5)) y1.heap.size) := LitX.made _
   have XG : Hid (w.heap.size < y1.heap.size ∧ sb < y1.heap.size) := ⟨Z0.out.lt, H.lt⟩
   go_simp
   replace H := H.below hb
   generalize (y1.alloc (.cells #[.int .u8 115, .int .u8 108, .int .u8 111, .int .u8 116] 5)) = y2 at *
   replace A1 := hid (A1.out.trans (hb.mono A1.out.size))
   replace Z0 := hid (Z0.out.below hb)
   obtain ⟨xb, hxb⟩ : ∃ x, x = y1.heap.size := ⟨_, rfl⟩
   rw [← hxb] at LX XG ⊢
   clear hb hxb
   refine hK.out _ _ H (fun _ => ?_)
   clear hK KK
   change wpAnyH _ _ _ _ _ _ _ { tmps := #[_,_,_,_,_,_,_,_,_,_,_,_,_,_,_,_,_,_,_,_,_,_,_,_,_,_,_,_,_,_,_,_,_,_,_,_,_,_,_,_,_,_,_,_,_], defers := _ } _
   apply tg5
   rotate_left
   exact trivial
   obtain ⟨y2, gc, hcv, hx, hb, hgc⟩ := bytesOfM X y1
   go_simp
   replace A1 := hid (A1.out.trans (hb.mono A1.out.size))
   replace Z0 := hid (Z0.out.below hb)
   replace H := H.below hb
   have CD : Hid (Code8 y2 (some ⟨y1.heap.size, 0, none⟩) X.size (strB X)) := hx
   have GC : Hid (X.size ≤ gc) := hgc
   obtain ⟨cb, hcb⟩ : ∃ x, x = y1.heap.size := ⟨_, rfl⟩
   rw [← hcb] at CD ⊢
   clear hcv hx hb hcb hgc
   refine hK.out _ _ H (fun _ => ?_)
   clear hK KK
   change wpAnyH _ _ _ _ _ _ _ { tmps := #[_,_,_,_,_,_,_,_,_,_,_,_,_,_,_,_,_,_,_,_,_,_,_,_,_,_,_,_,_,_,_,_,_,_,_,_,_,_,_,_,_,_,_,_,_], defers := _ } _
   apply tg3
   rotate_left
   exact trivial
  case' q4 | q4 =>
   refine wpAnyH_ready (rs := [4, 6]) (by kernel_rfl) (by simp) ?_
   refine (AllReadyH.cons rfl (fun KK hK => ?_) (AllReadyH.cons rfl (fun KK hK => ?_) AllReadyH.nil))
   go_simp
   refine (NO.out _).mono ?_
   rintro e y3 ⟨rfl, hb⟩
   replace A1 := hid (A1.out.trans (hb.mono A1.out.size))
   replace Z0 := hid (Z0.out.below hb)
   replace LX := hid (LX.out.below hb)
   replace CD := hid (CD.out.below hb)
   replace H := H.below hb
   clear hb
   refine hK.out _ _ H (fun _ => ?_)
   clear hK KK
   change wpAnyH _ _ _ _ _ _ _ { tmps := #[_,_,_,_,_,_,_,_,_,_,_,_,_,_,_,_,_,_,_,_,_,_,_,_,_,_,_,_,_,_,_,_,_,_,_,_,_,_,_,_,_,_,_,_,_], defers := _ } _
   apply tg7
   rotate_left
   exact trivial
   obtain ⟨y3, hcv, hx, ho, hce⟩ := conv_lit y2 xb LX.out
   go_simp
   replace A1 := hid (A1.out.trans (ho.toBelow (Nat.le_of_lt XG.out.1) A1.out.size))
   replace Z0 := hid (Z0.out.only ho (Nat.ne_of_lt XG.out.1))
   replace CD : Hid (Code8 y3 (some ⟨cb, 0, none⟩) X.size (strB X)) := code8_cells CD.out hce
   replace H := H.only ho (Nat.ne_of_lt XG.out.2)
   have XC : Hid (Code8 y3 (some ⟨xb, 0, none⟩) 4 slotX) := hx
   clear hcv hx ho hce LX XG
   refine hK.out _ _ H (fun _ => ?_)
   clear hK KK
   change wpAnyH _ _ _ _ _ _ _ { tmps := #[_,_,_,_,_,_,_,_,_,_,_,_,_,_,_,_,_,_,_,_,_,_,_,_,_,_,_,_,_,_,_,_,_,_,_,_,_,_,_,_,_,_,_,_,_], defers := _ } _
   apply tg8
   rotate_left
   exact trivial
  case' q3 | q3 =>
   refine rdH (i := 5) (by kernel_rfl) rfl (fun KK hK => ?_)
   have hb : Below y2.heap.size y2 (y2.alloc (.cells #[.int .u8 115, .int .u8 108, .int .u8 111, .int .u8 116] 5)) := (Below.refl _ _).alloc (Nat.le_refl _) _
   have LX : Hid (LitX (y2.alloc (.cells #[.int .u8 115, .int .u8 108, .int .u8 111, .int .u8 116] 5)) y2.heap.size) := LitX.made _
   have XG : Hid (w.heap.size < y2.heap.size ∧ sb < y2.heap.size) := ⟨Z0.out.lt, H.lt⟩
   go_simp
   replace H := H.below hb
   generalize (y2.alloc (.cells #[.int .u8 115, .int .u8 108, .int .u8 111, .int .u8 116] 5)) = y3 at *
   replace A1 := hid (A1.out.trans (hb.mono A1.out.size))
   replace Z0 := hid (Z0.out.below hb)
   replace CD := hid (CD.out.below hb)
   obtain ⟨xb, hxb⟩ : ∃ x, x = y2.heap.size := ⟨_, rfl⟩
   rw [← hxb] at LX XG ⊢
   clear hb hxb
   refine hK.out _ _ H (fun _ => ?_)
   clear hK KK
   change wpAnyH _ _ _ _ _ _ _ { tmps := #[_,_,_,_,_,_,_,_,_,_,_,_,_,_,_,_,_,_,_,_,_,_,_,_,_,_,_,_,_,_,_,_,_,_,_,_,_,_,_,_,_,_,_,_,_], defers := _ } _
  case' q6 =>
   refine wpAnyH_ready (rs := [4, 9]) (by kernel_rfl) (by simp) ?_
   refine (AllReadyH.cons rfl (fun KK hK => ?_) (AllReadyH.cons rfl (fun KK hK => ?_) AllReadyH.nil))
   go_simp
   refine (NO.out _).mono ?_
   rintro e y3 ⟨rfl, hb⟩
   replace A1 := hid (A1.out.trans (hb.mono A1.out.size))
   replace Z0 := hid (Z0.out.below hb)
   replace XC := hid (XC.out.below hb)
   replace H := H.below hb
   clear hb
   refine hK.out _ _ H (fun _ => ?_)
   clear hK KK
   change wpAnyH _ _ _ _ _ _ _ { tmps := #[_,_,_,_,_,_,_,_,_,_,_,_,_,_,_,_,_,_,_,_,_,_,_,_,_,_,_,_,_,_,_,_,_,_,_,_,_,_,_,_,_,_,_,_,_], defers := _ } _
   apply tg9
   rotate_left
   exact trivial
   obtain ⟨y3, gc, hcv, hx, hb, hgc⟩ := bytesOfM X y2
   go_simp
   replace A1 := hid (A1.out.trans (hb.mono A1.out.size))
   replace Z0 := hid (Z0.out.below hb)
   replace XC := hid (XC.out.below hb)
   replace H := H.below hb
   have CD : Hid (Code8 y3 (some ⟨y2.heap.size, 0, none⟩) X.size (strB X)) := hx
   have GC : Hid (X.size ≤ gc) := hgc
   obtain ⟨cb, hcb⟩ : ∃ x, x = y2.heap.size := ⟨_, rfl⟩
   rw [← hcb] at CD ⊢
   clear hcv hx hb hcb hgc
   refine hK.out _ _ H (fun _ => ?_)
   clear hK KK
   change wpAnyH _ _ _ _ _ _ _ { tmps := #[_,_,_,_,_,_,_,_,_,_,_,_,_,_,_,_,_,_,_,_,_,_,_,_,_,_,_,_,_,_,_,_,_,_,_,_,_,_,_,_,_,_,_,_,_], defers := _ } _
   apply tg8
   rotate_left
   exact trivial
  case' q5 | q5 =>
   refine wpAnyH_ready (rs := [6, 9]) (by kernel_rfl) (by simp) ?_
   refine (AllReadyH.cons rfl (fun KK hK => ?_) (AllReadyH.cons rfl (fun KK hK => ?_) AllReadyH.nil))
   obtain ⟨y3, hcv, hx, ho, hce⟩ := conv_lit y2 xb LX.out
   go_simp
   replace A1 := hid (A1.out.trans (ho.toBelow (Nat.le_of_lt XG.out.1) A1.out.size))
   replace Z0 := hid (Z0.out.only ho (Nat.ne_of_lt XG.out.1))
   replace H := H.only ho (Nat.ne_of_lt XG.out.2)
   have XC : Hid (Code8 y3 (some ⟨xb, 0, none⟩) 4 slotX) := hx
   clear hcv hx ho hce LX XG
   refine hK.out _ _ H (fun _ => ?_)
   clear hK KK
   change wpAnyH _ _ _ _ _ _ _ { tmps := #[_,_,_,_,_,_,_,_,_,_,_,_,_,_,_,_,_,_,_,_,_,_,_,_,_,_,_,_,_,_,_,_,_,_,_,_,_,_,_,_,_,_,_,_,_], defers := _ } _
   apply tg9
   rotate_left
   exact trivial
   obtain ⟨y3, gc, hcv, hx, hb, hgc⟩ := bytesOfM X y2
   go_simp
   replace A1 := hid (A1.out.trans (hb.mono A1.out.size))
   replace Z0 := hid (Z0.out.below hb)
   replace LX := hid (LX.out.below hb)
   replace H := H.below hb
   have CD : Hid (Code8 y3 (some ⟨y2.heap.size, 0, none⟩) X.size (strB X)) := hx
   have GC : Hid (X.size ≤ gc) := hgc
   obtain ⟨cb, hcb⟩ : ∃ x, x = y2.heap.size := ⟨_, rfl⟩
   rw [← hcb] at CD ⊢
   clear hcv hx hb hcb hgc
   refine hK.out _ _ H (fun _ => ?_)
   clear hK KK
   change wpAnyH _ _ _ _ _ _ _ { tmps := #[_,_,_,_,_,_,_,_,_,_,_,_,_,_,_,_,_,_,_,_,_,_,_,_,_,_,_,_,_,_,_,_,_,_,_,_,_,_,_,_,_,_,_,_,_], defers := _ } _
   apply tg7
   rotate_left
   exact trivial
  case' q8 | q8 | q8 =>
   refine rdH (i := 4) (by kernel_rfl) rfl (fun KK hK => ?_)
   go_simp
   refine (NO.out _).mono ?_
   rintro e y4 ⟨rfl, hb⟩
   replace A1 := hid (A1.out.trans (hb.mono A1.out.size))
   replace Z0 := hid (Z0.out.below hb)
   replace XC := hid (XC.out.below hb)
   replace CD := hid (CD.out.below hb)
   replace H := H.below hb
   clear hb
   refine hK.out _ _ H (fun _ => ?_)
   clear hK KK
   change wpAnyH _ _ _ _ _ _ _ { tmps := #[_,_,_,_,_,_,_,_,_,_,_,_,_,_,_,_,_,_,_,_,_,_,_,_,_,_,_,_,_,_,_,_,_,_,_,_,_,_,_,_,_,_,_,_,_], defers := _ } _
  case' q7 | q7 | q7 | q7 | q3 | q3 =>
   refine rdH (i := 6) (by kernel_rfl) rfl (fun KK hK => ?_)
   obtain ⟨y4, hcv, hx, ho, hce⟩ := conv_lit y3 xb LX.out
   go_simp
   replace A1 := hid (A1.out.trans (ho.toBelow (Nat.le_of_lt XG.out.1) A1.out.size))
   replace Z0 := hid (Z0.out.only ho (Nat.ne_of_lt XG.out.1))
   replace CD : Hid (Code8 y4 (some ⟨cb, 0, none⟩) X.size (strB X)) := code8_cells CD.out hce
   replace H := H.only ho (Nat.ne_of_lt XG.out.2)
   have XC : Hid (Code8 y4 (some ⟨xb, 0, none⟩) 4 slotX) := hx
   clear hcv hx ho hce LX XG
   refine hK.out _ _ H (fun _ => ?_)
   clear hK KK
   change wpAnyH _ _ _ _ _ _ _ { tmps := #[_,_,_,_,_,_,_,_,_,_,_,_,_,_,_,_,_,_,_,_,_,_,_,_,_,_,_,_,_,_,_,_,_,_,_,_,_,_,_,_,_,_,_,_,_], defers := _ } _
  case' q9 | q9 | q9 =>
   refine rdH (i := 9) (by kernel_rfl) rfl (fun KK hK => ?_)
   obtain ⟨y4, gc, hcv, hx, hb, hgc⟩ := bytesOfM X y3
   go_simp
   replace A1 := hid (A1.out.trans (hb.mono A1.out.size))
   replace Z0 := hid (Z0.out.below hb)
   replace XC := hid (XC.out.below hb)
   replace H := H.below hb
   have CD : Hid (Code8 y4 (some ⟨y3.heap.size, 0, none⟩) X.size (strB X)) := hx
   have GC : Hid (X.size ≤ gc) := hgc
   obtain ⟨cb, hcb⟩ : ∃ x, x = y3.heap.size := ⟨_, rfl⟩
   rw [← hcb] at CD ⊢
   clear hcv hx hb hcb hgc
   refine hK.out _ _ H (fun _ => ?_)
   clear hK KK
   change wpAnyH _ _ _ _ _ _ _ { tmps := #[_,_,_,_,_,_,_,_,_,_,_,_,_,_,_,_,_,_,_,_,_,_,_,_,_,_,_,_,_,_,_,_,_,_,_,_,_,_,_,_,_,_,_,_,_], defers := _ } _
  case' q8 | q8 | q8 | q7 | q7 | q7 | q7 | q3 | q3 | q9 | q9 | q9 =>
   refine rdH (i := 10) (by kernel_rfl) rfl (fun KK hK => ?_)
   go_simp
   refine (OP.out _ _ _ _ GC.out XC.out CD.out).mono ?_
   rintro e y5 ⟨ho, hb⟩
   replace A1 := hid (A1.out.trans (hb.mono A1.out.size))
   replace Z0 := hid (Z0.out.below hb)
   replace XC := hid (XC.out.below hb)
   replace CD := hid (CD.out.below hb)
   replace H := H.below hb
   obtain ⟨da, dl, dc, rfl, hy, hz⟩ := ho.both
   have HY : Hid (OKB = true → dl = m ∧ ∃ g, da = some ⟨g, 0, none⟩ ∧ Code8 y5 (some ⟨g, 0, none⟩) m F) := hy
   have HZ : Hid (OKB = false → dl = 0) := hz
   clear hb ho hy hz
   refine hK.out _ _ H (fun _ => ?_)
   clear hK KK
   change wpAnyH _ _ _ _ _ _ _ { tmps := #[_,_,_,_,_,_,_,_,_,_,_,_,_,_,_,_,_,_,_,_,_,_,_,_,_,_,_,_,_,_,_,_,_,_,_,_,_,_,_,_,_,_,_,_,_], defers := _ } _
   refine tkH (i := 11) (v := .tuple #[.slice da dl dc, .bool OKB]) rfl (by kernel_rfl) (by rfl) ?_ H ?_
   ·intro w' hSw; go_simp
   change wpAnyH _ _ _ _ _ _ _ { tmps := #[_,_,_,_,_,_,_,_,_,_,_,_,_,_,_,_,_,_,_,_,_,_,_,_,_,_,_,_,_,_,_,_,_,_,_,_,_,_,_,_,_,_,_,_,_], defers := _ } _
   refine tkH (i := 12) (v := .slice da dl dc) rfl (by kernel_rfl) (by rfl) ?_ H ?_
   ·intro w' hSw; go_simp
   change wpAnyH _ _ _ _ _ _ _ { tmps := #[_,_,_,_,_,_,_,_,_,_,_,_,_,_,_,_,_,_,_,_,_,_,_,_,_,_,_,_,_,_,_,_,_,_,_,_,_,_,_,_,_,_,_,_,_], defers := _ } _
   refine tkH (i := 13) (v := .bool OKB) rfl (by kernel_rfl) (by rfl) ?_ H ?_
   ·intro w' hSw; go_simp
   change wpAnyH _ _ _ _ _ _ _ { tmps := #[_,_,_,_,_,_,_,_,_,_,_,_,_,_,_,_,_,_,_,_,_,_,_,_,_,_,_,_,_,_,_,_,_,_,_,_,_,_,_,_,_,_,_,_,_], defers := _ } _
   refine tkH (i := 14) (v := .slice da dl dc) rfl (by kernel_rfl) (by rfl) ?_ H ?_
   ·intro w' hSw; go_simp
   change wpAnyH _ _ _ _ _ _ _ { tmps := #[_,_,_,_,_,_,_,_,_,_,_,_,_,_,_,_,_,_,_,_,_,_,_,_,_,_,_,_,_,_,_,_,_,_,_,_,_,_,_,_,_,_,_,_,_], defers := _ } _
   refine tkH (i := 15) (v := .bool OKB) rfl (by kernel_rfl) (by rfl) ?_ H ?_
   ·intro w' hSw; go_simp
   change wpAnyH _ _ _ _ _ _ _ { tmps := #[_,_,_,_,_,_,_,_,_,_,_,_,_,_,_,_,_,_,_,_,_,_,_,_,_,_,_,_,_,_,_,_,_,_,_,_,_,_,_,_,_,_,_,_,_], defers := _ } _
  case' q8 | q8 | q8 | q7 | q7 | q7 | q7 | q3 | q3 | q9 | q9 | q9 =>
   refine wpAnyH_done (by kernel_rfl) ?_ _
   refine NoPanic.normal ?_
   change Exit.then _ _ Exit.normal { tmps := #[_, _, _, _, _, _, _, _, _, _, _, _, _, _, _, _, _, _, _, _, _, _, _, _, _, _, _, _, _, _, _, _, _, _, _, _, _, _, _, _, _, _, _, _, _], defers := _ } _
   go_wp2_with fail
   go_meet
   exact ⟨da, dl, dc, rfl, rfl, HY.out, HZ.out, H, Z0.out, A1.out⟩
 case rest =>
 obtain ⟨da, dl, dc, rfl, rfl, hy, hz, c0, z0, hb⟩ := hcut
 clear OP NO A1 C0 Z0
 have A1 : Hid (Below w.heap.size w wc) := hb
 have C0 : Hid (Sl2 sb (W : Int) ⟨#[]⟩ wc) := c0
 have Z0 : Hid (Sl2 w.heap.size 0 ⟨#[]⟩ wc) := z0
 have f1 := c0.c1
 have f2 := c0.fr 1
 clear hb c0 z0
 cases OKB with
 | false =>
  obtain rfl : dl = 0 := hz rfl
  obtain ⟨rfl, rfl⟩ := RN.out RS.out
  obtain rfl : RB = false := RS.out
  have cv1 := conv_zero (w := wc) (a := da) (c := dc)
  have Z1 := Z0.out.only ((OnlyB.refl sb wc).setCell 1 (.string ⟨#[]⟩)) (Nat.ne_of_lt NB.out)
  have z0 := Z1.c0
  have z1 := Z1.c1
  have z2 := Z1.fr 0
  have z3 := Z1.fr 1
  have B5 : Hid (Below w.heap.size w (wc.setCell ⟨sb, 1, none⟩ (.string ⟨#[]⟩))) := A1.out.setCell (Nat.le_of_lt NB.out) _
  clear Z1 RS RY RN SK hy hz
  go_wp2
  exact retCell2 (b := w.heap.size) (v := .agg #[.int .i64 0, .string ⟨#[]⟩]) Tryz.results47 rfl rfl (by go_simp) ⟨rfl, (B5.out.setCell (Nat.le_refl _) _).setCell (Nat.le_refl _) _⟩
 | true =>
  obtain ⟨rfl, g, rfl, hd⟩ := hy rfl
  have cv1 := kstr_of_code (c := dc) hd
  obtain ⟨D, hD⟩ : ∃ D, D = kstr F 0 dl := ⟨_, rfl⟩
  have hDs : D.size = dl := by rw [hD]; exact kstr_size _ _ _
  rw [← hD] at cv1 RY
  have Z1 : Hid (Sl2 w.heap.size 0 ⟨#[]⟩ (wc.setCell ⟨sb, 1, none⟩ (.string D))) := Z0.out.only ((OnlyB.refl sb wc).setCell 1 (.string D)) (Nat.ne_of_lt NB.out)
  have C1 : Hid (Sl2 sb (W : Int) D (wc.setCell ⟨sb, 1, none⟩ (.string D))) := C0.out.put D
  have B5 : Hid (Below w.heap.size w (wc.setCell ⟨sb, 1, none⟩ (.string D))) := A1.out.setCell (Nat.le_of_lt NB.out) _
  have HRR : Hid (RB = true ↔ SlotR (W : Int) D) := by
   show RB = true ↔ _
   rw [RS.out, Bool.true_and, decide_eq_true_iff]
   unfold SlotR
   rw [hDs]
   have := HW.out
   constructor
   ·intro h; omega
   ·intro h; omega
  have d0 := C1.out.c0
  have d1 := C1.out.c1
  clear Z0 A1 hd hD hDs RS hz hy C0
  go_wp2_with fail
  clear d0 d1
  generalize (wc.setCell ⟨sb, 1, none⟩ (.string D)) = v6 at *
  refine (SK.out _ RB _ HRR.out).mono ?_
  rintro e v7 ⟨rfl, hb⟩
  replace Z1 := Z1.out.below hb
  have z0 := Z1.c0
  have z1 := Z1.c1
  have z2 := Z1.fr 0
  have z3 := Z1.fr 1
  replace C1 := C1.out.below hb
  have e0 := C1.c0
  have e1 := C1.c1
  replace B5 : Hid (Below w.heap.size w v7) := B5.out.trans (hb.mono B5.out.size)
  clear hb SK HRR cv1 HW f1 f2
  cases RB with
  | false =>
   obtain ⟨rfl, rfl⟩ := RN.out rfl
   clear RN RY
   go_wp2
   exact retCell2 (b := w.heap.size) (v := .agg #[.int .i64 0, .string ⟨#[]⟩]) Tryz.results47 rfl rfl (by go_simp) ⟨rfl, (B5.out.setCell (Nat.le_refl _) _).setCell (Nat.le_refl _) _⟩
  | true =>
   obtain ⟨rfl, rfl⟩ := RY.out rfl
   clear RN RY
   go_wp2
   exact retCell2 (b := w.heap.size) (v := .agg #[.int .i64 (W : Int), .string _]) Tryz.results47 rfl rfl (by go_simp) ⟨rfl, (B5.out.setCell (Nat.le_refl _) _).setCell (Nat.le_refl _) _⟩
end Go.Proofs.YtboekhegbachpaaGreatDoor
