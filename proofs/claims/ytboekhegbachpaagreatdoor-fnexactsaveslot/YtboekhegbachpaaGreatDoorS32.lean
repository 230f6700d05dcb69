/-
  Texts of the proof, joined: SlotRd.
-/
import Derived.Test.YtboekhegbachpaaGreatDoorS30
import Derived.Test.YtboekhegbachpaaGreatDoorS31
import Derived.Test.YtboekhegbachpaaGreatDoorS18
import Derived.Test.YtboekhegbachpaaGreatDoorS07
namespace Go.Proofs.YtboekhegbachpaaGreatDoor
open Go.ChangeShapes Go.WideShapes Go.ChangeAt Go.RowKit
set_option linter.unusedVariables false
theorem or_add (x i y : Nat) (h : y < 2 ^ i) : x * 2 ^ i ||| y = x * 2 ^ i + y := by
 rw [Nat.mul_comm]
 exact (Nat.two_pow_add_eq_or_of_lt h x).symm
theorem word_num (f : Nat → Nat) (hf : ∀ i, f i < 256) : Sha.word f 0 = ((f 0 * 256 + f 1) * 256 + f 2) * 256 + f 3 := by
 have h0 := hf 0
 have h1 := hf 1
 have h2 := hf 2
 have h3 := hf 3
 show Sha.orr (Sha.orr (Sha.orr (Sha.sl (f 0) 24) (Sha.sl (f 1) 16)) (Sha.sl (f 2) 8)) (f 3) = _
 generalize f 0 = a at *
 generalize f 1 = b at *
 generalize f 2 = c at *
 generalize f 3 = d at *
 have s0 : Sha.sl a 24 = a * 2 ^ 24 := Nat.mod_eq_of_lt (by omega)
 have s1 : Sha.sl b 16 = b * 2 ^ 16 := Nat.mod_eq_of_lt (by omega)
 have s2 : Sha.sl c 8 = c * 2 ^ 8 := Nat.mod_eq_of_lt (by omega)
 have e1 : a * 2 ^ 24 ||| b * 2 ^ 16 = (a * 256 + b) * 2 ^ 16 := by rw [or_add a 24 (b * 2 ^ 16) (by omega)]; omega
 have e2 : (a * 256 + b) * 2 ^ 16 ||| c * 2 ^ 8 = ((a * 256 + b) * 256 + c) * 2 ^ 8 := by rw [or_add _ 16 (c * 2 ^ 8) (by omega)]; omega
 have e3 : ((a * 256 + b) * 256 + c) * 2 ^ 8 ||| d = ((a * 256 + b) * 256 + c) * 2 ^ 8 + d := or_add _ 8 d (by omega)
 rw [s0, s1, s2]
 unfold Sha.orr
 rw [e1, Nat.mod_eq_of_lt (by omega : (a * 256 + b) * 2 ^ 16 < 4294967296), e2, Nat.mod_eq_of_lt (by omega : ((a * 256 + b) * 256 + c) * 2 ^ 8 < 4294967296), e3, Nat.mod_eq_of_lt (by omega)]
def rdN (p : Nat) (f : Nat → Nat) : ByteArray := kstr (nonceF p (Sha.word f 0)) 0 12
def rdS (k : ByteArray) (p n : Nat) (f : Nat → Nat) : Bool := decide (20 ≤ n) && (okT k (rdN p f) 4 slotX (n - 20) (fun i => f (4 + i)) && decide (1 ≤ Sha.word f 0 ∧ n - 20 ≤ 170))
def rdE (k : ByteArray) (p n : Nat) (f : Nat → Nat) : Int := if rdS k p n f then (Sha.word f 0 : Nat) else 0
def rdD (k : ByteArray) (p n : Nat) (f : Nat → Nat) : ByteArray := if rdS k p n f then kstr (streamF k (rdN p f) (fun i => f (4 + i))) 0 (n - 20) else ⟨#[]⟩
def rdC (k : ByteArray) (p n : Nat) (f : Nat → Nat) : Int := if rdS k p n f then 0 else 10
theorem rd_no {k : ByteArray} {p n : Nat} {f : Nat → Nat} (h : rdS k p n f = false) : rdE k p n f = 0 ∧ rdD k p n f = ⟨#[]⟩ ∧ rdC k p n f = 10 := by unfold rdE rdD rdC; rw [h]; exact ⟨rfl, rfl, rfl⟩
theorem rd_yes {k : ByteArray} {p n : Nat} {f : Nat → Nat} (h : rdS k p n f = true) : rdE k p n f = (Sha.word f 0 : Nat) ∧ rdD k p n f = kstr (streamF k (rdN p f) (fun i => f (4 + i))) 0 (n - 20) ∧ rdC k p n f = 0 := by unfold rdE rdD rdC; rw [h]; exact ⟨rfl, rfl, rfl⟩
theorem conv_nil {w : World} : (convert 84 9 (.slice none 0 0)).run Tryz.prog w = .ok (.string ⟨#[]⟩) w := by
 simp [convert, run_underlying Tryz.underlying84, run_underlying Tryz.underlying5, run_underlying Tryz.underlying9, Conv.bytesToString, Result.andThen]; rfl
structure Z2 (b : Nat) (w : World) : Prop where
 c0 : w.cell? ⟨b, 0, none⟩ = some (.int .i64 0)
 c1 : w.cell? ⟨b, 1, none⟩ = some (.string ⟨#[]⟩)
 fr : ∀ i, w.frozen? ⟨b, i, none⟩ = false
 lt : b < w.heap.size
theorem Z2.below {b : Nat} {w w' : World} (h : Z2 b w) (hb : Below w.heap.size w w') : Z2 b w' := ⟨(hb.cell (p := ⟨b, 0, none⟩) h.lt).trans h.c0, (hb.cell (p := ⟨b, 1, none⟩) h.lt).trans h.c1, fun i => (hb.frozen (p := ⟨b, i, none⟩) h.lt).trans (h.fr i), Nat.lt_of_lt_of_le h.lt hb.size⟩
theorem Z2.made (w : World) (t : TypeId) : Z2 w.heap.size (w.alloc (.cells #[.int .i64 0, .string ⟨#[]⟩] t)) := ⟨by simp, by simp, fun i => by simp, by simp⟩
set_option maxRecDepth 100000 in
set_option maxHeartbeats 4000000 in
theorem unsealed_short (k : ByteArray) (p : Int) (a : Option Addr) (n c : Nat) (hn : n < 4) (w : World) :
  Calls Tryz.prog 54 #[.string k, .int .i64 p, .slice a n c] w fun e w' => e = .returned (.tuple #[.agg #[.int .i64 0, .string ⟨#[]⟩], .int .i64 10]) ∧ Below w.heap.size w w' := by
 have x1 : (n : Int) < 4 := by omega
 clear hn
 go_enter Tryz.func54, Tryz.ntmps54
 go_wp2
 refine retCell2 (b := w.heap.size) (v := .agg #[.int .i64 0, .string ⟨#[]⟩]) Tryz.results54 rfl rfl (by go_simp) ⟨rfl, ?_⟩
 exact (Below.refl _ _).alloc (Nat.le_refl _) _
set_option maxRecDepth 100000 in
set_option maxHeartbeats 4000000 in
theorem unsealed_mid (k : ByteArray) (p b o n c : Nat) (f : Nat → Nat) (hf : ∀ i, f i < 256) (hk : k.size = 32) (hp : p < 4294967296) (hn : 4 ≤ n) (hn2 : n < 20) (hcap : n ≤ c) (w : World) (hc : Code8 w (some ⟨b, o, none⟩) n f) (ht : Tabs w) :
  Calls Tryz.prog 54 #[.string k, .int .i64 (p : Int), .slice (some ⟨b, o, none⟩) n c] w fun e w' => e = .returned (.tuple #[.agg #[.int .i64 0, .string ⟨#[]⟩], .int .i64 10]) ∧ Below w.heap.size w w' := by
 have WO : Hid (∀ w : World, Code8 w (some ⟨b, o, none⟩) n f → Calls Tryz.prog 67 #[.slice (some ⟨b, o, none⟩) n c] w fun e w' => e = .returned (.int .u32 ((Sha.word f 0 : Nat) : Int)) ∧ Below w.heap.size w w') := fun w h => wordOf_any b o n c f hf hn w h
 have hW := Sha.word_lt f 0
 have NO : Hid (∀ w : World, Calls Tryz.prog 68 #[.int .i64 (p : Int), .int .i64 ((Sha.word f 0 : Nat) : Int)] w fun e w' => e = .returned (.tuple #[.string (kstr (nonceF p (Sha.word f 0)) 0 12), .int .i64 0]) ∧ Below w.heap.size w w') := fun w => implNonce_yes p (Sha.word f 0) hp hW w
 have hNz : (kstr (nonceF p (Sha.word f 0)) 0 12).size = 12 := kstr_size _ _ _
 have OP : Hid (∀ (xa ba : Option Addr) (xc m bc : Nat) (w : World), m < 16 → Calls Tryz.prog 69 #[.string k, .string (kstr (nonceF p (Sha.word f 0)) 0 12), .slice xa 4 xc, .slice ba m bc] w fun e w' => e = .returned (.tuple #[.slice none 0 0, .int .i64 3]) ∧ w = w') := fun xa ba xc m bc w hm => implOpen_form k _ xa ba 4 xc m bc hm (sfault_ok k _ 4 m 65536 hk hNz (by omega) (by omega)) w
 have HC : Hid (Code8 w (some ⟨b, o, none⟩) n f) := hc
 have HT : Hid (Tabs w) := ht
 generalize kstr (nonceF p (Sha.word f 0)) 0 12 = NN at *
 generalize Sha.word f 0 = W at *
 have wrp : IntKind.i64.wrap (W : Int) = (W : Int) := IntWalk.i64_in _ ⟨by omega, by omega⟩
 have A1 : Hid (Below w.heap.size w (w.alloc (.cells #[.int .i64 0, .string ⟨#[]⟩] 64))) := (Below.refl _ _).alloc (Nat.le_refl _) _
 have Z0 : Hid (Z2 w.heap.size (w.alloc (.cells #[.int .i64 0, .string ⟨#[]⟩] 64))) := Z2.made w _
 clear hc ht hf hW
 go_enter Tryz.func54, Tryz.ntmps54
 go_wp2_with fail
 generalize (w.alloc (.cells #[.int .i64 0, .string ⟨#[]⟩] 64)) = v1 at *
 refine (WO.out _ (HC.out.below A1.out)).mono ?_
 rintro e v2 ⟨rfl, hb⟩
 replace A1 : Hid (Below w.heap.size w v2) := A1.out.trans (hb.mono A1.out.size)
 replace Z0 : Hid (Z2 w.heap.size v2) := Z0.out.below hb
 clear hb WO
 go_wp2_with fail
 refine (NO.out _).mono ?_
 rintro e v3 ⟨rfl, hb⟩
 replace A1 : Hid (Below w.heap.size w v3) := A1.out.trans (hb.mono A1.out.size)
 replace Z0 : Hid (Z2 w.heap.size v3) := Z0.out.below hb
 clear hb NO
 have hcv1 : (convert 84 84 (.slice (some ⟨v3.heap.size, 0, none⟩) 4 4)).run Tryz.prog (v3.alloc (.cells #[.int .u8 115, .int .u8 108, .int .u8 111, .int .u8 116] 5)) = .ok (.slice (some ⟨v3.heap.size, 0, none⟩) 4 4) (v3.alloc (.cells #[.int .u8 115, .int .u8 108, .int .u8 111, .int .u8 116] 5 (4, 5))) := conv_rowS v3 #[.int .u8 115, .int .u8 108, .int .u8 111, .int .u8 116] 4 4
 have hb : Below v3.heap.size v3 (v3.alloc (.cells #[.int .u8 115, .int .u8 108, .int .u8 111, .int .u8 116] 5 (4, 5))) := (Below.refl _ _).alloc (Nat.le_refl _) _
 have X4 : Hid (Code8 (v3.alloc (.cells #[.int .u8 115, .int .u8 108, .int .u8 111, .int .u8 116] 5 (4, 5))) (some ⟨v3.heap.size, 0, none⟩) 4 slotX) := slot_code v3
 replace A1 : Hid (Below w.heap.size w (v3.alloc (.cells #[.int .u8 115, .int .u8 108, .int .u8 111, .int .u8 116] 5 (4, 5)))) := A1.out.trans (hb.mono A1.out.size)
 replace Z0 : Hid (Z2 w.heap.size (v3.alloc (.cells #[.int .u8 115, .int .u8 108, .int .u8 111, .int .u8 116] 5 (4, 5)))) := Z0.out.below hb
 clear hb
 generalize (v3.alloc (.cells #[.int .u8 115, .int .u8 108, .int .u8 111, .int .u8 116] 5 (4, 5))) = v4 at *
 have x1 : ¬ (n : Int) < 4 := by omega
 have x2 : (4 : Int) ≤ (n : Int) := by omega
 have x3 : (n : Int) ≤ (c : Int) := by omega
 have cvn := fun w : World => conv_nil (w := w)
 by_cases hc4 : c - 4 = 0
 ·go_wp2_with fail
  refine (OP.out _ _ _ _ _ _ (by omega)).mono ?_
  rintro e v5 ⟨rfl, rfl⟩
  have zb : Below v4.heap.size v4 (v4.alloc (.cells #[.int .i64 (W : Int), .string ⟨#[]⟩] 64)) := (Below.refl _ _).alloc (Nat.le_refl _) _
  have Z1 := Z0.out.below zb
  have z0 := Z1.c0
  have z1 := Z1.c1
  have z2 := Z1.fr 0
  have z3 := Z1.fr 1
  have B5 : Hid (Below w.heap.size w (v4.alloc (.cells #[.int .i64 (W : Int), .string ⟨#[]⟩] 64))) := A1.out.trans (zb.mono A1.out.size)
  have cv1 := cvn v4
  clear zb Z1
  clear OP X4 hcv1 HC HT cvn
  go_wp2
  exact retCell2 (b := w.heap.size) (v := .agg #[.int .i64 0, .string ⟨#[]⟩]) Tryz.results54 rfl rfl (by go_simp) ⟨rfl, (B5.out.setCell (Nat.le_refl _) _).setCell (Nat.le_refl _) _⟩
 ·go_wp2_with fail
  refine (OP.out _ _ _ _ _ _ (by omega)).mono ?_
  rintro e v5 ⟨rfl, rfl⟩
  have zb : Below v4.heap.size v4 (v4.alloc (.cells #[.int .i64 (W : Int), .string ⟨#[]⟩] 64)) := (Below.refl _ _).alloc (Nat.le_refl _) _
  have Z1 := Z0.out.below zb
  have z0 := Z1.c0
  have z1 := Z1.c1
  have z2 := Z1.fr 0
  have z3 := Z1.fr 1
  have B5 : Hid (Below w.heap.size w (v4.alloc (.cells #[.int .i64 (W : Int), .string ⟨#[]⟩] 64))) := A1.out.trans (zb.mono A1.out.size)
  have cv1 := cvn v4
  clear zb Z1
  clear OP X4 hcv1 HC HT cvn
  go_wp2
  exact retCell2 (b := w.heap.size) (v := .agg #[.int .i64 0, .string ⟨#[]⟩]) Tryz.results54 rfl rfl (by go_simp) ⟨rfl, (B5.out.setCell (Nat.le_refl _) _).setCell (Nat.le_refl _) _⟩
set_option maxRecDepth 100000 in
set_option maxHeartbeats 4000000 in
theorem unsealed_long (k : ByteArray) (p b o m c : Nat) (f : Nat → Nat) (hf : ∀ i, f i < 256) (hk : k.size = 32) (hp : p < 4294967296) (hm : m ≤ 65516) (hcap : m + 20 ≤ c) (w : World) (hc : Code8 w (some ⟨b, o, none⟩) (m + 20) f) (ht : Tabs w) :
  Calls Tryz.prog 54 #[.string k, .int .i64 (p : Int), .slice (some ⟨b, o, none⟩) (m + 20) c] w fun e w' => e = .returned (.tuple #[.agg #[.int .i64 (rdE k p (m + 20) f), .string (rdD k p (m + 20) f)], .int .i64 (rdC k p (m + 20) f)]) ∧ Below w.heap.size w w' := by
 have WO : Hid (∀ w : World, Code8 w (some ⟨b, o, none⟩) (m + 20) f → Calls Tryz.prog 67 #[.slice (some ⟨b, o, none⟩) (m + 20) c] w fun e w' => e = .returned (.int .u32 ((Sha.word f 0 : Nat) : Int)) ∧ Below w.heap.size w w') := fun w h => wordOf_any b o (m + 20) c f hf (by omega) w h
 have hW := Sha.word_lt f 0
 have NO : Hid (∀ w : World, Calls Tryz.prog 68 #[.int .i64 (p : Int), .int .i64 ((Sha.word f 0 : Nat) : Int)] w fun e w' => e = .returned (.tuple #[.string (kstr (nonceF p (Sha.word f 0)) 0 12), .int .i64 0]) ∧ Below w.heap.size w w') := fun w => implNonce_yes p (Sha.word f 0) hp hW w
 have hNz : (kstr (nonceF p (Sha.word f 0)) 0 12).size = 12 := kstr_size _ _ _
 have OP : Hid (∀ (xb : Nat) (w : World), Code8 w (some ⟨xb, 0, none⟩) 4 slotX → Code8 w (some ⟨b, o + 4, none⟩) (m + 16) (fun i => f (4 + i)) → Tabs w → Calls Tryz.prog 69 #[.string k, .string (kstr (nonceF p (Sha.word f 0)) 0 12), .slice (some ⟨xb, 0, none⟩) 4 4, .slice (some ⟨b, o + 4, none⟩) (m + 20 - 4) (c - 4)] w fun e w' => RetOpen w w' e m (streamF k (rdN p f) (fun i => f (4 + i))) (okT k (rdN p f) 4 slotX m (fun i => f (4 + i))) ∧ Below w.heap.size w w') := fun xb w h1 h2 h3 => by
  rw [show m + 20 - 4 = m + 16 from by omega]
  exact implOpen_at k _ xb 0 4 4 b (o + 4) m (c - 4) slotX _ hk hNz (by omega) (by omega) (by omega) slotX_lt (fun i => hf _) w h1 h2 h3
 have RS : Hid (rdS k p (m + 20) f = (okT k (rdN p f) 4 slotX m (fun i => f (4 + i)) && decide (1 ≤ Sha.word f 0 ∧ m ≤ 170))) := by
  show rdS _ _ _ _ = _
  unfold rdS
  rw [show m + 20 - 20 = m from by omega, show decide (20 ≤ m + 20) = true from decide_eq_true (by omega), Bool.true_and]
 have RY : Hid (rdS k p (m + 20) f = true → rdE k p (m + 20) f = (Sha.word f 0 : Nat) ∧ rdD k p (m + 20) f = kstr (streamF k (rdN p f) (fun i => f (4 + i))) 0 m ∧ rdC k p (m + 20) f = 0) := fun h => by
  have := rd_yes h
  rw [show m + 20 - 20 = m from by omega] at this
  exact this
 have RN : Hid (rdS k p (m + 20) f = false → rdE k p (m + 20) f = 0 ∧ rdD k p (m + 20) f = ⟨#[]⟩ ∧ rdC k p (m + 20) f = 10) := fun h => rd_no h
 have HX : Hid (Code8 w (some ⟨b, o + 4, none⟩) (m + 16) (fun i => f (4 + i))) := code8_of (fun i hi => by
  obtain ⟨b', o', e, hcc⟩ := hc (4 + i) (by omega)
  cases e
  rw [← Nat.add_assoc] at hcc
  exact hcc)
 have SK : Hid (∀ (d : ByteArray) (r : Bool) (w : World), (r = true ↔ SlotR ((Sha.word f 0 : Nat) : Int) d) → Calls Tryz.prog 36 #[.agg #[.int .i64 ((Sha.word f 0 : Nat) : Int), .string d]] w fun e w' => e = .returned (.bool r) ∧ Below w.heap.size w w') := fun d r w hr => implSlotOK_any _ d r hr w
 have HC : Hid (Code8 w (some ⟨b, o, none⟩) (m + 20) f) := hc
 have HT : Hid (Tabs w) := ht
 generalize kstr (nonceF p (Sha.word f 0)) 0 12 = NN at *
 generalize Sha.word f 0 = W at *
 generalize rdS k p (m + 20) f = RB at *
 generalize rdE k p (m + 20) f = RE at *
 generalize rdD k p (m + 20) f = RD at *
 generalize rdC k p (m + 20) f = RC at *
 generalize okT k (rdN p f) 4 slotX m (fun i => f (4 + i)) = OKB at *
 generalize streamF k (rdN p f) (fun i => f (4 + i)) = F at *
 have HW : Hid (W < 4294967296) := hW
 have wrp : IntKind.i64.wrap (W : Int) = (W : Int) := IntWalk.i64_in _ ⟨by omega, by omega⟩
 have A1 : Hid (Below w.heap.size w (w.alloc (.cells #[.int .i64 0, .string ⟨#[]⟩] 64))) := (Below.refl _ _).alloc (Nat.le_refl _) _
 have Z0 : Hid (Z2 w.heap.size (w.alloc (.cells #[.int .i64 0, .string ⟨#[]⟩] 64))) := Z2.made w _
 clear hc ht hf hW hNz
 go_enter Tryz.func54, Tryz.ntmps54
 go_wp2_with fail
 generalize (w.alloc (.cells #[.int .i64 0, .string ⟨#[]⟩] 64)) = v1 at *
 refine (WO.out _ (HC.out.below A1.out)).mono ?_
 rintro e v2 ⟨rfl, hb⟩
 replace A1 : Hid (Below w.heap.size w v2) := A1.out.trans (hb.mono A1.out.size)
 replace Z0 : Hid (Z2 w.heap.size v2) := Z0.out.below hb
 clear hb WO
 go_wp2_with fail
 refine (NO.out _).mono ?_
 rintro e v3 ⟨rfl, hb⟩
 replace A1 : Hid (Below w.heap.size w v3) := A1.out.trans (hb.mono A1.out.size)
 replace Z0 : Hid (Z2 w.heap.size v3) := Z0.out.below hb
 clear hb NO
 have hcv1 : (convert 84 84 (.slice (some ⟨v3.heap.size, 0, none⟩) 4 4)).run Tryz.prog (v3.alloc (.cells #[.int .u8 115, .int .u8 108, .int .u8 111, .int .u8 116] 5)) = .ok (.slice (some ⟨v3.heap.size, 0, none⟩) 4 4) (v3.alloc (.cells #[.int .u8 115, .int .u8 108, .int .u8 111, .int .u8 116] 5 (4, 5))) := conv_rowS v3 #[.int .u8 115, .int .u8 108, .int .u8 111, .int .u8 116] 4 4
 have hb : Below v3.heap.size v3 (v3.alloc (.cells #[.int .u8 115, .int .u8 108, .int .u8 111, .int .u8 116] 5 (4, 5))) := (Below.refl _ _).alloc (Nat.le_refl _) _
 have X4 : Hid (Code8 (v3.alloc (.cells #[.int .u8 115, .int .u8 108, .int .u8 111, .int .u8 116] 5 (4, 5))) (some ⟨v3.heap.size, 0, none⟩) 4 slotX) := slot_code v3
 replace A1 : Hid (Below w.heap.size w (v3.alloc (.cells #[.int .u8 115, .int .u8 108, .int .u8 111, .int .u8 116] 5 (4, 5)))) := A1.out.trans (hb.mono A1.out.size)
 replace Z0 : Hid (Z2 w.heap.size (v3.alloc (.cells #[.int .u8 115, .int .u8 108, .int .u8 111, .int .u8 116] 5 (4, 5)))) := Z0.out.below hb
 clear hb
 generalize (v3.alloc (.cells #[.int .u8 115, .int .u8 108, .int .u8 111, .int .u8 116] 5 (4, 5))) = v4 at *
 have x1 : ¬ ((m + 20 : Nat) : Int) < 4 := by omega
 have x2 : (4 : Int) ≤ ((m + 20 : Nat) : Int) := by omega
 have x3 : ((m + 20 : Nat) : Int) ≤ (c : Int) := by omega
 have hc4 : ¬ c - 4 = 0 := by omega
 have HM : Hid (m ≤ 65516) := hm
 clear hm hcap
 obtain ⟨L, hL⟩ : ∃ L, L = m + 20 := ⟨_, rfl⟩
 rw [← hL] at OP x1 x2 x3 ⊢
 clear hL
 go_wp2_with fail
 refine (OP.out _ _ X4.out (HX.out.below A1.out) (HT.out.below A1.out)).mono ?_
 rintro e v5 ⟨ho, hb⟩
 replace A1 : Hid (Below w.heap.size w v5) := A1.out.trans (hb.mono A1.out.size)
 replace Z0 : Hid (Z2 w.heap.size v5) := Z0.out.below hb
 clear hb OP X4 hcv1 HC HT HX
 cases OKB with
 | false =>
  obtain rfl : e = .returned (.tuple #[.slice none 0 0, .int .i64 10]) := by unfold RetOpen at ho; rw [if_neg (by decide)] at ho; exact ho
  obtain ⟨rfl, rfl, rfl⟩ := RN.out RS.out
  have zb : Below v5.heap.size v5 (v5.alloc (.cells #[.int .i64 (W : Int), .string ⟨#[]⟩] 64)) := (Below.refl _ _).alloc (Nat.le_refl _) _
  have Z1 := Z0.out.below zb
  have z0 := Z1.c0
  have z1 := Z1.c1
  have z2 := Z1.fr 0
  have z3 := Z1.fr 1
  have B5 : Hid (Below w.heap.size w (v5.alloc (.cells #[.int .i64 (W : Int), .string ⟨#[]⟩] 64))) := A1.out.trans (zb.mono A1.out.size)
  have cv1 := conv_nil (w := v5)
  clear zb Z1 ho RS RY RN SK
  go_wp2
  exact retCell2 (b := w.heap.size) (v := .agg #[.int .i64 0, .string ⟨#[]⟩]) Tryz.results54 rfl rfl (by go_simp) ⟨rfl, (B5.out.setCell (Nat.le_refl _) _).setCell (Nat.le_refl _) _⟩
 | true =>
  obtain ⟨g, gc, -, rfl, hq⟩ : RetB2 v4 v5 e m F (.int .i64 0) := by unfold RetOpen at ho; rw [if_pos rfl] at ho; exact ho
  have cv1 := kstr_of_code (c := gc) hq.code
  obtain ⟨D, hD⟩ : ∃ D, D = kstr F 0 m := ⟨_, rfl⟩
  have hDs : D.size = m := by rw [hD]; exact kstr_size _ _ _
  rw [← hD] at cv1 RY
  have zb : Below v5.heap.size v5 (v5.alloc (.cells #[.int .i64 (W : Int), .string D] 64)) := (Below.refl _ _).alloc (Nat.le_refl _) _
  have Z1 : Hid (Z2 w.heap.size (v5.alloc (.cells #[.int .i64 (W : Int), .string D] 64))) := Z0.out.below zb
  have B5 : Hid (Below w.heap.size w (v5.alloc (.cells #[.int .i64 (W : Int), .string D] 64))) := A1.out.trans (zb.mono A1.out.size)
  have d0 : Hid ((v5.alloc (.cells #[.int .i64 (W : Int), .string D] 64)).cell? ⟨v5.heap.size, 0, none⟩ = some (.int .i64 (W : Int))) := slot0 v5 _ D _
  have d1 : Hid ((v5.alloc (.cells #[.int .i64 (W : Int), .string D] 64)).cell? ⟨v5.heap.size, 1, none⟩ = some (.string D)) := slot1 v5 _ D _
  have dl : Hid (v5.heap.size < (v5.alloc (.cells #[.int .i64 (W : Int), .string D] 64)).heap.size) := by show _ < _; simp
  have HRR : Hid (RB = true ↔ SlotR (W : Int) D) := by
   show RB = true ↔ _
   rw [RS.out, Bool.true_and, decide_eq_true_iff]
   unfold SlotR
   rw [hDs]
   have := HW.out
   constructor
   ·intro h; omega
   ·intro h; omega
  clear zb Z0 A1 ho hq hD hDs RS
  go_wp2_with fail
  generalize (v5.alloc (.cells #[.int .i64 (W : Int), .string D] 64)) = v6 at *
  refine (SK.out _ RB _ HRR.out).mono ?_
  rintro e v7 ⟨rfl, hb⟩
  replace Z1 := Z1.out.below hb
  have z0 := Z1.c0
  have z1 := Z1.c1
  have z2 := Z1.fr 0
  have z3 := Z1.fr 1
  have e0 := (hb.cell dl.out).trans d0.out
  have e1 := (hb.cell dl.out).trans d1.out
  replace B5 : Hid (Below w.heap.size w v7) := B5.out.trans (hb.mono B5.out.size)
  clear hb d0 d1 dl SK HRR cv1 HW HM
  cases RB with
  | false =>
   obtain ⟨rfl, rfl, rfl⟩ := RN.out rfl
   clear RN RY
   go_wp2
   exact retCell2 (b := w.heap.size) (v := .agg #[.int .i64 0, .string ⟨#[]⟩]) Tryz.results54 rfl rfl (by go_simp) ⟨rfl, (B5.out.setCell (Nat.le_refl _) _).setCell (Nat.le_refl _) _⟩
  | true =>
   obtain ⟨rfl, rfl, rfl⟩ := RY.out rfl
   clear RN RY
   go_wp2
   exact retCell2 (b := w.heap.size) (v := .agg #[.int .i64 (W : Int), .string _]) Tryz.results54 rfl rfl (by go_simp) ⟨rfl, (B5.out.setCell (Nat.le_refl _) _).setCell (Nat.le_refl _) _⟩
end Go.Proofs.YtboekhegbachpaaGreatDoor
