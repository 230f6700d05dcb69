/-
  Texts of the proof, joined: SlotRd, TagS, Table.
-/
import Derived.Test.YtbecnaabmlkjjabGreatDoorP24
import Derived.Test.YtbecnaabmlkjjabGreatDoorP03
import Derived.Test.YtbecnaabmlkjjabGreatDoorP23
import Derived.Test.YtbecnaabmlkjjabGreatDoorP14
import Derived.Deep.OwnRows
import Derived.Deep.RegionHeld3
namespace Go.Proofs.YtbecnaabmlkjjabGreatDoor
open Go.ChangeShapes Go.WideShapes Go.ChangeAt Go.RowKit
set_option linter.unusedVariables false
theorem or_add (x i y : Nat) (h : y < 2 ^ i) : x * 2 ^ i ||| y = x * 2 ^ i + y := by
  rw [Nat.mul_comm]
  exact (Nat.two_pow_add_eq_or_of_lt h x).symm
/-- Four bytes as a number. -/
theorem word_num (f : Nat → Nat) (hf : ∀ i, f i < 256) : Sha.word f 0 = ((f 0 * 256 + f 1) * 256 + f 2) * 256 + f 3 := by
  have h0 := hf 0
  have h1 := hf 1
  have h2 := hf 2
  have h3 := hf 3
  show Sha.orr (Sha.orr (Sha.orr (Sha.sl (f 0) 24) (Sha.sl (f 1) 16)) (Sha.sl (f 2) 8)) (f 3) = _
  generalize f 0 = a at *
  generalize f 1 = b at *
  generalize f 2 = c at *
  generalize f 3 = d at *
  have s0 : Sha.sl a 24 = a * 2 ^ 24 := Nat.mod_eq_of_lt (by omega)
  have s1 : Sha.sl b 16 = b * 2 ^ 16 := Nat.mod_eq_of_lt (by omega)
  have s2 : Sha.sl c 8 = c * 2 ^ 8 := Nat.mod_eq_of_lt (by omega)
  have e1 : a * 2 ^ 24 ||| b * 2 ^ 16 = (a * 256 + b) * 2 ^ 16 := by rw [or_add a 24 (b * 2 ^ 16) (by omega)]; omega
  have e2 : (a * 256 + b) * 2 ^ 16 ||| c * 2 ^ 8 = ((a * 256 + b) * 256 + c) * 2 ^ 8 := by rw [or_add _ 16 (c * 2 ^ 8) (by omega)]; omega
  have e3 : ((a * 256 + b) * 256 + c) * 2 ^ 8 ||| d = ((a * 256 + b) * 256 + c) * 2 ^ 8 + d := or_add _ 8 d (by omega)
  rw [s0, s1, s2]
  unfold Sha.orr
  rw [e1, Nat.mod_eq_of_lt (by omega : (a * 256 + b) * 2 ^ 16 < 4294967296), e2, Nat.mod_eq_of_lt (by omega : ((a * 256 + b) * 256 + c) * 2 ^ 8 < 4294967296), e3, Nat.mod_eq_of_lt (by omega)]
/-- The nonce that the bytes of a slot name. -/
def rdN (p : Nat) (f : Nat → Nat) : ByteArray := kstr (nonceF p (Sha.word f 0)) 0 12
/-- Whether n bytes are those of a slot at place p. -/
def rdS (k : ByteArray) (p n : Nat) (f : Nat → Nat) : Bool := decide (20 ≤ n) && (okT k (rdN p f) 4 slotX (n - 20) (fun i => f (4 + i)) && decide (1 ≤ Sha.word f 0 ∧ n - 20 ≤ 170))
def rdE (k : ByteArray) (p n : Nat) (f : Nat → Nat) : Int := if rdS k p n f then (Sha.word f 0 : Nat) else 0
def rdD (k : ByteArray) (p n : Nat) (f : Nat → Nat) : ByteArray := if rdS k p n f then kstr (streamF k (rdN p f) (fun i => f (4 + i))) 0 (n - 20) else ⟨#[]⟩
def rdC (k : ByteArray) (p n : Nat) (f : Nat → Nat) : Int := if rdS k p n f then 0 else 10
theorem rd_no {k : ByteArray} {p n : Nat} {f : Nat → Nat} (h : rdS k p n f = false) : rdE k p n f = 0 ∧ rdD k p n f = ⟨#[]⟩ ∧ rdC k p n f = 10 := by unfold rdE rdD rdC; rw [h]; exact ⟨rfl, rfl, rfl⟩
theorem rd_yes {k : ByteArray} {p n : Nat} {f : Nat → Nat} (h : rdS k p n f = true) : rdE k p n f = (Sha.word f 0 : Nat) ∧ rdD k p n f = kstr (streamF k (rdN p f) (fun i => f (4 + i))) 0 (n - 20) ∧ rdC k p n f = 0 := by unfold rdE rdD rdC; rw [h]; exact ⟨rfl, rfl, rfl⟩
theorem conv_nil {w : World} : (convert 88 9 (.slice none 0 0)).run Tryz.prog w = .ok (.string ⟨#[]⟩) w := by
  simp [convert, run_underlying Tryz.underlying88, run_underlying Tryz.underlying5, run_underlying Tryz.underlying9, Conv.bytesToString, Result.andThen]; rfl
/-- A zero slot in a variable. -/
structure Z2 (b : Nat) (w : World) : Prop where
  c0 : w.cell? ⟨b, 0, none⟩ = some (.int .i64 0)
  c1 : w.cell? ⟨b, 1, none⟩ = some (.string ⟨#[]⟩)
  fr : ∀ i, w.frozen? ⟨b, i, none⟩ = false
  lt : b < w.heap.size
theorem Z2.below {b : Nat} {w w' : World} (h : Z2 b w) (hb : Below w.heap.size w w') : Z2 b w' := ⟨(hb.cell (p := ⟨b, 0, none⟩) h.lt).trans h.c0, (hb.cell (p := ⟨b, 1, none⟩) h.lt).trans h.c1, fun i => (hb.frozen (p := ⟨b, i, none⟩) h.lt).trans (h.fr i), Nat.lt_of_lt_of_le h.lt hb.size⟩
theorem Z2.made (w : World) (t : TypeId) : Z2 w.heap.size (w.alloc (.cells #[.int .i64 0, .string ⟨#[]⟩] t)) := ⟨by simp, by simp, fun i => by simp, by simp⟩
set_option maxRecDepth 100000 in
set_option maxHeartbeats 4000000 in
theorem unsealed_short (k : ByteArray) (p : Int) (a : Option Addr) (n c : Nat) (hn : n < 4) (w : World) :
    Calls Tryz.prog 53 #[.string k, .int .i64 p, .slice a n c] w fun e w' => e = .returned (.tuple #[.agg #[.int .i64 0, .string ⟨#[]⟩], .int .i64 10]) ∧ Below w.heap.size w w' := by
  have x1 : (n : Int) < 4 := by omega
  clear hn
  go_enter Tryz.func53, Tryz.ntmps53
  go_wp2
  refine retCell2 (b := w.heap.size) (v := .agg #[.int .i64 0, .string ⟨#[]⟩]) Tryz.results53 rfl rfl (by go_simp) ⟨rfl, ?_⟩
  exact (Below.refl _ _).alloc (Nat.le_refl _) _
set_option maxRecDepth 100000 in
set_option maxHeartbeats 4000000 in
theorem unsealed_mid (k : ByteArray) (p b o n c : Nat) (f : Nat → Nat) (hf : ∀ i, f i < 256) (hk : k.size = 32) (hp : p < 4294967296) (hn : 4 ≤ n) (hn2 : n < 20) (hcap : n ≤ c) (w : World) (hc : Code8 w (some ⟨b, o, none⟩) n f) (ht : Tabs w) :
    Calls Tryz.prog 53 #[.string k, .int .i64 (p : Int), .slice (some ⟨b, o, none⟩) n c] w fun e w' => e = .returned (.tuple #[.agg #[.int .i64 0, .string ⟨#[]⟩], .int .i64 10]) ∧ Below w.heap.size w w' := by
  have WO : Hid (∀ w : World, Code8 w (some ⟨b, o, none⟩) n f → Calls Tryz.prog 73 #[.slice (some ⟨b, o, none⟩) n c] w fun e w' => e = .returned (.int .u32 ((Sha.word f 0 : Nat) : Int)) ∧ Below w.heap.size w w') := fun w h => wordOf_any b o n c f hf hn w h
  have hW := Sha.word_lt f 0
  have NO : Hid (∀ w : World, Calls Tryz.prog 74 #[.int .i64 (p : Int), .int .i64 ((Sha.word f 0 : Nat) : Int)] w fun e w' => e = .returned (.tuple #[.string (kstr (nonceF p (Sha.word f 0)) 0 12), .int .i64 0]) ∧ Below w.heap.size w w') := fun w => implNonce_yes p (Sha.word f 0) hp hW w
  have hNz : (kstr (nonceF p (Sha.word f 0)) 0 12).size = 12 := kstr_size _ _ _
  have OP : Hid (∀ (xa ba : Option Addr) (xc m bc : Nat) (w : World), m < 16 → Calls Tryz.prog 75 #[.string k, .string (kstr (nonceF p (Sha.word f 0)) 0 12), .slice xa 4 xc, .slice ba m bc] w fun e w' => e = .returned (.tuple #[.slice none 0 0, .int .i64 3]) ∧ w = w') := fun xa ba xc m bc w hm => implOpen_form k _ xa ba 4 xc m bc hm (sfault_ok k _ 4 m 65536 hk hNz (by omega) (by omega)) w
  have HC : Hid (Code8 w (some ⟨b, o, none⟩) n f) := hc
  have HT : Hid (Tabs w) := ht
  generalize kstr (nonceF p (Sha.word f 0)) 0 12 = NN at *
  generalize Sha.word f 0 = W at *
  have wrp : IntKind.i64.wrap (W : Int) = (W : Int) := IntWalk.i64_in _ ⟨by omega, by omega⟩
  have A1 : Hid (Below w.heap.size w (w.alloc (.cells #[.int .i64 0, .string ⟨#[]⟩] 28))) := (Below.refl _ _).alloc (Nat.le_refl _) _
  have Z0 : Hid (Z2 w.heap.size (w.alloc (.cells #[.int .i64 0, .string ⟨#[]⟩] 28))) := Z2.made w _
  clear hc ht hf hW
  go_enter Tryz.func53, Tryz.ntmps53
  go_wp2_with fail
  generalize (w.alloc (.cells #[.int .i64 0, .string ⟨#[]⟩] 28)) = v1 at *
  refine (WO.out _ (HC.out.below A1.out)).mono ?_
  rintro e v2 ⟨rfl, hb⟩
  replace A1 : Hid (Below w.heap.size w v2) := A1.out.trans (hb.mono A1.out.size)
  replace Z0 : Hid (Z2 w.heap.size v2) := Z0.out.below hb
  clear hb WO
  go_wp2_with fail
  refine (NO.out _).mono ?_
  rintro e v3 ⟨rfl, hb⟩
  replace A1 : Hid (Below w.heap.size w v3) := A1.out.trans (hb.mono A1.out.size)
  replace Z0 : Hid (Z2 w.heap.size v3) := Z0.out.below hb
  clear hb NO
  have hcv1 : (convert 88 88 (.slice (some ⟨v3.heap.size, 0, none⟩) 4 4)).run Tryz.prog (v3.alloc (.cells #[.int .u8 115, .int .u8 108, .int .u8 111, .int .u8 116] 5)) = .ok (.slice (some ⟨v3.heap.size, 0, none⟩) 4 4) (v3.alloc (.cells #[.int .u8 115, .int .u8 108, .int .u8 111, .int .u8 116] 5 (4, 5))) := conv_rowS v3 #[.int .u8 115, .int .u8 108, .int .u8 111, .int .u8 116] 4 4
  have hb : Below v3.heap.size v3 (v3.alloc (.cells #[.int .u8 115, .int .u8 108, .int .u8 111, .int .u8 116] 5 (4, 5))) := (Below.refl _ _).alloc (Nat.le_refl _) _
  have X4 : Hid (Code8 (v3.alloc (.cells #[.int .u8 115, .int .u8 108, .int .u8 111, .int .u8 116] 5 (4, 5))) (some ⟨v3.heap.size, 0, none⟩) 4 slotX) := slot_code v3
  replace A1 : Hid (Below w.heap.size w (v3.alloc (.cells #[.int .u8 115, .int .u8 108, .int .u8 111, .int .u8 116] 5 (4, 5)))) := A1.out.trans (hb.mono A1.out.size)
  replace Z0 : Hid (Z2 w.heap.size (v3.alloc (.cells #[.int .u8 115, .int .u8 108, .int .u8 111, .int .u8 116] 5 (4, 5)))) := Z0.out.below hb
  clear hb
  generalize (v3.alloc (.cells #[.int .u8 115, .int .u8 108, .int .u8 111, .int .u8 116] 5 (4, 5))) = v4 at *
  have x1 : ¬ (n : Int) < 4 := by omega
  have x2 : (4 : Int) ≤ (n : Int) := by omega
  have x3 : (n : Int) ≤ (c : Int) := by omega
  have cvn := fun w : World => conv_nil (w := w)
  by_cases hc4 : c - 4 = 0
  · go_wp2_with fail
    refine (OP.out _ _ _ _ _ _ (by omega)).mono ?_
    rintro e v5 ⟨rfl, rfl⟩
    have zb : Below v4.heap.size v4 (v4.alloc (.cells #[.int .i64 (W : Int), .string ⟨#[]⟩] 28)) := (Below.refl _ _).alloc (Nat.le_refl _) _
    have Z1 := Z0.out.below zb
    have z0 := Z1.c0
    have z1 := Z1.c1
    have z2 := Z1.fr 0
    have z3 := Z1.fr 1
    have B5 : Hid (Below w.heap.size w (v4.alloc (.cells #[.int .i64 (W : Int), .string ⟨#[]⟩] 28))) := A1.out.trans (zb.mono A1.out.size)
    have cv1 := cvn v4
    clear zb Z1
    clear OP X4 hcv1 HC HT cvn
    go_wp2
    exact retCell2 (b := w.heap.size) (v := .agg #[.int .i64 0, .string ⟨#[]⟩]) Tryz.results53 rfl rfl (by go_simp) ⟨rfl, (B5.out.setCell (Nat.le_refl _) _).setCell (Nat.le_refl _) _⟩
  · go_wp2_with fail
    refine (OP.out _ _ _ _ _ _ (by omega)).mono ?_
    rintro e v5 ⟨rfl, rfl⟩
    have zb : Below v4.heap.size v4 (v4.alloc (.cells #[.int .i64 (W : Int), .string ⟨#[]⟩] 28)) := (Below.refl _ _).alloc (Nat.le_refl _) _
    have Z1 := Z0.out.below zb
    have z0 := Z1.c0
    have z1 := Z1.c1
    have z2 := Z1.fr 0
    have z3 := Z1.fr 1
    have B5 : Hid (Below w.heap.size w (v4.alloc (.cells #[.int .i64 (W : Int), .string ⟨#[]⟩] 28))) := A1.out.trans (zb.mono A1.out.size)
    have cv1 := cvn v4
    clear zb Z1
    clear OP X4 hcv1 HC HT cvn
    go_wp2
    exact retCell2 (b := w.heap.size) (v := .agg #[.int .i64 0, .string ⟨#[]⟩]) Tryz.results53 rfl rfl (by go_simp) ⟨rfl, (B5.out.setCell (Nat.le_refl _) _).setCell (Nat.le_refl _) _⟩
set_option maxRecDepth 100000 in
set_option maxHeartbeats 4000000 in
theorem unsealed_long (k : ByteArray) (p b o m c : Nat) (f : Nat → Nat) (hf : ∀ i, f i < 256) (hk : k.size = 32) (hp : p < 4294967296) (hm : m ≤ 65516) (hcap : m + 20 ≤ c) (w : World) (hc : Code8 w (some ⟨b, o, none⟩) (m + 20) f) (ht : Tabs w) :
    Calls Tryz.prog 53 #[.string k, .int .i64 (p : Int), .slice (some ⟨b, o, none⟩) (m + 20) c] w fun e w' => e = .returned (.tuple #[.agg #[.int .i64 (rdE k p (m + 20) f), .string (rdD k p (m + 20) f)], .int .i64 (rdC k p (m + 20) f)]) ∧ Below w.heap.size w w' := by
  have WO : Hid (∀ w : World, Code8 w (some ⟨b, o, none⟩) (m + 20) f → Calls Tryz.prog 73 #[.slice (some ⟨b, o, none⟩) (m + 20) c] w fun e w' => e = .returned (.int .u32 ((Sha.word f 0 : Nat) : Int)) ∧ Below w.heap.size w w') := fun w h => wordOf_any b o (m + 20) c f hf (by omega) w h
  have hW := Sha.word_lt f 0
  have NO : Hid (∀ w : World, Calls Tryz.prog 74 #[.int .i64 (p : Int), .int .i64 ((Sha.word f 0 : Nat) : Int)] w fun e w' => e = .returned (.tuple #[.string (kstr (nonceF p (Sha.word f 0)) 0 12), .int .i64 0]) ∧ Below w.heap.size w w') := fun w => implNonce_yes p (Sha.word f 0) hp hW w
  have hNz : (kstr (nonceF p (Sha.word f 0)) 0 12).size = 12 := kstr_size _ _ _
  have OP : Hid (∀ (xb : Nat) (w : World), Code8 w (some ⟨xb, 0, none⟩) 4 slotX → Code8 w (some ⟨b, o + 4, none⟩) (m + 16) (fun i => f (4 + i)) → Tabs w → Calls Tryz.prog 75 #[.string k, .string (kstr (nonceF p (Sha.word f 0)) 0 12), .slice (some ⟨xb, 0, none⟩) 4 4, .slice (some ⟨b, o + 4, none⟩) (m + 20 - 4) (c - 4)] w fun e w' => RetOpen w w' e m (streamF k (rdN p f) (fun i => f (4 + i))) (okT k (rdN p f) 4 slotX m (fun i => f (4 + i))) ∧ Below w.heap.size w w') := fun xb w h1 h2 h3 => by
    rw [show m + 20 - 4 = m + 16 from by omega]
    exact implOpen_at k _ xb 0 4 4 b (o + 4) m (c - 4) slotX _ hk hNz (by omega) (by omega) (by omega) slotX_lt (fun i => hf _) w h1 h2 h3
  have RS : Hid (rdS k p (m + 20) f = (okT k (rdN p f) 4 slotX m (fun i => f (4 + i)) && decide (1 ≤ Sha.word f 0 ∧ m ≤ 170))) := by
    show rdS _ _ _ _ = _
    unfold rdS
    rw [show m + 20 - 20 = m from by omega, show decide (20 ≤ m + 20) = true from decide_eq_true (by omega), Bool.true_and]
  have RY : Hid (rdS k p (m + 20) f = true → rdE k p (m + 20) f = (Sha.word f 0 : Nat) ∧ rdD k p (m + 20) f = kstr (streamF k (rdN p f) (fun i => f (4 + i))) 0 m ∧ rdC k p (m + 20) f = 0) := fun h => by
    have := rd_yes h
    rw [show m + 20 - 20 = m from by omega] at this
    exact this
  have RN : Hid (rdS k p (m + 20) f = false → rdE k p (m + 20) f = 0 ∧ rdD k p (m + 20) f = ⟨#[]⟩ ∧ rdC k p (m + 20) f = 10) := fun h => rd_no h
  have HX : Hid (Code8 w (some ⟨b, o + 4, none⟩) (m + 16) (fun i => f (4 + i))) := code8_of (fun i hi => by
    obtain ⟨b', o', e, hcc⟩ := hc (4 + i) (by omega)
    cases e
    rw [← Nat.add_assoc] at hcc
    exact hcc)
  have SK : Hid (∀ (d : ByteArray) (r : Bool) (w : World), (r = true ↔ SlotR ((Sha.word f 0 : Nat) : Int) d) → Calls Tryz.prog 32 #[.agg #[.int .i64 ((Sha.word f 0 : Nat) : Int), .string d]] w fun e w' => e = .returned (.bool r) ∧ Below w.heap.size w w') := fun d r w hr => implSlotOK_any _ d r hr w
  have HC : Hid (Code8 w (some ⟨b, o, none⟩) (m + 20) f) := hc
  have HT : Hid (Tabs w) := ht
  generalize kstr (nonceF p (Sha.word f 0)) 0 12 = NN at *
  generalize Sha.word f 0 = W at *
  generalize rdS k p (m + 20) f = RB at *
  generalize rdE k p (m + 20) f = RE at *
  generalize rdD k p (m + 20) f = RD at *
  generalize rdC k p (m + 20) f = RC at *
  generalize okT k (rdN p f) 4 slotX m (fun i => f (4 + i)) = OKB at *
  generalize streamF k (rdN p f) (fun i => f (4 + i)) = F at *
  have HW : Hid (W < 4294967296) := hW
  have wrp : IntKind.i64.wrap (W : Int) = (W : Int) := IntWalk.i64_in _ ⟨by omega, by omega⟩
  have A1 : Hid (Below w.heap.size w (w.alloc (.cells #[.int .i64 0, .string ⟨#[]⟩] 28))) := (Below.refl _ _).alloc (Nat.le_refl _) _
  have Z0 : Hid (Z2 w.heap.size (w.alloc (.cells #[.int .i64 0, .string ⟨#[]⟩] 28))) := Z2.made w _
  clear hc ht hf hW hNz
  go_enter Tryz.func53, Tryz.ntmps53
  go_wp2_with fail
  generalize (w.alloc (.cells #[.int .i64 0, .string ⟨#[]⟩] 28)) = v1 at *
  refine (WO.out _ (HC.out.below A1.out)).mono ?_
  rintro e v2 ⟨rfl, hb⟩
  replace A1 : Hid (Below w.heap.size w v2) := A1.out.trans (hb.mono A1.out.size)
  replace Z0 : Hid (Z2 w.heap.size v2) := Z0.out.below hb
  clear hb WO
  go_wp2_with fail
  refine (NO.out _).mono ?_
  rintro e v3 ⟨rfl, hb⟩
  replace A1 : Hid (Below w.heap.size w v3) := A1.out.trans (hb.mono A1.out.size)
  replace Z0 : Hid (Z2 w.heap.size v3) := Z0.out.below hb
  clear hb NO
  have hcv1 : (convert 88 88 (.slice (some ⟨v3.heap.size, 0, none⟩) 4 4)).run Tryz.prog (v3.alloc (.cells #[.int .u8 115, .int .u8 108, .int .u8 111, .int .u8 116] 5)) = .ok (.slice (some ⟨v3.heap.size, 0, none⟩) 4 4) (v3.alloc (.cells #[.int .u8 115, .int .u8 108, .int .u8 111, .int .u8 116] 5 (4, 5))) := conv_rowS v3 #[.int .u8 115, .int .u8 108, .int .u8 111, .int .u8 116] 4 4
  have hb : Below v3.heap.size v3 (v3.alloc (.cells #[.int .u8 115, .int .u8 108, .int .u8 111, .int .u8 116] 5 (4, 5))) := (Below.refl _ _).alloc (Nat.le_refl _) _
  have X4 : Hid (Code8 (v3.alloc (.cells #[.int .u8 115, .int .u8 108, .int .u8 111, .int .u8 116] 5 (4, 5))) (some ⟨v3.heap.size, 0, none⟩) 4 slotX) := slot_code v3
  replace A1 : Hid (Below w.heap.size w (v3.alloc (.cells #[.int .u8 115, .int .u8 108, .int .u8 111, .int .u8 116] 5 (4, 5)))) := A1.out.trans (hb.mono A1.out.size)
  replace Z0 : Hid (Z2 w.heap.size (v3.alloc (.cells #[.int .u8 115, .int .u8 108, .int .u8 111, .int .u8 116] 5 (4, 5)))) := Z0.out.below hb
  clear hb
  generalize (v3.alloc (.cells #[.int .u8 115, .int .u8 108, .int .u8 111, .int .u8 116] 5 (4, 5))) = v4 at *
  have x1 : ¬ ((m + 20 : Nat) : Int) < 4 := by omega
  have x2 : (4 : Int) ≤ ((m + 20 : Nat) : Int) := by omega
  have x3 : ((m + 20 : Nat) : Int) ≤ (c : Int) := by omega
  have hc4 : ¬ c - 4 = 0 := by omega
  have HM : Hid (m ≤ 65516) := hm
  clear hm hcap
  obtain ⟨L, hL⟩ : ∃ L, L = m + 20 := ⟨_, rfl⟩
  rw [← hL] at OP x1 x2 x3 ⊢
  clear hL
  go_wp2_with fail
  refine (OP.out _ _ X4.out (HX.out.below A1.out) (HT.out.below A1.out)).mono ?_
  rintro e v5 ⟨ho, hb⟩
  replace A1 : Hid (Below w.heap.size w v5) := A1.out.trans (hb.mono A1.out.size)
  replace Z0 : Hid (Z2 w.heap.size v5) := Z0.out.below hb
  clear hb OP X4 hcv1 HC HT HX
  cases OKB with
  | false =>
    obtain rfl : e = .returned (.tuple #[.slice none 0 0, .int .i64 10]) := by unfold RetOpen at ho; rw [if_neg (by decide)] at ho; exact ho
    obtain ⟨rfl, rfl, rfl⟩ := RN.out RS.out
    have zb : Below v5.heap.size v5 (v5.alloc (.cells #[.int .i64 (W : Int), .string ⟨#[]⟩] 28)) := (Below.refl _ _).alloc (Nat.le_refl _) _
    have Z1 := Z0.out.below zb
    have z0 := Z1.c0
    have z1 := Z1.c1
    have z2 := Z1.fr 0
    have z3 := Z1.fr 1
    have B5 : Hid (Below w.heap.size w (v5.alloc (.cells #[.int .i64 (W : Int), .string ⟨#[]⟩] 28))) := A1.out.trans (zb.mono A1.out.size)
    have cv1 := conv_nil (w := v5)
    clear zb Z1 ho RS RY RN SK
    go_wp2
    exact retCell2 (b := w.heap.size) (v := .agg #[.int .i64 0, .string ⟨#[]⟩]) Tryz.results53 rfl rfl (by go_simp) ⟨rfl, (B5.out.setCell (Nat.le_refl _) _).setCell (Nat.le_refl _) _⟩
  | true =>
    obtain ⟨g, gc, -, rfl, hq⟩ : RetB2 v4 v5 e m F (.int .i64 0) := by unfold RetOpen at ho; rw [if_pos rfl] at ho; exact ho
    have cv1 := kstr_of_code (c := gc) hq.code
    obtain ⟨D, hD⟩ : ∃ D, D = kstr F 0 m := ⟨_, rfl⟩
    have hDs : D.size = m := by rw [hD]; exact kstr_size _ _ _
    rw [← hD] at cv1 RY
    have zb : Below v5.heap.size v5 (v5.alloc (.cells #[.int .i64 (W : Int), .string D] 28)) := (Below.refl _ _).alloc (Nat.le_refl _) _
    have Z1 : Hid (Z2 w.heap.size (v5.alloc (.cells #[.int .i64 (W : Int), .string D] 28))) := Z0.out.below zb
    have B5 : Hid (Below w.heap.size w (v5.alloc (.cells #[.int .i64 (W : Int), .string D] 28))) := A1.out.trans (zb.mono A1.out.size)
    have d0 : Hid ((v5.alloc (.cells #[.int .i64 (W : Int), .string D] 28)).cell? ⟨v5.heap.size, 0, none⟩ = some (.int .i64 (W : Int))) := slot0 v5 _ D _
    have d1 : Hid ((v5.alloc (.cells #[.int .i64 (W : Int), .string D] 28)).cell? ⟨v5.heap.size, 1, none⟩ = some (.string D)) := slot1 v5 _ D _
    have dl : Hid (v5.heap.size < (v5.alloc (.cells #[.int .i64 (W : Int), .string D] 28)).heap.size) := by show _ < _; simp
    have HRR : Hid (RB = true ↔ SlotR (W : Int) D) := by
      show RB = true ↔ _
      rw [RS.out, Bool.true_and, decide_eq_true_iff]
      unfold SlotR
      rw [hDs]
      have := HW.out
      constructor
      · intro h; omega
      · intro h; omega
    clear zb Z0 A1 ho hq hD hDs RS
    go_wp2_with fail
    generalize (v5.alloc (.cells #[.int .i64 (W : Int), .string D] 28)) = v6 at *
    refine (SK.out _ RB _ HRR.out).mono ?_
    rintro e v7 ⟨rfl, hb⟩
    replace Z1 := Z1.out.below hb
    have z0 := Z1.c0
    have z1 := Z1.c1
    have z2 := Z1.fr 0
    have z3 := Z1.fr 1
    have e0 := (hb.cell dl.out).trans d0.out
    have e1 := (hb.cell dl.out).trans d1.out
    replace B5 : Hid (Below w.heap.size w v7) := B5.out.trans (hb.mono B5.out.size)
    clear hb d0 d1 dl SK HRR cv1 HW HM
    cases RB with
    | false =>
      obtain ⟨rfl, rfl, rfl⟩ := RN.out rfl
      clear RN RY
      go_wp2
      exact retCell2 (b := w.heap.size) (v := .agg #[.int .i64 0, .string ⟨#[]⟩]) Tryz.results53 rfl rfl (by go_simp) ⟨rfl, (B5.out.setCell (Nat.le_refl _) _).setCell (Nat.le_refl _) _⟩
    | true =>
      obtain ⟨rfl, rfl, rfl⟩ := RY.out rfl
      clear RN RY
      go_wp2
      exact retCell2 (b := w.heap.size) (v := .agg #[.int .i64 (W : Int), .string _]) Tryz.results53 rfl rfl (by go_simp) ⟨rfl, (B5.out.setCell (Nat.le_refl _) _).setCell (Nat.le_refl _) _⟩
end Go.Proofs.YtbecnaabmlkjjabGreatDoor
namespace Go.Proofs.YtbecnaabmlkjjabGreatDoor
open Go.ChangeShapes Go.WideShapes Go.ChangeAt Go.RowKit
set_option maxRecDepth 100000 in
set_option maxHeartbeats 4000000 in
theorem l04Tag_any (k s : ByteArray) (xb xo m xc b o n c : Nat) (fx f : Nat → Nat) (hs : s.size = 12) (hm : m ≤ 65536) (hn : n ≤ 65536) (hfx : ∀ i, fx i < 256) (hf : ∀ i, f i < 256) (w : World) (hx : Code8 w (some ⟨xb, xo, none⟩) m fx) (hc : Code8 w (some ⟨b, o, none⟩) n f) :
    Calls Tryz.prog 85 #[.string (tagS k), .string s, .slice (some ⟨xb, xo, none⟩) m xc, .slice (some ⟨b, o, none⟩) n c] w fun e w' => e = .returned (.string (tagT k s m fx n f)) ∧ Below w.heap.size w w' := by
  have FO : Hid (∀ w : World, Calls Tryz.prog 76 #[.int .i64 (m : Int)] w fun e w' => e = .returned (.slice (some ⟨w.heap.size, 0, none⟩) 4 4) ∧ Own8 w' w.heap.size 4 (fourF m) ∧ Below w.heap.size w w') := fun w => l02FourB_any m (by omega) w
  have HM : Hid (∀ (b0 c0 b1 c1 : Nat) (w : World), Code8 w (some ⟨b0, 0, none⟩) 32 (strB (tagS k)) → Code8 w (some ⟨b1, 0, none⟩) (16 + m + n) (Sha.cat 16 (numF 12 4 m (strB s)) (Sha.cat m fx f)) → Calls Tryz.prog 95 #[.slice (some ⟨b0, 0, none⟩) 32 c0, .slice (some ⟨b1, 0, none⟩) (16 + m + n) c1] w fun e w' => e = .returned (.string (kstr (macT k s m fx n f) 0 32)) ∧ Below w.heap.size w w') := fun b0 c0 b1 c1 w h0 h1 => l03Hmac_any b0 0 32 c0 b1 0 (16 + m + n) c1 _ _ (strB_lt _) (Sha.cat_lt (numF_lt (strB_lt s)) (Sha.cat_lt hfx hf)) (by omega) (by omega) w h0 h1
  have hex : (kstr (macT k s m fx n f) 0 32).extract 0 16 = tagT k s m fx n f := by
    have := kstr_extract (kstr (macT k s m fx n f) 0 32) 0 16 (by rw [kstr_size]; omega)
    rw [Nat.zero_add] at this
    rw [this]
    exact kstr_congr (fun i hi => by rw [Nat.zero_add, strB_kstr _ 0 32 i (by rw [Nat.zero_add]; exact macT_lt _ _ _ _ _ _ _) (by omega), Nat.zero_add])
  have hms : (kstr (macT k s m fx n f) 0 32).size = 32 := kstr_size _ _ _
  have hks : (tagS k).size = 32 := tagS_size k
  generalize kstr (macT k s m fx n f) 0 32 = MS at *
  generalize tagT k s m fx n f = TT at *
  generalize tagS k = TK at *
  obtain ⟨w1, c1, hcv, hr1, hb1⟩ := bytesOfR s w
  rw [hs] at hcv hr1
  have R1 : Hid (RowM w1 w.heap.size 12 c1 (strB s)) := hr1
  have B1 : Hid (Below w.heap.size w w1) := hb1
  have HX : Hid (Code8 w (some ⟨xb, xo, none⟩) m fx) := hx
  have HC : Hid (Code8 w (some ⟨b, o, none⟩) n f) := hc
  clear hx hc hr1 hb1 hfx hf hs
  go_enter Tryz.func85, Tryz.ntmps85
  go_wp2_with fail
  refine (FO.out _).mono ?_
  rintro e w2 ⟨rfl, ho2, hb2⟩
  have B2 := B1.out.trans (hb2.mono B1.out.size)
  obtain ⟨g3, c3, w3, ha3, hr3, hb3, hg3⟩ := appendM w2 w.heap.size w.heap.size 12 c1 (strB s) w1.heap.size 0 4 4 (fourF m) (Nat.le_refl _) B2.size (by omega) (R1.out.below hb2) ho2.code 88
  have B3 := B2.trans hb3
  obtain ⟨g4, c4, w4, ha4, hr4, hb4, hg4⟩ := appendM w3 w.heap.size g3 (12 + 4) c3 _ xb xo m xc fx hg3 B3.size (by omega) hr3 (HX.out.below B3) 88
  have B4 := B3.trans hb4
  obtain ⟨g5, c5, w5, ha5, hr5, hb5, hg5⟩ := appendM w4 w.heap.size g4 (12 + 4 + m) c4 _ b o n c f hg4 B4.size (by omega) hr4 (HC.out.below B4) 88
  have B5 : Hid (Below w.heap.size w w5) := B4.trans hb5
  obtain ⟨w6, c6, hcv6, hk6, hb6, _⟩ := bytesOfM TK w5
  rw [hks] at hcv6 hk6
  have K6 : Hid (Code8 w6 (some ⟨w5.heap.size, 0, none⟩) 32 (strB TK)) := hk6
  have R6 : Hid (Code8 w6 (some ⟨g5, 0, none⟩) (16 + m + n) (Sha.cat 16 (numF 12 4 m (strB s)) (Sha.cat m fx f))) := (hr5.code.below hb6).congr (fun i hi => by
    unfold Sha.cat
    by_cases h0 : i < 12
    · rw [if_pos (by omega), if_pos (by omega), if_pos h0, if_pos (by omega)]
      unfold numF
      rw [if_pos h0]
    · by_cases h1 : i < 16
      · rw [if_pos (by omega), if_pos (by omega), if_neg h0, if_pos h1]
        have := four_num 12 m (strB s) (i - 12)
        rw [show 12 + (i - 12) = i from by omega] at this
        exact this.symm
      · rw [if_neg h1]
        by_cases h2 : i < 16 + m
        · rw [if_pos (by omega), if_neg (by omega), if_pos (by omega)]
        · rw [if_neg (show ¬ i < 12 + 4 + m by omega), if_neg h1, if_neg (show ¬ i - 16 < m by omega), show i - 16 - m = i - (12 + 4 + m) from by omega])
  have B6 : Hid (Below w.heap.size w w6) := B5.out.trans (hb6.mono B5.out.size)
  have A3 : Hid _ := ha3
  have A4 : Hid _ := ha4
  have A5 : Hid _ := ha5
  clear ho2 hb2 B2 hr3 hb3 hg3 B3 hr4 hb4 hg4 B4 hr5 hb5 hg5 hk6 hb6 ha3 ha4 ha5 HX HC B5 R1 B1 FO
  generalize w5.heap.size = b5 at *
  go_wp2_with (first
    | (at_builtin; refine Lib.wpList_append_run _ rfl (.tmp 11) (.tmp 14) _ _ rfl _ _ rfl rfl _ _ A3.out ?_)
    | (at_builtin; refine Lib.wpList_append_run _ rfl (.tmp 16) (.tmp 17) _ _ rfl _ _ rfl rfl _ _ A4.out ?_)
    | (at_builtin; refine Lib.wpList_append_run _ rfl (.tmp 18) (.tmp 19) _ _ rfl _ _ rfl rfl _ _ A5.out ?_))
  refine (HM.out _ c6 g5 c5 w6 K6.out R6.out).mono ?_
  rintro e w7 ⟨rfl, hb7⟩
  have B7 : Hid (Below w.heap.size w w7) := B6.out.trans (hb7.mono B6.out.size)
  clear hb7 B6 R6 K6 A3 A4 A5 HM
  go_wp2
  go_ret
  exact ⟨rfl, B7.out⟩
end Go.Proofs.YtbecnaabmlkjjabGreatDoor
namespace Go.Proofs.YtbecnaabmlkjjabGreatDoor
open Go.ChangeShapes Go.WideShapes Go.ChangeAt Go.RowKit
theorem Tryz.info3 : (Tryz.prog.info? 3).map (fun i => (i.zero, i.size, i.bytes)) = some (some (.int .i64 0), 1, 8) := by kernel_rfl
theorem makeInts (n : Nat) (hn : n ≤ 100000) (w : World) : (Instr.makeSlice 134 (.int .i64 (n : Int)) (.int .i64 (n : Int))).run Tryz.prog w = .ok (.slice (some ⟨w.heap.size, 0, none⟩) n n) (w.alloc (.cells (madeCells #[.int .i64 0] n) 3)) :=
  run_make_row' 134 3 (.int .i64 0) 8 Tryz.underlying134 Tryz.info3 rfl .i64 .i64 n (by omega) (by omega) w
theorem make255 (w : World) : (Instr.makeSlice 134 (.int .i64 255) (.int .i64 255)).run Tryz.prog w = .ok (.slice (some ⟨w.heap.size, 0, none⟩) 255 255) (w.alloc (.cells (madeCells #[.int .i64 0] 255) 3)) := makeInts 255 (by omega) w
theorem make256 (w : World) : (Instr.makeSlice 134 (.int .i64 256) (.int .i64 256)).run Tryz.prog w = .ok (.slice (some ⟨w.heap.size, 0, none⟩) 256 256) (w.alloc (.cells (madeCells #[.int .i64 0] 256) 3)) := makeInts 256 (by omega) w

/-- spec.l01Double -/
theorem l01Double_any (a : Nat) (h1 : a < 256) (w : World) :
    Calls Tryz.prog 105 #[.int .i64 a] w fun e w' => e = .returned (.int .i64 (Gf.dbl a : Nat)) ∧ w' = w := by
  by_cases h : (255 : Int) < a * 2
  · have E : Hid (bits BinOp.xor IntKind.i64 ((a : Int) * 2) 283 = ((Gf.dbl a : Nat) : Int)) := dbl_yes a h1 h
    go_enter Tryz.func105, Tryz.ntmps105
    go_wp2
    go_ret
    exact ⟨ret_int E.out, rfl⟩
  · have E : Hid ((a : Int) * 2 = ((Gf.dbl a : Nat) : Int)) := dbl_no a (by omega)
    go_enter Tryz.func105, Tryz.ntmps105
    go_wp2
    go_ret
    exact ⟨ret_int E.out, rfl⟩
theorem val_eq {k : IntKind} {a b : Nat} (h : a = b) : Value.int k (a : Int) = .int k (b : Int) := by rw [h]
set_option maxRecDepth 100000 in
set_option maxHeartbeats 1000000 in
/-- spec.l01Table -/
theorem table_any (w : World) :
    Calls Tryz.prog 96 #[] w fun e w' => (∃ b, w.heap.size ≤ b ∧ e = .returned (.slice (some ⟨b, 0, none⟩) 256 256) ∧ w'.rowIs b 3 256 (fun j => .int .i64 (Gf.sub j : Nat))) ∧ Below w.heap.size w w' := by
  have m1 := make255
  have m2 := make256
  go_enter Tryz.func96, Tryz.ntmps96
  go_wp2
  go_loopw [2, 3] (fun x i wr => ∃ k : Nat, k ≤ 255 ∧ i = .int .i64 k ∧ x = .int .i64 (Gf.pw k : Nat) ∧ wr.rowIs w.heap.size 3 255 (fun j => .int .i64 ((if j < k then Gf.pw j else 0 : Nat) : Int)) ∧ Below w.heap.size w wr ∧ wr.heap.size = w.heap.size + 1) (fun _ i _ => 255 - (intOf i).toNat)
  case atStart =>
    refine ⟨0, by omega, rfl, rfl, ?_, (Below.refl _ _).alloc (Nat.le_refl _) _, by simp⟩
    exact (World.rowIs_made w (.int .i64 0) 255 3).congr (fun j hj => by simp)
  case round =>
    obtain ⟨k, hk, rfl, rfl, hrow, hb, hsz⟩ := hrel
    have HR : Hid (wr.rowIs w.heap.size 3 255 (fun j => .int .i64 ((if j < k then Gf.pw j else 0 : Nat) : Int))) := hrow
    have HB : Hid (Below w.heap.size w wr) := hb
    have HS : Hid (wr.heap.size = w.heap.size + 1) := hsz
    have hp := Gf.pw_lt k
    have E : Hid (bits BinOp.xor IntKind.i64 (Gf.pw k : Int) (Gf.dbl (Gf.pw k) : Int) = ((Gf.pw (k + 1) : Nat) : Int)) := i64_xor_nat _ _ (by omega) (by have := Gf.dbl_lt _ hp; omega)
    by_cases hlt : k < 255
    · have c1 := hrow.cell hlt
      have f1 := hrow.frozen k
      clear hrow hb hsz
      go_wp2_with (go_at_call 105; refine (l01Double_any _ hp _).mono ?_; rintro e w' ⟨rfl, rfl⟩)
      go_roundw
      case rel =>
        refine ⟨k + 1, by omega, by go_num, val_int E.out, ?_, HB.out.setCell (by exact Nat.le_refl _) _, by simpa using HS.out⟩
        exact (HR.out.set k _).congr (fun j hj => by
          by_cases e : j = k
          · subst e; simp
          · simp only [if_neg e]; exact val_eq (by by_cases g : j < k <;> simp [g] <;> omega))
      case measure => simp [intOf]; omega
    · have hrow' : wr.rowIs w.heap.size 3 255 (fun j => .int .i64 (Gf.pw j : Nat)) := hrow.congr (fun j hj => val_eq (by rw [if_pos (by omega)]))
      have HR' : Hid (wr.rowIs w.heap.size 3 255 (fun j => .int .i64 (Gf.pw j : Nat))) := hrow'
      clear hrow hrow' HR hb E hp
      have K1 : Hid ((wr.alloc (Obj.cells ((madeCells #[.int .i64 0] 256).setIfInBounds 0 (.int .i64 99)) 3)).rowIs (w.heap.size + 1) 3 256 (fun j => .int .i64 (Gf.tabTo 0 j : Nat))) := by
        have h := World.rowIs_alloc wr ((madeCells #[.int .i64 0] 256).setIfInBounds 0 (.int .i64 99)) 3 (fun j => .int .i64 (Gf.tabTo 0 j : Nat)) (fun j hj => by
          have hj' : j < 256 := by simpa [size_madeCells] using hj
          rw [Array.getElem?_setIfInBounds]
          by_cases e : j = 0
          · subst e; simp [size_madeCells, Gf.tabTo]
          · rw [if_neg (fun h => e h.symm)]
            simp [madeCells, hj', Nat.mod_one, Gf.tabTo, e])
        rw [HS.out] at h
        exact (by simpa [size_madeCells] using h : World.rowIs _ _ _ _ _)
      have K2 : Hid ((wr.alloc (Obj.cells ((madeCells #[.int .i64 0] 256).setIfInBounds 0 (.int .i64 99)) 3)).rowIs w.heap.size 3 255 (fun j => .int .i64 (Gf.pw j : Nat))) := HR'.out.alloc _
      have K3 : Hid (Below w.heap.size w (wr.alloc (Obj.cells ((madeCells #[.int .i64 0] 256).setIfInBounds 0 (.int .i64 99)) 3))) := HB.out.alloc (by rw [HS.out]; omega) _
      have mc0 : (madeCells #[Value.int IntKind.i64 0] 256)[0]? = some (.int .i64 0) := by simp [madeCells]
      go_wp2
      clear mc0
      generalize wr.alloc (Obj.cells ((madeCells #[.int .i64 0] 256).setIfInBounds 0 (.int .i64 99)) 3) = wz at *
      generalize Gf.pw k = V
      generalize (k : Int) = kk
      clear HR' HB HS hsz wr
      go_loopw [5] (fun i wq => ∃ k : Nat, k ≤ 255 ∧ i = .int .i64 k ∧ wq.rowIs w.heap.size 3 255 (fun j => .int .i64 (Gf.pw j : Nat)) ∧ wq.rowIs (w.heap.size + 1) 3 256 (fun j => .int .i64 (Gf.tabTo k j : Nat)) ∧ Below w.heap.size w wq) (fun i _ => 255 - (intOf i).toNat)
      case atStart => exact ⟨0, by omega, rfl, K2.out, K1.out, K3.out⟩
      case round =>
        obtain ⟨k, hk, rfl, hrow1, hrow2, hb⟩ := hrel
        have H1 : Hid (wr.rowIs w.heap.size 3 255 (fun j => .int .i64 (Gf.pw j : Nat))) := hrow1
        have H2 : Hid (wr.rowIs (w.heap.size + 1) 3 256 (fun j => .int .i64 (Gf.tabTo k j : Nat))) := hrow2
        have HB : Hid (Below w.heap.size w wr) := hb
        by_cases hlt : k < 255
        · have hp := Gf.pw_lt k
          have hq := Gf.pw_lt ((255 - k) % 255)
          have c1 := hrow1.cell hlt
          have hm : (255 - k) % 255 < 255 := Nat.mod_lt _ (by omega)
          have c2 := hrow1.cell hm
          have c3 := hrow2.cell hp
          have f3 := hrow2.frozen (Gf.pw k)
          have ew : IntKind.i64.wrap (255 - (k : Int)) = ((255 - k : Nat) : Int) := by
            rw [show 255 - (k : Int) = ((255 - k : Nat) : Int) from by omega]
            exact IntWalk.i64_in _ ⟨by omega, by omega⟩
          have et : ((255 - k : Nat) : Int).tmod 255 = (((255 - k) % 255 : Nat) : Int) := (Int.ofNat_tmod (255 - k) 255).symm
          have hp' : (Gf.pw k : Int) < 256 := by omega
          have hm' : (((255 - k) % 255 : Nat) : Int) < 255 := by omega
          have E : Hid (∀ j, Gf.tabTo (k + 1) j = if j = Gf.pw k then Gf.spread (Gf.pw ((255 - k) % 255)) else Gf.tabTo k j) := fun j => rfl
          clear hrow1 hrow2 hb K1 K2 K3
          generalize (255 - k) % 255 = M at *
          generalize 255 - k = N at *
          generalize Gf.pw k = P at *
          generalize Gf.pw M = R at *
          go_wp2
          go_region_held3 (fun w' => w'.cell? ⟨w.heap.size, k, none⟩ = some (.int .i64 P) ∧ w'.cell? ⟨w.heap.size, M, none⟩ = some (.int .i64 R) ∧ w'.frozen? ⟨w.heap.size + 1, P, none⟩ = false) (simp [go_sem, *]) ((go_at_call 106; refine (affine_any R hq _).mono ?_; rintro e w' ⟨rfl, rfl⟩))
          go_wp2
          go_roundw
          case rel =>
            refine ⟨k + 1, by omega, by go_num, (H1.out.setOther (by simp) _).drew, ?_, (HB.out.setCell (by simp) _).drew⟩
            exact ((H2.out.set P _).drew).congr (fun j hj => by
              rw [E.out j]
              by_cases e : j = P
              · simp [e]
              · simp [e])
          case measure => simp [intOf]; omega
        · obtain rfl : k = 255 := by omega
          clear hrow1 hrow2 hb K1 K2 K3
          go_wp2
          go_ret
          exact ⟨⟨w.heap.size + 1, by omega, rfl, H2.out.congr (fun j hj => val_eq (Gf.tab_last j hj))⟩, HB.out⟩
end Go.Proofs.YtbecnaabmlkjjabGreatDoor
