/-
  Links that take: LinkTake of the program.
-/
import Derived.Test.YtkhglllicblbbaaDoorLkTk
namespace Go.Proofs.YtkhglllicblbbaaDoor
open Go.ChangeShapes Go.WideShapes Go.ChangeAt Go.RowKit
set_option linter.unusedVariables false
/-- The flags behind a packet that was taken. -/
def tkW (t x : Nat) (f : Nat → Bool) (i : Nat) : Bool := if x ≤ t then (decide (i = t - x) || f i) else (decide (i = 0) || (decide (x - t ≤ i) && f (i - (x - t))))
theorem tkA_bit (f : Nat → Bool) (j i : Nat) (hj : j < 32) (hi : i < 32) : (winN f 32 ||| 2 ^ j).testBit i = (decide (i = j) || f i) := by
  rw [Nat.testBit_or, winN_bit, Nat.testBit_two_pow]
  have : decide (j = i) = decide (i = j) := by simp [eq_comm]
  rw [this]
  simp [hi, Bool.or_comm]
theorem tkB_bit (f : Nat → Bool) (d i : Nat) (hd : 0 < d) (hi : i < 32) : ((winN f 32 * 2 ^ min d 32 % 4294967296) ||| 1).testBit i = (decide (i = 0) || (decide (d ≤ i) && f (i - d))) := by
  rw [Nat.testBit_or]
  have e := shl_bit (winN f 32) d i
  rw [show (2 : Nat) ^ 32 = 4294967296 from rfl] at e
  have h0 : Nat.testBit 1 i = decide (i = 0) := by
    have q := Nat.testBit_two_pow (n := 0) (m := i)
    rw [Nat.pow_zero] at q
    rw [q]
    simp [eq_comm]
  rw [e, winN_bit, h0]
  have h1 : decide (i < 32) = true := by simpa using hi
  rw [h1]
  by_cases g : d ≤ i
  · have h2 : decide (i - d < 32) = true := by simp; omega
    rw [h2]; simp [Bool.or_comm]
  · simp [g]
theorem tkA_or (X j : Nat) (hX : X < 2 ^ 32) (hj : j < 32) : bits .or .u32 (X : Int) ((2 : Int) ^ j % 4294967296) = ((X ||| 2 ^ j : Nat) : Int) := by
  have e : ((2 : Int) ^ j) = ((2 ^ j : Nat) : Int) := by simp
  have h1 : 2 ^ j < 2 ^ 32 := Nat.pow_lt_pow_right (by omega) hj
  rw [← or_nat X (2 ^ j) hX h1, e]
  congr 1
  generalize 2 ^ j = y at *
  omega
theorem tkB_or (Y : Nat) (hY : Y < 2 ^ 32) : bits .or .u32 (Y : Int) 1 = ((Y ||| 1 : Nat) : Int) := or_nat Y 1 hY (by decide)
theorem tkB_shl (X d : Nat) : (X : Int) * 2 ^ min d 32 % 4294967296 = ((X * 2 ^ min d 32 % 4294967296 : Nat) : Int) := by simp

set_option maxRecDepth 100000 in
set_option maxHeartbeats 8000000 in
theorem implTake_bad (K B T : ByteArray) (se tp q : Int) (a : Option Addr) (n c : Nat) (f : Nat → Bool) (h2 : ¬ LkOk K se tp n f) (w : World) (hW : Bools w a n f) :
    Calls Tryd.prog 27 #[.agg #[.string K, .int .i64 se, .int .i64 tp, .slice a n c], .agg #[.int .i64 q, .string B, .string T]] w fun e w' => RetL w w' e ⟨#[]⟩ 0 0 0 f 1 ∧ Below w.heap.size w w' := by
  have A0 : Hid (Below w.heap.size w (((w.alloc (.cells #[.string K, .int .i64 se, .int .i64 tp, .slice a n c] 52)).alloc (.cells #[.int .i64 q, .string B, .string T] 57)).alloc (.cells #[.string ⟨#[]⟩, .int .i64 0, .int .i64 0, .slice none 0 0] 52))) := (((Below.refl w.heap.size w).alloc (Nat.le_refl _) _).alloc (by simp) _).alloc (by simp; omega) _
  have X0 : Hid (Box4 (((w.alloc (.cells #[.string K, .int .i64 se, .int .i64 tp, .slice a n c] 52)).alloc (.cells #[.int .i64 q, .string B, .string T] 57)).alloc (.cells #[.string ⟨#[]⟩, .int .i64 0, .int .i64 0, .slice none 0 0] 52)) w.heap.size 52 (.string K) (.int .i64 se) (.int .i64 tp) (.slice a n c)) := ((Box4.madeAt rfl _ _ _ _ _).alloc _).alloc _
  have P0 : Hid (BoxP (((w.alloc (.cells #[.string K, .int .i64 se, .int .i64 tp, .slice a n c] 52)).alloc (.cells #[.int .i64 q, .string B, .string T] 57)).alloc (.cells #[.string ⟨#[]⟩, .int .i64 0, .int .i64 0, .slice none 0 0] 52)) (w.heap.size + 1) 57 (.int .i64 q) (.string B) (.string T)) := (BoxP.madeAt (by simp) _ _ _ _).alloc _
  have Y0 : Hid (Box4 (((w.alloc (.cells #[.string K, .int .i64 se, .int .i64 tp, .slice a n c] 52)).alloc (.cells #[.int .i64 q, .string B, .string T] 57)).alloc (.cells #[.string ⟨#[]⟩, .int .i64 0, .int .i64 0, .slice none 0 0] 52)) (w.heap.size + 2) 52 (.string ⟨#[]⟩) (.int .i64 0) (.int .i64 0) (.slice none 0 0)) := Box4.madeAt (by simp) _ _ _ _ _
  have US : Hid ((((w.alloc (.cells #[.string K, .int .i64 se, .int .i64 tp, .slice a n c] 52)).alloc (.cells #[.int .i64 q, .string B, .string T] 57)).alloc (.cells #[.string ⟨#[]⟩, .int .i64 0, .int .i64 0, .slice none 0 0] 52)).heap.size = w.heap.size + 3) := by show _ = _; simp
  have HX : Hid (Bools (((w.alloc (.cells #[.string K, .int .i64 se, .int .i64 tp, .slice a n c] 52)).alloc (.cells #[.int .i64 q, .string B, .string T] 57)).alloc (.cells #[.string ⟨#[]⟩, .int .i64 0, .int .i64 0, .slice none 0 0] 52)) a n f) := hW.below A0.out
  have LO : Hid (∀ w : World, Bools w a n f → Calls Tryd.prog 30 #[.agg #[.string K, .int .i64 se, .int .i64 tp, .slice a n c]] w fun e w' => e = .returned (.bool false) ∧ Below w.heap.size w w') := fun w h => implLinkOK_any K se tp a n c f false (by simpa using h2) w h
  clear h2 hW
  go_enter Tryd.func27, Tryd.ntmps27
  go_wp2_with fail
  generalize (((w.alloc (.cells #[.string K, .int .i64 se, .int .i64 tp, .slice a n c] 52)).alloc (.cells #[.int .i64 q, .string B, .string T] 57)).alloc (.cells #[.string ⟨#[]⟩, .int .i64 0, .int .i64 0, .slice none 0 0] 52)) = u at *
  refine (LO.out _ HX.out).mono ?_
  rintro e u1 ⟨rfl, hb⟩
  replace US : Hid (w.heap.size + 3 ≤ u.heap.size) := by have := US.out; show _ ≤ _; omega
  replace A0 : Hid (Below w.heap.size w u1) := A0.out.trans (hb.mono A0.out.size)
  replace X0 : Hid (Box4 u1 w.heap.size 52 (.string K) (.int .i64 se) (.int .i64 tp) (.slice a n c)) := X0.out.below hb
  replace P0 : Hid (BoxP u1 (w.heap.size + 1) 57 (.int .i64 q) (.string B) (.string T)) := P0.out.below hb
  replace Y0 : Hid (Box4 u1 (w.heap.size + 2) 52 (.string ⟨#[]⟩) (.int .i64 0) (.int .i64 0) (.slice none 0 0)) := Y0.out.below hb
  replace US : Hid (w.heap.size + 3 ≤ u1.heap.size) := Nat.le_trans US.out hb.size
  replace HX : Hid (Bools u1 a n f) := HX.out.below hb
  clear hb
  clear LO
  obtain ⟨U5, hU5⟩ : ∃ U5, U5 = ((((u1.setCell ⟨w.heap.size + 2, 0, none⟩ (.string ⟨#[]⟩)).setCell ⟨w.heap.size + 2, 1, none⟩ (.int .i64 0)).setCell ⟨w.heap.size + 2, 2, none⟩ (.int .i64 0)).setCell ⟨w.heap.size + 2, 3, none⟩ (.slice none 0 0)) := ⟨_, rfl⟩
  have O2 : OnlyB (w.heap.size + 2) u1 U5 := by rw [hU5]; exact ((((OnlyB.refl _ _).setCell 0 _).setCell 1 _).setCell 2 _).setCell 3 _
  have Y5 : Hid (Box4 U5 (w.heap.size + 2) 52 (.string ⟨#[]⟩) (.int .i64 0) (.int .i64 0) (.slice none 0 0)) := by rw [hU5]; exact (((Y0.out.set0 _).set1 _).set2 _).set3 _
  have B5 : Hid (Below w.heap.size w U5) := A0.out.trans (O2.toBelow (B := w.heap.size) (by omega) A0.out.size)
  have y0 := Y0.out.c0
  have fy0 := Y0.out.fr 0
  have y1 := Y0.out.c1
  have fy1 := Y0.out.fr 1
  have y2 := Y0.out.c2
  have fy2 := Y0.out.fr 2
  have y3 := Y0.out.c3
  have fy3 := Y0.out.fr 3
  have HU : Hid (U5 = ((((u1.setCell ⟨w.heap.size + 2, 0, none⟩ (.string ⟨#[]⟩)).setCell ⟨w.heap.size + 2, 1, none⟩ (.int .i64 0)).setCell ⟨w.heap.size + 2, 2, none⟩ (.int .i64 0)).setCell ⟨w.heap.size + 2, 3, none⟩ (.slice none 0 0))) := hU5
  clear O2 hU5 Y0 A0
  go_wp2
  rw [← HU.out]
  clear HU y0 fy0 y1 fy1 y2 fy2 y3 fy3
  have y0 := Y5.out.c0
  have y1 := Y5.out.c1
  have y2 := Y5.out.c2
  have y3 := Y5.out.c3
  exact ret_cell2 (b := w.heap.size + 2) (v := .agg #[.string ⟨#[]⟩, .int .i64 0, .int .i64 0, .slice none 0 0]) (x := .int .i64 1) Tryd.results27 rfl rfl (by go_simp) ⟨⟨_, _, rfl, .inl rfl⟩, B5.out⟩
set_option maxRecDepth 100000 in
set_option maxHeartbeats 8000000 in
theorem implTake_code (K B T : ByteArray) (se tp q : Int) (a : Option Addr) (c : Nat) (f : Nat → Bool) (code : Int) (h2 : LkOk K se tp 32 f) (hB : B.size ≤ 1048576) (hA : TkC K tp f q B T code) (hc : code ≠ 0) (w : World) (hW : Bools w a 32 f) (ht : Tabs w) :
    Calls Tryd.prog 27 #[.agg #[.string K, .int .i64 se, .int .i64 tp, .slice a 32 c], .agg #[.int .i64 q, .string B, .string T]] w fun e w' => RetL w w' e K se tp 32 f code ∧ Below w.heap.size w w' := by
  have A0 : Hid (Below w.heap.size w (((w.alloc (.cells #[.string K, .int .i64 se, .int .i64 tp, .slice a 32 c] 52)).alloc (.cells #[.int .i64 q, .string B, .string T] 57)).alloc (.cells #[.string ⟨#[]⟩, .int .i64 0, .int .i64 0, .slice none 0 0] 52))) := (((Below.refl w.heap.size w).alloc (Nat.le_refl _) _).alloc (by simp) _).alloc (by simp; omega) _
  have X0 : Hid (Box4 (((w.alloc (.cells #[.string K, .int .i64 se, .int .i64 tp, .slice a 32 c] 52)).alloc (.cells #[.int .i64 q, .string B, .string T] 57)).alloc (.cells #[.string ⟨#[]⟩, .int .i64 0, .int .i64 0, .slice none 0 0] 52)) w.heap.size 52 (.string K) (.int .i64 se) (.int .i64 tp) (.slice a 32 c)) := ((Box4.madeAt rfl _ _ _ _ _).alloc _).alloc _
  have P0 : Hid (BoxP (((w.alloc (.cells #[.string K, .int .i64 se, .int .i64 tp, .slice a 32 c] 52)).alloc (.cells #[.int .i64 q, .string B, .string T] 57)).alloc (.cells #[.string ⟨#[]⟩, .int .i64 0, .int .i64 0, .slice none 0 0] 52)) (w.heap.size + 1) 57 (.int .i64 q) (.string B) (.string T)) := (BoxP.madeAt (by simp) _ _ _ _).alloc _
  have Y0 : Hid (Box4 (((w.alloc (.cells #[.string K, .int .i64 se, .int .i64 tp, .slice a 32 c] 52)).alloc (.cells #[.int .i64 q, .string B, .string T] 57)).alloc (.cells #[.string ⟨#[]⟩, .int .i64 0, .int .i64 0, .slice none 0 0] 52)) (w.heap.size + 2) 52 (.string ⟨#[]⟩) (.int .i64 0) (.int .i64 0) (.slice none 0 0)) := Box4.madeAt (by simp) _ _ _ _ _
  have US : Hid ((((w.alloc (.cells #[.string K, .int .i64 se, .int .i64 tp, .slice a 32 c] 52)).alloc (.cells #[.int .i64 q, .string B, .string T] 57)).alloc (.cells #[.string ⟨#[]⟩, .int .i64 0, .int .i64 0, .slice none 0 0] 52)).heap.size = w.heap.size + 3) := by show _ = _; simp
  have HX : Hid (Bools (((w.alloc (.cells #[.string K, .int .i64 se, .int .i64 tp, .slice a 32 c] 52)).alloc (.cells #[.int .i64 q, .string B, .string T] 57)).alloc (.cells #[.string ⟨#[]⟩, .int .i64 0, .int .i64 0, .slice none 0 0] 52)) a 32 f) := hW.below A0.out
  have LO : Hid (∀ w : World, Bools w a 32 f → Calls Tryd.prog 30 #[.agg #[.string K, .int .i64 se, .int .i64 tp, .slice a 32 c]] w fun e w' => e = .returned (.bool true) ∧ Below w.heap.size w w') := fun w h => implLinkOK_any K se tp a 32 c f true (by simpa using h2) w h
  have WO : Hid (∀ w : World, Bools w a 32 f → Calls Tryd.prog 70 #[.slice a 32 c] w fun e w' => e = .returned (.int .u32 ((winN f 32 : Nat) : Int)) ∧ w = w') := fun w h => windowOf_any a c f w h
  have TF : Hid (∀ w : World, Tabs w → Calls Tryd.prog 71 #[.agg #[.string K, .int .i64 se, .int .i64 tp, .slice a 32 c], .int .u32 ((winN f 32 : Nat) : Int), .agg #[.int .i64 q, .string B, .string T]] w fun e w' => e = .returned (.int .i64 code) ∧ Below w.heap.size w w') := fun w h => takeFault_any K se tp a c f q B T code h2.1 h2.2.2.1 hB hA w h
  have HT : Hid (Tabs w) := ht
  have hXl : winN f 32 < 2 ^ 32 := winN_lt f 32
  have FL : Hid (∀ w : World, Calls Tryd.prog 65 #[.int .u32 ((winN f 32 : Nat) : Int)] w fun e w' => e = .returned (.slice (some ⟨w.heap.size, 0, none⟩) 32 32) ∧ w'.rowIs w.heap.size 4 32 (fun i => .bool (f i)) ∧ Below w.heap.size w w') := fun w => (flags_any (winN f 32) hXl w).mono fun e w' h => ⟨h.1, h.2.1.congr (fun i hi => by rw [winN_bit]; simp [hi]), h.2.2⟩
  have e0 : (code == (0 : Int)) = false := by simpa using hc
  generalize winN f 32 = X at *
  clear hc hXl hA hB h2 ht hW
  go_enter Tryd.func27, Tryd.ntmps27
  go_wp2_with fail
  generalize (((w.alloc (.cells #[.string K, .int .i64 se, .int .i64 tp, .slice a 32 c] 52)).alloc (.cells #[.int .i64 q, .string B, .string T] 57)).alloc (.cells #[.string ⟨#[]⟩, .int .i64 0, .int .i64 0, .slice none 0 0] 52)) = u at *
  refine (LO.out _ HX.out).mono ?_
  rintro e u1 ⟨rfl, hb⟩
  replace US : Hid (w.heap.size + 3 ≤ u.heap.size) := by have := US.out; show _ ≤ _; omega
  replace A0 : Hid (Below w.heap.size w u1) := A0.out.trans (hb.mono A0.out.size)
  replace X0 : Hid (Box4 u1 w.heap.size 52 (.string K) (.int .i64 se) (.int .i64 tp) (.slice a 32 c)) := X0.out.below hb
  replace P0 : Hid (BoxP u1 (w.heap.size + 1) 57 (.int .i64 q) (.string B) (.string T)) := P0.out.below hb
  replace Y0 : Hid (Box4 u1 (w.heap.size + 2) 52 (.string ⟨#[]⟩) (.int .i64 0) (.int .i64 0) (.slice none 0 0)) := Y0.out.below hb
  replace US : Hid (w.heap.size + 3 ≤ u1.heap.size) := Nat.le_trans US.out hb.size
  replace HX : Hid (Bools u1 a 32 f) := HX.out.below hb
  clear hb
  clear LO
  have t0 := X0.out.c0
  have t1 := X0.out.c1
  have t2 := X0.out.c2
  have t3 := X0.out.c3
  have s0 := P0.out.c0
  have s1 := P0.out.c1
  have s2 := P0.out.c2
  go_wp2_with fail
  refine (WO.out _ HX.out).mono ?_
  rintro e z1 ⟨rfl, rfl⟩
  clear WO
  go_wp2_with fail
  refine (TF.out _ (HT.out.below A0.out)).mono ?_
  rintro e u2 ⟨rfl, hb⟩
  clear t0 t1 t2 t3 s0 s1 s2 TF HT
  replace A0 : Hid (Below w.heap.size w u2) := A0.out.trans (hb.mono A0.out.size)
  replace X0 : Hid (Box4 u2 w.heap.size 52 (.string K) (.int .i64 se) (.int .i64 tp) (.slice a 32 c)) := X0.out.below hb
  replace P0 : Hid (BoxP u2 (w.heap.size + 1) 57 (.int .i64 q) (.string B) (.string T)) := P0.out.below hb
  replace Y0 : Hid (Box4 u2 (w.heap.size + 2) 52 (.string ⟨#[]⟩) (.int .i64 0) (.int .i64 0) (.slice none 0 0)) := Y0.out.below hb
  replace US : Hid (w.heap.size + 3 ≤ u2.heap.size) := Nat.le_trans US.out hb.size
  replace HX : Hid (Bools u2 a 32 f) := HX.out.below hb
  clear hb
  have t0 := X0.out.c0
  have ft0 := X0.out.fr 0
  have t1 := X0.out.c1
  have ft1 := X0.out.fr 1
  have t2 := X0.out.c2
  have ft2 := X0.out.fr 2
  have t3 := X0.out.c3
  have ft3 := X0.out.fr 3
  have s0 := P0.out.c0
  have s1 := P0.out.c1
  have s2 := P0.out.c2
  clear HX P0
  go_wp2_with fail
  clear t0 ft0
  clear t1 ft1
  clear t2 ft2
  clear t3 ft3
  clear s0 s1 s2
  refine (FL.out _).mono ?_
  rintro e u4 ⟨rfl, hr, hb⟩
  obtain ⟨g, hg⟩ : ∃ g, g = u2.heap.size := ⟨_, rfl⟩
  rw [← hg] at hr ⊢
  have GG : Hid (w.heap.size + 3 ≤ g) := by rw [hg]; exact US.out
  have X4 := X0.out.below hb
  have Y4 := Y0.out.below hb
  have A4 : Below w.heap.size w u4 := A0.out.trans (hb.mono A0.out.size)
  have W4 : OwnB u4 w.heap.size (some ⟨g, 0, none⟩) 32 f := OwnB.ofRow (by have := GG.out; omega) hr
  have ho : OnlyB w.heap.size u4 (u4.setCell ⟨w.heap.size, 3, none⟩ (.slice (some ⟨g, 0, none⟩) 32 32)) := (OnlyB.refl _ _).setCell 3 _
  have X5 : Hid (Box4 (u4.setCell ⟨w.heap.size, 3, none⟩ (.slice (some ⟨g, 0, none⟩) 32 32)) w.heap.size 52 (.string K) (.int .i64 se) (.int .i64 tp) (.slice (some ⟨g, 0, none⟩) 32 32)) := X4.set3 _
  have Y5' : Hid (Box4 (u4.setCell ⟨w.heap.size, 3, none⟩ (.slice (some ⟨g, 0, none⟩) 32 32)) (w.heap.size + 2) 52 (.string ⟨#[]⟩) (.int .i64 0) (.int .i64 0) (.slice none 0 0)) := Y4.onlyB ho (by omega)
  have A5 : Hid (Below w.heap.size w (u4.setCell ⟨w.heap.size, 3, none⟩ (.slice (some ⟨g, 0, none⟩) 32 32))) := A4.trans (ho.toBelow (B := w.heap.size) (Nat.le_refl _) A4.size)
  have RW : Hid (OwnB (u4.setCell ⟨w.heap.size, 3, none⟩ (.slice (some ⟨g, 0, none⟩) 32 32)) w.heap.size (some ⟨g, 0, none⟩) 32 f) := W4.one ho (fun p hp => by cases hp; have := GG.out; show g ≠ _; omega)
  have t3 := X4.c3
  have ft3 := X4.fr 3
  clear hb hr hg X4 Y4 A4 W4 ho X0 Y0 A0 US FL
  go_upto_region 10 with fail
  generalize (u4.setCell ⟨w.heap.size, 3, none⟩ (.slice (some ⟨g, 0, none⟩) 32 32)) = u5 at *
  clear t3 ft3
  have Y0 := Y5'
  have A0 := A5
  clear Y5' A5
  have t0 := X5.out.c0
  have t1 := X5.out.c1
  have t2 := X5.out.c2
  have t3 := X5.out.c3
  clear X5
  obtain ⟨U5, hU5⟩ : ∃ U5, U5 = ((((u5.setCell ⟨w.heap.size + 2, 0, none⟩ (.string K)).setCell ⟨w.heap.size + 2, 1, none⟩ (.int .i64 se)).setCell ⟨w.heap.size + 2, 2, none⟩ (.int .i64 tp)).setCell ⟨w.heap.size + 2, 3, none⟩ (.slice (some ⟨g, 0, none⟩) 32 32)) := ⟨_, rfl⟩
  have O2 : OnlyB (w.heap.size + 2) u5 U5 := by rw [hU5]; exact ((((OnlyB.refl _ _).setCell 0 _).setCell 1 _).setCell 2 _).setCell 3 _
  have Y5 : Hid (Box4 U5 (w.heap.size + 2) 52 (.string K) (.int .i64 se) (.int .i64 tp) (.slice (some ⟨g, 0, none⟩) 32 32)) := by rw [hU5]; exact (((Y0.out.set0 _).set1 _).set2 _).set3 _
  have B5 : Hid (Below w.heap.size w U5) := A0.out.trans (O2.toBelow (B := w.heap.size) (by omega) A0.out.size)
  have R5 : Hid (OwnB U5 w.heap.size (some ⟨g, 0, none⟩) 32 f) := RW.out.one O2 (fun p hp => by cases hp; have := GG.out; show g ≠ _; omega)
  have y0 := Y0.out.c0
  have fy0 := Y0.out.fr 0
  have y1 := Y0.out.c1
  have fy1 := Y0.out.fr 1
  have y2 := Y0.out.c2
  have fy2 := Y0.out.fr 2
  have y3 := Y0.out.c3
  have fy3 := Y0.out.fr 3
  have HU : Hid (U5 = ((((u5.setCell ⟨w.heap.size + 2, 0, none⟩ (.string K)).setCell ⟨w.heap.size + 2, 1, none⟩ (.int .i64 se)).setCell ⟨w.heap.size + 2, 2, none⟩ (.int .i64 tp)).setCell ⟨w.heap.size + 2, 3, none⟩ (.slice (some ⟨g, 0, none⟩) 32 32))) := hU5
  clear O2 hU5 Y0 A0
  go_wp2
  rw [← HU.out]
  clear HU y0 fy0 y1 fy1 y2 fy2 y3 fy3
  have y0 := Y5.out.c0
  have y1 := Y5.out.c1
  have y2 := Y5.out.c2
  have y3 := Y5.out.c3
  exact ret_cell2 (b := w.heap.size + 2) (v := .agg #[.string K, .int .i64 se, .int .i64 tp, .slice (some ⟨g, 0, none⟩) 32 32]) (x := .int .i64 code) Tryd.results27 rfl rfl (by go_simp) ⟨⟨_, _, rfl, R5.out⟩, B5.out⟩
set_option maxRecDepth 100000 in
set_option maxHeartbeats 8000000 in
theorem implTake_A (K B T : ByteArray) (se : Int) (t x : Nat) (a : Option Addr) (c : Nat) (f : Nat → Bool) (h2 : LkOk K se (t : Int) 32 f) (hB : B.size ≤ 1048576) (hA : TkC K (t : Int) f (x : Int) B T 0) (hq : x ≤ t) (hq2 : t < x + 32) (hq3 : t ≤ 1000000) (w : World) (hW : Bools w a 32 f) (ht : Tabs w) :
    Calls Tryd.prog 27 #[.agg #[.string K, .int .i64 se, .int .i64 (t : Int), .slice a 32 c], .agg #[.int .i64 (x : Int), .string B, .string T]] w fun e w' => RetL w w' e K se (t : Int) 32 (tkW t x f) 0 ∧ Below w.heap.size w w' := by
  have A0 : Hid (Below w.heap.size w (((w.alloc (.cells #[.string K, .int .i64 se, .int .i64 (t : Int), .slice a 32 c] 52)).alloc (.cells #[.int .i64 (x : Int), .string B, .string T] 57)).alloc (.cells #[.string ⟨#[]⟩, .int .i64 0, .int .i64 0, .slice none 0 0] 52))) := (((Below.refl w.heap.size w).alloc (Nat.le_refl _) _).alloc (by simp) _).alloc (by simp; omega) _
  have X0 : Hid (Box4 (((w.alloc (.cells #[.string K, .int .i64 se, .int .i64 (t : Int), .slice a 32 c] 52)).alloc (.cells #[.int .i64 (x : Int), .string B, .string T] 57)).alloc (.cells #[.string ⟨#[]⟩, .int .i64 0, .int .i64 0, .slice none 0 0] 52)) w.heap.size 52 (.string K) (.int .i64 se) (.int .i64 (t : Int)) (.slice a 32 c)) := ((Box4.madeAt rfl _ _ _ _ _).alloc _).alloc _
  have P0 : Hid (BoxP (((w.alloc (.cells #[.string K, .int .i64 se, .int .i64 (t : Int), .slice a 32 c] 52)).alloc (.cells #[.int .i64 (x : Int), .string B, .string T] 57)).alloc (.cells #[.string ⟨#[]⟩, .int .i64 0, .int .i64 0, .slice none 0 0] 52)) (w.heap.size + 1) 57 (.int .i64 (x : Int)) (.string B) (.string T)) := (BoxP.madeAt (by simp) _ _ _ _).alloc _
  have Y0 : Hid (Box4 (((w.alloc (.cells #[.string K, .int .i64 se, .int .i64 (t : Int), .slice a 32 c] 52)).alloc (.cells #[.int .i64 (x : Int), .string B, .string T] 57)).alloc (.cells #[.string ⟨#[]⟩, .int .i64 0, .int .i64 0, .slice none 0 0] 52)) (w.heap.size + 2) 52 (.string ⟨#[]⟩) (.int .i64 0) (.int .i64 0) (.slice none 0 0)) := Box4.madeAt (by simp) _ _ _ _ _
  have US : Hid ((((w.alloc (.cells #[.string K, .int .i64 se, .int .i64 (t : Int), .slice a 32 c] 52)).alloc (.cells #[.int .i64 (x : Int), .string B, .string T] 57)).alloc (.cells #[.string ⟨#[]⟩, .int .i64 0, .int .i64 0, .slice none 0 0] 52)).heap.size = w.heap.size + 3) := by show _ = _; simp
  have HX : Hid (Bools (((w.alloc (.cells #[.string K, .int .i64 se, .int .i64 (t : Int), .slice a 32 c] 52)).alloc (.cells #[.int .i64 (x : Int), .string B, .string T] 57)).alloc (.cells #[.string ⟨#[]⟩, .int .i64 0, .int .i64 0, .slice none 0 0] 52)) a 32 f) := hW.below A0.out
  have LO : Hid (∀ w : World, Bools w a 32 f → Calls Tryd.prog 30 #[.agg #[.string K, .int .i64 se, .int .i64 (t : Int), .slice a 32 c]] w fun e w' => e = .returned (.bool true) ∧ Below w.heap.size w w') := fun w h => implLinkOK_any K se (t : Int) a 32 c f true (by simpa using h2) w h
  have WO : Hid (∀ w : World, Bools w a 32 f → Calls Tryd.prog 70 #[.slice a 32 c] w fun e w' => e = .returned (.int .u32 ((winN f 32 : Nat) : Int)) ∧ w = w') := fun w h => windowOf_any a c f w h
  have TF : Hid (∀ w : World, Tabs w → Calls Tryd.prog 71 #[.agg #[.string K, .int .i64 se, .int .i64 (t : Int), .slice a 32 c], .int .u32 ((winN f 32 : Nat) : Int), .agg #[.int .i64 (x : Int), .string B, .string T]] w fun e w' => e = .returned (.int .i64 0) ∧ Below w.heap.size w w') := fun w h => takeFault_any K se (t : Int) a c f (x : Int) B T 0 h2.1 h2.2.2.1 hB hA w h
  have HT : Hid (Tabs w) := ht
  have hXl : winN f 32 < 2 ^ 32 := winN_lt f 32
  obtain ⟨j, hj⟩ : ∃ j, j = t - x := ⟨_, rfl⟩
  have ej : (t : Int) - (x : Int) = (j : Int) := by omega
  have hj32 : j < 32 := by omega
  have e1 := tkA_or (winN f 32) j hXl hj32
  have hXN : winN f 32 ||| 2 ^ j < 2 ^ 32 := Nat.or_lt_two_pow hXl (Nat.pow_lt_pow_right (by omega) hj32)
  have FL : Hid (∀ w : World, Calls Tryd.prog 65 #[.int .u32 ((winN f 32 ||| 2 ^ j : Nat) : Int)] w fun e w' => e = .returned (.slice (some ⟨w.heap.size, 0, none⟩) 32 32) ∧ w'.rowIs w.heap.size 4 32 (fun i => .bool (tkW t x f i)) ∧ Below w.heap.size w w') := fun w => (flags_any _ hXN w).mono fun e w' h => ⟨h.1, h.2.1.congr (fun i hi => by rw [tkA_bit f j i hj32 hi]; unfold tkW; rw [if_pos hq, hj]), h.2.2⟩
  have e2 : ¬ (0 : Int) < (x : Int) - (t : Int) := by omega
  have e2m : max (0 : Int) ((x : Int) - (t : Int)) = 0 := by omega
  have e3 : ¬ (t : Int) < (x : Int) := by omega
  have e3m : max (t : Int) (x : Int) = (t : Int) := by omega
  have e4 : ((winN f 32 : Nat) : Int) % 4294967296 = ((winN f 32 : Nat) : Int) := by have : winN f 32 < 4294967296 := hXl; omega
  have bt : (t : Int) ≤ 1000000 := by omega
  have bx : (x : Int) ≤ 1000000 := by omega
  have GT : Hid (∃ z : Nat, z = t) := ⟨_, rfl⟩
  generalize hXXN : (winN f 32 ||| 2 ^ j) = XN at *
  generalize winN f 32 = X at *
  clear hXl hA hB h2 ht hW hj hXN hq hq2 hq3 hXXN
  go_enter Tryd.func27, Tryd.ntmps27
  go_wp2_with fail
  generalize (((w.alloc (.cells #[.string K, .int .i64 se, .int .i64 (t : Int), .slice a 32 c] 52)).alloc (.cells #[.int .i64 (x : Int), .string B, .string T] 57)).alloc (.cells #[.string ⟨#[]⟩, .int .i64 0, .int .i64 0, .slice none 0 0] 52)) = u at *
  refine (LO.out _ HX.out).mono ?_
  rintro e u1 ⟨rfl, hb⟩
  replace US : Hid (w.heap.size + 3 ≤ u.heap.size) := by have := US.out; show _ ≤ _; omega
  replace A0 : Hid (Below w.heap.size w u1) := A0.out.trans (hb.mono A0.out.size)
  replace X0 : Hid (Box4 u1 w.heap.size 52 (.string K) (.int .i64 se) (.int .i64 (t : Int)) (.slice a 32 c)) := X0.out.below hb
  replace P0 : Hid (BoxP u1 (w.heap.size + 1) 57 (.int .i64 (x : Int)) (.string B) (.string T)) := P0.out.below hb
  replace Y0 : Hid (Box4 u1 (w.heap.size + 2) 52 (.string ⟨#[]⟩) (.int .i64 0) (.int .i64 0) (.slice none 0 0)) := Y0.out.below hb
  replace US : Hid (w.heap.size + 3 ≤ u1.heap.size) := Nat.le_trans US.out hb.size
  replace HX : Hid (Bools u1 a 32 f) := HX.out.below hb
  clear hb
  clear LO
  have t0 := X0.out.c0
  have t1 := X0.out.c1
  have t2 := X0.out.c2
  have t3 := X0.out.c3
  have s0 := P0.out.c0
  have s1 := P0.out.c1
  have s2 := P0.out.c2
  go_wp2_with fail
  refine (WO.out _ HX.out).mono ?_
  rintro e z1 ⟨rfl, rfl⟩
  clear WO
  go_wp2_with fail
  refine (TF.out _ (HT.out.below A0.out)).mono ?_
  rintro e u2 ⟨rfl, hb⟩
  clear t0 t1 t2 t3 s0 s1 s2 TF HT
  replace A0 : Hid (Below w.heap.size w u2) := A0.out.trans (hb.mono A0.out.size)
  replace X0 : Hid (Box4 u2 w.heap.size 52 (.string K) (.int .i64 se) (.int .i64 (t : Int)) (.slice a 32 c)) := X0.out.below hb
  replace P0 : Hid (BoxP u2 (w.heap.size + 1) 57 (.int .i64 (x : Int)) (.string B) (.string T)) := P0.out.below hb
  replace Y0 : Hid (Box4 u2 (w.heap.size + 2) 52 (.string ⟨#[]⟩) (.int .i64 0) (.int .i64 0) (.slice none 0 0)) := Y0.out.below hb
  replace US : Hid (w.heap.size + 3 ≤ u2.heap.size) := Nat.le_trans US.out hb.size
  replace HX : Hid (Bools u2 a 32 f) := HX.out.below hb
  clear hb
  have t0 := X0.out.c0
  have ft0 := X0.out.fr 0
  have t1 := X0.out.c1
  have ft1 := X0.out.fr 1
  have t2 := X0.out.c2
  have ft2 := X0.out.fr 2
  have t3 := X0.out.c3
  have ft3 := X0.out.fr 3
  have s0 := P0.out.c0
  have s1 := P0.out.c1
  have s2 := P0.out.c2
  have ho : OnlyB w.heap.size u2 (u2.setCell ⟨w.heap.size, 2, none⟩ (.int .i64 (t : Int))) := (OnlyB.refl _ _).setCell 2 _
  have X3 : Hid (Box4 (u2.setCell ⟨w.heap.size, 2, none⟩ (.int .i64 (t : Int))) w.heap.size 52 (.string K) (.int .i64 se) (.int .i64 (t : Int)) (.slice a 32 c)) := X0.out.set2 _
  have P3 : Hid (BoxP (u2.setCell ⟨w.heap.size, 2, none⟩ (.int .i64 (t : Int))) (w.heap.size + 1) 57 (.int .i64 (x : Int)) (.string B) (.string T)) := P0.out.onlyB ho (by omega)
  have Y3 : Hid (Box4 (u2.setCell ⟨w.heap.size, 2, none⟩ (.int .i64 (t : Int))) (w.heap.size + 2) 52 (.string ⟨#[]⟩) (.int .i64 0) (.int .i64 0) (.slice none 0 0)) := Y0.out.onlyB ho (by omega)
  have A3 : Hid (Below w.heap.size w (u2.setCell ⟨w.heap.size, 2, none⟩ (.int .i64 (t : Int)))) := A0.out.trans (ho.toBelow (B := w.heap.size) (Nat.le_refl _) A0.out.size)
  have US3 : Hid (w.heap.size + 3 ≤ (u2.setCell ⟨w.heap.size, 2, none⟩ (.int .i64 (t : Int))).heap.size) := Nat.le_trans US.out ho.size
  have r0 := P3.out.c0
  clear ho X0 P0 Y0 A0 US HX
  go_wp2_with fail
  generalize (u2.setCell ⟨w.heap.size, 2, none⟩ (.int .i64 (t : Int))) = u3 at *
  clear t0 ft0
  clear t1 ft1
  clear t2 ft2
  clear t3 ft3
  clear s0 s1 s2 r0
  have X0 := X3
  have Y0 := Y3
  have A0 := A3
  have US := US3
  clear X3 P3 Y3 A3 US3
  refine (FL.out _).mono ?_
  rintro e u4 ⟨rfl, hr, hb⟩
  obtain ⟨g, hg⟩ : ∃ g, g = u3.heap.size := ⟨_, rfl⟩
  rw [← hg] at hr ⊢
  have GG : Hid (w.heap.size + 3 ≤ g) := by rw [hg]; exact US.out
  have X4 := X0.out.below hb
  have Y4 := Y0.out.below hb
  have A4 : Below w.heap.size w u4 := A0.out.trans (hb.mono A0.out.size)
  have W4 : OwnB u4 w.heap.size (some ⟨g, 0, none⟩) 32 (tkW t x f) := OwnB.ofRow (by have := GG.out; omega) hr
  have ho : OnlyB w.heap.size u4 (u4.setCell ⟨w.heap.size, 3, none⟩ (.slice (some ⟨g, 0, none⟩) 32 32)) := (OnlyB.refl _ _).setCell 3 _
  have X5 : Hid (Box4 (u4.setCell ⟨w.heap.size, 3, none⟩ (.slice (some ⟨g, 0, none⟩) 32 32)) w.heap.size 52 (.string K) (.int .i64 se) (.int .i64 (t : Int)) (.slice (some ⟨g, 0, none⟩) 32 32)) := X4.set3 _
  have Y5' : Hid (Box4 (u4.setCell ⟨w.heap.size, 3, none⟩ (.slice (some ⟨g, 0, none⟩) 32 32)) (w.heap.size + 2) 52 (.string ⟨#[]⟩) (.int .i64 0) (.int .i64 0) (.slice none 0 0)) := Y4.onlyB ho (by omega)
  have A5 : Hid (Below w.heap.size w (u4.setCell ⟨w.heap.size, 3, none⟩ (.slice (some ⟨g, 0, none⟩) 32 32))) := A4.trans (ho.toBelow (B := w.heap.size) (Nat.le_refl _) A4.size)
  have RW : Hid (OwnB (u4.setCell ⟨w.heap.size, 3, none⟩ (.slice (some ⟨g, 0, none⟩) 32 32)) w.heap.size (some ⟨g, 0, none⟩) 32 (tkW t x f)) := W4.one ho (fun p hp => by cases hp; have := GG.out; show g ≠ _; omega)
  have t3 := X4.c3
  have ft3 := X4.fr 3
  clear hb hr hg X4 Y4 A4 W4 ho X0 Y0 A0 US FL
  go_upto_region 10 with fail
  generalize (u4.setCell ⟨w.heap.size, 3, none⟩ (.slice (some ⟨g, 0, none⟩) 32 32)) = u5 at *
  clear t3 ft3
  have Y0 := Y5'
  have A0 := A5
  clear Y5' A5
  have t0 := X5.out.c0
  have t1 := X5.out.c1
  have t2 := X5.out.c2
  have t3 := X5.out.c3
  clear X5
  obtain ⟨U5, hU5⟩ : ∃ U5, U5 = ((((u5.setCell ⟨w.heap.size + 2, 0, none⟩ (.string K)).setCell ⟨w.heap.size + 2, 1, none⟩ (.int .i64 se)).setCell ⟨w.heap.size + 2, 2, none⟩ (.int .i64 (t : Int))).setCell ⟨w.heap.size + 2, 3, none⟩ (.slice (some ⟨g, 0, none⟩) 32 32)) := ⟨_, rfl⟩
  have O2 : OnlyB (w.heap.size + 2) u5 U5 := by rw [hU5]; exact ((((OnlyB.refl _ _).setCell 0 _).setCell 1 _).setCell 2 _).setCell 3 _
  have Y5 : Hid (Box4 U5 (w.heap.size + 2) 52 (.string K) (.int .i64 se) (.int .i64 (t : Int)) (.slice (some ⟨g, 0, none⟩) 32 32)) := by rw [hU5]; exact (((Y0.out.set0 _).set1 _).set2 _).set3 _
  have B5 : Hid (Below w.heap.size w U5) := A0.out.trans (O2.toBelow (B := w.heap.size) (by omega) A0.out.size)
  have R5 : Hid (OwnB U5 w.heap.size (some ⟨g, 0, none⟩) 32 (tkW t x f)) := RW.out.one O2 (fun p hp => by cases hp; have := GG.out; show g ≠ _; omega)
  have y0 := Y0.out.c0
  have fy0 := Y0.out.fr 0
  have y1 := Y0.out.c1
  have fy1 := Y0.out.fr 1
  have y2 := Y0.out.c2
  have fy2 := Y0.out.fr 2
  have y3 := Y0.out.c3
  have fy3 := Y0.out.fr 3
  have HU : Hid (U5 = ((((u5.setCell ⟨w.heap.size + 2, 0, none⟩ (.string K)).setCell ⟨w.heap.size + 2, 1, none⟩ (.int .i64 se)).setCell ⟨w.heap.size + 2, 2, none⟩ (.int .i64 (t : Int))).setCell ⟨w.heap.size + 2, 3, none⟩ (.slice (some ⟨g, 0, none⟩) 32 32))) := hU5
  clear O2 hU5 Y0 A0
  go_wp2
  rw [← HU.out]
  clear HU y0 fy0 y1 fy1 y2 fy2 y3 fy3
  have y0 := Y5.out.c0
  have y1 := Y5.out.c1
  have y2 := Y5.out.c2
  have y3 := Y5.out.c3
  exact ret_cell2 (b := w.heap.size + 2) (v := .agg #[.string K, .int .i64 se, .int .i64 (t : Int), .slice (some ⟨g, 0, none⟩) 32 32]) (x := .int .i64 0) Tryd.results27 rfl rfl (by go_simp) ⟨⟨_, _, rfl, R5.out⟩, B5.out⟩
set_option maxRecDepth 100000 in
set_option maxHeartbeats 8000000 in
theorem implTake_B (K B T : ByteArray) (se : Int) (t x : Nat) (a : Option Addr) (c : Nat) (f : Nat → Bool) (h2 : LkOk K se (t : Int) 32 f) (hB : B.size ≤ 1048576) (hA : TkC K (t : Int) f (x : Int) B T 0) (hq : t < x) (hq2 : x ≤ 1000000) (w : World) (hW : Bools w a 32 f) (ht : Tabs w) :
    Calls Tryd.prog 27 #[.agg #[.string K, .int .i64 se, .int .i64 (t : Int), .slice a 32 c], .agg #[.int .i64 (x : Int), .string B, .string T]] w fun e w' => RetL w w' e K se (x : Int) 32 (tkW t x f) 0 ∧ Below w.heap.size w w' := by
  have A0 : Hid (Below w.heap.size w (((w.alloc (.cells #[.string K, .int .i64 se, .int .i64 (t : Int), .slice a 32 c] 52)).alloc (.cells #[.int .i64 (x : Int), .string B, .string T] 57)).alloc (.cells #[.string ⟨#[]⟩, .int .i64 0, .int .i64 0, .slice none 0 0] 52))) := (((Below.refl w.heap.size w).alloc (Nat.le_refl _) _).alloc (by simp) _).alloc (by simp; omega) _
  have X0 : Hid (Box4 (((w.alloc (.cells #[.string K, .int .i64 se, .int .i64 (t : Int), .slice a 32 c] 52)).alloc (.cells #[.int .i64 (x : Int), .string B, .string T] 57)).alloc (.cells #[.string ⟨#[]⟩, .int .i64 0, .int .i64 0, .slice none 0 0] 52)) w.heap.size 52 (.string K) (.int .i64 se) (.int .i64 (t : Int)) (.slice a 32 c)) := ((Box4.madeAt rfl _ _ _ _ _).alloc _).alloc _
  have P0 : Hid (BoxP (((w.alloc (.cells #[.string K, .int .i64 se, .int .i64 (t : Int), .slice a 32 c] 52)).alloc (.cells #[.int .i64 (x : Int), .string B, .string T] 57)).alloc (.cells #[.string ⟨#[]⟩, .int .i64 0, .int .i64 0, .slice none 0 0] 52)) (w.heap.size + 1) 57 (.int .i64 (x : Int)) (.string B) (.string T)) := (BoxP.madeAt (by simp) _ _ _ _).alloc _
  have Y0 : Hid (Box4 (((w.alloc (.cells #[.string K, .int .i64 se, .int .i64 (t : Int), .slice a 32 c] 52)).alloc (.cells #[.int .i64 (x : Int), .string B, .string T] 57)).alloc (.cells #[.string ⟨#[]⟩, .int .i64 0, .int .i64 0, .slice none 0 0] 52)) (w.heap.size + 2) 52 (.string ⟨#[]⟩) (.int .i64 0) (.int .i64 0) (.slice none 0 0)) := Box4.madeAt (by simp) _ _ _ _ _
  have US : Hid ((((w.alloc (.cells #[.string K, .int .i64 se, .int .i64 (t : Int), .slice a 32 c] 52)).alloc (.cells #[.int .i64 (x : Int), .string B, .string T] 57)).alloc (.cells #[.string ⟨#[]⟩, .int .i64 0, .int .i64 0, .slice none 0 0] 52)).heap.size = w.heap.size + 3) := by show _ = _; simp
  have HX : Hid (Bools (((w.alloc (.cells #[.string K, .int .i64 se, .int .i64 (t : Int), .slice a 32 c] 52)).alloc (.cells #[.int .i64 (x : Int), .string B, .string T] 57)).alloc (.cells #[.string ⟨#[]⟩, .int .i64 0, .int .i64 0, .slice none 0 0] 52)) a 32 f) := hW.below A0.out
  have LO : Hid (∀ w : World, Bools w a 32 f → Calls Tryd.prog 30 #[.agg #[.string K, .int .i64 se, .int .i64 (t : Int), .slice a 32 c]] w fun e w' => e = .returned (.bool true) ∧ Below w.heap.size w w') := fun w h => implLinkOK_any K se (t : Int) a 32 c f true (by simpa using h2) w h
  have WO : Hid (∀ w : World, Bools w a 32 f → Calls Tryd.prog 70 #[.slice a 32 c] w fun e w' => e = .returned (.int .u32 ((winN f 32 : Nat) : Int)) ∧ w = w') := fun w h => windowOf_any a c f w h
  have TF : Hid (∀ w : World, Tabs w → Calls Tryd.prog 71 #[.agg #[.string K, .int .i64 se, .int .i64 (t : Int), .slice a 32 c], .int .u32 ((winN f 32 : Nat) : Int), .agg #[.int .i64 (x : Int), .string B, .string T]] w fun e w' => e = .returned (.int .i64 0) ∧ Below w.heap.size w w') := fun w h => takeFault_any K se (t : Int) a c f (x : Int) B T 0 h2.1 h2.2.2.1 hB hA w h
  have HT : Hid (Tabs w) := ht
  have hXl : winN f 32 < 2 ^ 32 := winN_lt f 32
  obtain ⟨d, hd⟩ : ∃ d, d = x - t := ⟨_, rfl⟩
  have ed : (x : Int) - (t : Int) = (d : Int) := by omega
  have hd0 : 0 < d := by omega
  have e1 := tkB_shl (winN f 32) d
  have hYl : winN f 32 * 2 ^ min d 32 % 4294967296 < 2 ^ 32 := Nat.mod_lt _ (by decide)
  have e2 := tkB_or _ hYl
  have hXN : (winN f 32 * 2 ^ min d 32 % 4294967296) ||| 1 < 2 ^ 32 := Nat.or_lt_two_pow hYl (by decide)
  have FL : Hid (∀ w : World, Calls Tryd.prog 65 #[.int .u32 (((winN f 32 * 2 ^ min d 32 % 4294967296) ||| 1 : Nat) : Int)] w fun e w' => e = .returned (.slice (some ⟨w.heap.size, 0, none⟩) 32 32) ∧ w'.rowIs w.heap.size 4 32 (fun i => .bool (tkW t x f i)) ∧ Below w.heap.size w w') := fun w => (flags_any _ hXN w).mono fun e w' h => ⟨h.1, h.2.1.congr (fun i hi => by rw [tkB_bit f d i hd0 hi]; unfold tkW; rw [if_neg (by omega), hd]), h.2.2⟩
  have e3 : (0 : Int) < (d : Int) := by omega
  have e3m : max (0 : Int) (d : Int) = (d : Int) := by omega
  have e4 : (t : Int) < (x : Int) := by omega
  have e4m : max (t : Int) (x : Int) = (x : Int) := by omega
  have bt : (t : Int) ≤ 1000000 := by omega
  have bx : (x : Int) ≤ 1000000 := by omega
  generalize hXXN : ((winN f 32 * 2 ^ min d 32 % 4294967296) ||| 1) = XN at *
  generalize hYY : winN f 32 * 2 ^ min d 32 % 4294967296 = Y at *
  generalize winN f 32 = X at *
  clear hXl hA hB h2 ht hW hd hXN hq hq2 hXXN hYl hYY hd0
  go_enter Tryd.func27, Tryd.ntmps27
  go_wp2_with fail
  generalize (((w.alloc (.cells #[.string K, .int .i64 se, .int .i64 (t : Int), .slice a 32 c] 52)).alloc (.cells #[.int .i64 (x : Int), .string B, .string T] 57)).alloc (.cells #[.string ⟨#[]⟩, .int .i64 0, .int .i64 0, .slice none 0 0] 52)) = u at *
  refine (LO.out _ HX.out).mono ?_
  rintro e u1 ⟨rfl, hb⟩
  replace US : Hid (w.heap.size + 3 ≤ u.heap.size) := by have := US.out; show _ ≤ _; omega
  replace A0 : Hid (Below w.heap.size w u1) := A0.out.trans (hb.mono A0.out.size)
  replace X0 : Hid (Box4 u1 w.heap.size 52 (.string K) (.int .i64 se) (.int .i64 (t : Int)) (.slice a 32 c)) := X0.out.below hb
  replace P0 : Hid (BoxP u1 (w.heap.size + 1) 57 (.int .i64 (x : Int)) (.string B) (.string T)) := P0.out.below hb
  replace Y0 : Hid (Box4 u1 (w.heap.size + 2) 52 (.string ⟨#[]⟩) (.int .i64 0) (.int .i64 0) (.slice none 0 0)) := Y0.out.below hb
  replace US : Hid (w.heap.size + 3 ≤ u1.heap.size) := Nat.le_trans US.out hb.size
  replace HX : Hid (Bools u1 a 32 f) := HX.out.below hb
  clear hb
  clear LO
  have t0 := X0.out.c0
  have t1 := X0.out.c1
  have t2 := X0.out.c2
  have t3 := X0.out.c3
  have s0 := P0.out.c0
  have s1 := P0.out.c1
  have s2 := P0.out.c2
  go_wp2_with fail
  refine (WO.out _ HX.out).mono ?_
  rintro e z1 ⟨rfl, rfl⟩
  clear WO
  go_wp2_with fail
  refine (TF.out _ (HT.out.below A0.out)).mono ?_
  rintro e u2 ⟨rfl, hb⟩
  clear t0 t1 t2 t3 s0 s1 s2 TF HT
  replace A0 : Hid (Below w.heap.size w u2) := A0.out.trans (hb.mono A0.out.size)
  replace X0 : Hid (Box4 u2 w.heap.size 52 (.string K) (.int .i64 se) (.int .i64 (t : Int)) (.slice a 32 c)) := X0.out.below hb
  replace P0 : Hid (BoxP u2 (w.heap.size + 1) 57 (.int .i64 (x : Int)) (.string B) (.string T)) := P0.out.below hb
  replace Y0 : Hid (Box4 u2 (w.heap.size + 2) 52 (.string ⟨#[]⟩) (.int .i64 0) (.int .i64 0) (.slice none 0 0)) := Y0.out.below hb
  replace US : Hid (w.heap.size + 3 ≤ u2.heap.size) := Nat.le_trans US.out hb.size
  replace HX : Hid (Bools u2 a 32 f) := HX.out.below hb
  clear hb
  have t0 := X0.out.c0
  have ft0 := X0.out.fr 0
  have t1 := X0.out.c1
  have ft1 := X0.out.fr 1
  have t2 := X0.out.c2
  have ft2 := X0.out.fr 2
  have t3 := X0.out.c3
  have ft3 := X0.out.fr 3
  have s0 := P0.out.c0
  have s1 := P0.out.c1
  have s2 := P0.out.c2
  have ho : OnlyB w.heap.size u2 (u2.setCell ⟨w.heap.size, 2, none⟩ (.int .i64 (x : Int))) := (OnlyB.refl _ _).setCell 2 _
  have X3 : Hid (Box4 (u2.setCell ⟨w.heap.size, 2, none⟩ (.int .i64 (x : Int))) w.heap.size 52 (.string K) (.int .i64 se) (.int .i64 (x : Int)) (.slice a 32 c)) := X0.out.set2 _
  have P3 : Hid (BoxP (u2.setCell ⟨w.heap.size, 2, none⟩ (.int .i64 (x : Int))) (w.heap.size + 1) 57 (.int .i64 (x : Int)) (.string B) (.string T)) := P0.out.onlyB ho (by omega)
  have Y3 : Hid (Box4 (u2.setCell ⟨w.heap.size, 2, none⟩ (.int .i64 (x : Int))) (w.heap.size + 2) 52 (.string ⟨#[]⟩) (.int .i64 0) (.int .i64 0) (.slice none 0 0)) := Y0.out.onlyB ho (by omega)
  have A3 : Hid (Below w.heap.size w (u2.setCell ⟨w.heap.size, 2, none⟩ (.int .i64 (x : Int)))) := A0.out.trans (ho.toBelow (B := w.heap.size) (Nat.le_refl _) A0.out.size)
  have US3 : Hid (w.heap.size + 3 ≤ (u2.setCell ⟨w.heap.size, 2, none⟩ (.int .i64 (x : Int))).heap.size) := Nat.le_trans US.out ho.size
  have r0 := P3.out.c0
  clear ho X0 P0 Y0 A0 US HX
  go_wp2_with fail
  generalize (u2.setCell ⟨w.heap.size, 2, none⟩ (.int .i64 (x : Int))) = u3 at *
  clear t0 ft0
  clear t1 ft1
  clear t2 ft2
  clear t3 ft3
  clear s0 s1 s2 r0
  have X0 := X3
  have Y0 := Y3
  have A0 := A3
  have US := US3
  clear X3 P3 Y3 A3 US3
  refine (FL.out _).mono ?_
  rintro e u4 ⟨rfl, hr, hb⟩
  obtain ⟨g, hg⟩ : ∃ g, g = u3.heap.size := ⟨_, rfl⟩
  rw [← hg] at hr ⊢
  have GG : Hid (w.heap.size + 3 ≤ g) := by rw [hg]; exact US.out
  have X4 := X0.out.below hb
  have Y4 := Y0.out.below hb
  have A4 : Below w.heap.size w u4 := A0.out.trans (hb.mono A0.out.size)
  have W4 : OwnB u4 w.heap.size (some ⟨g, 0, none⟩) 32 (tkW t x f) := OwnB.ofRow (by have := GG.out; omega) hr
  have ho : OnlyB w.heap.size u4 (u4.setCell ⟨w.heap.size, 3, none⟩ (.slice (some ⟨g, 0, none⟩) 32 32)) := (OnlyB.refl _ _).setCell 3 _
  have X5 : Hid (Box4 (u4.setCell ⟨w.heap.size, 3, none⟩ (.slice (some ⟨g, 0, none⟩) 32 32)) w.heap.size 52 (.string K) (.int .i64 se) (.int .i64 (x : Int)) (.slice (some ⟨g, 0, none⟩) 32 32)) := X4.set3 _
  have Y5' : Hid (Box4 (u4.setCell ⟨w.heap.size, 3, none⟩ (.slice (some ⟨g, 0, none⟩) 32 32)) (w.heap.size + 2) 52 (.string ⟨#[]⟩) (.int .i64 0) (.int .i64 0) (.slice none 0 0)) := Y4.onlyB ho (by omega)
  have A5 : Hid (Below w.heap.size w (u4.setCell ⟨w.heap.size, 3, none⟩ (.slice (some ⟨g, 0, none⟩) 32 32))) := A4.trans (ho.toBelow (B := w.heap.size) (Nat.le_refl _) A4.size)
  have RW : Hid (OwnB (u4.setCell ⟨w.heap.size, 3, none⟩ (.slice (some ⟨g, 0, none⟩) 32 32)) w.heap.size (some ⟨g, 0, none⟩) 32 (tkW t x f)) := W4.one ho (fun p hp => by cases hp; have := GG.out; show g ≠ _; omega)
  have t3 := X4.c3
  have ft3 := X4.fr 3
  clear hb hr hg X4 Y4 A4 W4 ho X0 Y0 A0 US FL
  go_upto_region 10 with fail
  generalize (u4.setCell ⟨w.heap.size, 3, none⟩ (.slice (some ⟨g, 0, none⟩) 32 32)) = u5 at *
  clear t3 ft3
  have Y0 := Y5'
  have A0 := A5
  clear Y5' A5
  have t0 := X5.out.c0
  have t1 := X5.out.c1
  have t2 := X5.out.c2
  have t3 := X5.out.c3
  clear X5
  obtain ⟨U5, hU5⟩ : ∃ U5, U5 = ((((u5.setCell ⟨w.heap.size + 2, 0, none⟩ (.string K)).setCell ⟨w.heap.size + 2, 1, none⟩ (.int .i64 se)).setCell ⟨w.heap.size + 2, 2, none⟩ (.int .i64 (x : Int))).setCell ⟨w.heap.size + 2, 3, none⟩ (.slice (some ⟨g, 0, none⟩) 32 32)) := ⟨_, rfl⟩
  have O2 : OnlyB (w.heap.size + 2) u5 U5 := by rw [hU5]; exact ((((OnlyB.refl _ _).setCell 0 _).setCell 1 _).setCell 2 _).setCell 3 _
  have Y5 : Hid (Box4 U5 (w.heap.size + 2) 52 (.string K) (.int .i64 se) (.int .i64 (x : Int)) (.slice (some ⟨g, 0, none⟩) 32 32)) := by rw [hU5]; exact (((Y0.out.set0 _).set1 _).set2 _).set3 _
  have B5 : Hid (Below w.heap.size w U5) := A0.out.trans (O2.toBelow (B := w.heap.size) (by omega) A0.out.size)
  have R5 : Hid (OwnB U5 w.heap.size (some ⟨g, 0, none⟩) 32 (tkW t x f)) := RW.out.one O2 (fun p hp => by cases hp; have := GG.out; show g ≠ _; omega)
  have y0 := Y0.out.c0
  have fy0 := Y0.out.fr 0
  have y1 := Y0.out.c1
  have fy1 := Y0.out.fr 1
  have y2 := Y0.out.c2
  have fy2 := Y0.out.fr 2
  have y3 := Y0.out.c3
  have fy3 := Y0.out.fr 3
  have HU : Hid (U5 = ((((u5.setCell ⟨w.heap.size + 2, 0, none⟩ (.string K)).setCell ⟨w.heap.size + 2, 1, none⟩ (.int .i64 se)).setCell ⟨w.heap.size + 2, 2, none⟩ (.int .i64 (x : Int))).setCell ⟨w.heap.size + 2, 3, none⟩ (.slice (some ⟨g, 0, none⟩) 32 32))) := hU5
  clear O2 hU5 Y0 A0
  go_wp2
  rw [← HU.out]
  clear HU y0 fy0 y1 fy1 y2 fy2 y3 fy3
  have y0 := Y5.out.c0
  have y1 := Y5.out.c1
  have y2 := Y5.out.c2
  have y3 := Y5.out.c3
  exact ret_cell2 (b := w.heap.size + 2) (v := .agg #[.string K, .int .i64 se, .int .i64 (x : Int), .slice (some ⟨g, 0, none⟩) 32 32]) (x := .int .i64 0) Tryd.results27 rfl rfl (by go_simp) ⟨⟨_, _, rfl, R5.out⟩, B5.out⟩
end Go.Proofs.YtkhglllicblbbaaDoor

/-
  Links that take: LinkTake of the model, and what LinkTake answers.
-/
namespace Go.Proofs.YtkhglllicblbbaaDoor
open Go.ChangeShapes Go.WideShapes Go.ChangeAt Go.RowKit
set_option linter.unusedVariables false
/-- Flags that are moved on. -/
def shF (d : Nat) (f : Nat → Bool) (j : Nat) : Bool := decide (d ≤ j) && f (j - d)
theorem OwnB.row {w : World} {B g n : Nat} {f : Nat → Bool} (h : OwnB w B (some ⟨g, 0, none⟩) n f) (hn : 0 < n) : ∃ (m : Nat) (G : Nat → Value), B ≤ g ∧ w.rowIs g 4 m G ∧ n ≤ m ∧ ∀ i, i < n → G i = .bool (f i) := by
  rcases h with h | ⟨b, m, G, hB, ha, hr, hm, hG⟩
  · omega
  · cases ha
    exact ⟨m, G, hB, hr, hm, hG⟩

theorem Bools.onlyB2 {w w' : World} {n b ao ab : Nat} {f : Nat → Bool} (h : Bools w (some ⟨ab, ao, none⟩) n f) (ho : OnlyB b w w') (hne : ab ≠ b) : Bools w' (some ⟨ab, ao, none⟩) n f := fun i hi => by
  obtain ⟨b', o', e, hc⟩ := h i hi
  cases e
  exact ⟨ab, ao, rfl, by rw [World.cell?_of_block (w := w) (ho.block ab (strBlock hc) hne)]; exact hc⟩
set_option maxRecDepth 100000 in
set_option maxHeartbeats 8000000 in
theorem specTake_bad (K B : ByteArray) (T : ByteArray) (se tp q : Int) (a : Option Addr) (n c : Nat) (f : Nat → Bool) (h2 : ¬ LkOk K se tp n f) (w : World) (hW : Bools w a n f) :
    Calls Tryd.prog 28 #[.agg #[.string K, .int .i64 se, .int .i64 tp, .slice a n c], .agg #[.int .i64 q, .string B, .string T]] w fun e w' => RetL w w' e ⟨#[]⟩ 0 0 0 f 1 ∧ Below w.heap.size w w' := by
  have A0 : Hid (Below w.heap.size w (((w.alloc (.cells #[.string K, .int .i64 se, .int .i64 tp, .slice a n c] 52)).alloc (.cells #[.int .i64 q, .string B, .string T] 57)).alloc (.cells #[.string ⟨#[]⟩, .int .i64 0, .int .i64 0, .slice none 0 0] 52))) := (((Below.refl w.heap.size w).alloc (Nat.le_refl _) _).alloc (by simp) _).alloc (by simp; omega) _
  have X0 : Hid (Box4 (((w.alloc (.cells #[.string K, .int .i64 se, .int .i64 tp, .slice a n c] 52)).alloc (.cells #[.int .i64 q, .string B, .string T] 57)).alloc (.cells #[.string ⟨#[]⟩, .int .i64 0, .int .i64 0, .slice none 0 0] 52)) w.heap.size 52 (.string K) (.int .i64 se) (.int .i64 tp) (.slice a n c)) := ((Box4.madeAt rfl _ _ _ _ _).alloc _).alloc _
  have P0 : Hid (BoxP (((w.alloc (.cells #[.string K, .int .i64 se, .int .i64 tp, .slice a n c] 52)).alloc (.cells #[.int .i64 q, .string B, .string T] 57)).alloc (.cells #[.string ⟨#[]⟩, .int .i64 0, .int .i64 0, .slice none 0 0] 52)) (w.heap.size + 1) 57 (.int .i64 q) (.string B) (.string T)) := (BoxP.madeAt (by simp) _ _ _ _).alloc _
  have Y0 : Hid (Box4 (((w.alloc (.cells #[.string K, .int .i64 se, .int .i64 tp, .slice a n c] 52)).alloc (.cells #[.int .i64 q, .string B, .string T] 57)).alloc (.cells #[.string ⟨#[]⟩, .int .i64 0, .int .i64 0, .slice none 0 0] 52)) (w.heap.size + 2) 52 (.string ⟨#[]⟩) (.int .i64 0) (.int .i64 0) (.slice none 0 0)) := Box4.madeAt (by simp) _ _ _ _ _
  have US : Hid ((((w.alloc (.cells #[.string K, .int .i64 se, .int .i64 tp, .slice a n c] 52)).alloc (.cells #[.int .i64 q, .string B, .string T] 57)).alloc (.cells #[.string ⟨#[]⟩, .int .i64 0, .int .i64 0, .slice none 0 0] 52)).heap.size = w.heap.size + 3) := by show _ = _; simp
  have HX : Hid (Bools (((w.alloc (.cells #[.string K, .int .i64 se, .int .i64 tp, .slice a n c] 52)).alloc (.cells #[.int .i64 q, .string B, .string T] 57)).alloc (.cells #[.string ⟨#[]⟩, .int .i64 0, .int .i64 0, .slice none 0 0] 52)) a n f) := hW.below A0.out
  have LO : Hid (∀ w : World, Bools w a n f → Calls Tryd.prog 72 #[.agg #[.string K, .int .i64 se, .int .i64 tp, .slice a n c]] w fun e w' => e = .returned (.bool false) ∧ Below w.heap.size w w') := fun w h => specLinkOK_any K se tp a n c f false (by simpa using h2) w h
  clear h2 hW
  go_enter Tryd.func28, Tryd.ntmps28
  go_wp2_with fail
  generalize (((w.alloc (.cells #[.string K, .int .i64 se, .int .i64 tp, .slice a n c] 52)).alloc (.cells #[.int .i64 q, .string B, .string T] 57)).alloc (.cells #[.string ⟨#[]⟩, .int .i64 0, .int .i64 0, .slice none 0 0] 52)) = u at *
  refine (LO.out _ HX.out).mono ?_
  rintro e u1 ⟨rfl, hb⟩
  replace US : Hid (w.heap.size + 3 ≤ u.heap.size) := by have := US.out; show _ ≤ _; omega
  have A1 := A0
  clear A0
  replace A1 : Hid (Below w.heap.size w u1) := A1.out.trans (hb.mono A1.out.size)
  replace X0 : Hid (Box4 u1 w.heap.size 52 (.string K) (.int .i64 se) (.int .i64 tp) (.slice a n c)) := X0.out.below hb
  replace P0 : Hid (BoxP u1 (w.heap.size + 1) 57 (.int .i64 q) (.string B) (.string T)) := P0.out.below hb
  replace Y0 : Hid (Box4 u1 (w.heap.size + 2) 52 (.string ⟨#[]⟩) (.int .i64 0) (.int .i64 0) (.slice none 0 0)) := Y0.out.below hb
  replace US : Hid (w.heap.size + 3 ≤ (u1).heap.size) := Nat.le_trans US.out hb.size
  replace HX : Hid (Bools u1 a n f) := HX.out.below hb
  clear hb LO
  obtain ⟨U5, hU5⟩ : ∃ U5, U5 = ((((u1.setCell ⟨w.heap.size + 2, 0, none⟩ (.string ⟨#[]⟩)).setCell ⟨w.heap.size + 2, 1, none⟩ (.int .i64 0)).setCell ⟨w.heap.size + 2, 2, none⟩ (.int .i64 0)).setCell ⟨w.heap.size + 2, 3, none⟩ (.slice none 0 0)) := ⟨_, rfl⟩
  have O2 : OnlyB (w.heap.size + 2) u1 U5 := by rw [hU5]; exact ((((OnlyB.refl _ _).setCell 0 _).setCell 1 _).setCell 2 _).setCell 3 _
  have Y5 : Hid (Box4 U5 (w.heap.size + 2) 52 (.string ⟨#[]⟩) (.int .i64 0) (.int .i64 0) (.slice none 0 0)) := by rw [hU5]; exact (((Y0.out.set0 _).set1 _).set2 _).set3 _
  have B5 : Hid (Below w.heap.size w U5) := A1.out.trans (O2.toBelow (B := w.heap.size) (by omega) A1.out.size)
  have y0 := Y0.out.c0
  have fy0 := Y0.out.fr 0
  have y1 := Y0.out.c1
  have fy1 := Y0.out.fr 1
  have y2 := Y0.out.c2
  have fy2 := Y0.out.fr 2
  have y3 := Y0.out.c3
  have fy3 := Y0.out.fr 3
  have HU : Hid (U5 = ((((u1.setCell ⟨w.heap.size + 2, 0, none⟩ (.string ⟨#[]⟩)).setCell ⟨w.heap.size + 2, 1, none⟩ (.int .i64 0)).setCell ⟨w.heap.size + 2, 2, none⟩ (.int .i64 0)).setCell ⟨w.heap.size + 2, 3, none⟩ (.slice none 0 0))) := hU5
  clear O2 hU5 Y0 A1
  go_wp2
  rw [← HU.out]
  clear HU y0 fy0 y1 fy1 y2 fy2 y3 fy3
  have y0 := Y5.out.c0
  have y1 := Y5.out.c1
  have y2 := Y5.out.c2
  have y3 := Y5.out.c3
  exact ret_cell2 (b := w.heap.size + 2) (v := .agg #[.string ⟨#[]⟩, .int .i64 0, .int .i64 0, .slice none 0 0]) (x := .int .i64 1) Tryd.results28 rfl rfl (by go_simp) ⟨⟨_, _, rfl, .inl rfl⟩, B5.out⟩
set_option maxRecDepth 100000 in
set_option maxHeartbeats 8000000 in
theorem specTake_range (K B : ByteArray) (T : ByteArray) (se tp q : Int) (a : Option Addr) (c : Nat) (f : Nat → Bool) (h2 : LkOk K se tp 32 f) (hq : ¬ (1 ≤ q ∧ q ≤ 1000000)) (w : World) (hW : Bools w a 32 f) :
    Calls Tryd.prog 28 #[.agg #[.string K, .int .i64 se, .int .i64 tp, .slice a 32 c], .agg #[.int .i64 q, .string B, .string T]] w fun e w' => RetL w w' e K se tp 32 f 4 ∧ Below w.heap.size w w' := by
  have A0 : Hid (Below w.heap.size w (((w.alloc (.cells #[.string K, .int .i64 se, .int .i64 tp, .slice a 32 c] 52)).alloc (.cells #[.int .i64 q, .string B, .string T] 57)).alloc (.cells #[.string ⟨#[]⟩, .int .i64 0, .int .i64 0, .slice none 0 0] 52))) := (((Below.refl w.heap.size w).alloc (Nat.le_refl _) _).alloc (by simp) _).alloc (by simp; omega) _
  have X0 : Hid (Box4 (((w.alloc (.cells #[.string K, .int .i64 se, .int .i64 tp, .slice a 32 c] 52)).alloc (.cells #[.int .i64 q, .string B, .string T] 57)).alloc (.cells #[.string ⟨#[]⟩, .int .i64 0, .int .i64 0, .slice none 0 0] 52)) w.heap.size 52 (.string K) (.int .i64 se) (.int .i64 tp) (.slice a 32 c)) := ((Box4.madeAt rfl _ _ _ _ _).alloc _).alloc _
  have P0 : Hid (BoxP (((w.alloc (.cells #[.string K, .int .i64 se, .int .i64 tp, .slice a 32 c] 52)).alloc (.cells #[.int .i64 q, .string B, .string T] 57)).alloc (.cells #[.string ⟨#[]⟩, .int .i64 0, .int .i64 0, .slice none 0 0] 52)) (w.heap.size + 1) 57 (.int .i64 q) (.string B) (.string T)) := (BoxP.madeAt (by simp) _ _ _ _).alloc _
  have Y0 : Hid (Box4 (((w.alloc (.cells #[.string K, .int .i64 se, .int .i64 tp, .slice a 32 c] 52)).alloc (.cells #[.int .i64 q, .string B, .string T] 57)).alloc (.cells #[.string ⟨#[]⟩, .int .i64 0, .int .i64 0, .slice none 0 0] 52)) (w.heap.size + 2) 52 (.string ⟨#[]⟩) (.int .i64 0) (.int .i64 0) (.slice none 0 0)) := Box4.madeAt (by simp) _ _ _ _ _
  have US : Hid ((((w.alloc (.cells #[.string K, .int .i64 se, .int .i64 tp, .slice a 32 c] 52)).alloc (.cells #[.int .i64 q, .string B, .string T] 57)).alloc (.cells #[.string ⟨#[]⟩, .int .i64 0, .int .i64 0, .slice none 0 0] 52)).heap.size = w.heap.size + 3) := by show _ = _; simp
  have HX : Hid (Bools (((w.alloc (.cells #[.string K, .int .i64 se, .int .i64 tp, .slice a 32 c] 52)).alloc (.cells #[.int .i64 q, .string B, .string T] 57)).alloc (.cells #[.string ⟨#[]⟩, .int .i64 0, .int .i64 0, .slice none 0 0] 52)) a 32 f) := hW.below A0.out
  have LO : Hid (∀ w : World, Bools w a 32 f → Calls Tryd.prog 72 #[.agg #[.string K, .int .i64 se, .int .i64 tp, .slice a 32 c]] w fun e w' => e = .returned (.bool true) ∧ Below w.heap.size w w') := fun w h => specLinkOK_any K se tp a 32 c f true (by simpa using h2) w h
  have IN : Hid (∀ w : World, Calls Tryd.prog 63 #[.int .i64 q, .int .i64 1, .int .i64 1000000] w fun e w' => e = .returned (.bool false) ∧ w = w') := fun w => in_any q _ _ false (by simp; omega) w
  clear h2 hW hq
  go_enter Tryd.func28, Tryd.ntmps28
  go_wp2_with fail
  generalize (((w.alloc (.cells #[.string K, .int .i64 se, .int .i64 tp, .slice a 32 c] 52)).alloc (.cells #[.int .i64 q, .string B, .string T] 57)).alloc (.cells #[.string ⟨#[]⟩, .int .i64 0, .int .i64 0, .slice none 0 0] 52)) = u at *
  refine (LO.out _ HX.out).mono ?_
  rintro e u1 ⟨rfl, hb⟩
  replace US : Hid (w.heap.size + 3 ≤ u.heap.size) := by have := US.out; show _ ≤ _; omega
  have A1 := A0
  clear A0
  replace A1 : Hid (Below w.heap.size w u1) := A1.out.trans (hb.mono A1.out.size)
  replace X0 : Hid (Box4 u1 w.heap.size 52 (.string K) (.int .i64 se) (.int .i64 tp) (.slice a 32 c)) := X0.out.below hb
  replace P0 : Hid (BoxP u1 (w.heap.size + 1) 57 (.int .i64 q) (.string B) (.string T)) := P0.out.below hb
  replace Y0 : Hid (Box4 u1 (w.heap.size + 2) 52 (.string ⟨#[]⟩) (.int .i64 0) (.int .i64 0) (.slice none 0 0)) := Y0.out.below hb
  replace US : Hid (w.heap.size + 3 ≤ (u1).heap.size) := Nat.le_trans US.out hb.size
  replace HX : Hid (Bools u1 a 32 f) := HX.out.below hb
  clear hb LO
  have t0 := X0.out.c0
  have t1 := X0.out.c1
  have t2 := X0.out.c2
  have t3 := X0.out.c3
  go_wp2_with fail
  clear t0 t1 t2 t3
  refine (l07Own_any K se tp a c f u1 HX.out).mono ?_
  rintro e u2 ⟨⟨g, cap, rfl, og⟩, hb⟩
  have GG : Hid (w.heap.size + 3 ≤ g) := by have h1 := og.ge (by omega) _ rfl; have h2 := US.out; exact Nat.le_trans h2 h1
  have LA : Hid (∀ p, a = some p → p.block < g) := fun p hp => by have h1 := HX.out.ltB (by omega) p hp; have h2 := og.ge (by omega) _ rfl; exact Nat.lt_of_lt_of_le h1 h2
  have RW : Hid (OwnB u2 w.heap.size (some ⟨g, 0, none⟩) 32 f) := og.mono (by have := US.out; omega)
  have LG : Hid (g < u2.heap.size) := og.bools.ltB (by omega) _ rfl
  replace A1 : Hid (Below w.heap.size w u2) := A1.out.trans (hb.mono A1.out.size)
  replace X0 : Hid (Box4 u2 w.heap.size 52 (.string K) (.int .i64 se) (.int .i64 tp) (.slice a 32 c)) := X0.out.below hb
  replace P0 : Hid (BoxP u2 (w.heap.size + 1) 57 (.int .i64 q) (.string B) (.string T)) := P0.out.below hb
  replace Y0 : Hid (Box4 u2 (w.heap.size + 2) 52 (.string ⟨#[]⟩) (.int .i64 0) (.int .i64 0) (.slice none 0 0)) := Y0.out.below hb
  replace US : Hid (w.heap.size + 3 ≤ (u2).heap.size) := Nat.le_trans US.out hb.size
  replace HX : Hid (Bools u2 a 32 f) := HX.out.below hb
  clear hb og
  have hb : Below u2.heap.size u2 (u2.alloc (.cells #[.string K, .int .i64 se, .int .i64 tp, .slice (some ⟨g, 0, none⟩) 32 cap] 52)) := (Below.refl _ _).alloc (Nat.le_refl _) _
  have XX : Hid (Box4 (u2.alloc (.cells #[.string K, .int .i64 se, .int .i64 tp, .slice (some ⟨g, 0, none⟩) 32 cap] 52)) u2.heap.size 52 (.string K) (.int .i64 se) (.int .i64 tp) (.slice (some ⟨g, 0, none⟩) 32 cap)) := Box4.madeAt rfl _ _ _ _ _
  have vp0 := (P0.out.below hb).c0
  go_wp2_with fail
  generalize (u2.alloc (.cells #[.string K, .int .i64 se, .int .i64 tp, .slice (some ⟨g, 0, none⟩) 32 cap] 52)) = u3 at *
  replace A1 : Hid (Below w.heap.size w u3) := A1.out.trans (hb.mono A1.out.size)
  replace X0 : Hid (Box4 u3 w.heap.size 52 (.string K) (.int .i64 se) (.int .i64 tp) (.slice a 32 c)) := X0.out.below hb
  replace P0 : Hid (BoxP u3 (w.heap.size + 1) 57 (.int .i64 q) (.string B) (.string T)) := P0.out.below hb
  replace Y0 : Hid (Box4 u3 (w.heap.size + 2) 52 (.string ⟨#[]⟩) (.int .i64 0) (.int .i64 0) (.slice none 0 0)) := Y0.out.below hb
  replace US : Hid (w.heap.size + 3 ≤ (u3).heap.size) := Nat.le_trans US.out hb.size
  replace HX : Hid (Bools u3 a 32 f) := HX.out.below hb
  replace RW : Hid (OwnB u3 w.heap.size (some ⟨g, 0, none⟩) 32 f) := RW.out.below hb
  obtain ⟨b6, hb6⟩ : ∃ b6, b6 = u2.heap.size := ⟨_, rfl⟩
  rw [← hb6] at XX LG ⊢
  have S6 : Hid (w.heap.size + 3 ≤ b6) := by have h1 := GG.out; have h2 := LG.out; show _ ≤ _; omega
  clear hb hb6 vp0
  refine (IN.out _).mono ?_
  rintro e z1 ⟨rfl, rfl⟩
  clear IN
  clear X0 P0 US HX LA LG
  obtain ⟨U5, hU5⟩ : ∃ U5, U5 = ((((u3.setCell ⟨w.heap.size + 2, 0, none⟩ (.string K)).setCell ⟨w.heap.size + 2, 1, none⟩ (.int .i64 se)).setCell ⟨w.heap.size + 2, 2, none⟩ (.int .i64 tp)).setCell ⟨w.heap.size + 2, 3, none⟩ (.slice (some ⟨g, 0, none⟩) 32 cap)) := ⟨_, rfl⟩
  have O2 : OnlyB (w.heap.size + 2) u3 U5 := by rw [hU5]; exact ((((OnlyB.refl _ _).setCell 0 _).setCell 1 _).setCell 2 _).setCell 3 _
  have Y5 : Hid (Box4 U5 (w.heap.size + 2) 52 (.string K) (.int .i64 se) (.int .i64 tp) (.slice (some ⟨g, 0, none⟩) 32 cap)) := by rw [hU5]; exact (((Y0.out.set0 _).set1 _).set2 _).set3 _
  have B5 : Hid (Below w.heap.size w U5) := A1.out.trans (O2.toBelow (B := w.heap.size) (by omega) A1.out.size)
  have R5 : Hid (OwnB U5 w.heap.size (some ⟨g, 0, none⟩) 32 f) := RW.out.one O2 (fun p hp => by cases hp; have := GG.out; show g ≠ _; omega)
  have y0 := Y0.out.c0
  have fy0 := Y0.out.fr 0
  have y1 := Y0.out.c1
  have fy1 := Y0.out.fr 1
  have y2 := Y0.out.c2
  have fy2 := Y0.out.fr 2
  have y3 := Y0.out.c3
  have fy3 := Y0.out.fr 3
  have v0' := XX.out.c0
  have v1' := XX.out.c1
  have v2' := XX.out.c2
  have v3' := XX.out.c3
  have HU : Hid (U5 = ((((u3.setCell ⟨w.heap.size + 2, 0, none⟩ (.string K)).setCell ⟨w.heap.size + 2, 1, none⟩ (.int .i64 se)).setCell ⟨w.heap.size + 2, 2, none⟩ (.int .i64 tp)).setCell ⟨w.heap.size + 2, 3, none⟩ (.slice (some ⟨g, 0, none⟩) 32 cap))) := hU5
  clear O2 hU5 Y0 A1
  go_wp2
  rw [← HU.out]
  clear HU y0 fy0 y1 fy1 y2 fy2 y3 fy3 v0' v1' v2' v3'
  have y0 := Y5.out.c0
  have y1 := Y5.out.c1
  have y2 := Y5.out.c2
  have y3 := Y5.out.c3
  exact ret_cell2 (b := w.heap.size + 2) (v := .agg #[.string K, .int .i64 se, .int .i64 tp, .slice (some ⟨g, 0, none⟩) 32 cap]) (x := .int .i64 4) Tryd.results28 rfl rfl (by go_simp) ⟨⟨_, _, rfl, R5.out⟩, B5.out⟩
set_option maxRecDepth 100000 in
set_option maxHeartbeats 8000000 in
theorem specTake_sealed (K B : ByteArray) (T PT : ByteArray) (se tp : Int) (x : Nat) (a : Option Addr) (c : Nat) (f : Nat → Bool) (h2 : LkOk K se tp 32 f) (hB : B.size ≤ 1048576) (hq : 1 ≤ x ∧ x ≤ 1000000) (hPT : PT = ptag K B x) (hne : PT ≠ T) (w : World) (hW : Bools w a 32 f) :
    Calls Tryd.prog 28 #[.agg #[.string K, .int .i64 se, .int .i64 tp, .slice a 32 c], .agg #[.int .i64 (x : Int), .string B, .string T]] w fun e w' => RetL w w' e K se tp 32 f 10 ∧ Below w.heap.size w w' := by
  have A0 : Hid (Below w.heap.size w (((w.alloc (.cells #[.string K, .int .i64 se, .int .i64 tp, .slice a 32 c] 52)).alloc (.cells #[.int .i64 (x : Int), .string B, .string T] 57)).alloc (.cells #[.string ⟨#[]⟩, .int .i64 0, .int .i64 0, .slice none 0 0] 52))) := (((Below.refl w.heap.size w).alloc (Nat.le_refl _) _).alloc (by simp) _).alloc (by simp; omega) _
  have X0 : Hid (Box4 (((w.alloc (.cells #[.string K, .int .i64 se, .int .i64 tp, .slice a 32 c] 52)).alloc (.cells #[.int .i64 (x : Int), .string B, .string T] 57)).alloc (.cells #[.string ⟨#[]⟩, .int .i64 0, .int .i64 0, .slice none 0 0] 52)) w.heap.size 52 (.string K) (.int .i64 se) (.int .i64 tp) (.slice a 32 c)) := ((Box4.madeAt rfl _ _ _ _ _).alloc _).alloc _
  have P0 : Hid (BoxP (((w.alloc (.cells #[.string K, .int .i64 se, .int .i64 tp, .slice a 32 c] 52)).alloc (.cells #[.int .i64 (x : Int), .string B, .string T] 57)).alloc (.cells #[.string ⟨#[]⟩, .int .i64 0, .int .i64 0, .slice none 0 0] 52)) (w.heap.size + 1) 57 (.int .i64 (x : Int)) (.string B) (.string T)) := (BoxP.madeAt (by simp) _ _ _ _).alloc _
  have Y0 : Hid (Box4 (((w.alloc (.cells #[.string K, .int .i64 se, .int .i64 tp, .slice a 32 c] 52)).alloc (.cells #[.int .i64 (x : Int), .string B, .string T] 57)).alloc (.cells #[.string ⟨#[]⟩, .int .i64 0, .int .i64 0, .slice none 0 0] 52)) (w.heap.size + 2) 52 (.string ⟨#[]⟩) (.int .i64 0) (.int .i64 0) (.slice none 0 0)) := Box4.madeAt (by simp) _ _ _ _ _
  have US : Hid ((((w.alloc (.cells #[.string K, .int .i64 se, .int .i64 tp, .slice a 32 c] 52)).alloc (.cells #[.int .i64 (x : Int), .string B, .string T] 57)).alloc (.cells #[.string ⟨#[]⟩, .int .i64 0, .int .i64 0, .slice none 0 0] 52)).heap.size = w.heap.size + 3) := by show _ = _; simp
  have HX : Hid (Bools (((w.alloc (.cells #[.string K, .int .i64 se, .int .i64 tp, .slice a 32 c] 52)).alloc (.cells #[.int .i64 (x : Int), .string B, .string T] 57)).alloc (.cells #[.string ⟨#[]⟩, .int .i64 0, .int .i64 0, .slice none 0 0] 52)) a 32 f) := hW.below A0.out
  have LO : Hid (∀ w : World, Bools w a 32 f → Calls Tryd.prog 72 #[.agg #[.string K, .int .i64 se, .int .i64 tp, .slice a 32 c]] w fun e w' => e = .returned (.bool true) ∧ Below w.heap.size w w') := fun w h => specLinkOK_any K se tp a 32 c f true (by simpa using h2) w h
  have IN : Hid (∀ w : World, Calls Tryd.prog 63 #[.int .i64 (x : Int), .int .i64 1, .int .i64 1000000] w fun e w' => e = .returned (.bool true) ∧ w = w') := fun w => in_any (x : Int) _ _ true (by simp; omega) w
  have TG : Hid (∀ w : World, Calls Tryd.prog 69 #[.string K, .int .i64 (x : Int), .string B] w fun e w' => e = .returned (.string PT) ∧ Below w.heap.size w w') := fun w => by
    rw [hPT]
    exact l07Tag_any K B x h2.1 (by omega) hB w
  clear h2 hW hq hPT hB
  go_enter Tryd.func28, Tryd.ntmps28
  go_wp2_with fail
  generalize (((w.alloc (.cells #[.string K, .int .i64 se, .int .i64 tp, .slice a 32 c] 52)).alloc (.cells #[.int .i64 (x : Int), .string B, .string T] 57)).alloc (.cells #[.string ⟨#[]⟩, .int .i64 0, .int .i64 0, .slice none 0 0] 52)) = u at *
  refine (LO.out _ HX.out).mono ?_
  rintro e u1 ⟨rfl, hb⟩
  replace US : Hid (w.heap.size + 3 ≤ u.heap.size) := by have := US.out; show _ ≤ _; omega
  have A1 := A0
  clear A0
  replace A1 : Hid (Below w.heap.size w u1) := A1.out.trans (hb.mono A1.out.size)
  replace X0 : Hid (Box4 u1 w.heap.size 52 (.string K) (.int .i64 se) (.int .i64 tp) (.slice a 32 c)) := X0.out.below hb
  replace P0 : Hid (BoxP u1 (w.heap.size + 1) 57 (.int .i64 (x : Int)) (.string B) (.string T)) := P0.out.below hb
  replace Y0 : Hid (Box4 u1 (w.heap.size + 2) 52 (.string ⟨#[]⟩) (.int .i64 0) (.int .i64 0) (.slice none 0 0)) := Y0.out.below hb
  replace US : Hid (w.heap.size + 3 ≤ (u1).heap.size) := Nat.le_trans US.out hb.size
  replace HX : Hid (Bools u1 a 32 f) := HX.out.below hb
  clear hb LO
  have t0 := X0.out.c0
  have t1 := X0.out.c1
  have t2 := X0.out.c2
  have t3 := X0.out.c3
  go_wp2_with fail
  clear t0 t1 t2 t3
  refine (l07Own_any K se tp a c f u1 HX.out).mono ?_
  rintro e u2 ⟨⟨g, cap, rfl, og⟩, hb⟩
  have GG : Hid (w.heap.size + 3 ≤ g) := by have h1 := og.ge (by omega) _ rfl; have h2 := US.out; exact Nat.le_trans h2 h1
  have LA : Hid (∀ p, a = some p → p.block < g) := fun p hp => by have h1 := HX.out.ltB (by omega) p hp; have h2 := og.ge (by omega) _ rfl; exact Nat.lt_of_lt_of_le h1 h2
  have RW : Hid (OwnB u2 w.heap.size (some ⟨g, 0, none⟩) 32 f) := og.mono (by have := US.out; omega)
  have LG : Hid (g < u2.heap.size) := og.bools.ltB (by omega) _ rfl
  replace A1 : Hid (Below w.heap.size w u2) := A1.out.trans (hb.mono A1.out.size)
  replace X0 : Hid (Box4 u2 w.heap.size 52 (.string K) (.int .i64 se) (.int .i64 tp) (.slice a 32 c)) := X0.out.below hb
  replace P0 : Hid (BoxP u2 (w.heap.size + 1) 57 (.int .i64 (x : Int)) (.string B) (.string T)) := P0.out.below hb
  replace Y0 : Hid (Box4 u2 (w.heap.size + 2) 52 (.string ⟨#[]⟩) (.int .i64 0) (.int .i64 0) (.slice none 0 0)) := Y0.out.below hb
  replace US : Hid (w.heap.size + 3 ≤ (u2).heap.size) := Nat.le_trans US.out hb.size
  replace HX : Hid (Bools u2 a 32 f) := HX.out.below hb
  clear hb og
  have hb : Below u2.heap.size u2 (u2.alloc (.cells #[.string K, .int .i64 se, .int .i64 tp, .slice (some ⟨g, 0, none⟩) 32 cap] 52)) := (Below.refl _ _).alloc (Nat.le_refl _) _
  have XX : Hid (Box4 (u2.alloc (.cells #[.string K, .int .i64 se, .int .i64 tp, .slice (some ⟨g, 0, none⟩) 32 cap] 52)) u2.heap.size 52 (.string K) (.int .i64 se) (.int .i64 tp) (.slice (some ⟨g, 0, none⟩) 32 cap)) := Box4.madeAt rfl _ _ _ _ _
  have vp0 := (P0.out.below hb).c0
  go_wp2_with fail
  generalize (u2.alloc (.cells #[.string K, .int .i64 se, .int .i64 tp, .slice (some ⟨g, 0, none⟩) 32 cap] 52)) = u3 at *
  replace A1 : Hid (Below w.heap.size w u3) := A1.out.trans (hb.mono A1.out.size)
  replace X0 : Hid (Box4 u3 w.heap.size 52 (.string K) (.int .i64 se) (.int .i64 tp) (.slice a 32 c)) := X0.out.below hb
  replace P0 : Hid (BoxP u3 (w.heap.size + 1) 57 (.int .i64 (x : Int)) (.string B) (.string T)) := P0.out.below hb
  replace Y0 : Hid (Box4 u3 (w.heap.size + 2) 52 (.string ⟨#[]⟩) (.int .i64 0) (.int .i64 0) (.slice none 0 0)) := Y0.out.below hb
  replace US : Hid (w.heap.size + 3 ≤ (u3).heap.size) := Nat.le_trans US.out hb.size
  replace HX : Hid (Bools u3 a 32 f) := HX.out.below hb
  replace RW : Hid (OwnB u3 w.heap.size (some ⟨g, 0, none⟩) 32 f) := RW.out.below hb
  obtain ⟨b6, hb6⟩ : ∃ b6, b6 = u2.heap.size := ⟨_, rfl⟩
  rw [← hb6] at XX LG ⊢
  have S6 : Hid (w.heap.size + 3 ≤ b6) := by have h1 := GG.out; have h2 := LG.out; show _ ≤ _; omega
  clear hb hb6 vp0
  refine (IN.out _).mono ?_
  rintro e z1 ⟨rfl, rfl⟩
  clear IN
  go_wp2_with fail
  have hb : Below u3.heap.size u3 u3.drew := (Below.refl _ _).drew
  have H : (Box4 u3.drew w.heap.size 52 (.string K) (.int .i64 se) (.int .i64 tp) (.slice a 32 c)) ∧ (BoxP u3.drew (w.heap.size + 1) 57 (.int .i64 (x : Int)) (.string B) (.string T)) := ⟨X0.out.below hb, P0.out.below hb⟩
  replace A1 : Hid (Below w.heap.size w u3.drew) := A1.out.trans (hb.mono A1.out.size)
  replace Y0 : Hid (Box4 u3.drew (w.heap.size + 2) 52 (.string ⟨#[]⟩) (.int .i64 0) (.int .i64 0) (.slice none 0 0)) := Y0.out.below hb
  replace US : Hid (w.heap.size + 3 ≤ (u3.drew).heap.size) := Nat.le_trans US.out hb.size
  replace HX : Hid (Bools u3.drew a 32 f) := HX.out.below hb
  replace RW : Hid (OwnB u3.drew w.heap.size (some ⟨g, 0, none⟩) 32 f) := RW.out.below hb
  replace XX : Hid (Box4 u3.drew b6 52 (.string K) (.int .i64 se) (.int .i64 tp) (.slice (some ⟨g, 0, none⟩) 32 cap)) := XX.out.below hb
  clear hb X0 P0
  refine wp_region_noPanic ?_
  refine wp_region_held_drew (S := fun w' => (Box4 w' w.heap.size 52 (.string K) (.int .i64 se) (.int .i64 tp) (.slice a 32 c)) ∧ (BoxP w' (w.heap.size + 1) 57 (.int .i64 (x : Int)) (.string B) (.string T))) (by kernel_rfl) H (fun _ => ?_)
  generalize u3.drew = v21 at *
  refine wpAnyH_take (i := 0) (v := .pointer (some ⟨w.heap.size, 0, none⟩)) rfl (by kernel_rfl) (by kernel_rfl) (by kernel_rfl) (fun _ _ _ h => h) (Or.inl ⟨by rfl, ?_⟩) H ?_
  · intro w' hSw; go_simp
  change wpAnyH _ _ _ _ _ _ _ { tmps := #[_, _, _, _, _, _, _, _, _, _, _, _, _, _, _, _, _, _, _, _, _, _, _, _, _, _, _, _, _, _, _, _, _, _, _, _, _, _, _, _, _, _, _, _, _, _, _, _, _, _, _, _, _, _, _, _, _, _, _, _, _, _, _, _, _, _, _, _, _, _, _, _, _, _, _, _, _, _, _, _, _, _, _, _, _, _, _, _, _, _, _, _, _, _, _, _, _, _, _, _, _, _, _, _, _], defers := _ } _
  refine wpAnyH_take (i := 1) (v := .string K) rfl (by kernel_rfl) (by kernel_rfl) (by kernel_rfl) (fun _ _ _ h => h) (Or.inl ⟨by rfl, ?_⟩) H ?_
  · intro w' hSw; have t0 := hSw.1.c0; clear hSw; go_simp
  change wpAnyH _ _ _ _ _ _ _ { tmps := #[_, _, _, _, _, _, _, _, _, _, _, _, _, _, _, _, _, _, _, _, _, _, _, _, _, _, _, _, _, _, _, _, _, _, _, _, _, _, _, _, _, _, _, _, _, _, _, _, _, _, _, _, _, _, _, _, _, _, _, _, _, _, _, _, _, _, _, _, _, _, _, _, _, _, _, _, _, _, _, _, _, _, _, _, _, _, _, _, _, _, _, _, _, _, _, _, _, _, _, _, _, _, _, _, _], defers := _ } _
  refine wpAnyH_take (i := 2) (v := .pointer (some ⟨w.heap.size + 1, 0, none⟩)) rfl (by kernel_rfl) (by kernel_rfl) (by kernel_rfl) (fun _ _ _ h => h) (Or.inl ⟨by rfl, ?_⟩) H ?_
  · intro w' hSw; go_simp
  change wpAnyH _ _ _ _ _ _ _ { tmps := #[_, _, _, _, _, _, _, _, _, _, _, _, _, _, _, _, _, _, _, _, _, _, _, _, _, _, _, _, _, _, _, _, _, _, _, _, _, _, _, _, _, _, _, _, _, _, _, _, _, _, _, _, _, _, _, _, _, _, _, _, _, _, _, _, _, _, _, _, _, _, _, _, _, _, _, _, _, _, _, _, _, _, _, _, _, _, _, _, _, _, _, _, _, _, _, _, _, _, _, _, _, _, _, _, _], defers := _ } _
  refine wpAnyH_take (i := 3) (v := .int .i64 (x : Int)) rfl (by kernel_rfl) (by kernel_rfl) (by kernel_rfl) (fun _ _ _ h => h) (Or.inl ⟨by rfl, ?_⟩) H ?_
  · intro w' hSw; have t0 := hSw.2.c0; clear hSw; go_simp
  change wpAnyH _ _ _ _ _ _ _ { tmps := #[_, _, _, _, _, _, _, _, _, _, _, _, _, _, _, _, _, _, _, _, _, _, _, _, _, _, _, _, _, _, _, _, _, _, _, _, _, _, _, _, _, _, _, _, _, _, _, _, _, _, _, _, _, _, _, _, _, _, _, _, _, _, _, _, _, _, _, _, _, _, _, _, _, _, _, _, _, _, _, _, _, _, _, _, _, _, _, _, _, _, _, _, _, _, _, _, _, _, _, _, _, _, _, _, _], defers := _ } _
  refine wpAnyH_take (i := 4) (v := .pointer (some ⟨w.heap.size + 1, 1, none⟩)) rfl (by kernel_rfl) (by kernel_rfl) (by kernel_rfl) (fun _ _ _ h => h) (Or.inl ⟨by rfl, ?_⟩) H ?_
  · intro w' hSw; go_simp
  change wpAnyH _ _ _ _ _ _ _ { tmps := #[_, _, _, _, _, _, _, _, _, _, _, _, _, _, _, _, _, _, _, _, _, _, _, _, _, _, _, _, _, _, _, _, _, _, _, _, _, _, _, _, _, _, _, _, _, _, _, _, _, _, _, _, _, _, _, _, _, _, _, _, _, _, _, _, _, _, _, _, _, _, _, _, _, _, _, _, _, _, _, _, _, _, _, _, _, _, _, _, _, _, _, _, _, _, _, _, _, _, _, _, _, _, _, _, _], defers := _ } _
  refine wpAnyH_take (i := 5) (v := .string B) rfl (by kernel_rfl) (by kernel_rfl) (by kernel_rfl) (fun _ _ _ h => h) (Or.inl ⟨by rfl, ?_⟩) H ?_
  · intro w' hSw; have t0 := hSw.2.c1; clear hSw; go_simp
  change wpAnyH _ _ _ _ _ _ _ { tmps := #[_, _, _, _, _, _, _, _, _, _, _, _, _, _, _, _, _, _, _, _, _, _, _, _, _, _, _, _, _, _, _, _, _, _, _, _, _, _, _, _, _, _, _, _, _, _, _, _, _, _, _, _, _, _, _, _, _, _, _, _, _, _, _, _, _, _, _, _, _, _, _, _, _, _, _, _, _, _, _, _, _, _, _, _, _, _, _, _, _, _, _, _, _, _, _, _, _, _, _, _, _, _, _, _, _], defers := _ } _
  refine wpAnyH_take (i := 7) (v := .pointer (some ⟨w.heap.size + 1, 2, none⟩)) rfl (by kernel_rfl) (by kernel_rfl) (by kernel_rfl) (fun _ _ _ h => h) (Or.inl ⟨by rfl, ?_⟩) H ?_
  · intro w' hSw; go_simp
  change wpAnyH _ _ _ _ _ _ _ { tmps := #[_, _, _, _, _, _, _, _, _, _, _, _, _, _, _, _, _, _, _, _, _, _, _, _, _, _, _, _, _, _, _, _, _, _, _, _, _, _, _, _, _, _, _, _, _, _, _, _, _, _, _, _, _, _, _, _, _, _, _, _, _, _, _, _, _, _, _, _, _, _, _, _, _, _, _, _, _, _, _, _, _, _, _, _, _, _, _, _, _, _, _, _, _, _, _, _, _, _, _, _, _, _, _, _, _], defers := _ } _
  refine wpAnyH_take (i := 8) (v := .string T) rfl (by kernel_rfl) (by kernel_rfl) (by kernel_rfl) (fun _ _ _ h => h) (Or.inl ⟨by rfl, ?_⟩) H ?_
  · intro w' hSw; have t0 := hSw.2.c2; clear hSw; go_simp
  change wpAnyH _ _ _ _ _ _ _ { tmps := #[_, _, _, _, _, _, _, _, _, _, _, _, _, _, _, _, _, _, _, _, _, _, _, _, _, _, _, _, _, _, _, _, _, _, _, _, _, _, _, _, _, _, _, _, _, _, _, _, _, _, _, _, _, _, _, _, _, _, _, _, _, _, _, _, _, _, _, _, _, _, _, _, _, _, _, _, _, _, _, _, _, _, _, _, _, _, _, _, _, _, _, _, _, _, _, _, _, _, _, _, _, _, _, _, _], defers := _ } _
  refine wpAnyH_ready (rs := [6]) (by kernel_rfl) (by simp) ?_
  refine AllReadyH.cons rfl (fun KK hK => ?_) AllReadyH.nil
  go_simp
  refine (TG.out _).mono ?_
  rintro e v22 ⟨rfl, hb⟩
  replace A1 : Hid (Below w.heap.size w v22) := A1.out.trans (hb.mono A1.out.size)
  replace Y0 : Hid (Box4 v22 (w.heap.size + 2) 52 (.string ⟨#[]⟩) (.int .i64 0) (.int .i64 0) (.slice none 0 0)) := Y0.out.below hb
  replace US : Hid (w.heap.size + 3 ≤ (v22).heap.size) := Nat.le_trans US.out hb.size
  replace HX : Hid (Bools v22 a 32 f) := HX.out.below hb
  replace RW : Hid (OwnB v22 w.heap.size (some ⟨g, 0, none⟩) 32 f) := RW.out.below hb
  replace XX : Hid (Box4 v22 b6 52 (.string K) (.int .i64 se) (.int .i64 tp) (.slice (some ⟨g, 0, none⟩) 32 cap)) := XX.out.below hb
  replace H : (Box4 v22 w.heap.size 52 (.string K) (.int .i64 se) (.int .i64 tp) (.slice a 32 c)) ∧ (BoxP v22 (w.heap.size + 1) 57 (.int .i64 (x : Int)) (.string B) (.string T)) := ⟨H.1.below hb, H.2.below hb⟩
  clear hb 
  refine hK.out _ _ H (fun _ => ?_)
  clear hK KK
  change wpAnyH _ _ _ _ _ _ _ { tmps := #[_, _, _, _, _, _, _, _, _, _, _, _, _, _, _, _, _, _, _, _, _, _, _, _, _, _, _, _, _, _, _, _, _, _, _, _, _, _, _, _, _, _, _, _, _, _, _, _, _, _, _, _, _, _, _, _, _, _, _, _, _, _, _, _, _, _, _, _, _, _, _, _, _, _, _, _, _, _, _, _, _, _, _, _, _, _, _, _, _, _, _, _, _, _, _, _, _, _, _, _, _, _, _, _, _], defers := _ } _
  have hn2 : ¬ PT.toList = T.toList := fun h => hne (ba_ext (by rw [← ByteArray.toList_eq, ← ByteArray.toList_eq]; exact h))
  refine wpAnyH_take (i := 9) (v := .bool true) rfl (by kernel_rfl) (by kernel_rfl) (by kernel_rfl) (fun _ _ _ h => h) (Or.inl ⟨by rfl, ?_⟩) H ?_
  · intro w' hSw; clear hSw; go_simp
  change wpAnyH _ _ _ _ _ _ _ { tmps := #[_, _, _, _, _, _, _, _, _, _, _, _, _, _, _, _, _, _, _, _, _, _, _, _, _, _, _, _, _, _, _, _, _, _, _, _, _, _, _, _, _, _, _, _, _, _, _, _, _, _, _, _, _, _, _, _, _, _, _, _, _, _, _, _, _, _, _, _, _, _, _, _, _, _, _, _, _, _, _, _, _, _, _, _, _, _, _, _, _, _, _, _, _, _, _, _, _, _, _, _, _, _, _, _, _], defers := _ } _
  refine wpAnyH_take (i := 10) (v := .bool true) rfl (by kernel_rfl) (by kernel_rfl) (by kernel_rfl) (fun _ _ _ h => h) (Or.inl ⟨by rfl, ?_⟩) H ?_
  · intro w' hSw; go_simp
  change wpAnyH _ _ _ _ _ _ _ { tmps := #[_, _, _, _, _, _, _, _, _, _, _, _, _, _, _, _, _, _, _, _, _, _, _, _, _, _, _, _, _, _, _, _, _, _, _, _, _, _, _, _, _, _, _, _, _, _, _, _, _, _, _, _, _, _, _, _, _, _, _, _, _, _, _, _, _, _, _, _, _, _, _, _, _, _, _, _, _, _, _, _, _, _, _, _, _, _, _, _, _, _, _, _, _, _, _, _, _, _, _, _, _, _, _, _, _], defers := _ } _
  have X0 : Hid (Box4 v22 w.heap.size 52 (.string K) (.int .i64 se) (.int .i64 tp) (.slice a 32 c)) := H.1
  have P0 : Hid (BoxP v22 (w.heap.size + 1) 57 (.int .i64 (x : Int)) (.string B) (.string T)) := H.2
  clear H
  refine wpAnyH_done (by kernel_rfl) ?_ _
  refine NoPanic.normal ?_
  clear TG
  clear X0 P0 US HX LA LG hne hn2
  obtain ⟨U5, hU5⟩ : ∃ U5, U5 = ((((v22.setCell ⟨w.heap.size + 2, 0, none⟩ (.string K)).setCell ⟨w.heap.size + 2, 1, none⟩ (.int .i64 se)).setCell ⟨w.heap.size + 2, 2, none⟩ (.int .i64 tp)).setCell ⟨w.heap.size + 2, 3, none⟩ (.slice (some ⟨g, 0, none⟩) 32 cap)) := ⟨_, rfl⟩
  have O2 : OnlyB (w.heap.size + 2) v22 U5 := by rw [hU5]; exact ((((OnlyB.refl _ _).setCell 0 _).setCell 1 _).setCell 2 _).setCell 3 _
  have Y5 : Hid (Box4 U5 (w.heap.size + 2) 52 (.string K) (.int .i64 se) (.int .i64 tp) (.slice (some ⟨g, 0, none⟩) 32 cap)) := by rw [hU5]; exact (((Y0.out.set0 _).set1 _).set2 _).set3 _
  have B5 : Hid (Below w.heap.size w U5) := A1.out.trans (O2.toBelow (B := w.heap.size) (by omega) A1.out.size)
  have R5 : Hid (OwnB U5 w.heap.size (some ⟨g, 0, none⟩) 32 f) := RW.out.one O2 (fun p hp => by cases hp; have := GG.out; show g ≠ _; omega)
  have y0 := Y0.out.c0
  have fy0 := Y0.out.fr 0
  have y1 := Y0.out.c1
  have fy1 := Y0.out.fr 1
  have y2 := Y0.out.c2
  have fy2 := Y0.out.fr 2
  have y3 := Y0.out.c3
  have fy3 := Y0.out.fr 3
  have v0' := XX.out.c0
  have v1' := XX.out.c1
  have v2' := XX.out.c2
  have v3' := XX.out.c3
  have HU : Hid (U5 = ((((v22.setCell ⟨w.heap.size + 2, 0, none⟩ (.string K)).setCell ⟨w.heap.size + 2, 1, none⟩ (.int .i64 se)).setCell ⟨w.heap.size + 2, 2, none⟩ (.int .i64 tp)).setCell ⟨w.heap.size + 2, 3, none⟩ (.slice (some ⟨g, 0, none⟩) 32 cap))) := hU5
  clear O2 hU5 Y0 A1
  go_wp2
  rw [← HU.out]
  clear HU y0 fy0 y1 fy1 y2 fy2 y3 fy3 v0' v1' v2' v3'
  have y0 := Y5.out.c0
  have y1 := Y5.out.c1
  have y2 := Y5.out.c2
  have y3 := Y5.out.c3
  exact ret_cell2 (b := w.heap.size + 2) (v := .agg #[.string K, .int .i64 se, .int .i64 tp, .slice (some ⟨g, 0, none⟩) 32 cap]) (x := .int .i64 10) Tryd.results28 rfl rfl (by go_simp) ⟨⟨_, _, rfl, R5.out⟩, B5.out⟩
set_option maxRecDepth 100000 in
set_option maxHeartbeats 8000000 in
theorem specTake_order (K B : ByteArray) (PT : ByteArray) (se : Int) (t x : Nat) (a : Option Addr) (c : Nat) (f : Nat → Bool) (h2 : LkOk K se (t : Int) 32 f) (hB : B.size ≤ 1048576) (hq : 1 ≤ x ∧ x ≤ 1000000) (hPT : PT = ptag K B x) (ho : x + 32 ≤ t) (w : World) (hW : Bools w a 32 f) :
    Calls Tryd.prog 28 #[.agg #[.string K, .int .i64 se, .int .i64 (t : Int), .slice a 32 c], .agg #[.int .i64 (x : Int), .string B, .string PT]] w fun e w' => RetL w w' e K se (t : Int) 32 f 15 ∧ Below w.heap.size w w' := by
  have A0 : Hid (Below w.heap.size w (((w.alloc (.cells #[.string K, .int .i64 se, .int .i64 (t : Int), .slice a 32 c] 52)).alloc (.cells #[.int .i64 (x : Int), .string B, .string PT] 57)).alloc (.cells #[.string ⟨#[]⟩, .int .i64 0, .int .i64 0, .slice none 0 0] 52))) := (((Below.refl w.heap.size w).alloc (Nat.le_refl _) _).alloc (by simp) _).alloc (by simp; omega) _
  have X0 : Hid (Box4 (((w.alloc (.cells #[.string K, .int .i64 se, .int .i64 (t : Int), .slice a 32 c] 52)).alloc (.cells #[.int .i64 (x : Int), .string B, .string PT] 57)).alloc (.cells #[.string ⟨#[]⟩, .int .i64 0, .int .i64 0, .slice none 0 0] 52)) w.heap.size 52 (.string K) (.int .i64 se) (.int .i64 (t : Int)) (.slice a 32 c)) := ((Box4.madeAt rfl _ _ _ _ _).alloc _).alloc _
  have P0 : Hid (BoxP (((w.alloc (.cells #[.string K, .int .i64 se, .int .i64 (t : Int), .slice a 32 c] 52)).alloc (.cells #[.int .i64 (x : Int), .string B, .string PT] 57)).alloc (.cells #[.string ⟨#[]⟩, .int .i64 0, .int .i64 0, .slice none 0 0] 52)) (w.heap.size + 1) 57 (.int .i64 (x : Int)) (.string B) (.string PT)) := (BoxP.madeAt (by simp) _ _ _ _).alloc _
  have Y0 : Hid (Box4 (((w.alloc (.cells #[.string K, .int .i64 se, .int .i64 (t : Int), .slice a 32 c] 52)).alloc (.cells #[.int .i64 (x : Int), .string B, .string PT] 57)).alloc (.cells #[.string ⟨#[]⟩, .int .i64 0, .int .i64 0, .slice none 0 0] 52)) (w.heap.size + 2) 52 (.string ⟨#[]⟩) (.int .i64 0) (.int .i64 0) (.slice none 0 0)) := Box4.madeAt (by simp) _ _ _ _ _
  have US : Hid ((((w.alloc (.cells #[.string K, .int .i64 se, .int .i64 (t : Int), .slice a 32 c] 52)).alloc (.cells #[.int .i64 (x : Int), .string B, .string PT] 57)).alloc (.cells #[.string ⟨#[]⟩, .int .i64 0, .int .i64 0, .slice none 0 0] 52)).heap.size = w.heap.size + 3) := by show _ = _; simp
  have HX : Hid (Bools (((w.alloc (.cells #[.string K, .int .i64 se, .int .i64 (t : Int), .slice a 32 c] 52)).alloc (.cells #[.int .i64 (x : Int), .string B, .string PT] 57)).alloc (.cells #[.string ⟨#[]⟩, .int .i64 0, .int .i64 0, .slice none 0 0] 52)) a 32 f) := hW.below A0.out
  have LO : Hid (∀ w : World, Bools w a 32 f → Calls Tryd.prog 72 #[.agg #[.string K, .int .i64 se, .int .i64 (t : Int), .slice a 32 c]] w fun e w' => e = .returned (.bool true) ∧ Below w.heap.size w w') := fun w h => specLinkOK_any K se (t : Int) a 32 c f true (by simpa using h2) w h
  have IN : Hid (∀ w : World, Calls Tryd.prog 63 #[.int .i64 (x : Int), .int .i64 1, .int .i64 1000000] w fun e w' => e = .returned (.bool true) ∧ w = w') := fun w => in_any (x : Int) _ _ true (by simp; omega) w
  have TG : Hid (∀ w : World, Calls Tryd.prog 69 #[.string K, .int .i64 (x : Int), .string B] w fun e w' => e = .returned (.string PT) ∧ Below w.heap.size w w') := fun w => by
    rw [hPT]
    exact l07Tag_any K B x h2.1 (by omega) hB w
  have bt : (t : Int) ≤ 1000000 := h2.2.2.1.2
  have bx : (x : Int) ≤ 1000000 := by omega
  have b0 : (0 : Int) ≤ (t : Int) := by omega
  have b1 : (0 : Int) ≤ (x : Int) := by omega
  have c1 : (x : Int) ≤ (t : Int) - 32 := by omega
  clear h2 hW hq hPT hB
  clear ho
  go_enter Tryd.func28, Tryd.ntmps28
  go_wp2_with fail
  generalize (((w.alloc (.cells #[.string K, .int .i64 se, .int .i64 (t : Int), .slice a 32 c] 52)).alloc (.cells #[.int .i64 (x : Int), .string B, .string PT] 57)).alloc (.cells #[.string ⟨#[]⟩, .int .i64 0, .int .i64 0, .slice none 0 0] 52)) = u at *
  refine (LO.out _ HX.out).mono ?_
  rintro e u1 ⟨rfl, hb⟩
  replace US : Hid (w.heap.size + 3 ≤ u.heap.size) := by have := US.out; show _ ≤ _; omega
  have A1 := A0
  clear A0
  replace A1 : Hid (Below w.heap.size w u1) := A1.out.trans (hb.mono A1.out.size)
  replace X0 : Hid (Box4 u1 w.heap.size 52 (.string K) (.int .i64 se) (.int .i64 (t : Int)) (.slice a 32 c)) := X0.out.below hb
  replace P0 : Hid (BoxP u1 (w.heap.size + 1) 57 (.int .i64 (x : Int)) (.string B) (.string PT)) := P0.out.below hb
  replace Y0 : Hid (Box4 u1 (w.heap.size + 2) 52 (.string ⟨#[]⟩) (.int .i64 0) (.int .i64 0) (.slice none 0 0)) := Y0.out.below hb
  replace US : Hid (w.heap.size + 3 ≤ (u1).heap.size) := Nat.le_trans US.out hb.size
  replace HX : Hid (Bools u1 a 32 f) := HX.out.below hb
  clear hb LO
  have t0 := X0.out.c0
  have t1 := X0.out.c1
  have t2 := X0.out.c2
  have t3 := X0.out.c3
  go_wp2_with fail
  clear t0 t1 t2 t3
  refine (l07Own_any K se (t : Int) a c f u1 HX.out).mono ?_
  rintro e u2 ⟨⟨g, cap, rfl, og⟩, hb⟩
  have GG : Hid (w.heap.size + 3 ≤ g) := by have h1 := og.ge (by omega) _ rfl; have h2 := US.out; exact Nat.le_trans h2 h1
  have LA : Hid (∀ p, a = some p → p.block < g) := fun p hp => by have h1 := HX.out.ltB (by omega) p hp; have h2 := og.ge (by omega) _ rfl; exact Nat.lt_of_lt_of_le h1 h2
  have RW : Hid (OwnB u2 w.heap.size (some ⟨g, 0, none⟩) 32 f) := og.mono (by have := US.out; omega)
  have LG : Hid (g < u2.heap.size) := og.bools.ltB (by omega) _ rfl
  replace A1 : Hid (Below w.heap.size w u2) := A1.out.trans (hb.mono A1.out.size)
  replace X0 : Hid (Box4 u2 w.heap.size 52 (.string K) (.int .i64 se) (.int .i64 (t : Int)) (.slice a 32 c)) := X0.out.below hb
  replace P0 : Hid (BoxP u2 (w.heap.size + 1) 57 (.int .i64 (x : Int)) (.string B) (.string PT)) := P0.out.below hb
  replace Y0 : Hid (Box4 u2 (w.heap.size + 2) 52 (.string ⟨#[]⟩) (.int .i64 0) (.int .i64 0) (.slice none 0 0)) := Y0.out.below hb
  replace US : Hid (w.heap.size + 3 ≤ (u2).heap.size) := Nat.le_trans US.out hb.size
  replace HX : Hid (Bools u2 a 32 f) := HX.out.below hb
  clear hb og
  have hb : Below u2.heap.size u2 (u2.alloc (.cells #[.string K, .int .i64 se, .int .i64 (t : Int), .slice (some ⟨g, 0, none⟩) 32 cap] 52)) := (Below.refl _ _).alloc (Nat.le_refl _) _
  have XX : Hid (Box4 (u2.alloc (.cells #[.string K, .int .i64 se, .int .i64 (t : Int), .slice (some ⟨g, 0, none⟩) 32 cap] 52)) u2.heap.size 52 (.string K) (.int .i64 se) (.int .i64 (t : Int)) (.slice (some ⟨g, 0, none⟩) 32 cap)) := Box4.madeAt rfl _ _ _ _ _
  have vp0 := (P0.out.below hb).c0
  go_wp2_with fail
  generalize (u2.alloc (.cells #[.string K, .int .i64 se, .int .i64 (t : Int), .slice (some ⟨g, 0, none⟩) 32 cap] 52)) = u3 at *
  replace A1 : Hid (Below w.heap.size w u3) := A1.out.trans (hb.mono A1.out.size)
  replace X0 : Hid (Box4 u3 w.heap.size 52 (.string K) (.int .i64 se) (.int .i64 (t : Int)) (.slice a 32 c)) := X0.out.below hb
  replace P0 : Hid (BoxP u3 (w.heap.size + 1) 57 (.int .i64 (x : Int)) (.string B) (.string PT)) := P0.out.below hb
  replace Y0 : Hid (Box4 u3 (w.heap.size + 2) 52 (.string ⟨#[]⟩) (.int .i64 0) (.int .i64 0) (.slice none 0 0)) := Y0.out.below hb
  replace US : Hid (w.heap.size + 3 ≤ (u3).heap.size) := Nat.le_trans US.out hb.size
  replace HX : Hid (Bools u3 a 32 f) := HX.out.below hb
  replace RW : Hid (OwnB u3 w.heap.size (some ⟨g, 0, none⟩) 32 f) := RW.out.below hb
  obtain ⟨b6, hb6⟩ : ∃ b6, b6 = u2.heap.size := ⟨_, rfl⟩
  rw [← hb6] at XX LG ⊢
  have S6 : Hid (w.heap.size + 3 ≤ b6) := by have h1 := GG.out; have h2 := LG.out; show _ ≤ _; omega
  clear hb hb6 vp0
  refine (IN.out _).mono ?_
  rintro e z1 ⟨rfl, rfl⟩
  clear IN
  go_wp2_with fail
  have hb : Below u3.heap.size u3 u3.drew := (Below.refl _ _).drew
  have H : (Box4 u3.drew w.heap.size 52 (.string K) (.int .i64 se) (.int .i64 (t : Int)) (.slice a 32 c)) ∧ (BoxP u3.drew (w.heap.size + 1) 57 (.int .i64 (x : Int)) (.string B) (.string PT)) := ⟨X0.out.below hb, P0.out.below hb⟩
  replace A1 : Hid (Below w.heap.size w u3.drew) := A1.out.trans (hb.mono A1.out.size)
  replace Y0 : Hid (Box4 u3.drew (w.heap.size + 2) 52 (.string ⟨#[]⟩) (.int .i64 0) (.int .i64 0) (.slice none 0 0)) := Y0.out.below hb
  replace US : Hid (w.heap.size + 3 ≤ (u3.drew).heap.size) := Nat.le_trans US.out hb.size
  replace HX : Hid (Bools u3.drew a 32 f) := HX.out.below hb
  replace RW : Hid (OwnB u3.drew w.heap.size (some ⟨g, 0, none⟩) 32 f) := RW.out.below hb
  replace XX : Hid (Box4 u3.drew b6 52 (.string K) (.int .i64 se) (.int .i64 (t : Int)) (.slice (some ⟨g, 0, none⟩) 32 cap)) := XX.out.below hb
  clear hb X0 P0
  refine wp_region_noPanic ?_
  refine wp_region_held_drew (S := fun w' => (Box4 w' w.heap.size 52 (.string K) (.int .i64 se) (.int .i64 (t : Int)) (.slice a 32 c)) ∧ (BoxP w' (w.heap.size + 1) 57 (.int .i64 (x : Int)) (.string B) (.string PT))) (by kernel_rfl) H (fun _ => ?_)
  generalize u3.drew = v21 at *
  refine wpAnyH_take (i := 0) (v := .pointer (some ⟨w.heap.size, 0, none⟩)) rfl (by kernel_rfl) (by kernel_rfl) (by kernel_rfl) (fun _ _ _ h => h) (Or.inl ⟨by rfl, ?_⟩) H ?_
  · intro w' hSw; go_simp
  change wpAnyH _ _ _ _ _ _ _ { tmps := #[_, _, _, _, _, _, _, _, _, _, _, _, _, _, _, _, _, _, _, _, _, _, _, _, _, _, _, _, _, _, _, _, _, _, _, _, _, _, _, _, _, _, _, _, _, _, _, _, _, _, _, _, _, _, _, _, _, _, _, _, _, _, _, _, _, _, _, _, _, _, _, _, _, _, _, _, _, _, _, _, _, _, _, _, _, _, _, _, _, _, _, _, _, _, _, _, _, _, _, _, _, _, _, _, _], defers := _ } _
  refine wpAnyH_take (i := 1) (v := .string K) rfl (by kernel_rfl) (by kernel_rfl) (by kernel_rfl) (fun _ _ _ h => h) (Or.inl ⟨by rfl, ?_⟩) H ?_
  · intro w' hSw; have t0 := hSw.1.c0; clear hSw; go_simp
  change wpAnyH _ _ _ _ _ _ _ { tmps := #[_, _, _, _, _, _, _, _, _, _, _, _, _, _, _, _, _, _, _, _, _, _, _, _, _, _, _, _, _, _, _, _, _, _, _, _, _, _, _, _, _, _, _, _, _, _, _, _, _, _, _, _, _, _, _, _, _, _, _, _, _, _, _, _, _, _, _, _, _, _, _, _, _, _, _, _, _, _, _, _, _, _, _, _, _, _, _, _, _, _, _, _, _, _, _, _, _, _, _, _, _, _, _, _, _], defers := _ } _
  refine wpAnyH_take (i := 2) (v := .pointer (some ⟨w.heap.size + 1, 0, none⟩)) rfl (by kernel_rfl) (by kernel_rfl) (by kernel_rfl) (fun _ _ _ h => h) (Or.inl ⟨by rfl, ?_⟩) H ?_
  · intro w' hSw; go_simp
  change wpAnyH _ _ _ _ _ _ _ { tmps := #[_, _, _, _, _, _, _, _, _, _, _, _, _, _, _, _, _, _, _, _, _, _, _, _, _, _, _, _, _, _, _, _, _, _, _, _, _, _, _, _, _, _, _, _, _, _, _, _, _, _, _, _, _, _, _, _, _, _, _, _, _, _, _, _, _, _, _, _, _, _, _, _, _, _, _, _, _, _, _, _, _, _, _, _, _, _, _, _, _, _, _, _, _, _, _, _, _, _, _, _, _, _, _, _, _], defers := _ } _
  refine wpAnyH_take (i := 3) (v := .int .i64 (x : Int)) rfl (by kernel_rfl) (by kernel_rfl) (by kernel_rfl) (fun _ _ _ h => h) (Or.inl ⟨by rfl, ?_⟩) H ?_
  · intro w' hSw; have t0 := hSw.2.c0; clear hSw; go_simp
  change wpAnyH _ _ _ _ _ _ _ { tmps := #[_, _, _, _, _, _, _, _, _, _, _, _, _, _, _, _, _, _, _, _, _, _, _, _, _, _, _, _, _, _, _, _, _, _, _, _, _, _, _, _, _, _, _, _, _, _, _, _, _, _, _, _, _, _, _, _, _, _, _, _, _, _, _, _, _, _, _, _, _, _, _, _, _, _, _, _, _, _, _, _, _, _, _, _, _, _, _, _, _, _, _, _, _, _, _, _, _, _, _, _, _, _, _, _, _], defers := _ } _
  refine wpAnyH_take (i := 4) (v := .pointer (some ⟨w.heap.size + 1, 1, none⟩)) rfl (by kernel_rfl) (by kernel_rfl) (by kernel_rfl) (fun _ _ _ h => h) (Or.inl ⟨by rfl, ?_⟩) H ?_
  · intro w' hSw; go_simp
  change wpAnyH _ _ _ _ _ _ _ { tmps := #[_, _, _, _, _, _, _, _, _, _, _, _, _, _, _, _, _, _, _, _, _, _, _, _, _, _, _, _, _, _, _, _, _, _, _, _, _, _, _, _, _, _, _, _, _, _, _, _, _, _, _, _, _, _, _, _, _, _, _, _, _, _, _, _, _, _, _, _, _, _, _, _, _, _, _, _, _, _, _, _, _, _, _, _, _, _, _, _, _, _, _, _, _, _, _, _, _, _, _, _, _, _, _, _, _], defers := _ } _
  refine wpAnyH_take (i := 5) (v := .string B) rfl (by kernel_rfl) (by kernel_rfl) (by kernel_rfl) (fun _ _ _ h => h) (Or.inl ⟨by rfl, ?_⟩) H ?_
  · intro w' hSw; have t0 := hSw.2.c1; clear hSw; go_simp
  change wpAnyH _ _ _ _ _ _ _ { tmps := #[_, _, _, _, _, _, _, _, _, _, _, _, _, _, _, _, _, _, _, _, _, _, _, _, _, _, _, _, _, _, _, _, _, _, _, _, _, _, _, _, _, _, _, _, _, _, _, _, _, _, _, _, _, _, _, _, _, _, _, _, _, _, _, _, _, _, _, _, _, _, _, _, _, _, _, _, _, _, _, _, _, _, _, _, _, _, _, _, _, _, _, _, _, _, _, _, _, _, _, _, _, _, _, _, _], defers := _ } _
  refine wpAnyH_take (i := 7) (v := .pointer (some ⟨w.heap.size + 1, 2, none⟩)) rfl (by kernel_rfl) (by kernel_rfl) (by kernel_rfl) (fun _ _ _ h => h) (Or.inl ⟨by rfl, ?_⟩) H ?_
  · intro w' hSw; go_simp
  change wpAnyH _ _ _ _ _ _ _ { tmps := #[_, _, _, _, _, _, _, _, _, _, _, _, _, _, _, _, _, _, _, _, _, _, _, _, _, _, _, _, _, _, _, _, _, _, _, _, _, _, _, _, _, _, _, _, _, _, _, _, _, _, _, _, _, _, _, _, _, _, _, _, _, _, _, _, _, _, _, _, _, _, _, _, _, _, _, _, _, _, _, _, _, _, _, _, _, _, _, _, _, _, _, _, _, _, _, _, _, _, _, _, _, _, _, _, _], defers := _ } _
  refine wpAnyH_take (i := 8) (v := .string PT) rfl (by kernel_rfl) (by kernel_rfl) (by kernel_rfl) (fun _ _ _ h => h) (Or.inl ⟨by rfl, ?_⟩) H ?_
  · intro w' hSw; have t0 := hSw.2.c2; clear hSw; go_simp
  change wpAnyH _ _ _ _ _ _ _ { tmps := #[_, _, _, _, _, _, _, _, _, _, _, _, _, _, _, _, _, _, _, _, _, _, _, _, _, _, _, _, _, _, _, _, _, _, _, _, _, _, _, _, _, _, _, _, _, _, _, _, _, _, _, _, _, _, _, _, _, _, _, _, _, _, _, _, _, _, _, _, _, _, _, _, _, _, _, _, _, _, _, _, _, _, _, _, _, _, _, _, _, _, _, _, _, _, _, _, _, _, _, _, _, _, _, _, _], defers := _ } _
  refine wpAnyH_ready (rs := [6]) (by kernel_rfl) (by simp) ?_
  refine AllReadyH.cons rfl (fun KK hK => ?_) AllReadyH.nil
  go_simp
  refine (TG.out _).mono ?_
  rintro e v22 ⟨rfl, hb⟩
  replace A1 : Hid (Below w.heap.size w v22) := A1.out.trans (hb.mono A1.out.size)
  replace Y0 : Hid (Box4 v22 (w.heap.size + 2) 52 (.string ⟨#[]⟩) (.int .i64 0) (.int .i64 0) (.slice none 0 0)) := Y0.out.below hb
  replace US : Hid (w.heap.size + 3 ≤ (v22).heap.size) := Nat.le_trans US.out hb.size
  replace HX : Hid (Bools v22 a 32 f) := HX.out.below hb
  replace RW : Hid (OwnB v22 w.heap.size (some ⟨g, 0, none⟩) 32 f) := RW.out.below hb
  replace XX : Hid (Box4 v22 b6 52 (.string K) (.int .i64 se) (.int .i64 (t : Int)) (.slice (some ⟨g, 0, none⟩) 32 cap)) := XX.out.below hb
  replace H : (Box4 v22 w.heap.size 52 (.string K) (.int .i64 se) (.int .i64 (t : Int)) (.slice a 32 c)) ∧ (BoxP v22 (w.heap.size + 1) 57 (.int .i64 (x : Int)) (.string B) (.string PT)) := ⟨H.1.below hb, H.2.below hb⟩
  clear hb 
  refine hK.out _ _ H (fun _ => ?_)
  clear hK KK
  change wpAnyH _ _ _ _ _ _ _ { tmps := #[_, _, _, _, _, _, _, _, _, _, _, _, _, _, _, _, _, _, _, _, _, _, _, _, _, _, _, _, _, _, _, _, _, _, _, _, _, _, _, _, _, _, _, _, _, _, _, _, _, _, _, _, _, _, _, _, _, _, _, _, _, _, _, _, _, _, _, _, _, _, _, _, _, _, _, _, _, _, _, _, _, _, _, _, _, _, _, _, _, _, _, _, _, _, _, _, _, _, _, _, _, _, _, _, _], defers := _ } _
  refine wpAnyH_take (i := 9) (v := .bool false) rfl (by kernel_rfl) (by kernel_rfl) (by kernel_rfl) (fun _ _ _ h => h) (Or.inl ⟨by rfl, ?_⟩) H ?_
  · intro w' hSw; clear hSw; go_simp
  change wpAnyH _ _ _ _ _ _ _ { tmps := #[_, _, _, _, _, _, _, _, _, _, _, _, _, _, _, _, _, _, _, _, _, _, _, _, _, _, _, _, _, _, _, _, _, _, _, _, _, _, _, _, _, _, _, _, _, _, _, _, _, _, _, _, _, _, _, _, _, _, _, _, _, _, _, _, _, _, _, _, _, _, _, _, _, _, _, _, _, _, _, _, _, _, _, _, _, _, _, _, _, _, _, _, _, _, _, _, _, _, _, _, _, _, _, _, _], defers := _ } _
  refine wpAnyH_take (i := 10) (v := .bool false) rfl (by kernel_rfl) (by kernel_rfl) (by kernel_rfl) (fun _ _ _ h => h) (Or.inl ⟨by rfl, ?_⟩) H ?_
  · intro w' hSw; go_simp
  change wpAnyH _ _ _ _ _ _ _ { tmps := #[_, _, _, _, _, _, _, _, _, _, _, _, _, _, _, _, _, _, _, _, _, _, _, _, _, _, _, _, _, _, _, _, _, _, _, _, _, _, _, _, _, _, _, _, _, _, _, _, _, _, _, _, _, _, _, _, _, _, _, _, _, _, _, _, _, _, _, _, _, _, _, _, _, _, _, _, _, _, _, _, _, _, _, _, _, _, _, _, _, _, _, _, _, _, _, _, _, _, _, _, _, _, _, _, _], defers := _ } _
  have X0 : Hid (Box4 v22 w.heap.size 52 (.string K) (.int .i64 se) (.int .i64 (t : Int)) (.slice a 32 c)) := H.1
  have P0 : Hid (BoxP v22 (w.heap.size + 1) 57 (.int .i64 (x : Int)) (.string B) (.string PT)) := H.2
  clear H
  refine wpAnyH_done (by kernel_rfl) ?_ _
  refine NoPanic.normal ?_
  clear TG
  have px := P0.out.c0
  have tx := X0.out.c2
  clear US HX LA LG
  clear X0 P0
  obtain ⟨U5, hU5⟩ : ∃ U5, U5 = ((((v22.setCell ⟨w.heap.size + 2, 0, none⟩ (.string K)).setCell ⟨w.heap.size + 2, 1, none⟩ (.int .i64 se)).setCell ⟨w.heap.size + 2, 2, none⟩ (.int .i64 (t : Int))).setCell ⟨w.heap.size + 2, 3, none⟩ (.slice (some ⟨g, 0, none⟩) 32 cap)) := ⟨_, rfl⟩
  have O2 : OnlyB (w.heap.size + 2) v22 U5 := by rw [hU5]; exact ((((OnlyB.refl _ _).setCell 0 _).setCell 1 _).setCell 2 _).setCell 3 _
  have Y5 : Hid (Box4 U5 (w.heap.size + 2) 52 (.string K) (.int .i64 se) (.int .i64 (t : Int)) (.slice (some ⟨g, 0, none⟩) 32 cap)) := by rw [hU5]; exact (((Y0.out.set0 _).set1 _).set2 _).set3 _
  have B5 : Hid (Below w.heap.size w U5) := A1.out.trans (O2.toBelow (B := w.heap.size) (by omega) A1.out.size)
  have R5 : Hid (OwnB U5 w.heap.size (some ⟨g, 0, none⟩) 32 f) := RW.out.one O2 (fun p hp => by cases hp; have := GG.out; show g ≠ _; omega)
  have y0 := Y0.out.c0
  have fy0 := Y0.out.fr 0
  have y1 := Y0.out.c1
  have fy1 := Y0.out.fr 1
  have y2 := Y0.out.c2
  have fy2 := Y0.out.fr 2
  have y3 := Y0.out.c3
  have fy3 := Y0.out.fr 3
  have v0' := XX.out.c0
  have v1' := XX.out.c1
  have v2' := XX.out.c2
  have v3' := XX.out.c3
  have HU : Hid (U5 = ((((v22.setCell ⟨w.heap.size + 2, 0, none⟩ (.string K)).setCell ⟨w.heap.size + 2, 1, none⟩ (.int .i64 se)).setCell ⟨w.heap.size + 2, 2, none⟩ (.int .i64 (t : Int))).setCell ⟨w.heap.size + 2, 3, none⟩ (.slice (some ⟨g, 0, none⟩) 32 cap))) := hU5
  clear O2 hU5 Y0 A1
  go_wp2
  rw [← HU.out]
  clear HU y0 fy0 y1 fy1 y2 fy2 y3 fy3 v0' v1' v2' v3'
  have y0 := Y5.out.c0
  have y1 := Y5.out.c1
  have y2 := Y5.out.c2
  have y3 := Y5.out.c3
  exact ret_cell2 (b := w.heap.size + 2) (v := .agg #[.string K, .int .i64 se, .int .i64 (t : Int), .slice (some ⟨g, 0, none⟩) 32 cap]) (x := .int .i64 15) Tryd.results28 rfl rfl (by go_simp) ⟨⟨_, _, rfl, R5.out⟩, B5.out⟩
set_option maxRecDepth 100000 in
set_option maxHeartbeats 8000000 in
theorem specTake_replay (K B : ByteArray) (PT : ByteArray) (se : Int) (t x : Nat) (a : Option Addr) (c : Nat) (f : Nat → Bool) (h2 : LkOk K se (t : Int) 32 f) (hB : B.size ≤ 1048576) (hq : 1 ≤ x ∧ x ≤ 1000000) (hPT : PT = ptag K B x) (ho : t < x + 32) (hl : x ≤ t) (hf : f (t - x) = true) (w : World) (hW : Bools w a 32 f) :
    Calls Tryd.prog 28 #[.agg #[.string K, .int .i64 se, .int .i64 (t : Int), .slice a 32 c], .agg #[.int .i64 (x : Int), .string B, .string PT]] w fun e w' => RetL w w' e K se (t : Int) 32 f 14 ∧ Below w.heap.size w w' := by
  have A0 : Hid (Below w.heap.size w (((w.alloc (.cells #[.string K, .int .i64 se, .int .i64 (t : Int), .slice a 32 c] 52)).alloc (.cells #[.int .i64 (x : Int), .string B, .string PT] 57)).alloc (.cells #[.string ⟨#[]⟩, .int .i64 0, .int .i64 0, .slice none 0 0] 52))) := (((Below.refl w.heap.size w).alloc (Nat.le_refl _) _).alloc (by simp) _).alloc (by simp; omega) _
  have X0 : Hid (Box4 (((w.alloc (.cells #[.string K, .int .i64 se, .int .i64 (t : Int), .slice a 32 c] 52)).alloc (.cells #[.int .i64 (x : Int), .string B, .string PT] 57)).alloc (.cells #[.string ⟨#[]⟩, .int .i64 0, .int .i64 0, .slice none 0 0] 52)) w.heap.size 52 (.string K) (.int .i64 se) (.int .i64 (t : Int)) (.slice a 32 c)) := ((Box4.madeAt rfl _ _ _ _ _).alloc _).alloc _
  have P0 : Hid (BoxP (((w.alloc (.cells #[.string K, .int .i64 se, .int .i64 (t : Int), .slice a 32 c] 52)).alloc (.cells #[.int .i64 (x : Int), .string B, .string PT] 57)).alloc (.cells #[.string ⟨#[]⟩, .int .i64 0, .int .i64 0, .slice none 0 0] 52)) (w.heap.size + 1) 57 (.int .i64 (x : Int)) (.string B) (.string PT)) := (BoxP.madeAt (by simp) _ _ _ _).alloc _
  have Y0 : Hid (Box4 (((w.alloc (.cells #[.string K, .int .i64 se, .int .i64 (t : Int), .slice a 32 c] 52)).alloc (.cells #[.int .i64 (x : Int), .string B, .string PT] 57)).alloc (.cells #[.string ⟨#[]⟩, .int .i64 0, .int .i64 0, .slice none 0 0] 52)) (w.heap.size + 2) 52 (.string ⟨#[]⟩) (.int .i64 0) (.int .i64 0) (.slice none 0 0)) := Box4.madeAt (by simp) _ _ _ _ _
  have US : Hid ((((w.alloc (.cells #[.string K, .int .i64 se, .int .i64 (t : Int), .slice a 32 c] 52)).alloc (.cells #[.int .i64 (x : Int), .string B, .string PT] 57)).alloc (.cells #[.string ⟨#[]⟩, .int .i64 0, .int .i64 0, .slice none 0 0] 52)).heap.size = w.heap.size + 3) := by show _ = _; simp
  have HX : Hid (Bools (((w.alloc (.cells #[.string K, .int .i64 se, .int .i64 (t : Int), .slice a 32 c] 52)).alloc (.cells #[.int .i64 (x : Int), .string B, .string PT] 57)).alloc (.cells #[.string ⟨#[]⟩, .int .i64 0, .int .i64 0, .slice none 0 0] 52)) a 32 f) := hW.below A0.out
  have LO : Hid (∀ w : World, Bools w a 32 f → Calls Tryd.prog 72 #[.agg #[.string K, .int .i64 se, .int .i64 (t : Int), .slice a 32 c]] w fun e w' => e = .returned (.bool true) ∧ Below w.heap.size w w') := fun w h => specLinkOK_any K se (t : Int) a 32 c f true (by simpa using h2) w h
  have IN : Hid (∀ w : World, Calls Tryd.prog 63 #[.int .i64 (x : Int), .int .i64 1, .int .i64 1000000] w fun e w' => e = .returned (.bool true) ∧ w = w') := fun w => in_any (x : Int) _ _ true (by simp; omega) w
  have TG : Hid (∀ w : World, Calls Tryd.prog 69 #[.string K, .int .i64 (x : Int), .string B] w fun e w' => e = .returned (.string PT) ∧ Below w.heap.size w w') := fun w => by
    rw [hPT]
    exact l07Tag_any K B x h2.1 (by omega) hB w
  have bt : (t : Int) ≤ 1000000 := h2.2.2.1.2
  have bx : (x : Int) ≤ 1000000 := by omega
  have b0 : (0 : Int) ≤ (t : Int) := by omega
  have b1 : (0 : Int) ≤ (x : Int) := by omega
  have c1 : ¬ (x : Int) ≤ (t : Int) - 32 := by omega
  have c2 : (x : Int) ≤ (t : Int) := by omega
  obtain ⟨j, hj⟩ : ∃ j, j = t - x := ⟨_, rfl⟩
  have ej : (t : Int) - (x : Int) = (j : Int) := by omega
  have hj32 : j < 32 := by omega
  have j0 : (0 : Int) ≤ (j : Int) := by omega
  have j1 : (j : Int) < 32 := by omega
  rw [← hj] at hf
  clear h2 hW hq hPT hB
  clear ho
  go_enter Tryd.func28, Tryd.ntmps28
  go_wp2_with fail
  generalize (((w.alloc (.cells #[.string K, .int .i64 se, .int .i64 (t : Int), .slice a 32 c] 52)).alloc (.cells #[.int .i64 (x : Int), .string B, .string PT] 57)).alloc (.cells #[.string ⟨#[]⟩, .int .i64 0, .int .i64 0, .slice none 0 0] 52)) = u at *
  refine (LO.out _ HX.out).mono ?_
  rintro e u1 ⟨rfl, hb⟩
  replace US : Hid (w.heap.size + 3 ≤ u.heap.size) := by have := US.out; show _ ≤ _; omega
  have A1 := A0
  clear A0
  replace A1 : Hid (Below w.heap.size w u1) := A1.out.trans (hb.mono A1.out.size)
  replace X0 : Hid (Box4 u1 w.heap.size 52 (.string K) (.int .i64 se) (.int .i64 (t : Int)) (.slice a 32 c)) := X0.out.below hb
  replace P0 : Hid (BoxP u1 (w.heap.size + 1) 57 (.int .i64 (x : Int)) (.string B) (.string PT)) := P0.out.below hb
  replace Y0 : Hid (Box4 u1 (w.heap.size + 2) 52 (.string ⟨#[]⟩) (.int .i64 0) (.int .i64 0) (.slice none 0 0)) := Y0.out.below hb
  replace US : Hid (w.heap.size + 3 ≤ (u1).heap.size) := Nat.le_trans US.out hb.size
  replace HX : Hid (Bools u1 a 32 f) := HX.out.below hb
  clear hb LO
  have t0 := X0.out.c0
  have t1 := X0.out.c1
  have t2 := X0.out.c2
  have t3 := X0.out.c3
  go_wp2_with fail
  clear t0 t1 t2 t3
  refine (l07Own_any K se (t : Int) a c f u1 HX.out).mono ?_
  rintro e u2 ⟨⟨g, cap, rfl, og⟩, hb⟩
  have GG : Hid (w.heap.size + 3 ≤ g) := by have h1 := og.ge (by omega) _ rfl; have h2 := US.out; exact Nat.le_trans h2 h1
  have LA : Hid (∀ p, a = some p → p.block < g) := fun p hp => by have h1 := HX.out.ltB (by omega) p hp; have h2 := og.ge (by omega) _ rfl; exact Nat.lt_of_lt_of_le h1 h2
  have RW : Hid (OwnB u2 w.heap.size (some ⟨g, 0, none⟩) 32 f) := og.mono (by have := US.out; omega)
  have LG : Hid (g < u2.heap.size) := og.bools.ltB (by omega) _ rfl
  replace A1 : Hid (Below w.heap.size w u2) := A1.out.trans (hb.mono A1.out.size)
  replace X0 : Hid (Box4 u2 w.heap.size 52 (.string K) (.int .i64 se) (.int .i64 (t : Int)) (.slice a 32 c)) := X0.out.below hb
  replace P0 : Hid (BoxP u2 (w.heap.size + 1) 57 (.int .i64 (x : Int)) (.string B) (.string PT)) := P0.out.below hb
  replace Y0 : Hid (Box4 u2 (w.heap.size + 2) 52 (.string ⟨#[]⟩) (.int .i64 0) (.int .i64 0) (.slice none 0 0)) := Y0.out.below hb
  replace US : Hid (w.heap.size + 3 ≤ (u2).heap.size) := Nat.le_trans US.out hb.size
  replace HX : Hid (Bools u2 a 32 f) := HX.out.below hb
  clear hb og
  have hb : Below u2.heap.size u2 (u2.alloc (.cells #[.string K, .int .i64 se, .int .i64 (t : Int), .slice (some ⟨g, 0, none⟩) 32 cap] 52)) := (Below.refl _ _).alloc (Nat.le_refl _) _
  have XX : Hid (Box4 (u2.alloc (.cells #[.string K, .int .i64 se, .int .i64 (t : Int), .slice (some ⟨g, 0, none⟩) 32 cap] 52)) u2.heap.size 52 (.string K) (.int .i64 se) (.int .i64 (t : Int)) (.slice (some ⟨g, 0, none⟩) 32 cap)) := Box4.madeAt rfl _ _ _ _ _
  have vp0 := (P0.out.below hb).c0
  go_wp2_with fail
  generalize (u2.alloc (.cells #[.string K, .int .i64 se, .int .i64 (t : Int), .slice (some ⟨g, 0, none⟩) 32 cap] 52)) = u3 at *
  replace A1 : Hid (Below w.heap.size w u3) := A1.out.trans (hb.mono A1.out.size)
  replace X0 : Hid (Box4 u3 w.heap.size 52 (.string K) (.int .i64 se) (.int .i64 (t : Int)) (.slice a 32 c)) := X0.out.below hb
  replace P0 : Hid (BoxP u3 (w.heap.size + 1) 57 (.int .i64 (x : Int)) (.string B) (.string PT)) := P0.out.below hb
  replace Y0 : Hid (Box4 u3 (w.heap.size + 2) 52 (.string ⟨#[]⟩) (.int .i64 0) (.int .i64 0) (.slice none 0 0)) := Y0.out.below hb
  replace US : Hid (w.heap.size + 3 ≤ (u3).heap.size) := Nat.le_trans US.out hb.size
  replace HX : Hid (Bools u3 a 32 f) := HX.out.below hb
  replace RW : Hid (OwnB u3 w.heap.size (some ⟨g, 0, none⟩) 32 f) := RW.out.below hb
  obtain ⟨b6, hb6⟩ : ∃ b6, b6 = u2.heap.size := ⟨_, rfl⟩
  rw [← hb6] at XX LG ⊢
  have S6 : Hid (w.heap.size + 3 ≤ b6) := by have h1 := GG.out; have h2 := LG.out; show _ ≤ _; omega
  clear hb hb6 vp0
  refine (IN.out _).mono ?_
  rintro e z1 ⟨rfl, rfl⟩
  clear IN
  go_wp2_with fail
  have hb : Below u3.heap.size u3 u3.drew := (Below.refl _ _).drew
  have H : (Box4 u3.drew w.heap.size 52 (.string K) (.int .i64 se) (.int .i64 (t : Int)) (.slice a 32 c)) ∧ (BoxP u3.drew (w.heap.size + 1) 57 (.int .i64 (x : Int)) (.string B) (.string PT)) := ⟨X0.out.below hb, P0.out.below hb⟩
  replace A1 : Hid (Below w.heap.size w u3.drew) := A1.out.trans (hb.mono A1.out.size)
  replace Y0 : Hid (Box4 u3.drew (w.heap.size + 2) 52 (.string ⟨#[]⟩) (.int .i64 0) (.int .i64 0) (.slice none 0 0)) := Y0.out.below hb
  replace US : Hid (w.heap.size + 3 ≤ (u3.drew).heap.size) := Nat.le_trans US.out hb.size
  replace HX : Hid (Bools u3.drew a 32 f) := HX.out.below hb
  replace RW : Hid (OwnB u3.drew w.heap.size (some ⟨g, 0, none⟩) 32 f) := RW.out.below hb
  replace XX : Hid (Box4 u3.drew b6 52 (.string K) (.int .i64 se) (.int .i64 (t : Int)) (.slice (some ⟨g, 0, none⟩) 32 cap)) := XX.out.below hb
  clear hb X0 P0
  refine wp_region_noPanic ?_
  refine wp_region_held_drew (S := fun w' => (Box4 w' w.heap.size 52 (.string K) (.int .i64 se) (.int .i64 (t : Int)) (.slice a 32 c)) ∧ (BoxP w' (w.heap.size + 1) 57 (.int .i64 (x : Int)) (.string B) (.string PT))) (by kernel_rfl) H (fun _ => ?_)
  generalize u3.drew = v21 at *
  refine wpAnyH_take (i := 0) (v := .pointer (some ⟨w.heap.size, 0, none⟩)) rfl (by kernel_rfl) (by kernel_rfl) (by kernel_rfl) (fun _ _ _ h => h) (Or.inl ⟨by rfl, ?_⟩) H ?_
  · intro w' hSw; go_simp
  change wpAnyH _ _ _ _ _ _ _ { tmps := #[_, _, _, _, _, _, _, _, _, _, _, _, _, _, _, _, _, _, _, _, _, _, _, _, _, _, _, _, _, _, _, _, _, _, _, _, _, _, _, _, _, _, _, _, _, _, _, _, _, _, _, _, _, _, _, _, _, _, _, _, _, _, _, _, _, _, _, _, _, _, _, _, _, _, _, _, _, _, _, _, _, _, _, _, _, _, _, _, _, _, _, _, _, _, _, _, _, _, _, _, _, _, _, _, _], defers := _ } _
  refine wpAnyH_take (i := 1) (v := .string K) rfl (by kernel_rfl) (by kernel_rfl) (by kernel_rfl) (fun _ _ _ h => h) (Or.inl ⟨by rfl, ?_⟩) H ?_
  · intro w' hSw; have t0 := hSw.1.c0; clear hSw; go_simp
  change wpAnyH _ _ _ _ _ _ _ { tmps := #[_, _, _, _, _, _, _, _, _, _, _, _, _, _, _, _, _, _, _, _, _, _, _, _, _, _, _, _, _, _, _, _, _, _, _, _, _, _, _, _, _, _, _, _, _, _, _, _, _, _, _, _, _, _, _, _, _, _, _, _, _, _, _, _, _, _, _, _, _, _, _, _, _, _, _, _, _, _, _, _, _, _, _, _, _, _, _, _, _, _, _, _, _, _, _, _, _, _, _, _, _, _, _, _, _], defers := _ } _
  refine wpAnyH_take (i := 2) (v := .pointer (some ⟨w.heap.size + 1, 0, none⟩)) rfl (by kernel_rfl) (by kernel_rfl) (by kernel_rfl) (fun _ _ _ h => h) (Or.inl ⟨by rfl, ?_⟩) H ?_
  · intro w' hSw; go_simp
  change wpAnyH _ _ _ _ _ _ _ { tmps := #[_, _, _, _, _, _, _, _, _, _, _, _, _, _, _, _, _, _, _, _, _, _, _, _, _, _, _, _, _, _, _, _, _, _, _, _, _, _, _, _, _, _, _, _, _, _, _, _, _, _, _, _, _, _, _, _, _, _, _, _, _, _, _, _, _, _, _, _, _, _, _, _, _, _, _, _, _, _, _, _, _, _, _, _, _, _, _, _, _, _, _, _, _, _, _, _, _, _, _, _, _, _, _, _, _], defers := _ } _
  refine wpAnyH_take (i := 3) (v := .int .i64 (x : Int)) rfl (by kernel_rfl) (by kernel_rfl) (by kernel_rfl) (fun _ _ _ h => h) (Or.inl ⟨by rfl, ?_⟩) H ?_
  · intro w' hSw; have t0 := hSw.2.c0; clear hSw; go_simp
  change wpAnyH _ _ _ _ _ _ _ { tmps := #[_, _, _, _, _, _, _, _, _, _, _, _, _, _, _, _, _, _, _, _, _, _, _, _, _, _, _, _, _, _, _, _, _, _, _, _, _, _, _, _, _, _, _, _, _, _, _, _, _, _, _, _, _, _, _, _, _, _, _, _, _, _, _, _, _, _, _, _, _, _, _, _, _, _, _, _, _, _, _, _, _, _, _, _, _, _, _, _, _, _, _, _, _, _, _, _, _, _, _, _, _, _, _, _, _], defers := _ } _
  refine wpAnyH_take (i := 4) (v := .pointer (some ⟨w.heap.size + 1, 1, none⟩)) rfl (by kernel_rfl) (by kernel_rfl) (by kernel_rfl) (fun _ _ _ h => h) (Or.inl ⟨by rfl, ?_⟩) H ?_
  · intro w' hSw; go_simp
  change wpAnyH _ _ _ _ _ _ _ { tmps := #[_, _, _, _, _, _, _, _, _, _, _, _, _, _, _, _, _, _, _, _, _, _, _, _, _, _, _, _, _, _, _, _, _, _, _, _, _, _, _, _, _, _, _, _, _, _, _, _, _, _, _, _, _, _, _, _, _, _, _, _, _, _, _, _, _, _, _, _, _, _, _, _, _, _, _, _, _, _, _, _, _, _, _, _, _, _, _, _, _, _, _, _, _, _, _, _, _, _, _, _, _, _, _, _, _], defers := _ } _
  refine wpAnyH_take (i := 5) (v := .string B) rfl (by kernel_rfl) (by kernel_rfl) (by kernel_rfl) (fun _ _ _ h => h) (Or.inl ⟨by rfl, ?_⟩) H ?_
  · intro w' hSw; have t0 := hSw.2.c1; clear hSw; go_simp
  change wpAnyH _ _ _ _ _ _ _ { tmps := #[_, _, _, _, _, _, _, _, _, _, _, _, _, _, _, _, _, _, _, _, _, _, _, _, _, _, _, _, _, _, _, _, _, _, _, _, _, _, _, _, _, _, _, _, _, _, _, _, _, _, _, _, _, _, _, _, _, _, _, _, _, _, _, _, _, _, _, _, _, _, _, _, _, _, _, _, _, _, _, _, _, _, _, _, _, _, _, _, _, _, _, _, _, _, _, _, _, _, _, _, _, _, _, _, _], defers := _ } _
  refine wpAnyH_take (i := 7) (v := .pointer (some ⟨w.heap.size + 1, 2, none⟩)) rfl (by kernel_rfl) (by kernel_rfl) (by kernel_rfl) (fun _ _ _ h => h) (Or.inl ⟨by rfl, ?_⟩) H ?_
  · intro w' hSw; go_simp
  change wpAnyH _ _ _ _ _ _ _ { tmps := #[_, _, _, _, _, _, _, _, _, _, _, _, _, _, _, _, _, _, _, _, _, _, _, _, _, _, _, _, _, _, _, _, _, _, _, _, _, _, _, _, _, _, _, _, _, _, _, _, _, _, _, _, _, _, _, _, _, _, _, _, _, _, _, _, _, _, _, _, _, _, _, _, _, _, _, _, _, _, _, _, _, _, _, _, _, _, _, _, _, _, _, _, _, _, _, _, _, _, _, _, _, _, _, _, _], defers := _ } _
  refine wpAnyH_take (i := 8) (v := .string PT) rfl (by kernel_rfl) (by kernel_rfl) (by kernel_rfl) (fun _ _ _ h => h) (Or.inl ⟨by rfl, ?_⟩) H ?_
  · intro w' hSw; have t0 := hSw.2.c2; clear hSw; go_simp
  change wpAnyH _ _ _ _ _ _ _ { tmps := #[_, _, _, _, _, _, _, _, _, _, _, _, _, _, _, _, _, _, _, _, _, _, _, _, _, _, _, _, _, _, _, _, _, _, _, _, _, _, _, _, _, _, _, _, _, _, _, _, _, _, _, _, _, _, _, _, _, _, _, _, _, _, _, _, _, _, _, _, _, _, _, _, _, _, _, _, _, _, _, _, _, _, _, _, _, _, _, _, _, _, _, _, _, _, _, _, _, _, _, _, _, _, _, _, _], defers := _ } _
  refine wpAnyH_ready (rs := [6]) (by kernel_rfl) (by simp) ?_
  refine AllReadyH.cons rfl (fun KK hK => ?_) AllReadyH.nil
  go_simp
  refine (TG.out _).mono ?_
  rintro e v22 ⟨rfl, hb⟩
  replace A1 : Hid (Below w.heap.size w v22) := A1.out.trans (hb.mono A1.out.size)
  replace Y0 : Hid (Box4 v22 (w.heap.size + 2) 52 (.string ⟨#[]⟩) (.int .i64 0) (.int .i64 0) (.slice none 0 0)) := Y0.out.below hb
  replace US : Hid (w.heap.size + 3 ≤ (v22).heap.size) := Nat.le_trans US.out hb.size
  replace HX : Hid (Bools v22 a 32 f) := HX.out.below hb
  replace RW : Hid (OwnB v22 w.heap.size (some ⟨g, 0, none⟩) 32 f) := RW.out.below hb
  replace XX : Hid (Box4 v22 b6 52 (.string K) (.int .i64 se) (.int .i64 (t : Int)) (.slice (some ⟨g, 0, none⟩) 32 cap)) := XX.out.below hb
  replace H : (Box4 v22 w.heap.size 52 (.string K) (.int .i64 se) (.int .i64 (t : Int)) (.slice a 32 c)) ∧ (BoxP v22 (w.heap.size + 1) 57 (.int .i64 (x : Int)) (.string B) (.string PT)) := ⟨H.1.below hb, H.2.below hb⟩
  clear hb 
  refine hK.out _ _ H (fun _ => ?_)
  clear hK KK
  change wpAnyH _ _ _ _ _ _ _ { tmps := #[_, _, _, _, _, _, _, _, _, _, _, _, _, _, _, _, _, _, _, _, _, _, _, _, _, _, _, _, _, _, _, _, _, _, _, _, _, _, _, _, _, _, _, _, _, _, _, _, _, _, _, _, _, _, _, _, _, _, _, _, _, _, _, _, _, _, _, _, _, _, _, _, _, _, _, _, _, _, _, _, _, _, _, _, _, _, _, _, _, _, _, _, _, _, _, _, _, _, _, _, _, _, _, _, _], defers := _ } _
  refine wpAnyH_take (i := 9) (v := .bool false) rfl (by kernel_rfl) (by kernel_rfl) (by kernel_rfl) (fun _ _ _ h => h) (Or.inl ⟨by rfl, ?_⟩) H ?_
  · intro w' hSw; clear hSw; go_simp
  change wpAnyH _ _ _ _ _ _ _ { tmps := #[_, _, _, _, _, _, _, _, _, _, _, _, _, _, _, _, _, _, _, _, _, _, _, _, _, _, _, _, _, _, _, _, _, _, _, _, _, _, _, _, _, _, _, _, _, _, _, _, _, _, _, _, _, _, _, _, _, _, _, _, _, _, _, _, _, _, _, _, _, _, _, _, _, _, _, _, _, _, _, _, _, _, _, _, _, _, _, _, _, _, _, _, _, _, _, _, _, _, _, _, _, _, _, _, _], defers := _ } _
  refine wpAnyH_take (i := 10) (v := .bool false) rfl (by kernel_rfl) (by kernel_rfl) (by kernel_rfl) (fun _ _ _ h => h) (Or.inl ⟨by rfl, ?_⟩) H ?_
  · intro w' hSw; go_simp
  change wpAnyH _ _ _ _ _ _ _ { tmps := #[_, _, _, _, _, _, _, _, _, _, _, _, _, _, _, _, _, _, _, _, _, _, _, _, _, _, _, _, _, _, _, _, _, _, _, _, _, _, _, _, _, _, _, _, _, _, _, _, _, _, _, _, _, _, _, _, _, _, _, _, _, _, _, _, _, _, _, _, _, _, _, _, _, _, _, _, _, _, _, _, _, _, _, _, _, _, _, _, _, _, _, _, _, _, _, _, _, _, _, _, _, _, _, _, _], defers := _ } _
  have X0 : Hid (Box4 v22 w.heap.size 52 (.string K) (.int .i64 se) (.int .i64 (t : Int)) (.slice a 32 c)) := H.1
  have P0 : Hid (BoxP v22 (w.heap.size + 1) 57 (.int .i64 (x : Int)) (.string B) (.string PT)) := H.2
  clear H
  refine wpAnyH_done (by kernel_rfl) ?_ _
  refine NoPanic.normal ?_
  clear TG
  have px := P0.out.c0
  have tx := X0.out.c2
  have wx := X0.out.c3
  obtain ⟨ab, ao, rfl, hca⟩ := HX.out.opened (by omega)
  have cj := hca j hj32
  rw [hf] at cj
  clear hca
  clear US LG LA HX hf hj hl
  clear X0 P0
  obtain ⟨U5, hU5⟩ : ∃ U5, U5 = ((((v22.setCell ⟨w.heap.size + 2, 0, none⟩ (.string K)).setCell ⟨w.heap.size + 2, 1, none⟩ (.int .i64 se)).setCell ⟨w.heap.size + 2, 2, none⟩ (.int .i64 (t : Int))).setCell ⟨w.heap.size + 2, 3, none⟩ (.slice (some ⟨g, 0, none⟩) 32 cap)) := ⟨_, rfl⟩
  have O2 : OnlyB (w.heap.size + 2) v22 U5 := by rw [hU5]; exact ((((OnlyB.refl _ _).setCell 0 _).setCell 1 _).setCell 2 _).setCell 3 _
  have Y5 : Hid (Box4 U5 (w.heap.size + 2) 52 (.string K) (.int .i64 se) (.int .i64 (t : Int)) (.slice (some ⟨g, 0, none⟩) 32 cap)) := by rw [hU5]; exact (((Y0.out.set0 _).set1 _).set2 _).set3 _
  have B5 : Hid (Below w.heap.size w U5) := A1.out.trans (O2.toBelow (B := w.heap.size) (by omega) A1.out.size)
  have R5 : Hid (OwnB U5 w.heap.size (some ⟨g, 0, none⟩) 32 f) := RW.out.one O2 (fun p hp => by cases hp; have := GG.out; show g ≠ _; omega)
  have y0 := Y0.out.c0
  have fy0 := Y0.out.fr 0
  have y1 := Y0.out.c1
  have fy1 := Y0.out.fr 1
  have y2 := Y0.out.c2
  have fy2 := Y0.out.fr 2
  have y3 := Y0.out.c3
  have fy3 := Y0.out.fr 3
  have v0' := XX.out.c0
  have v1' := XX.out.c1
  have v2' := XX.out.c2
  have v3' := XX.out.c3
  have HU : Hid (U5 = ((((v22.setCell ⟨w.heap.size + 2, 0, none⟩ (.string K)).setCell ⟨w.heap.size + 2, 1, none⟩ (.int .i64 se)).setCell ⟨w.heap.size + 2, 2, none⟩ (.int .i64 (t : Int))).setCell ⟨w.heap.size + 2, 3, none⟩ (.slice (some ⟨g, 0, none⟩) 32 cap))) := hU5
  clear O2 hU5 Y0 A1
  go_wp2
  rw [← HU.out]
  clear HU y0 fy0 y1 fy1 y2 fy2 y3 fy3 v0' v1' v2' v3'
  have y0 := Y5.out.c0
  have y1 := Y5.out.c1
  have y2 := Y5.out.c2
  have y3 := Y5.out.c3
  exact ret_cell2 (b := w.heap.size + 2) (v := .agg #[.string K, .int .i64 se, .int .i64 (t : Int), .slice (some ⟨g, 0, none⟩) 32 cap]) (x := .int .i64 14) Tryd.results28 rfl rfl (by go_simp) ⟨⟨_, _, rfl, R5.out⟩, B5.out⟩
set_option maxRecDepth 100000 in
set_option maxHeartbeats 8000000 in
theorem specTake_A (K B : ByteArray) (PT : ByteArray) (se : Int) (t x : Nat) (a : Option Addr) (c : Nat) (f : Nat → Bool) (h2 : LkOk K se (t : Int) 32 f) (hB : B.size ≤ 1048576) (hq : 1 ≤ x ∧ x ≤ 1000000) (hPT : PT = ptag K B x) (ho : t < x + 32) (hl : x ≤ t) (hf : f (t - x) = false) (w : World) (hW : Bools w a 32 f) :
    Calls Tryd.prog 28 #[.agg #[.string K, .int .i64 se, .int .i64 (t : Int), .slice a 32 c], .agg #[.int .i64 (x : Int), .string B, .string PT]] w fun e w' => RetL w w' e K se (t : Int) 32 (tkW t x f) 0 ∧ Below w.heap.size w w' := by
  have A0 : Hid (Below w.heap.size w (((w.alloc (.cells #[.string K, .int .i64 se, .int .i64 (t : Int), .slice a 32 c] 52)).alloc (.cells #[.int .i64 (x : Int), .string B, .string PT] 57)).alloc (.cells #[.string ⟨#[]⟩, .int .i64 0, .int .i64 0, .slice none 0 0] 52))) := (((Below.refl w.heap.size w).alloc (Nat.le_refl _) _).alloc (by simp) _).alloc (by simp; omega) _
  have X0 : Hid (Box4 (((w.alloc (.cells #[.string K, .int .i64 se, .int .i64 (t : Int), .slice a 32 c] 52)).alloc (.cells #[.int .i64 (x : Int), .string B, .string PT] 57)).alloc (.cells #[.string ⟨#[]⟩, .int .i64 0, .int .i64 0, .slice none 0 0] 52)) w.heap.size 52 (.string K) (.int .i64 se) (.int .i64 (t : Int)) (.slice a 32 c)) := ((Box4.madeAt rfl _ _ _ _ _).alloc _).alloc _
  have P0 : Hid (BoxP (((w.alloc (.cells #[.string K, .int .i64 se, .int .i64 (t : Int), .slice a 32 c] 52)).alloc (.cells #[.int .i64 (x : Int), .string B, .string PT] 57)).alloc (.cells #[.string ⟨#[]⟩, .int .i64 0, .int .i64 0, .slice none 0 0] 52)) (w.heap.size + 1) 57 (.int .i64 (x : Int)) (.string B) (.string PT)) := (BoxP.madeAt (by simp) _ _ _ _).alloc _
  have Y0 : Hid (Box4 (((w.alloc (.cells #[.string K, .int .i64 se, .int .i64 (t : Int), .slice a 32 c] 52)).alloc (.cells #[.int .i64 (x : Int), .string B, .string PT] 57)).alloc (.cells #[.string ⟨#[]⟩, .int .i64 0, .int .i64 0, .slice none 0 0] 52)) (w.heap.size + 2) 52 (.string ⟨#[]⟩) (.int .i64 0) (.int .i64 0) (.slice none 0 0)) := Box4.madeAt (by simp) _ _ _ _ _
  have US : Hid ((((w.alloc (.cells #[.string K, .int .i64 se, .int .i64 (t : Int), .slice a 32 c] 52)).alloc (.cells #[.int .i64 (x : Int), .string B, .string PT] 57)).alloc (.cells #[.string ⟨#[]⟩, .int .i64 0, .int .i64 0, .slice none 0 0] 52)).heap.size = w.heap.size + 3) := by show _ = _; simp
  have HX : Hid (Bools (((w.alloc (.cells #[.string K, .int .i64 se, .int .i64 (t : Int), .slice a 32 c] 52)).alloc (.cells #[.int .i64 (x : Int), .string B, .string PT] 57)).alloc (.cells #[.string ⟨#[]⟩, .int .i64 0, .int .i64 0, .slice none 0 0] 52)) a 32 f) := hW.below A0.out
  have LO : Hid (∀ w : World, Bools w a 32 f → Calls Tryd.prog 72 #[.agg #[.string K, .int .i64 se, .int .i64 (t : Int), .slice a 32 c]] w fun e w' => e = .returned (.bool true) ∧ Below w.heap.size w w') := fun w h => specLinkOK_any K se (t : Int) a 32 c f true (by simpa using h2) w h
  have IN : Hid (∀ w : World, Calls Tryd.prog 63 #[.int .i64 (x : Int), .int .i64 1, .int .i64 1000000] w fun e w' => e = .returned (.bool true) ∧ w = w') := fun w => in_any (x : Int) _ _ true (by simp; omega) w
  have TG : Hid (∀ w : World, Calls Tryd.prog 69 #[.string K, .int .i64 (x : Int), .string B] w fun e w' => e = .returned (.string PT) ∧ Below w.heap.size w w') := fun w => by
    rw [hPT]
    exact l07Tag_any K B x h2.1 (by omega) hB w
  have bt : (t : Int) ≤ 1000000 := h2.2.2.1.2
  have bx : (x : Int) ≤ 1000000 := by omega
  have b0 : (0 : Int) ≤ (t : Int) := by omega
  have b1 : (0 : Int) ≤ (x : Int) := by omega
  have c1 : ¬ (x : Int) ≤ (t : Int) - 32 := by omega
  have c2 : (x : Int) ≤ (t : Int) := by omega
  obtain ⟨j, hj⟩ : ∃ j, j = t - x := ⟨_, rfl⟩
  have ej : (t : Int) - (x : Int) = (j : Int) := by omega
  have hj32 : j < 32 := by omega
  have j0 : (0 : Int) ≤ (j : Int) := by omega
  have j1 : (j : Int) < 32 := by omega
  rw [← hj] at hf
  clear h2 hW hq hPT hB
  clear ho
  go_enter Tryd.func28, Tryd.ntmps28
  go_wp2_with fail
  generalize (((w.alloc (.cells #[.string K, .int .i64 se, .int .i64 (t : Int), .slice a 32 c] 52)).alloc (.cells #[.int .i64 (x : Int), .string B, .string PT] 57)).alloc (.cells #[.string ⟨#[]⟩, .int .i64 0, .int .i64 0, .slice none 0 0] 52)) = u at *
  refine (LO.out _ HX.out).mono ?_
  rintro e u1 ⟨rfl, hb⟩
  replace US : Hid (w.heap.size + 3 ≤ u.heap.size) := by have := US.out; show _ ≤ _; omega
  have A1 := A0
  clear A0
  replace A1 : Hid (Below w.heap.size w u1) := A1.out.trans (hb.mono A1.out.size)
  replace X0 : Hid (Box4 u1 w.heap.size 52 (.string K) (.int .i64 se) (.int .i64 (t : Int)) (.slice a 32 c)) := X0.out.below hb
  replace P0 : Hid (BoxP u1 (w.heap.size + 1) 57 (.int .i64 (x : Int)) (.string B) (.string PT)) := P0.out.below hb
  replace Y0 : Hid (Box4 u1 (w.heap.size + 2) 52 (.string ⟨#[]⟩) (.int .i64 0) (.int .i64 0) (.slice none 0 0)) := Y0.out.below hb
  replace US : Hid (w.heap.size + 3 ≤ (u1).heap.size) := Nat.le_trans US.out hb.size
  replace HX : Hid (Bools u1 a 32 f) := HX.out.below hb
  clear hb LO
  have t0 := X0.out.c0
  have t1 := X0.out.c1
  have t2 := X0.out.c2
  have t3 := X0.out.c3
  go_wp2_with fail
  clear t0 t1 t2 t3
  refine (l07Own_any K se (t : Int) a c f u1 HX.out).mono ?_
  rintro e u2 ⟨⟨g, cap, rfl, og⟩, hb⟩
  have GG : Hid (w.heap.size + 3 ≤ g) := by have h1 := og.ge (by omega) _ rfl; have h2 := US.out; exact Nat.le_trans h2 h1
  have LA : Hid (∀ p, a = some p → p.block < g) := fun p hp => by have h1 := HX.out.ltB (by omega) p hp; have h2 := og.ge (by omega) _ rfl; exact Nat.lt_of_lt_of_le h1 h2
  have RW : Hid (OwnB u2 w.heap.size (some ⟨g, 0, none⟩) 32 f) := og.mono (by have := US.out; omega)
  have LG : Hid (g < u2.heap.size) := og.bools.ltB (by omega) _ rfl
  replace A1 : Hid (Below w.heap.size w u2) := A1.out.trans (hb.mono A1.out.size)
  replace X0 : Hid (Box4 u2 w.heap.size 52 (.string K) (.int .i64 se) (.int .i64 (t : Int)) (.slice a 32 c)) := X0.out.below hb
  replace P0 : Hid (BoxP u2 (w.heap.size + 1) 57 (.int .i64 (x : Int)) (.string B) (.string PT)) := P0.out.below hb
  replace Y0 : Hid (Box4 u2 (w.heap.size + 2) 52 (.string ⟨#[]⟩) (.int .i64 0) (.int .i64 0) (.slice none 0 0)) := Y0.out.below hb
  replace US : Hid (w.heap.size + 3 ≤ (u2).heap.size) := Nat.le_trans US.out hb.size
  replace HX : Hid (Bools u2 a 32 f) := HX.out.below hb
  clear hb og
  have hb : Below u2.heap.size u2 (u2.alloc (.cells #[.string K, .int .i64 se, .int .i64 (t : Int), .slice (some ⟨g, 0, none⟩) 32 cap] 52)) := (Below.refl _ _).alloc (Nat.le_refl _) _
  have XX : Hid (Box4 (u2.alloc (.cells #[.string K, .int .i64 se, .int .i64 (t : Int), .slice (some ⟨g, 0, none⟩) 32 cap] 52)) u2.heap.size 52 (.string K) (.int .i64 se) (.int .i64 (t : Int)) (.slice (some ⟨g, 0, none⟩) 32 cap)) := Box4.madeAt rfl _ _ _ _ _
  have vp0 := (P0.out.below hb).c0
  go_wp2_with fail
  generalize (u2.alloc (.cells #[.string K, .int .i64 se, .int .i64 (t : Int), .slice (some ⟨g, 0, none⟩) 32 cap] 52)) = u3 at *
  replace A1 : Hid (Below w.heap.size w u3) := A1.out.trans (hb.mono A1.out.size)
  replace X0 : Hid (Box4 u3 w.heap.size 52 (.string K) (.int .i64 se) (.int .i64 (t : Int)) (.slice a 32 c)) := X0.out.below hb
  replace P0 : Hid (BoxP u3 (w.heap.size + 1) 57 (.int .i64 (x : Int)) (.string B) (.string PT)) := P0.out.below hb
  replace Y0 : Hid (Box4 u3 (w.heap.size + 2) 52 (.string ⟨#[]⟩) (.int .i64 0) (.int .i64 0) (.slice none 0 0)) := Y0.out.below hb
  replace US : Hid (w.heap.size + 3 ≤ (u3).heap.size) := Nat.le_trans US.out hb.size
  replace HX : Hid (Bools u3 a 32 f) := HX.out.below hb
  replace RW : Hid (OwnB u3 w.heap.size (some ⟨g, 0, none⟩) 32 f) := RW.out.below hb
  obtain ⟨b6, hb6⟩ : ∃ b6, b6 = u2.heap.size := ⟨_, rfl⟩
  rw [← hb6] at XX LG ⊢
  have S6 : Hid (w.heap.size + 3 ≤ b6) := by have h1 := GG.out; have h2 := LG.out; show _ ≤ _; omega
  clear hb hb6 vp0
  refine (IN.out _).mono ?_
  rintro e z1 ⟨rfl, rfl⟩
  clear IN
  go_wp2_with fail
  have hb : Below u3.heap.size u3 u3.drew := (Below.refl _ _).drew
  have H : (Box4 u3.drew w.heap.size 52 (.string K) (.int .i64 se) (.int .i64 (t : Int)) (.slice a 32 c)) ∧ (BoxP u3.drew (w.heap.size + 1) 57 (.int .i64 (x : Int)) (.string B) (.string PT)) := ⟨X0.out.below hb, P0.out.below hb⟩
  replace A1 : Hid (Below w.heap.size w u3.drew) := A1.out.trans (hb.mono A1.out.size)
  replace Y0 : Hid (Box4 u3.drew (w.heap.size + 2) 52 (.string ⟨#[]⟩) (.int .i64 0) (.int .i64 0) (.slice none 0 0)) := Y0.out.below hb
  replace US : Hid (w.heap.size + 3 ≤ (u3.drew).heap.size) := Nat.le_trans US.out hb.size
  replace HX : Hid (Bools u3.drew a 32 f) := HX.out.below hb
  replace RW : Hid (OwnB u3.drew w.heap.size (some ⟨g, 0, none⟩) 32 f) := RW.out.below hb
  replace XX : Hid (Box4 u3.drew b6 52 (.string K) (.int .i64 se) (.int .i64 (t : Int)) (.slice (some ⟨g, 0, none⟩) 32 cap)) := XX.out.below hb
  clear hb X0 P0
  refine wp_region_noPanic ?_
  refine wp_region_held_drew (S := fun w' => (Box4 w' w.heap.size 52 (.string K) (.int .i64 se) (.int .i64 (t : Int)) (.slice a 32 c)) ∧ (BoxP w' (w.heap.size + 1) 57 (.int .i64 (x : Int)) (.string B) (.string PT))) (by kernel_rfl) H (fun _ => ?_)
  generalize u3.drew = v21 at *
  refine wpAnyH_take (i := 0) (v := .pointer (some ⟨w.heap.size, 0, none⟩)) rfl (by kernel_rfl) (by kernel_rfl) (by kernel_rfl) (fun _ _ _ h => h) (Or.inl ⟨by rfl, ?_⟩) H ?_
  · intro w' hSw; go_simp
  change wpAnyH _ _ _ _ _ _ _ { tmps := #[_, _, _, _, _, _, _, _, _, _, _, _, _, _, _, _, _, _, _, _, _, _, _, _, _, _, _, _, _, _, _, _, _, _, _, _, _, _, _, _, _, _, _, _, _, _, _, _, _, _, _, _, _, _, _, _, _, _, _, _, _, _, _, _, _, _, _, _, _, _, _, _, _, _, _, _, _, _, _, _, _, _, _, _, _, _, _, _, _, _, _, _, _, _, _, _, _, _, _, _, _, _, _, _, _], defers := _ } _
  refine wpAnyH_take (i := 1) (v := .string K) rfl (by kernel_rfl) (by kernel_rfl) (by kernel_rfl) (fun _ _ _ h => h) (Or.inl ⟨by rfl, ?_⟩) H ?_
  · intro w' hSw; have t0 := hSw.1.c0; clear hSw; go_simp
  change wpAnyH _ _ _ _ _ _ _ { tmps := #[_, _, _, _, _, _, _, _, _, _, _, _, _, _, _, _, _, _, _, _, _, _, _, _, _, _, _, _, _, _, _, _, _, _, _, _, _, _, _, _, _, _, _, _, _, _, _, _, _, _, _, _, _, _, _, _, _, _, _, _, _, _, _, _, _, _, _, _, _, _, _, _, _, _, _, _, _, _, _, _, _, _, _, _, _, _, _, _, _, _, _, _, _, _, _, _, _, _, _, _, _, _, _, _, _], defers := _ } _
  refine wpAnyH_take (i := 2) (v := .pointer (some ⟨w.heap.size + 1, 0, none⟩)) rfl (by kernel_rfl) (by kernel_rfl) (by kernel_rfl) (fun _ _ _ h => h) (Or.inl ⟨by rfl, ?_⟩) H ?_
  · intro w' hSw; go_simp
  change wpAnyH _ _ _ _ _ _ _ { tmps := #[_, _, _, _, _, _, _, _, _, _, _, _, _, _, _, _, _, _, _, _, _, _, _, _, _, _, _, _, _, _, _, _, _, _, _, _, _, _, _, _, _, _, _, _, _, _, _, _, _, _, _, _, _, _, _, _, _, _, _, _, _, _, _, _, _, _, _, _, _, _, _, _, _, _, _, _, _, _, _, _, _, _, _, _, _, _, _, _, _, _, _, _, _, _, _, _, _, _, _, _, _, _, _, _, _], defers := _ } _
  refine wpAnyH_take (i := 3) (v := .int .i64 (x : Int)) rfl (by kernel_rfl) (by kernel_rfl) (by kernel_rfl) (fun _ _ _ h => h) (Or.inl ⟨by rfl, ?_⟩) H ?_
  · intro w' hSw; have t0 := hSw.2.c0; clear hSw; go_simp
  change wpAnyH _ _ _ _ _ _ _ { tmps := #[_, _, _, _, _, _, _, _, _, _, _, _, _, _, _, _, _, _, _, _, _, _, _, _, _, _, _, _, _, _, _, _, _, _, _, _, _, _, _, _, _, _, _, _, _, _, _, _, _, _, _, _, _, _, _, _, _, _, _, _, _, _, _, _, _, _, _, _, _, _, _, _, _, _, _, _, _, _, _, _, _, _, _, _, _, _, _, _, _, _, _, _, _, _, _, _, _, _, _, _, _, _, _, _, _], defers := _ } _
  refine wpAnyH_take (i := 4) (v := .pointer (some ⟨w.heap.size + 1, 1, none⟩)) rfl (by kernel_rfl) (by kernel_rfl) (by kernel_rfl) (fun _ _ _ h => h) (Or.inl ⟨by rfl, ?_⟩) H ?_
  · intro w' hSw; go_simp
  change wpAnyH _ _ _ _ _ _ _ { tmps := #[_, _, _, _, _, _, _, _, _, _, _, _, _, _, _, _, _, _, _, _, _, _, _, _, _, _, _, _, _, _, _, _, _, _, _, _, _, _, _, _, _, _, _, _, _, _, _, _, _, _, _, _, _, _, _, _, _, _, _, _, _, _, _, _, _, _, _, _, _, _, _, _, _, _, _, _, _, _, _, _, _, _, _, _, _, _, _, _, _, _, _, _, _, _, _, _, _, _, _, _, _, _, _, _, _], defers := _ } _
  refine wpAnyH_take (i := 5) (v := .string B) rfl (by kernel_rfl) (by kernel_rfl) (by kernel_rfl) (fun _ _ _ h => h) (Or.inl ⟨by rfl, ?_⟩) H ?_
  · intro w' hSw; have t0 := hSw.2.c1; clear hSw; go_simp
  change wpAnyH _ _ _ _ _ _ _ { tmps := #[_, _, _, _, _, _, _, _, _, _, _, _, _, _, _, _, _, _, _, _, _, _, _, _, _, _, _, _, _, _, _, _, _, _, _, _, _, _, _, _, _, _, _, _, _, _, _, _, _, _, _, _, _, _, _, _, _, _, _, _, _, _, _, _, _, _, _, _, _, _, _, _, _, _, _, _, _, _, _, _, _, _, _, _, _, _, _, _, _, _, _, _, _, _, _, _, _, _, _, _, _, _, _, _, _], defers := _ } _
  refine wpAnyH_take (i := 7) (v := .pointer (some ⟨w.heap.size + 1, 2, none⟩)) rfl (by kernel_rfl) (by kernel_rfl) (by kernel_rfl) (fun _ _ _ h => h) (Or.inl ⟨by rfl, ?_⟩) H ?_
  · intro w' hSw; go_simp
  change wpAnyH _ _ _ _ _ _ _ { tmps := #[_, _, _, _, _, _, _, _, _, _, _, _, _, _, _, _, _, _, _, _, _, _, _, _, _, _, _, _, _, _, _, _, _, _, _, _, _, _, _, _, _, _, _, _, _, _, _, _, _, _, _, _, _, _, _, _, _, _, _, _, _, _, _, _, _, _, _, _, _, _, _, _, _, _, _, _, _, _, _, _, _, _, _, _, _, _, _, _, _, _, _, _, _, _, _, _, _, _, _, _, _, _, _, _, _], defers := _ } _
  refine wpAnyH_take (i := 8) (v := .string PT) rfl (by kernel_rfl) (by kernel_rfl) (by kernel_rfl) (fun _ _ _ h => h) (Or.inl ⟨by rfl, ?_⟩) H ?_
  · intro w' hSw; have t0 := hSw.2.c2; clear hSw; go_simp
  change wpAnyH _ _ _ _ _ _ _ { tmps := #[_, _, _, _, _, _, _, _, _, _, _, _, _, _, _, _, _, _, _, _, _, _, _, _, _, _, _, _, _, _, _, _, _, _, _, _, _, _, _, _, _, _, _, _, _, _, _, _, _, _, _, _, _, _, _, _, _, _, _, _, _, _, _, _, _, _, _, _, _, _, _, _, _, _, _, _, _, _, _, _, _, _, _, _, _, _, _, _, _, _, _, _, _, _, _, _, _, _, _, _, _, _, _, _, _], defers := _ } _
  refine wpAnyH_ready (rs := [6]) (by kernel_rfl) (by simp) ?_
  refine AllReadyH.cons rfl (fun KK hK => ?_) AllReadyH.nil
  go_simp
  refine (TG.out _).mono ?_
  rintro e v22 ⟨rfl, hb⟩
  replace A1 : Hid (Below w.heap.size w v22) := A1.out.trans (hb.mono A1.out.size)
  replace Y0 : Hid (Box4 v22 (w.heap.size + 2) 52 (.string ⟨#[]⟩) (.int .i64 0) (.int .i64 0) (.slice none 0 0)) := Y0.out.below hb
  replace US : Hid (w.heap.size + 3 ≤ (v22).heap.size) := Nat.le_trans US.out hb.size
  replace HX : Hid (Bools v22 a 32 f) := HX.out.below hb
  replace RW : Hid (OwnB v22 w.heap.size (some ⟨g, 0, none⟩) 32 f) := RW.out.below hb
  replace XX : Hid (Box4 v22 b6 52 (.string K) (.int .i64 se) (.int .i64 (t : Int)) (.slice (some ⟨g, 0, none⟩) 32 cap)) := XX.out.below hb
  replace H : (Box4 v22 w.heap.size 52 (.string K) (.int .i64 se) (.int .i64 (t : Int)) (.slice a 32 c)) ∧ (BoxP v22 (w.heap.size + 1) 57 (.int .i64 (x : Int)) (.string B) (.string PT)) := ⟨H.1.below hb, H.2.below hb⟩
  clear hb 
  refine hK.out _ _ H (fun _ => ?_)
  clear hK KK
  change wpAnyH _ _ _ _ _ _ _ { tmps := #[_, _, _, _, _, _, _, _, _, _, _, _, _, _, _, _, _, _, _, _, _, _, _, _, _, _, _, _, _, _, _, _, _, _, _, _, _, _, _, _, _, _, _, _, _, _, _, _, _, _, _, _, _, _, _, _, _, _, _, _, _, _, _, _, _, _, _, _, _, _, _, _, _, _, _, _, _, _, _, _, _, _, _, _, _, _, _, _, _, _, _, _, _, _, _, _, _, _, _, _, _, _, _, _, _], defers := _ } _
  refine wpAnyH_take (i := 9) (v := .bool false) rfl (by kernel_rfl) (by kernel_rfl) (by kernel_rfl) (fun _ _ _ h => h) (Or.inl ⟨by rfl, ?_⟩) H ?_
  · intro w' hSw; clear hSw; go_simp
  change wpAnyH _ _ _ _ _ _ _ { tmps := #[_, _, _, _, _, _, _, _, _, _, _, _, _, _, _, _, _, _, _, _, _, _, _, _, _, _, _, _, _, _, _, _, _, _, _, _, _, _, _, _, _, _, _, _, _, _, _, _, _, _, _, _, _, _, _, _, _, _, _, _, _, _, _, _, _, _, _, _, _, _, _, _, _, _, _, _, _, _, _, _, _, _, _, _, _, _, _, _, _, _, _, _, _, _, _, _, _, _, _, _, _, _, _, _, _], defers := _ } _
  refine wpAnyH_take (i := 10) (v := .bool false) rfl (by kernel_rfl) (by kernel_rfl) (by kernel_rfl) (fun _ _ _ h => h) (Or.inl ⟨by rfl, ?_⟩) H ?_
  · intro w' hSw; go_simp
  change wpAnyH _ _ _ _ _ _ _ { tmps := #[_, _, _, _, _, _, _, _, _, _, _, _, _, _, _, _, _, _, _, _, _, _, _, _, _, _, _, _, _, _, _, _, _, _, _, _, _, _, _, _, _, _, _, _, _, _, _, _, _, _, _, _, _, _, _, _, _, _, _, _, _, _, _, _, _, _, _, _, _, _, _, _, _, _, _, _, _, _, _, _, _, _, _, _, _, _, _, _, _, _, _, _, _, _, _, _, _, _, _, _, _, _, _, _, _], defers := _ } _
  have X0 : Hid (Box4 v22 w.heap.size 52 (.string K) (.int .i64 se) (.int .i64 (t : Int)) (.slice a 32 c)) := H.1
  have P0 : Hid (BoxP v22 (w.heap.size + 1) 57 (.int .i64 (x : Int)) (.string B) (.string PT)) := H.2
  clear H
  refine wpAnyH_done (by kernel_rfl) ?_ _
  refine NoPanic.normal ?_
  clear TG
  have px := P0.out.c0
  have tx := X0.out.c2
  have wx := X0.out.c3
  obtain ⟨ab, ao, rfl, hca⟩ := HX.out.opened (by omega)
  have cj := hca j hj32
  rw [hf] at cj
  clear hca
  obtain ⟨m, G, hgB, hrow, hm, hG⟩ := RW.out.row (by omega)
  have gc := hrow.cell (i := j) (by omega)
  have gf := hrow.frozen j
  have ox := XX.out.c3
  have ho : OnlyB g v22 (v22.setCell ⟨g, j, none⟩ (.bool true)) := (OnlyB.refl _ _).setCell j _
  have R2 : Hid (OwnB (v22.setCell ⟨g, j, none⟩ (.bool true)) w.heap.size (some ⟨g, 0, none⟩) 32 (tkW t x f)) := .inr ⟨g, m, _, hgB, rfl, hrow.set j _, hm, fun i hi => by
    by_cases e : i = j
    · subst e; simp only [if_true]; unfold tkW; rw [if_pos hl, hj]; simp
    · simp only [if_neg e]; rw [hG i hi]; unfold tkW; rw [if_pos hl, ← hj]; simp [e]⟩
  have Y2 : Hid (Box4 (v22.setCell ⟨g, j, none⟩ (.bool true)) (w.heap.size + 2) 52 (.string ⟨#[]⟩) (.int .i64 0) (.int .i64 0) (.slice none 0 0)) := Y0.out.onlyB ho (by have := GG.out; omega)
  have X2 : Hid (Box4 (v22.setCell ⟨g, j, none⟩ (.bool true)) b6 52 (.string K) (.int .i64 se) (.int .i64 (t : Int)) (.slice (some ⟨g, 0, none⟩) 32 cap)) := XX.out.onlyB ho (by have := LG.out; omega)
  have A2 : Hid (Below w.heap.size w (v22.setCell ⟨g, j, none⟩ (.bool true))) := A1.out.trans (ho.toBelow (B := w.heap.size) (by have := GG.out; omega) A1.out.size)
  clear hrow hG hm hgB ho RW Y0 XX A1 X0 P0 US HX LA LG hf hj hl
  go_upto_region 14 with fail
  generalize (v22.setCell ⟨g, j, none⟩ (.bool true)) = u9 at *
  clear px tx wx cj gc gf ox
  have RW := R2
  have Y0 := Y2
  have XX := X2
  have A1 := A2
  clear R2 Y2 X2 A2
  obtain ⟨U5, hU5⟩ : ∃ U5, U5 = ((((u9.setCell ⟨w.heap.size + 2, 0, none⟩ (.string K)).setCell ⟨w.heap.size + 2, 1, none⟩ (.int .i64 se)).setCell ⟨w.heap.size + 2, 2, none⟩ (.int .i64 (t : Int))).setCell ⟨w.heap.size + 2, 3, none⟩ (.slice (some ⟨g, 0, none⟩) 32 cap)) := ⟨_, rfl⟩
  have O2 : OnlyB (w.heap.size + 2) u9 U5 := by rw [hU5]; exact ((((OnlyB.refl _ _).setCell 0 _).setCell 1 _).setCell 2 _).setCell 3 _
  have Y5 : Hid (Box4 U5 (w.heap.size + 2) 52 (.string K) (.int .i64 se) (.int .i64 (t : Int)) (.slice (some ⟨g, 0, none⟩) 32 cap)) := by rw [hU5]; exact (((Y0.out.set0 _).set1 _).set2 _).set3 _
  have B5 : Hid (Below w.heap.size w U5) := A1.out.trans (O2.toBelow (B := w.heap.size) (by omega) A1.out.size)
  have R5 : Hid (OwnB U5 w.heap.size (some ⟨g, 0, none⟩) 32 (tkW t x f)) := RW.out.one O2 (fun p hp => by cases hp; have := GG.out; show g ≠ _; omega)
  have y0 := Y0.out.c0
  have fy0 := Y0.out.fr 0
  have y1 := Y0.out.c1
  have fy1 := Y0.out.fr 1
  have y2 := Y0.out.c2
  have fy2 := Y0.out.fr 2
  have y3 := Y0.out.c3
  have fy3 := Y0.out.fr 3
  have v0' := XX.out.c0
  have v1' := XX.out.c1
  have v2' := XX.out.c2
  have v3' := XX.out.c3
  have HU : Hid (U5 = ((((u9.setCell ⟨w.heap.size + 2, 0, none⟩ (.string K)).setCell ⟨w.heap.size + 2, 1, none⟩ (.int .i64 se)).setCell ⟨w.heap.size + 2, 2, none⟩ (.int .i64 (t : Int))).setCell ⟨w.heap.size + 2, 3, none⟩ (.slice (some ⟨g, 0, none⟩) 32 cap))) := hU5
  clear O2 hU5 Y0 A1
  go_wp2
  rw [← HU.out]
  clear HU y0 fy0 y1 fy1 y2 fy2 y3 fy3 v0' v1' v2' v3'
  have y0 := Y5.out.c0
  have y1 := Y5.out.c1
  have y2 := Y5.out.c2
  have y3 := Y5.out.c3
  exact ret_cell2 (b := w.heap.size + 2) (v := .agg #[.string K, .int .i64 se, .int .i64 (t : Int), .slice (some ⟨g, 0, none⟩) 32 cap]) (x := .int .i64 0) Tryd.results28 rfl rfl (by go_simp) ⟨⟨_, _, rfl, R5.out⟩, B5.out⟩
set_option maxRecDepth 100000 in
set_option maxHeartbeats 8000000 in
theorem specTake_B (K B : ByteArray) (PT : ByteArray) (se : Int) (t x : Nat) (a : Option Addr) (c : Nat) (f : Nat → Bool) (h2 : LkOk K se (t : Int) 32 f) (hB : B.size ≤ 1048576) (hq : 1 ≤ x ∧ x ≤ 1000000) (hPT : PT = ptag K B x) (hl : t < x) (w : World) (hW : Bools w a 32 f) :
    Calls Tryd.prog 28 #[.agg #[.string K, .int .i64 se, .int .i64 (t : Int), .slice a 32 c], .agg #[.int .i64 (x : Int), .string B, .string PT]] w fun e w' => RetL w w' e K se (x : Int) 32 (tkW t x f) 0 ∧ Below w.heap.size w w' := by
  have A0 : Hid (Below w.heap.size w (((w.alloc (.cells #[.string K, .int .i64 se, .int .i64 (t : Int), .slice a 32 c] 52)).alloc (.cells #[.int .i64 (x : Int), .string B, .string PT] 57)).alloc (.cells #[.string ⟨#[]⟩, .int .i64 0, .int .i64 0, .slice none 0 0] 52))) := (((Below.refl w.heap.size w).alloc (Nat.le_refl _) _).alloc (by simp) _).alloc (by simp; omega) _
  have X0 : Hid (Box4 (((w.alloc (.cells #[.string K, .int .i64 se, .int .i64 (t : Int), .slice a 32 c] 52)).alloc (.cells #[.int .i64 (x : Int), .string B, .string PT] 57)).alloc (.cells #[.string ⟨#[]⟩, .int .i64 0, .int .i64 0, .slice none 0 0] 52)) w.heap.size 52 (.string K) (.int .i64 se) (.int .i64 (t : Int)) (.slice a 32 c)) := ((Box4.madeAt rfl _ _ _ _ _).alloc _).alloc _
  have P0 : Hid (BoxP (((w.alloc (.cells #[.string K, .int .i64 se, .int .i64 (t : Int), .slice a 32 c] 52)).alloc (.cells #[.int .i64 (x : Int), .string B, .string PT] 57)).alloc (.cells #[.string ⟨#[]⟩, .int .i64 0, .int .i64 0, .slice none 0 0] 52)) (w.heap.size + 1) 57 (.int .i64 (x : Int)) (.string B) (.string PT)) := (BoxP.madeAt (by simp) _ _ _ _).alloc _
  have Y0 : Hid (Box4 (((w.alloc (.cells #[.string K, .int .i64 se, .int .i64 (t : Int), .slice a 32 c] 52)).alloc (.cells #[.int .i64 (x : Int), .string B, .string PT] 57)).alloc (.cells #[.string ⟨#[]⟩, .int .i64 0, .int .i64 0, .slice none 0 0] 52)) (w.heap.size + 2) 52 (.string ⟨#[]⟩) (.int .i64 0) (.int .i64 0) (.slice none 0 0)) := Box4.madeAt (by simp) _ _ _ _ _
  have US : Hid ((((w.alloc (.cells #[.string K, .int .i64 se, .int .i64 (t : Int), .slice a 32 c] 52)).alloc (.cells #[.int .i64 (x : Int), .string B, .string PT] 57)).alloc (.cells #[.string ⟨#[]⟩, .int .i64 0, .int .i64 0, .slice none 0 0] 52)).heap.size = w.heap.size + 3) := by show _ = _; simp
  have HX : Hid (Bools (((w.alloc (.cells #[.string K, .int .i64 se, .int .i64 (t : Int), .slice a 32 c] 52)).alloc (.cells #[.int .i64 (x : Int), .string B, .string PT] 57)).alloc (.cells #[.string ⟨#[]⟩, .int .i64 0, .int .i64 0, .slice none 0 0] 52)) a 32 f) := hW.below A0.out
  have LO : Hid (∀ w : World, Bools w a 32 f → Calls Tryd.prog 72 #[.agg #[.string K, .int .i64 se, .int .i64 (t : Int), .slice a 32 c]] w fun e w' => e = .returned (.bool true) ∧ Below w.heap.size w w') := fun w h => specLinkOK_any K se (t : Int) a 32 c f true (by simpa using h2) w h
  have IN : Hid (∀ w : World, Calls Tryd.prog 63 #[.int .i64 (x : Int), .int .i64 1, .int .i64 1000000] w fun e w' => e = .returned (.bool true) ∧ w = w') := fun w => in_any (x : Int) _ _ true (by simp; omega) w
  have TG : Hid (∀ w : World, Calls Tryd.prog 69 #[.string K, .int .i64 (x : Int), .string B] w fun e w' => e = .returned (.string PT) ∧ Below w.heap.size w w') := fun w => by
    rw [hPT]
    exact l07Tag_any K B x h2.1 (by omega) hB w
  have bt : (t : Int) ≤ 1000000 := h2.2.2.1.2
  have bx : (x : Int) ≤ 1000000 := by omega
  have b0 : (0 : Int) ≤ (t : Int) := by omega
  have b1 : (0 : Int) ≤ (x : Int) := by omega
  have c1 : ¬ (x : Int) ≤ (t : Int) - 32 := by omega
  have c2 : ¬ (x : Int) ≤ (t : Int) := by omega
  obtain ⟨d, hd⟩ : ∃ d, d = x - t := ⟨_, rfl⟩
  have ed : (x : Int) - (t : Int) = (d : Int) := by omega
  have HD : Hid (d = x - t ∧ t < x ∧ x ≤ 1000000) := ⟨hd, hl, hq.2⟩
  have db : (d : Int) ≤ 1000000 := by omega
  clear h2 hW hq hPT hB
  clear hl hd
  go_enter Tryd.func28, Tryd.ntmps28
  go_wp2_with fail
  generalize (((w.alloc (.cells #[.string K, .int .i64 se, .int .i64 (t : Int), .slice a 32 c] 52)).alloc (.cells #[.int .i64 (x : Int), .string B, .string PT] 57)).alloc (.cells #[.string ⟨#[]⟩, .int .i64 0, .int .i64 0, .slice none 0 0] 52)) = u at *
  refine (LO.out _ HX.out).mono ?_
  rintro e u1 ⟨rfl, hb⟩
  replace US : Hid (w.heap.size + 3 ≤ u.heap.size) := by have := US.out; show _ ≤ _; omega
  have A1 := A0
  clear A0
  replace A1 : Hid (Below w.heap.size w u1) := A1.out.trans (hb.mono A1.out.size)
  replace X0 : Hid (Box4 u1 w.heap.size 52 (.string K) (.int .i64 se) (.int .i64 (t : Int)) (.slice a 32 c)) := X0.out.below hb
  replace P0 : Hid (BoxP u1 (w.heap.size + 1) 57 (.int .i64 (x : Int)) (.string B) (.string PT)) := P0.out.below hb
  replace Y0 : Hid (Box4 u1 (w.heap.size + 2) 52 (.string ⟨#[]⟩) (.int .i64 0) (.int .i64 0) (.slice none 0 0)) := Y0.out.below hb
  replace US : Hid (w.heap.size + 3 ≤ (u1).heap.size) := Nat.le_trans US.out hb.size
  replace HX : Hid (Bools u1 a 32 f) := HX.out.below hb
  clear hb LO
  have t0 := X0.out.c0
  have t1 := X0.out.c1
  have t2 := X0.out.c2
  have t3 := X0.out.c3
  go_wp2_with fail
  clear t0 t1 t2 t3
  refine (l07Own_any K se (t : Int) a c f u1 HX.out).mono ?_
  rintro e u2 ⟨⟨g, cap, rfl, og⟩, hb⟩
  have GG : Hid (w.heap.size + 3 ≤ g) := by have h1 := og.ge (by omega) _ rfl; have h2 := US.out; exact Nat.le_trans h2 h1
  have LA : Hid (∀ p, a = some p → p.block < g) := fun p hp => by have h1 := HX.out.ltB (by omega) p hp; have h2 := og.ge (by omega) _ rfl; exact Nat.lt_of_lt_of_le h1 h2
  have RW : Hid (OwnB u2 w.heap.size (some ⟨g, 0, none⟩) 32 f) := og.mono (by have := US.out; omega)
  have LG : Hid (g < u2.heap.size) := og.bools.ltB (by omega) _ rfl
  replace A1 : Hid (Below w.heap.size w u2) := A1.out.trans (hb.mono A1.out.size)
  replace X0 : Hid (Box4 u2 w.heap.size 52 (.string K) (.int .i64 se) (.int .i64 (t : Int)) (.slice a 32 c)) := X0.out.below hb
  replace P0 : Hid (BoxP u2 (w.heap.size + 1) 57 (.int .i64 (x : Int)) (.string B) (.string PT)) := P0.out.below hb
  replace Y0 : Hid (Box4 u2 (w.heap.size + 2) 52 (.string ⟨#[]⟩) (.int .i64 0) (.int .i64 0) (.slice none 0 0)) := Y0.out.below hb
  replace US : Hid (w.heap.size + 3 ≤ (u2).heap.size) := Nat.le_trans US.out hb.size
  replace HX : Hid (Bools u2 a 32 f) := HX.out.below hb
  clear hb og
  have hb : Below u2.heap.size u2 (u2.alloc (.cells #[.string K, .int .i64 se, .int .i64 (t : Int), .slice (some ⟨g, 0, none⟩) 32 cap] 52)) := (Below.refl _ _).alloc (Nat.le_refl _) _
  have XX : Hid (Box4 (u2.alloc (.cells #[.string K, .int .i64 se, .int .i64 (t : Int), .slice (some ⟨g, 0, none⟩) 32 cap] 52)) u2.heap.size 52 (.string K) (.int .i64 se) (.int .i64 (t : Int)) (.slice (some ⟨g, 0, none⟩) 32 cap)) := Box4.madeAt rfl _ _ _ _ _
  have vp0 := (P0.out.below hb).c0
  go_wp2_with fail
  generalize (u2.alloc (.cells #[.string K, .int .i64 se, .int .i64 (t : Int), .slice (some ⟨g, 0, none⟩) 32 cap] 52)) = u3 at *
  replace A1 : Hid (Below w.heap.size w u3) := A1.out.trans (hb.mono A1.out.size)
  replace X0 : Hid (Box4 u3 w.heap.size 52 (.string K) (.int .i64 se) (.int .i64 (t : Int)) (.slice a 32 c)) := X0.out.below hb
  replace P0 : Hid (BoxP u3 (w.heap.size + 1) 57 (.int .i64 (x : Int)) (.string B) (.string PT)) := P0.out.below hb
  replace Y0 : Hid (Box4 u3 (w.heap.size + 2) 52 (.string ⟨#[]⟩) (.int .i64 0) (.int .i64 0) (.slice none 0 0)) := Y0.out.below hb
  replace US : Hid (w.heap.size + 3 ≤ (u3).heap.size) := Nat.le_trans US.out hb.size
  replace HX : Hid (Bools u3 a 32 f) := HX.out.below hb
  replace RW : Hid (OwnB u3 w.heap.size (some ⟨g, 0, none⟩) 32 f) := RW.out.below hb
  obtain ⟨b6, hb6⟩ : ∃ b6, b6 = u2.heap.size := ⟨_, rfl⟩
  rw [← hb6] at XX LG ⊢
  have S6 : Hid (w.heap.size + 3 ≤ b6) := by have h1 := GG.out; have h2 := LG.out; show _ ≤ _; omega
  clear hb hb6 vp0
  refine (IN.out _).mono ?_
  rintro e z1 ⟨rfl, rfl⟩
  clear IN
  go_wp2_with fail
  have hb : Below u3.heap.size u3 u3.drew := (Below.refl _ _).drew
  have H : (Box4 u3.drew w.heap.size 52 (.string K) (.int .i64 se) (.int .i64 (t : Int)) (.slice a 32 c)) ∧ (BoxP u3.drew (w.heap.size + 1) 57 (.int .i64 (x : Int)) (.string B) (.string PT)) := ⟨X0.out.below hb, P0.out.below hb⟩
  replace A1 : Hid (Below w.heap.size w u3.drew) := A1.out.trans (hb.mono A1.out.size)
  replace Y0 : Hid (Box4 u3.drew (w.heap.size + 2) 52 (.string ⟨#[]⟩) (.int .i64 0) (.int .i64 0) (.slice none 0 0)) := Y0.out.below hb
  replace US : Hid (w.heap.size + 3 ≤ (u3.drew).heap.size) := Nat.le_trans US.out hb.size
  replace HX : Hid (Bools u3.drew a 32 f) := HX.out.below hb
  replace RW : Hid (OwnB u3.drew w.heap.size (some ⟨g, 0, none⟩) 32 f) := RW.out.below hb
  replace XX : Hid (Box4 u3.drew b6 52 (.string K) (.int .i64 se) (.int .i64 (t : Int)) (.slice (some ⟨g, 0, none⟩) 32 cap)) := XX.out.below hb
  clear hb X0 P0
  refine wp_region_noPanic ?_
  refine wp_region_held_drew (S := fun w' => (Box4 w' w.heap.size 52 (.string K) (.int .i64 se) (.int .i64 (t : Int)) (.slice a 32 c)) ∧ (BoxP w' (w.heap.size + 1) 57 (.int .i64 (x : Int)) (.string B) (.string PT))) (by kernel_rfl) H (fun _ => ?_)
  generalize u3.drew = v21 at *
  refine wpAnyH_take (i := 0) (v := .pointer (some ⟨w.heap.size, 0, none⟩)) rfl (by kernel_rfl) (by kernel_rfl) (by kernel_rfl) (fun _ _ _ h => h) (Or.inl ⟨by rfl, ?_⟩) H ?_
  · intro w' hSw; go_simp
  change wpAnyH _ _ _ _ _ _ _ { tmps := #[_, _, _, _, _, _, _, _, _, _, _, _, _, _, _, _, _, _, _, _, _, _, _, _, _, _, _, _, _, _, _, _, _, _, _, _, _, _, _, _, _, _, _, _, _, _, _, _, _, _, _, _, _, _, _, _, _, _, _, _, _, _, _, _, _, _, _, _, _, _, _, _, _, _, _, _, _, _, _, _, _, _, _, _, _, _, _, _, _, _, _, _, _, _, _, _, _, _, _, _, _, _, _, _, _], defers := _ } _
  refine wpAnyH_take (i := 1) (v := .string K) rfl (by kernel_rfl) (by kernel_rfl) (by kernel_rfl) (fun _ _ _ h => h) (Or.inl ⟨by rfl, ?_⟩) H ?_
  · intro w' hSw; have t0 := hSw.1.c0; clear hSw; go_simp
  change wpAnyH _ _ _ _ _ _ _ { tmps := #[_, _, _, _, _, _, _, _, _, _, _, _, _, _, _, _, _, _, _, _, _, _, _, _, _, _, _, _, _, _, _, _, _, _, _, _, _, _, _, _, _, _, _, _, _, _, _, _, _, _, _, _, _, _, _, _, _, _, _, _, _, _, _, _, _, _, _, _, _, _, _, _, _, _, _, _, _, _, _, _, _, _, _, _, _, _, _, _, _, _, _, _, _, _, _, _, _, _, _, _, _, _, _, _, _], defers := _ } _
  refine wpAnyH_take (i := 2) (v := .pointer (some ⟨w.heap.size + 1, 0, none⟩)) rfl (by kernel_rfl) (by kernel_rfl) (by kernel_rfl) (fun _ _ _ h => h) (Or.inl ⟨by rfl, ?_⟩) H ?_
  · intro w' hSw; go_simp
  change wpAnyH _ _ _ _ _ _ _ { tmps := #[_, _, _, _, _, _, _, _, _, _, _, _, _, _, _, _, _, _, _, _, _, _, _, _, _, _, _, _, _, _, _, _, _, _, _, _, _, _, _, _, _, _, _, _, _, _, _, _, _, _, _, _, _, _, _, _, _, _, _, _, _, _, _, _, _, _, _, _, _, _, _, _, _, _, _, _, _, _, _, _, _, _, _, _, _, _, _, _, _, _, _, _, _, _, _, _, _, _, _, _, _, _, _, _, _], defers := _ } _
  refine wpAnyH_take (i := 3) (v := .int .i64 (x : Int)) rfl (by kernel_rfl) (by kernel_rfl) (by kernel_rfl) (fun _ _ _ h => h) (Or.inl ⟨by rfl, ?_⟩) H ?_
  · intro w' hSw; have t0 := hSw.2.c0; clear hSw; go_simp
  change wpAnyH _ _ _ _ _ _ _ { tmps := #[_, _, _, _, _, _, _, _, _, _, _, _, _, _, _, _, _, _, _, _, _, _, _, _, _, _, _, _, _, _, _, _, _, _, _, _, _, _, _, _, _, _, _, _, _, _, _, _, _, _, _, _, _, _, _, _, _, _, _, _, _, _, _, _, _, _, _, _, _, _, _, _, _, _, _, _, _, _, _, _, _, _, _, _, _, _, _, _, _, _, _, _, _, _, _, _, _, _, _, _, _, _, _, _, _], defers := _ } _
  refine wpAnyH_take (i := 4) (v := .pointer (some ⟨w.heap.size + 1, 1, none⟩)) rfl (by kernel_rfl) (by kernel_rfl) (by kernel_rfl) (fun _ _ _ h => h) (Or.inl ⟨by rfl, ?_⟩) H ?_
  · intro w' hSw; go_simp
  change wpAnyH _ _ _ _ _ _ _ { tmps := #[_, _, _, _, _, _, _, _, _, _, _, _, _, _, _, _, _, _, _, _, _, _, _, _, _, _, _, _, _, _, _, _, _, _, _, _, _, _, _, _, _, _, _, _, _, _, _, _, _, _, _, _, _, _, _, _, _, _, _, _, _, _, _, _, _, _, _, _, _, _, _, _, _, _, _, _, _, _, _, _, _, _, _, _, _, _, _, _, _, _, _, _, _, _, _, _, _, _, _, _, _, _, _, _, _], defers := _ } _
  refine wpAnyH_take (i := 5) (v := .string B) rfl (by kernel_rfl) (by kernel_rfl) (by kernel_rfl) (fun _ _ _ h => h) (Or.inl ⟨by rfl, ?_⟩) H ?_
  · intro w' hSw; have t0 := hSw.2.c1; clear hSw; go_simp
  change wpAnyH _ _ _ _ _ _ _ { tmps := #[_, _, _, _, _, _, _, _, _, _, _, _, _, _, _, _, _, _, _, _, _, _, _, _, _, _, _, _, _, _, _, _, _, _, _, _, _, _, _, _, _, _, _, _, _, _, _, _, _, _, _, _, _, _, _, _, _, _, _, _, _, _, _, _, _, _, _, _, _, _, _, _, _, _, _, _, _, _, _, _, _, _, _, _, _, _, _, _, _, _, _, _, _, _, _, _, _, _, _, _, _, _, _, _, _], defers := _ } _
  refine wpAnyH_take (i := 7) (v := .pointer (some ⟨w.heap.size + 1, 2, none⟩)) rfl (by kernel_rfl) (by kernel_rfl) (by kernel_rfl) (fun _ _ _ h => h) (Or.inl ⟨by rfl, ?_⟩) H ?_
  · intro w' hSw; go_simp
  change wpAnyH _ _ _ _ _ _ _ { tmps := #[_, _, _, _, _, _, _, _, _, _, _, _, _, _, _, _, _, _, _, _, _, _, _, _, _, _, _, _, _, _, _, _, _, _, _, _, _, _, _, _, _, _, _, _, _, _, _, _, _, _, _, _, _, _, _, _, _, _, _, _, _, _, _, _, _, _, _, _, _, _, _, _, _, _, _, _, _, _, _, _, _, _, _, _, _, _, _, _, _, _, _, _, _, _, _, _, _, _, _, _, _, _, _, _, _], defers := _ } _
  refine wpAnyH_take (i := 8) (v := .string PT) rfl (by kernel_rfl) (by kernel_rfl) (by kernel_rfl) (fun _ _ _ h => h) (Or.inl ⟨by rfl, ?_⟩) H ?_
  · intro w' hSw; have t0 := hSw.2.c2; clear hSw; go_simp
  change wpAnyH _ _ _ _ _ _ _ { tmps := #[_, _, _, _, _, _, _, _, _, _, _, _, _, _, _, _, _, _, _, _, _, _, _, _, _, _, _, _, _, _, _, _, _, _, _, _, _, _, _, _, _, _, _, _, _, _, _, _, _, _, _, _, _, _, _, _, _, _, _, _, _, _, _, _, _, _, _, _, _, _, _, _, _, _, _, _, _, _, _, _, _, _, _, _, _, _, _, _, _, _, _, _, _, _, _, _, _, _, _, _, _, _, _, _, _], defers := _ } _
  refine wpAnyH_ready (rs := [6]) (by kernel_rfl) (by simp) ?_
  refine AllReadyH.cons rfl (fun KK hK => ?_) AllReadyH.nil
  go_simp
  refine (TG.out _).mono ?_
  rintro e v22 ⟨rfl, hb⟩
  replace A1 : Hid (Below w.heap.size w v22) := A1.out.trans (hb.mono A1.out.size)
  replace Y0 : Hid (Box4 v22 (w.heap.size + 2) 52 (.string ⟨#[]⟩) (.int .i64 0) (.int .i64 0) (.slice none 0 0)) := Y0.out.below hb
  replace US : Hid (w.heap.size + 3 ≤ (v22).heap.size) := Nat.le_trans US.out hb.size
  replace HX : Hid (Bools v22 a 32 f) := HX.out.below hb
  replace RW : Hid (OwnB v22 w.heap.size (some ⟨g, 0, none⟩) 32 f) := RW.out.below hb
  replace XX : Hid (Box4 v22 b6 52 (.string K) (.int .i64 se) (.int .i64 (t : Int)) (.slice (some ⟨g, 0, none⟩) 32 cap)) := XX.out.below hb
  replace H : (Box4 v22 w.heap.size 52 (.string K) (.int .i64 se) (.int .i64 (t : Int)) (.slice a 32 c)) ∧ (BoxP v22 (w.heap.size + 1) 57 (.int .i64 (x : Int)) (.string B) (.string PT)) := ⟨H.1.below hb, H.2.below hb⟩
  clear hb 
  refine hK.out _ _ H (fun _ => ?_)
  clear hK KK
  change wpAnyH _ _ _ _ _ _ _ { tmps := #[_, _, _, _, _, _, _, _, _, _, _, _, _, _, _, _, _, _, _, _, _, _, _, _, _, _, _, _, _, _, _, _, _, _, _, _, _, _, _, _, _, _, _, _, _, _, _, _, _, _, _, _, _, _, _, _, _, _, _, _, _, _, _, _, _, _, _, _, _, _, _, _, _, _, _, _, _, _, _, _, _, _, _, _, _, _, _, _, _, _, _, _, _, _, _, _, _, _, _, _, _, _, _, _, _], defers := _ } _
  refine wpAnyH_take (i := 9) (v := .bool false) rfl (by kernel_rfl) (by kernel_rfl) (by kernel_rfl) (fun _ _ _ h => h) (Or.inl ⟨by rfl, ?_⟩) H ?_
  · intro w' hSw; clear hSw; go_simp
  change wpAnyH _ _ _ _ _ _ _ { tmps := #[_, _, _, _, _, _, _, _, _, _, _, _, _, _, _, _, _, _, _, _, _, _, _, _, _, _, _, _, _, _, _, _, _, _, _, _, _, _, _, _, _, _, _, _, _, _, _, _, _, _, _, _, _, _, _, _, _, _, _, _, _, _, _, _, _, _, _, _, _, _, _, _, _, _, _, _, _, _, _, _, _, _, _, _, _, _, _, _, _, _, _, _, _, _, _, _, _, _, _, _, _, _, _, _, _], defers := _ } _
  refine wpAnyH_take (i := 10) (v := .bool false) rfl (by kernel_rfl) (by kernel_rfl) (by kernel_rfl) (fun _ _ _ h => h) (Or.inl ⟨by rfl, ?_⟩) H ?_
  · intro w' hSw; go_simp
  change wpAnyH _ _ _ _ _ _ _ { tmps := #[_, _, _, _, _, _, _, _, _, _, _, _, _, _, _, _, _, _, _, _, _, _, _, _, _, _, _, _, _, _, _, _, _, _, _, _, _, _, _, _, _, _, _, _, _, _, _, _, _, _, _, _, _, _, _, _, _, _, _, _, _, _, _, _, _, _, _, _, _, _, _, _, _, _, _, _, _, _, _, _, _, _, _, _, _, _, _, _, _, _, _, _, _, _, _, _, _, _, _, _, _, _, _, _, _], defers := _ } _
  have X0 : Hid (Box4 v22 w.heap.size 52 (.string K) (.int .i64 se) (.int .i64 (t : Int)) (.slice a 32 c)) := H.1
  have P0 : Hid (BoxP v22 (w.heap.size + 1) 57 (.int .i64 (x : Int)) (.string B) (.string PT)) := H.2
  clear H
  refine wpAnyH_done (by kernel_rfl) ?_ _
  refine NoPanic.normal ?_
  clear TG
  have px := P0.out.c0
  have tx := X0.out.c2
  obtain ⟨ab, ao, rfl, hca⟩ := HX.out.opened (by omega)
  have NA : Hid (ab ≠ g) := by have := LA.out _ rfl; intro e; have e' : ab < g := this; omega
  obtain ⟨m, G, hgB, hrow, hm, hG⟩ := RW.out.row (by omega)
  have HM : Hid (32 ≤ m) := hm
  have HGB : Hid (w.heap.size ≤ g) := hgB
  have HRW : Hid (v22.rowIs g 4 m G) := hrow
  have wx := X0.out.c3
  clear hca hrow hG hm hgB LA RW US
  go_wp2_with fail
  clear px tx wx
  go_loopw [8] (fun i wr => ∃ k : Nat, k ≤ 32 ∧ i = .int .i64 ((k : Int) - 1) ∧ (wr).rowIs g 4 m (fun j => if k ≤ j ∧ j < 32 then .bool (shF d f j) else G j) ∧ Box4 wr w.heap.size 52 (.string K) (.int .i64 se) (.int .i64 (t : Int)) (.slice (some ⟨ab, ao, none⟩) 32 c) ∧ Box4 wr b6 52 (.string K) (.int .i64 se) (.int .i64 (t : Int)) (.slice (some ⟨g, 0, none⟩) 32 cap) ∧ Box4 wr (w.heap.size + 2) 52 (.string ⟨#[]⟩) (.int .i64 0) (.int .i64 0) (.slice none 0 0) ∧ Bools wr (some ⟨ab, ao, none⟩) 32 f ∧ BoxP wr (w.heap.size + 1) 57 (.int .i64 (x : Int)) (.string B) (.string PT) ∧ Below w.heap.size w wr) (fun i _ => (intOf i + 1).toNat)
  case atStart => exact ⟨32, by omega, rfl, HRW.out.congr (fun j hj => by rw [if_neg (by omega)]), X0.out, XX.out, Y0.out, HX.out, P0.out, A1.out⟩
  case round =>
    clear HRW X0 XX Y0 HX P0 A1
    obtain ⟨k, hk, hi, hr, hx, hxx, hy, hh, hp, ha⟩ := hrel
    rcases Nat.eq_zero_or_pos k with rfl | hpos
    · rw [show (((0 : Nat) : Int) - 1) = -1 from rfl] at hi
      subst hi
      have RR : Hid (wr.rowIs g 4 m (fun j => if 0 ≤ j ∧ j < 32 then .bool (shF d f j) else G j)) := hr
      have X0 : Hid (Box4 wr w.heap.size 52 (.string K) (.int .i64 se) (.int .i64 (t : Int)) (.slice (some ⟨ab, ao, none⟩) 32 c)) := hx
      have XX : Hid (Box4 wr b6 52 (.string K) (.int .i64 se) (.int .i64 (t : Int)) (.slice (some ⟨g, 0, none⟩) 32 cap)) := hxx
      have Y0 : Hid (Box4 wr (w.heap.size + 2) 52 (.string ⟨#[]⟩) (.int .i64 0) (.int .i64 0) (.slice none 0 0)) := hy
      have P0 : Hid (BoxP wr (w.heap.size + 1) 57 (.int .i64 (x : Int)) (.string B) (.string PT)) := hp
      have A1 : Hid (Below w.heap.size w wr) := ha
      have gc := hr.cell (i := 0) (by have := HM.out; omega)
      have gf := hr.frozen 0
      have ox := hxx.c3
      have of2 := hxx.fr 2
      have oc2 := hxx.c2
      have px := hp.c0
      clear hr hx hxx hy hh hp ha
      have ho : OnlyB g wr (wr.setCell ⟨g, 0, none⟩ (.bool true)) := (OnlyB.refl _ _).setCell 0 _
      have ho2 : OnlyB b6 (wr.setCell ⟨g, 0, none⟩ (.bool true)) ((wr.setCell ⟨g, 0, none⟩ (.bool true)).setCell ⟨b6, 2, none⟩ (.int .i64 (x : Int))) := (OnlyB.refl _ _).setCell 2 _
      have R1 : (wr.setCell ⟨g, 0, none⟩ (.bool true)).rowIs g 4 m (fun j => if j = 0 then .bool true else if 0 ≤ j ∧ j < 32 then .bool (shF d f j) else G j) := (RR.out.set 0 _).congr (fun j hj => by rfl)
      have R2 : Hid (OwnB ((wr.setCell ⟨g, 0, none⟩ (.bool true)).setCell ⟨b6, 2, none⟩ (.int .i64 (x : Int))) w.heap.size (some ⟨g, 0, none⟩) 32 (tkW t x f)) := .inr ⟨g, m, _, HGB.out, rfl, R1.of_block (ho2.block _ R1.lt (by have := LG.out; omega)), HM.out, fun i hi => by
        obtain ⟨q1, q2, q3⟩ := HD.out
        by_cases e : i = 0
        · simp only [if_pos e]; unfold tkW; rw [if_neg (by omega)]; simp [e]
        · simp only [if_neg e]; rw [if_pos ⟨by omega, hi⟩]; unfold tkW shF; rw [if_neg (by omega), ← q1]; simp [e]⟩
      have Y2 : Hid (Box4 ((wr.setCell ⟨g, 0, none⟩ (.bool true)).setCell ⟨b6, 2, none⟩ (.int .i64 (x : Int))) (w.heap.size + 2) 52 (.string ⟨#[]⟩) (.int .i64 0) (.int .i64 0) (.slice none 0 0)) := (Y0.out.onlyB ho (by have := GG.out; omega)).onlyB ho2 (by have := S6.out; omega)
      have X1 := XX.out.onlyB ho (by have := LG.out; omega)
      have oc2' := X1.c2
      have of2' := X1.fr 2
      have px' := (P0.out.onlyB ho (by have := GG.out; omega)).c0
      have X2 : Hid (Box4 ((wr.setCell ⟨g, 0, none⟩ (.bool true)).setCell ⟨b6, 2, none⟩ (.int .i64 (x : Int))) b6 52 (.string K) (.int .i64 se) (.int .i64 (x : Int)) (.slice (some ⟨g, 0, none⟩) 32 cap)) := X1.set2 _
      have A2 : Hid (Below w.heap.size w ((wr.setCell ⟨g, 0, none⟩ (.bool true)).setCell ⟨b6, 2, none⟩ (.int .i64 (x : Int)))) := (A1.out.trans (ho.toBelow (B := w.heap.size) (by have := GG.out; omega) A1.out.size)).trans (ho2.toBelow (B := w.heap.size) (by have := S6.out; omega) (by have := A1.out.size; have := ho.size; omega))
      clear ho ho2 R1 RR X0 XX Y0 P0 A1 X1 HD
      go_upto_region 22 with fail
      generalize ((wr.setCell ⟨g, 0, none⟩ (.bool true)).setCell ⟨b6, 2, none⟩ (.int .i64 (x : Int))) = u9 at *
      clear gc gf ox of2 oc2 px oc2' of2' px'
      have RW := R2
      have Y0 := Y2
      have XX := X2
      have A1 := A2
      clear R2 Y2 X2 A2
      obtain ⟨U5, hU5⟩ : ∃ U5, U5 = ((((u9.setCell ⟨w.heap.size + 2, 0, none⟩ (.string K)).setCell ⟨w.heap.size + 2, 1, none⟩ (.int .i64 se)).setCell ⟨w.heap.size + 2, 2, none⟩ (.int .i64 (x : Int))).setCell ⟨w.heap.size + 2, 3, none⟩ (.slice (some ⟨g, 0, none⟩) 32 cap)) := ⟨_, rfl⟩
      have O2 : OnlyB (w.heap.size + 2) u9 U5 := by rw [hU5]; exact ((((OnlyB.refl _ _).setCell 0 _).setCell 1 _).setCell 2 _).setCell 3 _
      have Y5 : Hid (Box4 U5 (w.heap.size + 2) 52 (.string K) (.int .i64 se) (.int .i64 (x : Int)) (.slice (some ⟨g, 0, none⟩) 32 cap)) := by rw [hU5]; exact (((Y0.out.set0 _).set1 _).set2 _).set3 _
      have B5 : Hid (Below w.heap.size w U5) := A1.out.trans (O2.toBelow (B := w.heap.size) (by omega) A1.out.size)
      have R5 : Hid (OwnB U5 w.heap.size (some ⟨g, 0, none⟩) 32 (tkW t x f)) := RW.out.one O2 (fun p hp => by cases hp; have := GG.out; show g ≠ _; omega)
      have y0 := Y0.out.c0
      have fy0 := Y0.out.fr 0
      have y1 := Y0.out.c1
      have fy1 := Y0.out.fr 1
      have y2 := Y0.out.c2
      have fy2 := Y0.out.fr 2
      have y3 := Y0.out.c3
      have fy3 := Y0.out.fr 3
      have v0' := XX.out.c0
      have v1' := XX.out.c1
      have v2' := XX.out.c2
      have v3' := XX.out.c3
      have HU : Hid (U5 = ((((u9.setCell ⟨w.heap.size + 2, 0, none⟩ (.string K)).setCell ⟨w.heap.size + 2, 1, none⟩ (.int .i64 se)).setCell ⟨w.heap.size + 2, 2, none⟩ (.int .i64 (x : Int))).setCell ⟨w.heap.size + 2, 3, none⟩ (.slice (some ⟨g, 0, none⟩) 32 cap))) := hU5
      clear O2 hU5 Y0 A1
      go_wp2
      rw [← HU.out]
      clear HU y0 fy0 y1 fy1 y2 fy2 y3 fy3 v0' v1' v2' v3'
      have y0 := Y5.out.c0
      have y1 := Y5.out.c1
      have y2 := Y5.out.c2
      have y3 := Y5.out.c3
      exact ret_cell2 (b := w.heap.size + 2) (v := .agg #[.string K, .int .i64 se, .int .i64 (x : Int), .slice (some ⟨g, 0, none⟩) 32 cap]) (x := .int .i64 0) Tryd.results28 rfl rfl (by go_simp) ⟨⟨_, _, rfl, R5.out⟩, B5.out⟩
    · obtain ⟨kk, rfl⟩ : ∃ kk, k = kk + 1 := ⟨k - 1, by omega⟩
      rw [show (((kk + 1 : Nat) : Int) - 1) = (kk : Int) from by omega] at hi
      subst hi
      have k0 : (0 : Int) ≤ (kk : Int) := by omega
      have k1 : (kk : Int) < 32 := by omega
      have H : (Box4 wr w.heap.size 52 (.string K) (.int .i64 se) (.int .i64 (t : Int)) (.slice (some ⟨ab, ao, none⟩) 32 c)) ∧ (Box4 wr b6 52 (.string K) (.int .i64 se) (.int .i64 (t : Int)) (.slice (some ⟨g, 0, none⟩) 32 cap)) ∧ (Bools wr (some ⟨ab, ao, none⟩) 32 f) := ⟨hx, hxx, hh⟩
      have RR : Hid ((wr).rowIs g 4 m (fun j => if kk + 1 ≤ j ∧ j < 32 then .bool (shF d f j) else G j)) := hr
      have Y0 : Hid (Box4 wr (w.heap.size + 2) 52 (.string ⟨#[]⟩) (.int .i64 0) (.int .i64 0) (.slice none 0 0)) := hy
      have P0 : Hid (BoxP wr (w.heap.size + 1) 57 (.int .i64 (x : Int)) (.string B) (.string PT)) := hp
      have A1 : Hid (Below w.heap.size w wr) := ha
      clear hr hx hxx hy hh hp ha hpos
      by_cases hg : d ≤ kk
      · have hgi : (d : Int) ≤ (kk : Int) := by omega
        obtain ⟨e, he⟩ : ∃ e, e = kk - d := ⟨_, rfl⟩
        have ee : (kk : Int) - (d : Int) = (e : Int) := by omega
        have e0 : (0 : Int) ≤ (e : Int) := by omega
        have e1 : (e : Int) < 32 := by omega
        have ew : IntKind.i64.wrap (e : Int) = (e : Int) := by rw [IntKind.wrap_i64]; omega
        have he32 : Hid (e < 32) := by show _ < _; omega
        have HV : Hid (shF d f kk = f e) := by show shF d f kk = _; unfold shF; rw [he]; simp [hg]
        clear he
        go_wp2_with fail
        have hb : Below wr.heap.size wr wr.drew := (Below.refl _ _).drew
        replace H : (Box4 wr.drew w.heap.size 52 (.string K) (.int .i64 se) (.int .i64 (t : Int)) (.slice (some ⟨ab, ao, none⟩) 32 c)) ∧ (Box4 wr.drew b6 52 (.string K) (.int .i64 se) (.int .i64 (t : Int)) (.slice (some ⟨g, 0, none⟩) 32 cap)) ∧ (Bools wr.drew (some ⟨ab, ao, none⟩) 32 f) := ⟨H.1.below hb, H.2.1.below hb, H.2.2.below hb⟩
        replace RR : Hid ((wr.drew).rowIs g 4 m (fun j => if kk + 1 ≤ j ∧ j < 32 then .bool (shF d f j) else G j)) := RR.out.of_block (hb.block _ (World.rowIs.lt RR.out))
        replace Y0 : Hid (Box4 wr.drew (w.heap.size + 2) 52 (.string ⟨#[]⟩) (.int .i64 0) (.int .i64 0) (.slice none 0 0)) := Y0.out.below hb
        replace P0 : Hid (BoxP wr.drew (w.heap.size + 1) 57 (.int .i64 (x : Int)) (.string B) (.string PT)) := P0.out.below hb
        replace A1 : Hid (Below w.heap.size w wr.drew) := A1.out.trans (hb.mono A1.out.size)
        clear hb
        refine wp_region_noPanic ?_
        refine wp_region_held_drew (S := fun w' => (Box4 w' w.heap.size 52 (.string K) (.int .i64 se) (.int .i64 (t : Int)) (.slice (some ⟨ab, ao, none⟩) 32 c)) ∧ (Box4 w' b6 52 (.string K) (.int .i64 se) (.int .i64 (t : Int)) (.slice (some ⟨g, 0, none⟩) 32 cap)) ∧ (Bools w' (some ⟨ab, ao, none⟩) 32 f)) (by kernel_rfl) H (fun _ => ?_)
        generalize wr.drew = v at *
        refine wpAnyH_take (i := 0) (v := .pointer (some ⟨b6, 3, none⟩)) rfl (by kernel_rfl) (by kernel_rfl) (by kernel_rfl) (fun _ _ _ h => h) (Or.inl ⟨by rfl, ?_⟩) H ?_
        · intro w' hSw; go_simp
        change wpAnyH _ _ _ _ _ _ _ { tmps := #[_, _, _, _, _, _, _, _, _, _, _, _, _, _, _, _, _, _, _, _, _, _, _, _, _, _, _, _, _, _, _, _, _, _, _, _, _, _, _, _, _, _, _, _, _, _, _, _, _, _, _, _, _, _, _, _, _, _, _, _, _, _, _, _, _, _, _, _, _, _, _, _, _, _, _, _, _, _, _, _, _, _, _, _, _, _, _, _, _, _, _, _, _, _, _, _, _, _, _, _, _, _, _, _, _], defers := _ } _
        refine wpAnyH_take (i := 1) (v := .slice (some ⟨g, 0, none⟩) 32 cap) rfl (by kernel_rfl) (by kernel_rfl) (by kernel_rfl) (fun _ _ _ h => h) (Or.inl ⟨by rfl, ?_⟩) H ?_
        · intro w' hSw; have t0 := hSw.2.1.c3; clear hSw; go_simp
        change wpAnyH _ _ _ _ _ _ _ { tmps := #[_, _, _, _, _, _, _, _, _, _, _, _, _, _, _, _, _, _, _, _, _, _, _, _, _, _, _, _, _, _, _, _, _, _, _, _, _, _, _, _, _, _, _, _, _, _, _, _, _, _, _, _, _, _, _, _, _, _, _, _, _, _, _, _, _, _, _, _, _, _, _, _, _, _, _, _, _, _, _, _, _, _, _, _, _, _, _, _, _, _, _, _, _, _, _, _, _, _, _, _, _, _, _, _, _], defers := _ } _
        refine wpAnyH_take (i := 2) (v := .int .i64 (kk : Int)) rfl (by kernel_rfl) (by kernel_rfl) (by kernel_rfl) (fun _ _ _ h => h) (Or.inl ⟨by rfl, ?_⟩) H ?_
        · intro w' hSw; go_simp
        change wpAnyH _ _ _ _ _ _ _ { tmps := #[_, _, _, _, _, _, _, _, _, _, _, _, _, _, _, _, _, _, _, _, _, _, _, _, _, _, _, _, _, _, _, _, _, _, _, _, _, _, _, _, _, _, _, _, _, _, _, _, _, _, _, _, _, _, _, _, _, _, _, _, _, _, _, _, _, _, _, _, _, _, _, _, _, _, _, _, _, _, _, _, _, _, _, _, _, _, _, _, _, _, _, _, _, _, _, _, _, _, _, _, _, _, _, _, _], defers := _ } _
        refine wpAnyH_take (i := 3) (v := .int .i64 (kk : Int)) rfl (by kernel_rfl) (by kernel_rfl) (by kernel_rfl) (fun _ _ _ h => h) (Or.inl ⟨by rfl, ?_⟩) H ?_
        · intro w' hSw; go_simp
        change wpAnyH _ _ _ _ _ _ _ { tmps := #[_, _, _, _, _, _, _, _, _, _, _, _, _, _, _, _, _, _, _, _, _, _, _, _, _, _, _, _, _, _, _, _, _, _, _, _, _, _, _, _, _, _, _, _, _, _, _, _, _, _, _, _, _, _, _, _, _, _, _, _, _, _, _, _, _, _, _, _, _, _, _, _, _, _, _, _, _, _, _, _, _, _, _, _, _, _, _, _, _, _, _, _, _, _, _, _, _, _, _, _, _, _, _, _, _], defers := _ } _
        refine wpAnyH_take (i := 4) (v := .int .i64 (d : Int)) rfl (by kernel_rfl) (by kernel_rfl) (by kernel_rfl) (fun _ _ _ h => h) (Or.inl ⟨by rfl, ?_⟩) H ?_
        · intro w' hSw; go_simp
        change wpAnyH _ _ _ _ _ _ _ { tmps := #[_, _, _, _, _, _, _, _, _, _, _, _, _, _, _, _, _, _, _, _, _, _, _, _, _, _, _, _, _, _, _, _, _, _, _, _, _, _, _, _, _, _, _, _, _, _, _, _, _, _, _, _, _, _, _, _, _, _, _, _, _, _, _, _, _, _, _, _, _, _, _, _, _, _, _, _, _, _, _, _, _, _, _, _, _, _, _, _, _, _, _, _, _, _, _, _, _, _, _, _, _, _, _, _, _], defers := _ } _
        refine wpAnyH_take (i := 5) (v := .bool true) rfl (by kernel_rfl) (by kernel_rfl) (by kernel_rfl) (fun _ _ _ h => h) (Or.inl ⟨by rfl, ?_⟩) H ?_
        · intro w' hSw; go_simp
        change wpAnyH _ _ _ _ _ _ _ { tmps := #[_, _, _, _, _, _, _, _, _, _, _, _, _, _, _, _, _, _, _, _, _, _, _, _, _, _, _, _, _, _, _, _, _, _, _, _, _, _, _, _, _, _, _, _, _, _, _, _, _, _, _, _, _, _, _, _, _, _, _, _, _, _, _, _, _, _, _, _, _, _, _, _, _, _, _, _, _, _, _, _, _, _, _, _, _, _, _, _, _, _, _, _, _, _, _, _, _, _, _, _, _, _, _, _, _], defers := _ } _
        refine wpAnyH_take (i := 6) (v := .bool true) rfl (by kernel_rfl) (by kernel_rfl) (by kernel_rfl) (fun _ _ _ h => h) (Or.inl ⟨by rfl, ?_⟩) H ?_
        · intro w' hSw; go_simp
        change wpAnyH _ _ _ _ _ _ _ { tmps := #[_, _, _, _, _, _, _, _, _, _, _, _, _, _, _, _, _, _, _, _, _, _, _, _, _, _, _, _, _, _, _, _, _, _, _, _, _, _, _, _, _, _, _, _, _, _, _, _, _, _, _, _, _, _, _, _, _, _, _, _, _, _, _, _, _, _, _, _, _, _, _, _, _, _, _, _, _, _, _, _, _, _, _, _, _, _, _, _, _, _, _, _, _, _, _, _, _, _, _, _, _, _, _, _, _], defers := _ } _
        refine wpAnyH_take (i := 7) (v := .pointer (some ⟨w.heap.size, 3, none⟩)) rfl (by kernel_rfl) (by kernel_rfl) (by kernel_rfl) (fun _ _ _ h => h) (Or.inl ⟨by rfl, ?_⟩) H ?_
        · intro w' hSw; go_simp
        change wpAnyH _ _ _ _ _ _ _ { tmps := #[_, _, _, _, _, _, _, _, _, _, _, _, _, _, _, _, _, _, _, _, _, _, _, _, _, _, _, _, _, _, _, _, _, _, _, _, _, _, _, _, _, _, _, _, _, _, _, _, _, _, _, _, _, _, _, _, _, _, _, _, _, _, _, _, _, _, _, _, _, _, _, _, _, _, _, _, _, _, _, _, _, _, _, _, _, _, _, _, _, _, _, _, _, _, _, _, _, _, _, _, _, _, _, _, _], defers := _ } _
        refine wpAnyH_take (i := 8) (v := .slice (some ⟨ab, ao, none⟩) 32 c) rfl (by kernel_rfl) (by kernel_rfl) (by kernel_rfl) (fun _ _ _ h => h) (Or.inl ⟨by rfl, ?_⟩) H ?_
        · intro w' hSw; have t0 := hSw.1.c3; clear hSw; go_simp
        change wpAnyH _ _ _ _ _ _ _ { tmps := #[_, _, _, _, _, _, _, _, _, _, _, _, _, _, _, _, _, _, _, _, _, _, _, _, _, _, _, _, _, _, _, _, _, _, _, _, _, _, _, _, _, _, _, _, _, _, _, _, _, _, _, _, _, _, _, _, _, _, _, _, _, _, _, _, _, _, _, _, _, _, _, _, _, _, _, _, _, _, _, _, _, _, _, _, _, _, _, _, _, _, _, _, _, _, _, _, _, _, _, _, _, _, _, _, _], defers := _ } _
        refine wpAnyH_take (i := 9) (v := .int .i64 (kk : Int)) rfl (by kernel_rfl) (by kernel_rfl) (by kernel_rfl) (fun _ _ _ h => h) (Or.inl ⟨by rfl, ?_⟩) H ?_
        · intro w' hSw; go_simp
        change wpAnyH _ _ _ _ _ _ _ { tmps := #[_, _, _, _, _, _, _, _, _, _, _, _, _, _, _, _, _, _, _, _, _, _, _, _, _, _, _, _, _, _, _, _, _, _, _, _, _, _, _, _, _, _, _, _, _, _, _, _, _, _, _, _, _, _, _, _, _, _, _, _, _, _, _, _, _, _, _, _, _, _, _, _, _, _, _, _, _, _, _, _, _, _, _, _, _, _, _, _, _, _, _, _, _, _, _, _, _, _, _, _, _, _, _, _, _], defers := _ } _
        refine wpAnyH_take (i := 10) (v := .int .i64 (d : Int)) rfl (by kernel_rfl) (by kernel_rfl) (by kernel_rfl) (fun _ _ _ h => h) (Or.inl ⟨by rfl, ?_⟩) H ?_
        · intro w' hSw; go_simp
        change wpAnyH _ _ _ _ _ _ _ { tmps := #[_, _, _, _, _, _, _, _, _, _, _, _, _, _, _, _, _, _, _, _, _, _, _, _, _, _, _, _, _, _, _, _, _, _, _, _, _, _, _, _, _, _, _, _, _, _, _, _, _, _, _, _, _, _, _, _, _, _, _, _, _, _, _, _, _, _, _, _, _, _, _, _, _, _, _, _, _, _, _, _, _, _, _, _, _, _, _, _, _, _, _, _, _, _, _, _, _, _, _, _, _, _, _, _, _], defers := _ } _
        refine wpAnyH_take (i := 11) (v := .int .i64 (e : Int)) rfl (by kernel_rfl) (by kernel_rfl) (by kernel_rfl) (fun _ _ _ h => h) (Or.inl ⟨by rfl, ?_⟩) H ?_
        · intro w' hSw; go_simp
        change wpAnyH _ _ _ _ _ _ _ { tmps := #[_, _, _, _, _, _, _, _, _, _, _, _, _, _, _, _, _, _, _, _, _, _, _, _, _, _, _, _, _, _, _, _, _, _, _, _, _, _, _, _, _, _, _, _, _, _, _, _, _, _, _, _, _, _, _, _, _, _, _, _, _, _, _, _, _, _, _, _, _, _, _, _, _, _, _, _, _, _, _, _, _, _, _, _, _, _, _, _, _, _, _, _, _, _, _, _, _, _, _, _, _, _, _, _, _], defers := _ } _
        refine wpAnyH_take (i := 12) (v := .pointer (some ⟨ab, ao + e, none⟩)) rfl (by kernel_rfl) (by kernel_rfl) (by kernel_rfl) (fun _ _ _ h => h) (Or.inl ⟨by rfl, ?_⟩) H ?_
        · intro w' hSw; go_simp
        change wpAnyH _ _ _ _ _ _ _ { tmps := #[_, _, _, _, _, _, _, _, _, _, _, _, _, _, _, _, _, _, _, _, _, _, _, _, _, _, _, _, _, _, _, _, _, _, _, _, _, _, _, _, _, _, _, _, _, _, _, _, _, _, _, _, _, _, _, _, _, _, _, _, _, _, _, _, _, _, _, _, _, _, _, _, _, _, _, _, _, _, _, _, _, _, _, _, _, _, _, _, _, _, _, _, _, _, _, _, _, _, _, _, _, _, _, _, _], defers := _ } _
        refine wpAnyH_take (i := 13) (v := .bool (f e)) rfl (by kernel_rfl) (by kernel_rfl) (by kernel_rfl) (fun _ _ _ h => h) (Or.inl ⟨by rfl, ?_⟩) H ?_
        · intro w' hSw; obtain ⟨b', o', eq', hc'⟩ := hSw.2.2 e he32.out; cases eq'; clear hSw; go_simp
        change wpAnyH _ _ _ _ _ _ _ { tmps := #[_, _, _, _, _, _, _, _, _, _, _, _, _, _, _, _, _, _, _, _, _, _, _, _, _, _, _, _, _, _, _, _, _, _, _, _, _, _, _, _, _, _, _, _, _, _, _, _, _, _, _, _, _, _, _, _, _, _, _, _, _, _, _, _, _, _, _, _, _, _, _, _, _, _, _, _, _, _, _, _, _, _, _, _, _, _, _, _, _, _, _, _, _, _, _, _, _, _, _, _, _, _, _, _, _], defers := _ } _
        refine wpAnyH_take (i := 14) (v := .bool (f e)) rfl (by kernel_rfl) (by kernel_rfl) (by kernel_rfl) (fun _ _ _ h => h) (Or.inl ⟨by rfl, ?_⟩) H ?_
        · intro w' hSw; go_simp
        change wpAnyH _ _ _ _ _ _ _ { tmps := #[_, _, _, _, _, _, _, _, _, _, _, _, _, _, _, _, _, _, _, _, _, _, _, _, _, _, _, _, _, _, _, _, _, _, _, _, _, _, _, _, _, _, _, _, _, _, _, _, _, _, _, _, _, _, _, _, _, _, _, _, _, _, _, _, _, _, _, _, _, _, _, _, _, _, _, _, _, _, _, _, _, _, _, _, _, _, _, _, _, _, _, _, _, _, _, _, _, _, _, _, _, _, _, _, _], defers := _ } _
        refine wpAnyH_take (i := 15) (v := .pointer (some ⟨g, kk, none⟩)) rfl (by kernel_rfl) (by kernel_rfl) (by kernel_rfl) (fun _ _ _ h => h) (Or.inl ⟨by rfl, ?_⟩) H ?_
        · intro w' hSw; go_simp
        change wpAnyH _ _ _ _ _ _ _ { tmps := #[_, _, _, _, _, _, _, _, _, _, _, _, _, _, _, _, _, _, _, _, _, _, _, _, _, _, _, _, _, _, _, _, _, _, _, _, _, _, _, _, _, _, _, _, _, _, _, _, _, _, _, _, _, _, _, _, _, _, _, _, _, _, _, _, _, _, _, _, _, _, _, _, _, _, _, _, _, _, _, _, _, _, _, _, _, _, _, _, _, _, _, _, _, _, _, _, _, _, _, _, _, _, _, _, _], defers := _ } _
        have gc := RR.out.cell (i := kk) (by have := HM.out; omega)
        have gf := RR.out.frozen kk
        refine wpAnyH_ready (rs := [16]) (by kernel_rfl) (by simp) ?_
        refine AllReadyH.cons rfl (fun KK hK => ?_) AllReadyH.nil
        go_simp
        have ho : OnlyB g v (v.setCell ⟨g, kk, none⟩ (.bool (f e))) := (OnlyB.refl _ _).setCell kk _
        replace H : (Box4 (v.setCell ⟨g, kk, none⟩ (.bool (f e))) w.heap.size 52 (.string K) (.int .i64 se) (.int .i64 (t : Int)) (.slice (some ⟨ab, ao, none⟩) 32 c)) ∧ (Box4 (v.setCell ⟨g, kk, none⟩ (.bool (f e))) b6 52 (.string K) (.int .i64 se) (.int .i64 (t : Int)) (.slice (some ⟨g, 0, none⟩) 32 cap)) ∧ (Bools (v.setCell ⟨g, kk, none⟩ (.bool (f e))) (some ⟨ab, ao, none⟩) 32 f) := ⟨H.1.onlyB ho (by have := GG.out; omega), H.2.1.onlyB ho (by have := LG.out; omega), H.2.2.onlyB2 ho NA.out⟩
        have R2 : Hid (((v.setCell ⟨g, kk, none⟩ (.bool (f e)))).rowIs g 4 m (fun j => if kk ≤ j ∧ j < 32 then .bool (shF d f j) else G j)) := (RR.out.set kk _).congr (fun j hj => by
          by_cases e : j = kk
          · subst e; simp only [if_true]; rw [if_pos ⟨Nat.le_refl _, by omega⟩, HV.out]
          · simp only [if_neg e]
            by_cases q : kk + 1 ≤ j ∧ j < 32
            · rw [if_pos q, if_pos ⟨by omega, q.2⟩]
            · rw [if_neg q, if_neg (by omega)])
        have Y2 : Hid (Box4 (v.setCell ⟨g, kk, none⟩ (.bool (f e))) (w.heap.size + 2) 52 (.string ⟨#[]⟩) (.int .i64 0) (.int .i64 0) (.slice none 0 0)) := Y0.out.onlyB ho (by have := GG.out; omega)
        have P2 : Hid (BoxP (v.setCell ⟨g, kk, none⟩ (.bool (f e))) (w.heap.size + 1) 57 (.int .i64 (x : Int)) (.string B) (.string PT)) := P0.out.onlyB ho (by have := GG.out; omega)
        have A2 : Hid (Below w.heap.size w (v.setCell ⟨g, kk, none⟩ (.bool (f e)))) := A1.out.trans (ho.toBelow (B := w.heap.size) (by have := GG.out; omega) A1.out.size)
        refine hK.out _ _ H (fun _ => ?_)
        clear hK KK gc gf ho RR Y0 P0 A1
        generalize (v.setCell ⟨g, kk, none⟩ (.bool (f e))) = v9 at *
        change wpAnyH _ _ _ _ _ _ _ { tmps := #[_, _, _, _, _, _, _, _, _, _, _, _, _, _, _, _, _, _, _, _, _, _, _, _, _, _, _, _, _, _, _, _, _, _, _, _, _, _, _, _, _, _, _, _, _, _, _, _, _, _, _, _, _, _, _, _, _, _, _, _, _, _, _, _, _, _, _, _, _, _, _, _, _, _, _, _, _, _, _, _, _, _, _, _, _, _, _, _, _, _, _, _, _, _, _, _, _, _, _, _, _, _, _, _, _], defers := _ } _
        refine wpAnyH_done (by kernel_rfl) ?_ _
        refine NoPanic.normal ?_
        have HK : Hid (kk ≤ 32) := by show _ ≤ _; omega
        clear HV he32
        go_wp2
        go_roundw
        case rel => exact ⟨kk, HK.out, by go_num, R2.out, H.1, H.2.1, Y2.out, H.2.2, P2.out, A2.out⟩
        case measure => simp [intOf]
      · have hgi : ¬ (d : Int) ≤ (kk : Int) := by omega
        have HV : Hid (shF d f kk = false) := by show shF d f kk = _; unfold shF; simp [hg]
        go_wp2_with fail
        have hb : Below wr.heap.size wr wr.drew := (Below.refl _ _).drew
        replace H : (Box4 wr.drew w.heap.size 52 (.string K) (.int .i64 se) (.int .i64 (t : Int)) (.slice (some ⟨ab, ao, none⟩) 32 c)) ∧ (Box4 wr.drew b6 52 (.string K) (.int .i64 se) (.int .i64 (t : Int)) (.slice (some ⟨g, 0, none⟩) 32 cap)) ∧ (Bools wr.drew (some ⟨ab, ao, none⟩) 32 f) := ⟨H.1.below hb, H.2.1.below hb, H.2.2.below hb⟩
        replace RR : Hid ((wr.drew).rowIs g 4 m (fun j => if kk + 1 ≤ j ∧ j < 32 then .bool (shF d f j) else G j)) := RR.out.of_block (hb.block _ (World.rowIs.lt RR.out))
        replace Y0 : Hid (Box4 wr.drew (w.heap.size + 2) 52 (.string ⟨#[]⟩) (.int .i64 0) (.int .i64 0) (.slice none 0 0)) := Y0.out.below hb
        replace P0 : Hid (BoxP wr.drew (w.heap.size + 1) 57 (.int .i64 (x : Int)) (.string B) (.string PT)) := P0.out.below hb
        replace A1 : Hid (Below w.heap.size w wr.drew) := A1.out.trans (hb.mono A1.out.size)
        clear hb
        refine wp_region_noPanic ?_
        refine wp_region_held_drew (S := fun w' => (Box4 w' w.heap.size 52 (.string K) (.int .i64 se) (.int .i64 (t : Int)) (.slice (some ⟨ab, ao, none⟩) 32 c)) ∧ (Box4 w' b6 52 (.string K) (.int .i64 se) (.int .i64 (t : Int)) (.slice (some ⟨g, 0, none⟩) 32 cap)) ∧ (Bools w' (some ⟨ab, ao, none⟩) 32 f)) (by kernel_rfl) H (fun _ => ?_)
        generalize wr.drew = v at *
        refine wpAnyH_take (i := 0) (v := .pointer (some ⟨b6, 3, none⟩)) rfl (by kernel_rfl) (by kernel_rfl) (by kernel_rfl) (fun _ _ _ h => h) (Or.inl ⟨by rfl, ?_⟩) H ?_
        · intro w' hSw; go_simp
        change wpAnyH _ _ _ _ _ _ _ { tmps := #[_, _, _, _, _, _, _, _, _, _, _, _, _, _, _, _, _, _, _, _, _, _, _, _, _, _, _, _, _, _, _, _, _, _, _, _, _, _, _, _, _, _, _, _, _, _, _, _, _, _, _, _, _, _, _, _, _, _, _, _, _, _, _, _, _, _, _, _, _, _, _, _, _, _, _, _, _, _, _, _, _, _, _, _, _, _, _, _, _, _, _, _, _, _, _, _, _, _, _, _, _, _, _, _, _], defers := _ } _
        refine wpAnyH_take (i := 1) (v := .slice (some ⟨g, 0, none⟩) 32 cap) rfl (by kernel_rfl) (by kernel_rfl) (by kernel_rfl) (fun _ _ _ h => h) (Or.inl ⟨by rfl, ?_⟩) H ?_
        · intro w' hSw; have t0 := hSw.2.1.c3; clear hSw; go_simp
        change wpAnyH _ _ _ _ _ _ _ { tmps := #[_, _, _, _, _, _, _, _, _, _, _, _, _, _, _, _, _, _, _, _, _, _, _, _, _, _, _, _, _, _, _, _, _, _, _, _, _, _, _, _, _, _, _, _, _, _, _, _, _, _, _, _, _, _, _, _, _, _, _, _, _, _, _, _, _, _, _, _, _, _, _, _, _, _, _, _, _, _, _, _, _, _, _, _, _, _, _, _, _, _, _, _, _, _, _, _, _, _, _, _, _, _, _, _, _], defers := _ } _
        refine wpAnyH_take (i := 2) (v := .int .i64 (kk : Int)) rfl (by kernel_rfl) (by kernel_rfl) (by kernel_rfl) (fun _ _ _ h => h) (Or.inl ⟨by rfl, ?_⟩) H ?_
        · intro w' hSw; go_simp
        change wpAnyH _ _ _ _ _ _ _ { tmps := #[_, _, _, _, _, _, _, _, _, _, _, _, _, _, _, _, _, _, _, _, _, _, _, _, _, _, _, _, _, _, _, _, _, _, _, _, _, _, _, _, _, _, _, _, _, _, _, _, _, _, _, _, _, _, _, _, _, _, _, _, _, _, _, _, _, _, _, _, _, _, _, _, _, _, _, _, _, _, _, _, _, _, _, _, _, _, _, _, _, _, _, _, _, _, _, _, _, _, _, _, _, _, _, _, _], defers := _ } _
        refine wpAnyH_take (i := 3) (v := .int .i64 (kk : Int)) rfl (by kernel_rfl) (by kernel_rfl) (by kernel_rfl) (fun _ _ _ h => h) (Or.inl ⟨by rfl, ?_⟩) H ?_
        · intro w' hSw; go_simp
        change wpAnyH _ _ _ _ _ _ _ { tmps := #[_, _, _, _, _, _, _, _, _, _, _, _, _, _, _, _, _, _, _, _, _, _, _, _, _, _, _, _, _, _, _, _, _, _, _, _, _, _, _, _, _, _, _, _, _, _, _, _, _, _, _, _, _, _, _, _, _, _, _, _, _, _, _, _, _, _, _, _, _, _, _, _, _, _, _, _, _, _, _, _, _, _, _, _, _, _, _, _, _, _, _, _, _, _, _, _, _, _, _, _, _, _, _, _, _], defers := _ } _
        refine wpAnyH_take (i := 4) (v := .int .i64 (d : Int)) rfl (by kernel_rfl) (by kernel_rfl) (by kernel_rfl) (fun _ _ _ h => h) (Or.inl ⟨by rfl, ?_⟩) H ?_
        · intro w' hSw; go_simp
        change wpAnyH _ _ _ _ _ _ _ { tmps := #[_, _, _, _, _, _, _, _, _, _, _, _, _, _, _, _, _, _, _, _, _, _, _, _, _, _, _, _, _, _, _, _, _, _, _, _, _, _, _, _, _, _, _, _, _, _, _, _, _, _, _, _, _, _, _, _, _, _, _, _, _, _, _, _, _, _, _, _, _, _, _, _, _, _, _, _, _, _, _, _, _, _, _, _, _, _, _, _, _, _, _, _, _, _, _, _, _, _, _, _, _, _, _, _, _], defers := _ } _
        refine wpAnyH_take (i := 5) (v := .bool false) rfl (by kernel_rfl) (by kernel_rfl) (by kernel_rfl) (fun _ _ _ h => h) (Or.inl ⟨by rfl, ?_⟩) H ?_
        · intro w' hSw; go_simp
        change wpAnyH _ _ _ _ _ _ _ { tmps := #[_, _, _, _, _, _, _, _, _, _, _, _, _, _, _, _, _, _, _, _, _, _, _, _, _, _, _, _, _, _, _, _, _, _, _, _, _, _, _, _, _, _, _, _, _, _, _, _, _, _, _, _, _, _, _, _, _, _, _, _, _, _, _, _, _, _, _, _, _, _, _, _, _, _, _, _, _, _, _, _, _, _, _, _, _, _, _, _, _, _, _, _, _, _, _, _, _, _, _, _, _, _, _, _, _], defers := _ } _
        refine wpAnyH_take (i := 6) (v := .bool false) rfl (by kernel_rfl) (by kernel_rfl) (by kernel_rfl) (fun _ _ _ h => h) (Or.inl ⟨by rfl, ?_⟩) H ?_
        · intro w' hSw; go_simp
        change wpAnyH _ _ _ _ _ _ _ { tmps := #[_, _, _, _, _, _, _, _, _, _, _, _, _, _, _, _, _, _, _, _, _, _, _, _, _, _, _, _, _, _, _, _, _, _, _, _, _, _, _, _, _, _, _, _, _, _, _, _, _, _, _, _, _, _, _, _, _, _, _, _, _, _, _, _, _, _, _, _, _, _, _, _, _, _, _, _, _, _, _, _, _, _, _, _, _, _, _, _, _, _, _, _, _, _, _, _, _, _, _, _, _, _, _, _, _], defers := _ } _
        refine wpAnyH_take (i := 7) (v := undef) rfl (by kernel_rfl) (by kernel_rfl) (by kernel_rfl) (fun _ _ _ h => h) (Or.inr ⟨by rfl, rfl⟩) H ?_
        change wpAnyH _ _ _ _ _ _ _ { tmps := #[_, _, _, _, _, _, _, _, _, _, _, _, _, _, _, _, _, _, _, _, _, _, _, _, _, _, _, _, _, _, _, _, _, _, _, _, _, _, _, _, _, _, _, _, _, _, _, _, _, _, _, _, _, _, _, _, _, _, _, _, _, _, _, _, _, _, _, _, _, _, _, _, _, _, _, _, _, _, _, _, _, _, _, _, _, _, _, _, _, _, _, _, _, _, _, _, _, _, _, _, _, _, _, _, _], defers := _ } _
        refine wpAnyH_take (i := 8) (v := undef) rfl (by kernel_rfl) (by kernel_rfl) (by kernel_rfl) (fun _ _ _ h => h) (Or.inr ⟨by rfl, rfl⟩) H ?_
        change wpAnyH _ _ _ _ _ _ _ { tmps := #[_, _, _, _, _, _, _, _, _, _, _, _, _, _, _, _, _, _, _, _, _, _, _, _, _, _, _, _, _, _, _, _, _, _, _, _, _, _, _, _, _, _, _, _, _, _, _, _, _, _, _, _, _, _, _, _, _, _, _, _, _, _, _, _, _, _, _, _, _, _, _, _, _, _, _, _, _, _, _, _, _, _, _, _, _, _, _, _, _, _, _, _, _, _, _, _, _, _, _, _, _, _, _, _, _], defers := _ } _
        refine wpAnyH_take (i := 9) (v := undef) rfl (by kernel_rfl) (by kernel_rfl) (by kernel_rfl) (fun _ _ _ h => h) (Or.inr ⟨by rfl, rfl⟩) H ?_
        change wpAnyH _ _ _ _ _ _ _ { tmps := #[_, _, _, _, _, _, _, _, _, _, _, _, _, _, _, _, _, _, _, _, _, _, _, _, _, _, _, _, _, _, _, _, _, _, _, _, _, _, _, _, _, _, _, _, _, _, _, _, _, _, _, _, _, _, _, _, _, _, _, _, _, _, _, _, _, _, _, _, _, _, _, _, _, _, _, _, _, _, _, _, _, _, _, _, _, _, _, _, _, _, _, _, _, _, _, _, _, _, _, _, _, _, _, _, _], defers := _ } _
        refine wpAnyH_take (i := 10) (v := undef) rfl (by kernel_rfl) (by kernel_rfl) (by kernel_rfl) (fun _ _ _ h => h) (Or.inr ⟨by rfl, rfl⟩) H ?_
        change wpAnyH _ _ _ _ _ _ _ { tmps := #[_, _, _, _, _, _, _, _, _, _, _, _, _, _, _, _, _, _, _, _, _, _, _, _, _, _, _, _, _, _, _, _, _, _, _, _, _, _, _, _, _, _, _, _, _, _, _, _, _, _, _, _, _, _, _, _, _, _, _, _, _, _, _, _, _, _, _, _, _, _, _, _, _, _, _, _, _, _, _, _, _, _, _, _, _, _, _, _, _, _, _, _, _, _, _, _, _, _, _, _, _, _, _, _, _], defers := _ } _
        refine wpAnyH_take (i := 11) (v := undef) rfl (by kernel_rfl) (by kernel_rfl) (by kernel_rfl) (fun _ _ _ h => h) (Or.inr ⟨by rfl, rfl⟩) H ?_
        change wpAnyH _ _ _ _ _ _ _ { tmps := #[_, _, _, _, _, _, _, _, _, _, _, _, _, _, _, _, _, _, _, _, _, _, _, _, _, _, _, _, _, _, _, _, _, _, _, _, _, _, _, _, _, _, _, _, _, _, _, _, _, _, _, _, _, _, _, _, _, _, _, _, _, _, _, _, _, _, _, _, _, _, _, _, _, _, _, _, _, _, _, _, _, _, _, _, _, _, _, _, _, _, _, _, _, _, _, _, _, _, _, _, _, _, _, _, _], defers := _ } _
        refine wpAnyH_take (i := 12) (v := undef) rfl (by kernel_rfl) (by kernel_rfl) (by kernel_rfl) (fun _ _ _ h => h) (Or.inr ⟨by rfl, rfl⟩) H ?_
        change wpAnyH _ _ _ _ _ _ _ { tmps := #[_, _, _, _, _, _, _, _, _, _, _, _, _, _, _, _, _, _, _, _, _, _, _, _, _, _, _, _, _, _, _, _, _, _, _, _, _, _, _, _, _, _, _, _, _, _, _, _, _, _, _, _, _, _, _, _, _, _, _, _, _, _, _, _, _, _, _, _, _, _, _, _, _, _, _, _, _, _, _, _, _, _, _, _, _, _, _, _, _, _, _, _, _, _, _, _, _, _, _, _, _, _, _, _, _], defers := _ } _
        refine wpAnyH_take (i := 13) (v := undef) rfl (by kernel_rfl) (by kernel_rfl) (by kernel_rfl) (fun _ _ _ h => h) (Or.inr ⟨by rfl, rfl⟩) H ?_
        change wpAnyH _ _ _ _ _ _ _ { tmps := #[_, _, _, _, _, _, _, _, _, _, _, _, _, _, _, _, _, _, _, _, _, _, _, _, _, _, _, _, _, _, _, _, _, _, _, _, _, _, _, _, _, _, _, _, _, _, _, _, _, _, _, _, _, _, _, _, _, _, _, _, _, _, _, _, _, _, _, _, _, _, _, _, _, _, _, _, _, _, _, _, _, _, _, _, _, _, _, _, _, _, _, _, _, _, _, _, _, _, _, _, _, _, _, _, _], defers := _ } _
        refine wpAnyH_take (i := 14) (v := .bool false) rfl (by kernel_rfl) (by kernel_rfl) (by kernel_rfl) (fun _ _ _ h => h) (Or.inl ⟨by rfl, ?_⟩) H ?_
        · intro w' hSw; go_simp
        change wpAnyH _ _ _ _ _ _ _ { tmps := #[_, _, _, _, _, _, _, _, _, _, _, _, _, _, _, _, _, _, _, _, _, _, _, _, _, _, _, _, _, _, _, _, _, _, _, _, _, _, _, _, _, _, _, _, _, _, _, _, _, _, _, _, _, _, _, _, _, _, _, _, _, _, _, _, _, _, _, _, _, _, _, _, _, _, _, _, _, _, _, _, _, _, _, _, _, _, _, _, _, _, _, _, _, _, _, _, _, _, _, _, _, _, _, _, _], defers := _ } _
        refine wpAnyH_take (i := 15) (v := .pointer (some ⟨g, kk, none⟩)) rfl (by kernel_rfl) (by kernel_rfl) (by kernel_rfl) (fun _ _ _ h => h) (Or.inl ⟨by rfl, ?_⟩) H ?_
        · intro w' hSw; go_simp
        change wpAnyH _ _ _ _ _ _ _ { tmps := #[_, _, _, _, _, _, _, _, _, _, _, _, _, _, _, _, _, _, _, _, _, _, _, _, _, _, _, _, _, _, _, _, _, _, _, _, _, _, _, _, _, _, _, _, _, _, _, _, _, _, _, _, _, _, _, _, _, _, _, _, _, _, _, _, _, _, _, _, _, _, _, _, _, _, _, _, _, _, _, _, _, _, _, _, _, _, _, _, _, _, _, _, _, _, _, _, _, _, _, _, _, _, _, _, _], defers := _ } _
        have gc := RR.out.cell (i := kk) (by have := HM.out; omega)
        have gf := RR.out.frozen kk
        refine wpAnyH_ready (rs := [16]) (by kernel_rfl) (by simp) ?_
        refine AllReadyH.cons rfl (fun KK hK => ?_) AllReadyH.nil
        go_simp
        have ho : OnlyB g v (v.setCell ⟨g, kk, none⟩ (.bool false)) := (OnlyB.refl _ _).setCell kk _
        replace H : (Box4 (v.setCell ⟨g, kk, none⟩ (.bool false)) w.heap.size 52 (.string K) (.int .i64 se) (.int .i64 (t : Int)) (.slice (some ⟨ab, ao, none⟩) 32 c)) ∧ (Box4 (v.setCell ⟨g, kk, none⟩ (.bool false)) b6 52 (.string K) (.int .i64 se) (.int .i64 (t : Int)) (.slice (some ⟨g, 0, none⟩) 32 cap)) ∧ (Bools (v.setCell ⟨g, kk, none⟩ (.bool false)) (some ⟨ab, ao, none⟩) 32 f) := ⟨H.1.onlyB ho (by have := GG.out; omega), H.2.1.onlyB ho (by have := LG.out; omega), H.2.2.onlyB2 ho NA.out⟩
        have R2 : Hid (((v.setCell ⟨g, kk, none⟩ (.bool false))).rowIs g 4 m (fun j => if kk ≤ j ∧ j < 32 then .bool (shF d f j) else G j)) := (RR.out.set kk _).congr (fun j hj => by
          by_cases e : j = kk
          · subst e; simp only [if_true]; rw [if_pos ⟨Nat.le_refl _, by omega⟩, HV.out]
          · simp only [if_neg e]
            by_cases q : kk + 1 ≤ j ∧ j < 32
            · rw [if_pos q, if_pos ⟨by omega, q.2⟩]
            · rw [if_neg q, if_neg (by omega)])
        have Y2 : Hid (Box4 (v.setCell ⟨g, kk, none⟩ (.bool false)) (w.heap.size + 2) 52 (.string ⟨#[]⟩) (.int .i64 0) (.int .i64 0) (.slice none 0 0)) := Y0.out.onlyB ho (by have := GG.out; omega)
        have P2 : Hid (BoxP (v.setCell ⟨g, kk, none⟩ (.bool false)) (w.heap.size + 1) 57 (.int .i64 (x : Int)) (.string B) (.string PT)) := P0.out.onlyB ho (by have := GG.out; omega)
        have A2 : Hid (Below w.heap.size w (v.setCell ⟨g, kk, none⟩ (.bool false))) := A1.out.trans (ho.toBelow (B := w.heap.size) (by have := GG.out; omega) A1.out.size)
        refine hK.out _ _ H (fun _ => ?_)
        clear hK KK gc gf ho RR Y0 P0 A1
        generalize (v.setCell ⟨g, kk, none⟩ (.bool false)) = v9 at *
        change wpAnyH _ _ _ _ _ _ _ { tmps := #[_, _, _, _, _, _, _, _, _, _, _, _, _, _, _, _, _, _, _, _, _, _, _, _, _, _, _, _, _, _, _, _, _, _, _, _, _, _, _, _, _, _, _, _, _, _, _, _, _, _, _, _, _, _, _, _, _, _, _, _, _, _, _, _, _, _, _, _, _, _, _, _, _, _, _, _, _, _, _, _, _, _, _, _, _, _, _, _, _, _, _, _, _, _, _, _, _, _, _, _, _, _, _, _, _], defers := _ } _
        refine wpAnyH_done (by kernel_rfl) ?_ _
        refine NoPanic.normal ?_
        have HK : Hid (kk ≤ 32) := by show _ ≤ _; omega
        clear HV
        go_wp2
        go_roundw
        case rel => exact ⟨kk, HK.out, by go_num, R2.out, H.1, H.2.1, Y2.out, H.2.2, P2.out, A2.out⟩
        case measure => simp [intOf]
end Go.Proofs.YtkhglllicblbbaaDoor

/-
  What LinkTake answers: program and model.
-/
namespace Go.Proofs.YtkhglllicblbbaaDoor
open Go.ChangeShapes Go.WideShapes Go.ChangeAt Go.RowKit
set_option linter.unusedVariables false
/-- What LinkTake answers. -/
def TkA (K : ByteArray) (se tp : Int) (n : Nat) (f : Nat → Bool) (q : Int) (B T : ByteArray) (K' : ByteArray) (se' tp' : Int) (n' : Nat) (f' : Nat → Bool) (code : Int) : Prop :=
  (¬ LkOk K se tp n f ∧ K' = ⟨#[]⟩ ∧ se' = 0 ∧ tp' = 0 ∧ n' = 0 ∧ f' = f ∧ code = 1) ∨
  (LkOk K se tp n f ∧ TkC K tp f q B T code ∧ code ≠ 0 ∧ K' = K ∧ se' = se ∧ tp' = tp ∧ n' = 32 ∧ f' = f) ∨
  (LkOk K se tp n f ∧ TkC K tp f q B T code ∧ code = 0 ∧ K' = K ∧ se' = se ∧ tp' = max tp q ∧ n' = 32 ∧ f' = tkW tp.toNat q.toNat f)
theorem tkA_ex (K : ByteArray) (se tp : Int) (n : Nat) (f : Nat → Bool) (q : Int) (B T : ByteArray) : ∃ K' se' tp' n' f' code, TkA K se tp n f q B T K' se' tp' n' f' code := by
  by_cases h2 : LkOk K se tp n f
  · obtain ⟨code, hc⟩ := tkC_ex K tp f q B T
    by_cases h3 : code = 0
    · exact ⟨_, _, _, _, _, _, .inr (.inr ⟨h2, hc, h3, rfl, rfl, rfl, rfl, rfl⟩)⟩
    · exact ⟨_, _, _, _, _, _, .inr (.inl ⟨h2, hc, h3, rfl, rfl, rfl, rfl, rfl⟩)⟩
  · exact ⟨_, _, _, _, _, _, .inl ⟨h2, rfl, rfl, rfl, rfl, rfl, rfl⟩⟩
theorem TkA.le {K : ByteArray} {se tp : Int} {n : Nat} {f : Nat → Bool} {q : Int} {B T K' : ByteArray} {se' tp' : Int} {n' : Nat} {f' : Nat → Bool} {code : Int} (h : TkA K se tp n f q B T K' se' tp' n' f' code) : n' ≤ 32 := by
  rcases h with ⟨_, _, _, _, rfl, _⟩ | ⟨_, _, _, _, _, _, rfl, _⟩ | ⟨_, _, _, _, _, _, rfl, _⟩ <;> omega
/-- A packet that is taken: its number, and where it stands. -/
theorem tkC_zero {K : ByteArray} {tp : Int} {f : Nat → Bool} {q : Int} {B T : ByteArray} (h : TkC K tp f q B T 0) : (1 ≤ q ∧ q ≤ 1000000) ∧ ptag K B q.toNat = T ∧ ¬ q ≤ tp - 32 ∧ ¬ (q ≤ tp ∧ f (tp - q).toNat = true) := by
  rcases h with ⟨_, h⟩ | ⟨_, _, h⟩ | ⟨_, _, _, h⟩ | ⟨_, _, _, _, _, h⟩ | ⟨h1, h2, h3, h4, _⟩
  · omega
  · omega
  · omega
  · omega
  · exact ⟨h1, h2, h3, h4⟩
theorem implTake_any (K : ByteArray) (se tp : Int) (a : Option Addr) (n c : Nat) (f : Nat → Bool) (q : Int) (B T : ByteArray) (K' : ByteArray) (se' tp' : Int) (n' : Nat) (f' : Nat → Bool) (code : Int) (hA : TkA K se tp n f q B T K' se' tp' n' f' code) (hB : B.size ≤ 1048576) (w : World) (hW : Bools w a n f) (ht : Tabs w) :
    Calls Tryd.prog 27 #[.agg #[.string K, .int .i64 se, .int .i64 tp, .slice a n c], .agg #[.int .i64 q, .string B, .string T]] w fun e w' => RetL w w' e K' se' tp' n' f' code ∧ Below w.heap.size w w' := by
  rcases hA with ⟨h2, rfl, rfl, rfl, rfl, rfl, rfl⟩ | ⟨h2, hc, h3, rfl, rfl, rfl, rfl, rfl⟩ | ⟨h2, hc, rfl, rfl, rfl, rfl, rfl, rfl⟩
  · exact implTake_bad _ _ _ _ _ _ _ _ _ _ h2 w hW
  · obtain rfl : n = 32 := h2.2.2.2.1
    exact implTake_code _ _ _ _ _ _ _ _ _ _ h2 hB hc h3 w hW ht
  · obtain rfl : n = 32 := h2.2.2.2.1
    obtain ⟨hq, -, ho, -⟩ := tkC_zero hc
    have h0 := h2.2.2.1
    obtain ⟨t, rfl⟩ : ∃ t : Nat, tp = (t : Int) := ⟨tp.toNat, by omega⟩
    obtain ⟨x, rfl⟩ : ∃ x : Nat, q = (x : Int) := ⟨q.toNat, by omega⟩
    rw [Int.toNat_natCast, Int.toNat_natCast]
    by_cases hl : x ≤ t
    · rw [show max (t : Int) (x : Int) = (t : Int) from by omega]
      exact implTake_A _ _ _ _ t x _ _ _ h2 hB hc hl (by omega) (by omega) w hW ht
    · rw [show max (t : Int) (x : Int) = (x : Int) from by omega]
      exact implTake_B _ _ _ _ t x _ _ _ h2 hB hc (by omega) (by omega) w hW ht
theorem specTake_any (K : ByteArray) (se tp : Int) (a : Option Addr) (n c : Nat) (f : Nat → Bool) (q : Int) (B T : ByteArray) (K' : ByteArray) (se' tp' : Int) (n' : Nat) (f' : Nat → Bool) (code : Int) (hA : TkA K se tp n f q B T K' se' tp' n' f' code) (hB : B.size ≤ 1048576) (w : World) (hW : Bools w a n f) :
    Calls Tryd.prog 28 #[.agg #[.string K, .int .i64 se, .int .i64 tp, .slice a n c], .agg #[.int .i64 q, .string B, .string T]] w fun e w' => RetL w w' e K' se' tp' n' f' code ∧ Below w.heap.size w w' := by
  rcases hA with ⟨h2, rfl, rfl, rfl, rfl, rfl, rfl⟩ | ⟨h2, hc, h3, rfl, rfl, rfl, rfl, rfl⟩ | ⟨h2, hc, rfl, rfl, rfl, rfl, rfl, rfl⟩
  · exact specTake_bad _ _ _ _ _ _ _ _ _ _ h2 w hW
  · obtain rfl : n = 32 := h2.2.2.2.1
    have h0 := h2.2.2.1
    rcases hc with ⟨g1, rfl⟩ | ⟨g1, g2, rfl⟩ | ⟨g1, g2, g3, rfl⟩ | ⟨g1, g2, g3, g4, g5, rfl⟩ | ⟨_, _, _, _, hz⟩
    · exact specTake_range _ _ _ _ _ _ _ _ _ h2 g1 w hW
    · obtain ⟨x, rfl⟩ : ∃ x : Nat, q = (x : Int) := ⟨q.toNat, by omega⟩
      rw [Int.toNat_natCast] at g2
      exact specTake_sealed _ _ _ (ptag _ _ x) _ _ x _ _ _ h2 hB (by omega) rfl g2 w hW
    · obtain ⟨x, rfl⟩ : ∃ x : Nat, q = (x : Int) := ⟨q.toNat, by omega⟩
      obtain ⟨t, rfl⟩ : ∃ t : Nat, tp' = (t : Int) := ⟨tp'.toNat, by omega⟩
      rw [Int.toNat_natCast] at g2
      exact specTake_order _ _ _ _ t x _ _ _ h2 hB (by omega) g2.symm (by omega) w hW
    · obtain ⟨x, rfl⟩ : ∃ x : Nat, q = (x : Int) := ⟨q.toNat, by omega⟩
      obtain ⟨t, rfl⟩ : ∃ t : Nat, tp' = (t : Int) := ⟨tp'.toNat, by omega⟩
      rw [Int.toNat_natCast] at g2
      rw [show ((t : Int) - (x : Int)).toNat = t - x from by omega] at g5
      exact specTake_replay _ _ _ _ t x _ _ _ h2 hB (by omega) g2.symm (by omega) (by omega) g5 w hW
    · exact absurd hz h3
  · obtain rfl : n = 32 := h2.2.2.2.1
    obtain ⟨hq, hg, ho, hf⟩ := tkC_zero hc
    have h0 := h2.2.2.1
    obtain ⟨t, rfl⟩ : ∃ t : Nat, tp = (t : Int) := ⟨tp.toNat, by omega⟩
    obtain ⟨x, rfl⟩ : ∃ x : Nat, q = (x : Int) := ⟨q.toNat, by omega⟩
    rw [Int.toNat_natCast] at hg
    rw [Int.toNat_natCast, Int.toNat_natCast]
    by_cases hl : x ≤ t
    · rw [show max (t : Int) (x : Int) = (t : Int) from by omega]
      have hf2 : f (t - x) = false := by
        have := fun z => hf ⟨by omega, z⟩
        rw [show ((t : Int) - (x : Int)).toNat = t - x from by omega] at this
        simpa using this
      exact specTake_A _ _ _ _ t x _ _ _ h2 hB (by omega) hg.symm (by omega) hl hf2 w hW
    · rw [show max (t : Int) (x : Int) = (x : Int) from by omega]
      exact specTake_B _ _ _ _ t x _ _ _ h2 hB (by omega) hg.symm (by omega) w hW
end Go.Proofs.YtkhglllicblbbaaDoor
