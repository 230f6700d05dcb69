/-
  Links that take: LinkTake of the program.
-/
import Derived.Test.YtkhglllicblbbabDoorLkTk
namespace Go.Proofs.YtkhglllicblbbabDoor
open Go.ChangeShapes Go.WideShapes Go.ChangeAt Go.RowKit
set_option linter.unusedVariables false
/-- The flags behind a packet that was taken. -/
def tkW (t x : Nat) (f : Nat → Bool) (i : Nat) : Bool := if x ≤ t then (decide (i = t - x) || f i) else (decide (i = 0) || (decide (x - t ≤ i) && f (i - (x - t))))
theorem tkA_bit (f : Nat → Bool) (j i : Nat) (hj : j < 32) (hi : i < 32) : (winN f 32 ||| 2 ^ j).testBit i = (decide (i = j) || f i) := by
  rw [Nat.testBit_or, winN_bit, Nat.testBit_two_pow]
  have : decide (j = i) = decide (i = j) := by simp [eq_comm]
  rw [this]
  simp [hi, Bool.or_comm]
theorem tkB_bit (f : Nat → Bool) (d i : Nat) (hd : 0 < d) (hi : i < 32) : ((winN f 32 * 2 ^ min d 32 % 4294967296) ||| 1).testBit i = (decide (i = 0) || (decide (d ≤ i) && f (i - d))) := by
  rw [Nat.testBit_or]
  have e := shl_bit (winN f 32) d i
  rw [show (2 : Nat) ^ 32 = 4294967296 from rfl] at e
  have h0 : Nat.testBit 1 i = decide (i = 0) := by
    have q := Nat.testBit_two_pow (n := 0) (m := i)
    rw [Nat.pow_zero] at q
    rw [q]
    simp [eq_comm]
  rw [e, winN_bit, h0]
  have h1 : decide (i < 32) = true := by simpa using hi
  rw [h1]
  by_cases g : d ≤ i
  · have h2 : decide (i - d < 32) = true := by simp; omega
    rw [h2]; simp [Bool.or_comm]
  · simp [g]
theorem tkA_or (X j : Nat) (hX : X < 2 ^ 32) (hj : j < 32) : bits .or .u32 (X : Int) ((2 : Int) ^ j % 4294967296) = ((X ||| 2 ^ j : Nat) : Int) := by
  have e : ((2 : Int) ^ j) = ((2 ^ j : Nat) : Int) := by simp
  have h1 : 2 ^ j < 2 ^ 32 := Nat.pow_lt_pow_right (by omega) hj
  rw [← or_nat X (2 ^ j) hX h1, e]
  congr 1
  generalize 2 ^ j = y at *
  omega
theorem tkB_or (Y : Nat) (hY : Y < 2 ^ 32) : bits .or .u32 (Y : Int) 1 = ((Y ||| 1 : Nat) : Int) := or_nat Y 1 hY (by decide)
theorem tkB_shl (X d : Nat) : (X : Int) * 2 ^ min d 32 % 4294967296 = ((X * 2 ^ min d 32 % 4294967296 : Nat) : Int) := by simp

set_option maxRecDepth 100000 in
set_option maxHeartbeats 8000000 in
theorem implTake_bad (K B T : ByteArray) (se tp q : Int) (a : Option Addr) (n c : Nat) (f : Nat → Bool) (h2 : ¬ LkOk K se tp n f) (w : World) (hW : Bools w a n f) :
    Calls Tryd.prog 19 #[.agg #[.string K, .int .i64 se, .int .i64 tp, .slice a n c], .agg #[.int .i64 q, .string B, .string T]] w fun e w' => RetL w w' e ⟨#[]⟩ 0 0 0 f 1 ∧ Below w.heap.size w w' := by
  have A0 : Hid (Below w.heap.size w (((w.alloc (.cells #[.string K, .int .i64 se, .int .i64 tp, .slice a n c] 29)).alloc (.cells #[.int .i64 q, .string B, .string T] 31)).alloc (.cells #[.string ⟨#[]⟩, .int .i64 0, .int .i64 0, .slice none 0 0] 29))) := (((Below.refl w.heap.size w).alloc (Nat.le_refl _) _).alloc (by simp) _).alloc (by simp; omega) _
  have X0 : Hid (Box4 (((w.alloc (.cells #[.string K, .int .i64 se, .int .i64 tp, .slice a n c] 29)).alloc (.cells #[.int .i64 q, .string B, .string T] 31)).alloc (.cells #[.string ⟨#[]⟩, .int .i64 0, .int .i64 0, .slice none 0 0] 29)) w.heap.size 29 (.string K) (.int .i64 se) (.int .i64 tp) (.slice a n c)) := ((Box4.madeAt rfl _ _ _ _ _).alloc _).alloc _
  have P0 : Hid (BoxP (((w.alloc (.cells #[.string K, .int .i64 se, .int .i64 tp, .slice a n c] 29)).alloc (.cells #[.int .i64 q, .string B, .string T] 31)).alloc (.cells #[.string ⟨#[]⟩, .int .i64 0, .int .i64 0, .slice none 0 0] 29)) (w.heap.size + 1) 31 (.int .i64 q) (.string B) (.string T)) := (BoxP.madeAt (by simp) _ _ _ _).alloc _
  have Y0 : Hid (Box4 (((w.alloc (.cells #[.string K, .int .i64 se, .int .i64 tp, .slice a n c] 29)).alloc (.cells #[.int .i64 q, .string B, .string T] 31)).alloc (.cells #[.string ⟨#[]⟩, .int .i64 0, .int .i64 0, .slice none 0 0] 29)) (w.heap.size + 2) 29 (.string ⟨#[]⟩) (.int .i64 0) (.int .i64 0) (.slice none 0 0)) := Box4.madeAt (by simp) _ _ _ _ _
  have US : Hid ((((w.alloc (.cells #[.string K, .int .i64 se, .int .i64 tp, .slice a n c] 29)).alloc (.cells #[.int .i64 q, .string B, .string T] 31)).alloc (.cells #[.string ⟨#[]⟩, .int .i64 0, .int .i64 0, .slice none 0 0] 29)).heap.size = w.heap.size + 3) := by show _ = _; simp
  have HX : Hid (Bools (((w.alloc (.cells #[.string K, .int .i64 se, .int .i64 tp, .slice a n c] 29)).alloc (.cells #[.int .i64 q, .string B, .string T] 31)).alloc (.cells #[.string ⟨#[]⟩, .int .i64 0, .int .i64 0, .slice none 0 0] 29)) a n f) := hW.below A0.out
  have LO : Hid (∀ w : World, Bools w a n f → Calls Tryd.prog 28 #[.agg #[.string K, .int .i64 se, .int .i64 tp, .slice a n c]] w fun e w' => e = .returned (.bool false) ∧ Below w.heap.size w w') := fun w h => implLinkOK_any K se tp a n c f false (by simpa using h2) w h
  clear h2 hW
  go_enter Tryd.func19, Tryd.ntmps19
  go_wp2_with fail
  generalize (((w.alloc (.cells #[.string K, .int .i64 se, .int .i64 tp, .slice a n c] 29)).alloc (.cells #[.int .i64 q, .string B, .string T] 31)).alloc (.cells #[.string ⟨#[]⟩, .int .i64 0, .int .i64 0, .slice none 0 0] 29)) = u at *
  refine (LO.out _ HX.out).mono ?_
  rintro e u1 ⟨rfl, hb⟩
  replace US : Hid (w.heap.size + 3 ≤ u.heap.size) := by have := US.out; show _ ≤ _; omega
  replace A0 : Hid (Below w.heap.size w u1) := A0.out.trans (hb.mono A0.out.size)
  replace X0 : Hid (Box4 u1 w.heap.size 29 (.string K) (.int .i64 se) (.int .i64 tp) (.slice a n c)) := X0.out.below hb
  replace P0 : Hid (BoxP u1 (w.heap.size + 1) 31 (.int .i64 q) (.string B) (.string T)) := P0.out.below hb
  replace Y0 : Hid (Box4 u1 (w.heap.size + 2) 29 (.string ⟨#[]⟩) (.int .i64 0) (.int .i64 0) (.slice none 0 0)) := Y0.out.below hb
  replace US : Hid (w.heap.size + 3 ≤ u1.heap.size) := Nat.le_trans US.out hb.size
  replace HX : Hid (Bools u1 a n f) := HX.out.below hb
  clear hb
  clear LO
  obtain ⟨U5, hU5⟩ : ∃ U5, U5 = ((((u1.setCell ⟨w.heap.size + 2, 0, none⟩ (.string ⟨#[]⟩)).setCell ⟨w.heap.size + 2, 1, none⟩ (.int .i64 0)).setCell ⟨w.heap.size + 2, 2, none⟩ (.int .i64 0)).setCell ⟨w.heap.size + 2, 3, none⟩ (.slice none 0 0)) := ⟨_, rfl⟩
  have O2 : OnlyB (w.heap.size + 2) u1 U5 := by rw [hU5]; exact ((((OnlyB.refl _ _).setCell 0 _).setCell 1 _).setCell 2 _).setCell 3 _
  have Y5 : Hid (Box4 U5 (w.heap.size + 2) 29 (.string ⟨#[]⟩) (.int .i64 0) (.int .i64 0) (.slice none 0 0)) := by rw [hU5]; exact (((Y0.out.set0 _).set1 _).set2 _).set3 _
  have B5 : Hid (Below w.heap.size w U5) := A0.out.trans (O2.toBelow (B := w.heap.size) (by omega) A0.out.size)
  have y0 := Y0.out.c0
  have fy0 := Y0.out.fr 0
  have y1 := Y0.out.c1
  have fy1 := Y0.out.fr 1
  have y2 := Y0.out.c2
  have fy2 := Y0.out.fr 2
  have y3 := Y0.out.c3
  have fy3 := Y0.out.fr 3
  have HU : Hid (U5 = ((((u1.setCell ⟨w.heap.size + 2, 0, none⟩ (.string ⟨#[]⟩)).setCell ⟨w.heap.size + 2, 1, none⟩ (.int .i64 0)).setCell ⟨w.heap.size + 2, 2, none⟩ (.int .i64 0)).setCell ⟨w.heap.size + 2, 3, none⟩ (.slice none 0 0))) := hU5
  clear O2 hU5 Y0 A0
  go_wp2
  rw [← HU.out]
  clear HU y0 fy0 y1 fy1 y2 fy2 y3 fy3
  have y0 := Y5.out.c0
  have y1 := Y5.out.c1
  have y2 := Y5.out.c2
  have y3 := Y5.out.c3
  exact ret_cell2 (b := w.heap.size + 2) (v := .agg #[.string ⟨#[]⟩, .int .i64 0, .int .i64 0, .slice none 0 0]) (x := .int .i64 1) Tryd.results19 rfl rfl (by go_simp) ⟨⟨_, _, rfl, .inl rfl⟩, B5.out⟩
set_option maxRecDepth 100000 in
set_option maxHeartbeats 8000000 in
theorem implTake_code (K B T : ByteArray) (se tp q : Int) (a : Option Addr) (c : Nat) (f : Nat → Bool) (code : Int) (h2 : LkOk K se tp 32 f) (hB : B.size ≤ 1048576) (hA : TkC K tp f q B T code) (hc : code ≠ 0) (w : World) (hW : Bools w a 32 f) (ht : Tabs w) :
    Calls Tryd.prog 19 #[.agg #[.string K, .int .i64 se, .int .i64 tp, .slice a 32 c], .agg #[.int .i64 q, .string B, .string T]] w fun e w' => RetL w w' e K se tp 32 f code ∧ Below w.heap.size w w' := by
  have A0 : Hid (Below w.heap.size w (((w.alloc (.cells #[.string K, .int .i64 se, .int .i64 tp, .slice a 32 c] 29)).alloc (.cells #[.int .i64 q, .string B, .string T] 31)).alloc (.cells #[.string ⟨#[]⟩, .int .i64 0, .int .i64 0, .slice none 0 0] 29))) := (((Below.refl w.heap.size w).alloc (Nat.le_refl _) _).alloc (by simp) _).alloc (by simp; omega) _
  have X0 : Hid (Box4 (((w.alloc (.cells #[.string K, .int .i64 se, .int .i64 tp, .slice a 32 c] 29)).alloc (.cells #[.int .i64 q, .string B, .string T] 31)).alloc (.cells #[.string ⟨#[]⟩, .int .i64 0, .int .i64 0, .slice none 0 0] 29)) w.heap.size 29 (.string K) (.int .i64 se) (.int .i64 tp) (.slice a 32 c)) := ((Box4.madeAt rfl _ _ _ _ _).alloc _).alloc _
  have P0 : Hid (BoxP (((w.alloc (.cells #[.string K, .int .i64 se, .int .i64 tp, .slice a 32 c] 29)).alloc (.cells #[.int .i64 q, .string B, .string T] 31)).alloc (.cells #[.string ⟨#[]⟩, .int .i64 0, .int .i64 0, .slice none 0 0] 29)) (w.heap.size + 1) 31 (.int .i64 q) (.string B) (.string T)) := (BoxP.madeAt (by simp) _ _ _ _).alloc _
  have Y0 : Hid (Box4 (((w.alloc (.cells #[.string K, .int .i64 se, .int .i64 tp, .slice a 32 c] 29)).alloc (.cells #[.int .i64 q, .string B, .string T] 31)).alloc (.cells #[.string ⟨#[]⟩, .int .i64 0, .int .i64 0, .slice none 0 0] 29)) (w.heap.size + 2) 29 (.string ⟨#[]⟩) (.int .i64 0) (.int .i64 0) (.slice none 0 0)) := Box4.madeAt (by simp) _ _ _ _ _
  have US : Hid ((((w.alloc (.cells #[.string K, .int .i64 se, .int .i64 tp, .slice a 32 c] 29)).alloc (.cells #[.int .i64 q, .string B, .string T] 31)).alloc (.cells #[.string ⟨#[]⟩, .int .i64 0, .int .i64 0, .slice none 0 0] 29)).heap.size = w.heap.size + 3) := by show _ = _; simp
  have HX : Hid (Bools (((w.alloc (.cells #[.string K, .int .i64 se, .int .i64 tp, .slice a 32 c] 29)).alloc (.cells #[.int .i64 q, .string B, .string T] 31)).alloc (.cells #[.string ⟨#[]⟩, .int .i64 0, .int .i64 0, .slice none 0 0] 29)) a 32 f) := hW.below A0.out
  have LO : Hid (∀ w : World, Bools w a 32 f → Calls Tryd.prog 28 #[.agg #[.string K, .int .i64 se, .int .i64 tp, .slice a 32 c]] w fun e w' => e = .returned (.bool true) ∧ Below w.heap.size w w') := fun w h => implLinkOK_any K se tp a 32 c f true (by simpa using h2) w h
  have WO : Hid (∀ w : World, Bools w a 32 f → Calls Tryd.prog 33 #[.slice a 32 c] w fun e w' => e = .returned (.int .u32 ((winN f 32 : Nat) : Int)) ∧ w = w') := fun w h => windowOf_any a c f w h
  have TF : Hid (∀ w : World, Tabs w → Calls Tryd.prog 34 #[.agg #[.string K, .int .i64 se, .int .i64 tp, .slice a 32 c], .int .u32 ((winN f 32 : Nat) : Int), .agg #[.int .i64 q, .string B, .string T]] w fun e w' => e = .returned (.int .i64 code) ∧ Below w.heap.size w w') := fun w h => takeFault_any K se tp a c f q B T code h2.1 h2.2.2.1 hB hA w h
  have HT : Hid (Tabs w) := ht
  have hXl : winN f 32 < 2 ^ 32 := winN_lt f 32
  have FL : Hid (∀ w : World, Calls Tryd.prog 35 #[.int .u32 ((winN f 32 : Nat) : Int)] w fun e w' => e = .returned (.slice (some ⟨w.heap.size, 0, none⟩) 32 32) ∧ w'.rowIs w.heap.size 4 32 (fun i => .bool (f i)) ∧ Below w.heap.size w w') := fun w => (flags_any (winN f 32) hXl w).mono fun e w' h => ⟨h.1, h.2.1.congr (fun i hi => by rw [winN_bit]; simp [hi]), h.2.2⟩
  have e0 : (code == (0 : Int)) = false := by simpa using hc
  generalize winN f 32 = X at *
  clear hc hXl hA hB h2 ht hW
  go_enter Tryd.func19, Tryd.ntmps19
  go_wp2_with fail
  generalize (((w.alloc (.cells #[.string K, .int .i64 se, .int .i64 tp, .slice a 32 c] 29)).alloc (.cells #[.int .i64 q, .string B, .string T] 31)).alloc (.cells #[.string ⟨#[]⟩, .int .i64 0, .int .i64 0, .slice none 0 0] 29)) = u at *
  refine (LO.out _ HX.out).mono ?_
  rintro e u1 ⟨rfl, hb⟩
  replace US : Hid (w.heap.size + 3 ≤ u.heap.size) := by have := US.out; show _ ≤ _; omega
  replace A0 : Hid (Below w.heap.size w u1) := A0.out.trans (hb.mono A0.out.size)
  replace X0 : Hid (Box4 u1 w.heap.size 29 (.string K) (.int .i64 se) (.int .i64 tp) (.slice a 32 c)) := X0.out.below hb
  replace P0 : Hid (BoxP u1 (w.heap.size + 1) 31 (.int .i64 q) (.string B) (.string T)) := P0.out.below hb
  replace Y0 : Hid (Box4 u1 (w.heap.size + 2) 29 (.string ⟨#[]⟩) (.int .i64 0) (.int .i64 0) (.slice none 0 0)) := Y0.out.below hb
  replace US : Hid (w.heap.size + 3 ≤ u1.heap.size) := Nat.le_trans US.out hb.size
  replace HX : Hid (Bools u1 a 32 f) := HX.out.below hb
  clear hb
  clear LO
  have t0 := X0.out.c0
  have t1 := X0.out.c1
  have t2 := X0.out.c2
  have t3 := X0.out.c3
  have s0 := P0.out.c0
  have s1 := P0.out.c1
  have s2 := P0.out.c2
  go_wp2_with fail
  refine (WO.out _ HX.out).mono ?_
  rintro e z1 ⟨rfl, rfl⟩
  clear WO
  go_wp2_with fail
  refine (TF.out _ (HT.out.below A0.out)).mono ?_
  rintro e u2 ⟨rfl, hb⟩
  clear t0 t1 t2 t3 s0 s1 s2 TF HT
  replace A0 : Hid (Below w.heap.size w u2) := A0.out.trans (hb.mono A0.out.size)
  replace X0 : Hid (Box4 u2 w.heap.size 29 (.string K) (.int .i64 se) (.int .i64 tp) (.slice a 32 c)) := X0.out.below hb
  replace P0 : Hid (BoxP u2 (w.heap.size + 1) 31 (.int .i64 q) (.string B) (.string T)) := P0.out.below hb
  replace Y0 : Hid (Box4 u2 (w.heap.size + 2) 29 (.string ⟨#[]⟩) (.int .i64 0) (.int .i64 0) (.slice none 0 0)) := Y0.out.below hb
  replace US : Hid (w.heap.size + 3 ≤ u2.heap.size) := Nat.le_trans US.out hb.size
  replace HX : Hid (Bools u2 a 32 f) := HX.out.below hb
  clear hb
  have t0 := X0.out.c0
  have ft0 := X0.out.fr 0
  have t1 := X0.out.c1
  have ft1 := X0.out.fr 1
  have t2 := X0.out.c2
  have ft2 := X0.out.fr 2
  have t3 := X0.out.c3
  have ft3 := X0.out.fr 3
  have s0 := P0.out.c0
  have s1 := P0.out.c1
  have s2 := P0.out.c2
  clear HX P0
  go_wp2_with fail
  clear t0 ft0
  clear t1 ft1
  clear t2 ft2
  clear t3 ft3
  clear s0 s1 s2
  refine (FL.out _).mono ?_
  rintro e u4 ⟨rfl, hr, hb⟩
  obtain ⟨g, hg⟩ : ∃ g, g = u2.heap.size := ⟨_, rfl⟩
  rw [← hg] at hr ⊢
  have GG : Hid (w.heap.size + 3 ≤ g) := by rw [hg]; exact US.out
  have X4 := X0.out.below hb
  have Y4 := Y0.out.below hb
  have A4 : Below w.heap.size w u4 := A0.out.trans (hb.mono A0.out.size)
  have W4 : OwnB u4 w.heap.size (some ⟨g, 0, none⟩) 32 f := OwnB.ofRow (by have := GG.out; omega) hr
  have ho : OnlyB w.heap.size u4 (u4.setCell ⟨w.heap.size, 3, none⟩ (.slice (some ⟨g, 0, none⟩) 32 32)) := (OnlyB.refl _ _).setCell 3 _
  have X5 : Hid (Box4 (u4.setCell ⟨w.heap.size, 3, none⟩ (.slice (some ⟨g, 0, none⟩) 32 32)) w.heap.size 29 (.string K) (.int .i64 se) (.int .i64 tp) (.slice (some ⟨g, 0, none⟩) 32 32)) := X4.set3 _
  have Y5' : Hid (Box4 (u4.setCell ⟨w.heap.size, 3, none⟩ (.slice (some ⟨g, 0, none⟩) 32 32)) (w.heap.size + 2) 29 (.string ⟨#[]⟩) (.int .i64 0) (.int .i64 0) (.slice none 0 0)) := Y4.onlyB ho (by omega)
  have A5 : Hid (Below w.heap.size w (u4.setCell ⟨w.heap.size, 3, none⟩ (.slice (some ⟨g, 0, none⟩) 32 32))) := A4.trans (ho.toBelow (B := w.heap.size) (Nat.le_refl _) A4.size)
  have RW : Hid (OwnB (u4.setCell ⟨w.heap.size, 3, none⟩ (.slice (some ⟨g, 0, none⟩) 32 32)) w.heap.size (some ⟨g, 0, none⟩) 32 f) := W4.one ho (fun p hp => by cases hp; have := GG.out; show g ≠ _; omega)
  have t3 := X4.c3
  have ft3 := X4.fr 3
  clear hb hr hg X4 Y4 A4 W4 ho X0 Y0 A0 US FL
  go_upto_region 10 with fail
  generalize (u4.setCell ⟨w.heap.size, 3, none⟩ (.slice (some ⟨g, 0, none⟩) 32 32)) = u5 at *
  clear t3 ft3
  have Y0 := Y5'
  have A0 := A5
  clear Y5' A5
  have t0 := X5.out.c0
  have t1 := X5.out.c1
  have t2 := X5.out.c2
  have t3 := X5.out.c3
  clear X5
  obtain ⟨U5, hU5⟩ : ∃ U5, U5 = ((((u5.setCell ⟨w.heap.size + 2, 0, none⟩ (.string K)).setCell ⟨w.heap.size + 2, 1, none⟩ (.int .i64 se)).setCell ⟨w.heap.size + 2, 2, none⟩ (.int .i64 tp)).setCell ⟨w.heap.size + 2, 3, none⟩ (.slice (some ⟨g, 0, none⟩) 32 32)) := ⟨_, rfl⟩
  have O2 : OnlyB (w.heap.size + 2) u5 U5 := by rw [hU5]; exact ((((OnlyB.refl _ _).setCell 0 _).setCell 1 _).setCell 2 _).setCell 3 _
  have Y5 : Hid (Box4 U5 (w.heap.size + 2) 29 (.string K) (.int .i64 se) (.int .i64 tp) (.slice (some ⟨g, 0, none⟩) 32 32)) := by rw [hU5]; exact (((Y0.out.set0 _).set1 _).set2 _).set3 _
  have B5 : Hid (Below w.heap.size w U5) := A0.out.trans (O2.toBelow (B := w.heap.size) (by omega) A0.out.size)
  have R5 : Hid (OwnB U5 w.heap.size (some ⟨g, 0, none⟩) 32 f) := RW.out.one O2 (fun p hp => by cases hp; have := GG.out; show g ≠ _; omega)
  have y0 := Y0.out.c0
  have fy0 := Y0.out.fr 0
  have y1 := Y0.out.c1
  have fy1 := Y0.out.fr 1
  have y2 := Y0.out.c2
  have fy2 := Y0.out.fr 2
  have y3 := Y0.out.c3
  have fy3 := Y0.out.fr 3
  have HU : Hid (U5 = ((((u5.setCell ⟨w.heap.size + 2, 0, none⟩ (.string K)).setCell ⟨w.heap.size + 2, 1, none⟩ (.int .i64 se)).setCell ⟨w.heap.size + 2, 2, none⟩ (.int .i64 tp)).setCell ⟨w.heap.size + 2, 3, none⟩ (.slice (some ⟨g, 0, none⟩) 32 32))) := hU5
  clear O2 hU5 Y0 A0
  go_wp2
  rw [← HU.out]
  clear HU y0 fy0 y1 fy1 y2 fy2 y3 fy3
  have y0 := Y5.out.c0
  have y1 := Y5.out.c1
  have y2 := Y5.out.c2
  have y3 := Y5.out.c3
  exact ret_cell2 (b := w.heap.size + 2) (v := .agg #[.string K, .int .i64 se, .int .i64 tp, .slice (some ⟨g, 0, none⟩) 32 32]) (x := .int .i64 code) Tryd.results19 rfl rfl (by go_simp) ⟨⟨_, _, rfl, R5.out⟩, B5.out⟩
set_option maxRecDepth 100000 in
set_option maxHeartbeats 8000000 in
theorem implTake_A (K B T : ByteArray) (se : Int) (t x : Nat) (a : Option Addr) (c : Nat) (f : Nat → Bool) (h2 : LkOk K se (t : Int) 32 f) (hB : B.size ≤ 1048576) (hA : TkC K (t : Int) f (x : Int) B T 0) (hq : x ≤ t) (hq2 : t < x + 32) (hq3 : t ≤ 1000000) (w : World) (hW : Bools w a 32 f) (ht : Tabs w) :
    Calls Tryd.prog 19 #[.agg #[.string K, .int .i64 se, .int .i64 (t : Int), .slice a 32 c], .agg #[.int .i64 (x : Int), .string B, .string T]] w fun e w' => RetL w w' e K se (t : Int) 32 (tkW t x f) 0 ∧ Below w.heap.size w w' := by
  have A0 : Hid (Below w.heap.size w (((w.alloc (.cells #[.string K, .int .i64 se, .int .i64 (t : Int), .slice a 32 c] 29)).alloc (.cells #[.int .i64 (x : Int), .string B, .string T] 31)).alloc (.cells #[.string ⟨#[]⟩, .int .i64 0, .int .i64 0, .slice none 0 0] 29))) := (((Below.refl w.heap.size w).alloc (Nat.le_refl _) _).alloc (by simp) _).alloc (by simp; omega) _
  have X0 : Hid (Box4 (((w.alloc (.cells #[.string K, .int .i64 se, .int .i64 (t : Int), .slice a 32 c] 29)).alloc (.cells #[.int .i64 (x : Int), .string B, .string T] 31)).alloc (.cells #[.string ⟨#[]⟩, .int .i64 0, .int .i64 0, .slice none 0 0] 29)) w.heap.size 29 (.string K) (.int .i64 se) (.int .i64 (t : Int)) (.slice a 32 c)) := ((Box4.madeAt rfl _ _ _ _ _).alloc _).alloc _
  have P0 : Hid (BoxP (((w.alloc (.cells #[.string K, .int .i64 se, .int .i64 (t : Int), .slice a 32 c] 29)).alloc (.cells #[.int .i64 (x : Int), .string B, .string T] 31)).alloc (.cells #[.string ⟨#[]⟩, .int .i64 0, .int .i64 0, .slice none 0 0] 29)) (w.heap.size + 1) 31 (.int .i64 (x : Int)) (.string B) (.string T)) := (BoxP.madeAt (by simp) _ _ _ _).alloc _
  have Y0 : Hid (Box4 (((w.alloc (.cells #[.string K, .int .i64 se, .int .i64 (t : Int), .slice a 32 c] 29)).alloc (.cells #[.int .i64 (x : Int), .string B, .string T] 31)).alloc (.cells #[.string ⟨#[]⟩, .int .i64 0, .int .i64 0, .slice none 0 0] 29)) (w.heap.size + 2) 29 (.string ⟨#[]⟩) (.int .i64 0) (.int .i64 0) (.slice none 0 0)) := Box4.madeAt (by simp) _ _ _ _ _
  have US : Hid ((((w.alloc (.cells #[.string K, .int .i64 se, .int .i64 (t : Int), .slice a 32 c] 29)).alloc (.cells #[.int .i64 (x : Int), .string B, .string T] 31)).alloc (.cells #[.string ⟨#[]⟩, .int .i64 0, .int .i64 0, .slice none 0 0] 29)).heap.size = w.heap.size + 3) := by show _ = _; simp
  have HX : Hid (Bools (((w.alloc (.cells #[.string K, .int .i64 se, .int .i64 (t : Int), .slice a 32 c] 29)).alloc (.cells #[.int .i64 (x : Int), .string B, .string T] 31)).alloc (.cells #[.string ⟨#[]⟩, .int .i64 0, .int .i64 0, .slice none 0 0] 29)) a 32 f) := hW.below A0.out
  have LO : Hid (∀ w : World, Bools w a 32 f → Calls Tryd.prog 28 #[.agg #[.string K, .int .i64 se, .int .i64 (t : Int), .slice a 32 c]] w fun e w' => e = .returned (.bool true) ∧ Below w.heap.size w w') := fun w h => implLinkOK_any K se (t : Int) a 32 c f true (by simpa using h2) w h
  have WO : Hid (∀ w : World, Bools w a 32 f → Calls Tryd.prog 33 #[.slice a 32 c] w fun e w' => e = .returned (.int .u32 ((winN f 32 : Nat) : Int)) ∧ w = w') := fun w h => windowOf_any a c f w h
  have TF : Hid (∀ w : World, Tabs w → Calls Tryd.prog 34 #[.agg #[.string K, .int .i64 se, .int .i64 (t : Int), .slice a 32 c], .int .u32 ((winN f 32 : Nat) : Int), .agg #[.int .i64 (x : Int), .string B, .string T]] w fun e w' => e = .returned (.int .i64 0) ∧ Below w.heap.size w w') := fun w h => takeFault_any K se (t : Int) a c f (x : Int) B T 0 h2.1 h2.2.2.1 hB hA w h
  have HT : Hid (Tabs w) := ht
  have hXl : winN f 32 < 2 ^ 32 := winN_lt f 32
  obtain ⟨j, hj⟩ : ∃ j, j = t - x := ⟨_, rfl⟩
  have ej : (t : Int) - (x : Int) = (j : Int) := by omega
  have hj32 : j < 32 := by omega
  have e1 := tkA_or (winN f 32) j hXl hj32
  have hXN : winN f 32 ||| 2 ^ j < 2 ^ 32 := Nat.or_lt_two_pow hXl (Nat.pow_lt_pow_right (by omega) hj32)
  have FL : Hid (∀ w : World, Calls Tryd.prog 35 #[.int .u32 ((winN f 32 ||| 2 ^ j : Nat) : Int)] w fun e w' => e = .returned (.slice (some ⟨w.heap.size, 0, none⟩) 32 32) ∧ w'.rowIs w.heap.size 4 32 (fun i => .bool (tkW t x f i)) ∧ Below w.heap.size w w') := fun w => (flags_any _ hXN w).mono fun e w' h => ⟨h.1, h.2.1.congr (fun i hi => by rw [tkA_bit f j i hj32 hi]; unfold tkW; rw [if_pos hq, hj]), h.2.2⟩
  have e2 : ¬ (0 : Int) < (x : Int) - (t : Int) := by omega
  have e2m : max (0 : Int) ((x : Int) - (t : Int)) = 0 := by omega
  have e3 : ¬ (t : Int) < (x : Int) := by omega
  have e3m : max (t : Int) (x : Int) = (t : Int) := by omega
  have e4 : ((winN f 32 : Nat) : Int) % 4294967296 = ((winN f 32 : Nat) : Int) := by have : winN f 32 < 4294967296 := hXl; omega
  have bt : (t : Int) ≤ 1000000 := by omega
  have bx : (x : Int) ≤ 1000000 := by omega
  have GT : Hid (∃ z : Nat, z = t) := ⟨_, rfl⟩
  generalize hXXN : (winN f 32 ||| 2 ^ j) = XN at *
  generalize winN f 32 = X at *
  clear hXl hA hB h2 ht hW hj hXN hq hq2 hq3 hXXN
  go_enter Tryd.func19, Tryd.ntmps19
  go_wp2_with fail
  generalize (((w.alloc (.cells #[.string K, .int .i64 se, .int .i64 (t : Int), .slice a 32 c] 29)).alloc (.cells #[.int .i64 (x : Int), .string B, .string T] 31)).alloc (.cells #[.string ⟨#[]⟩, .int .i64 0, .int .i64 0, .slice none 0 0] 29)) = u at *
  refine (LO.out _ HX.out).mono ?_
  rintro e u1 ⟨rfl, hb⟩
  replace US : Hid (w.heap.size + 3 ≤ u.heap.size) := by have := US.out; show _ ≤ _; omega
  replace A0 : Hid (Below w.heap.size w u1) := A0.out.trans (hb.mono A0.out.size)
  replace X0 : Hid (Box4 u1 w.heap.size 29 (.string K) (.int .i64 se) (.int .i64 (t : Int)) (.slice a 32 c)) := X0.out.below hb
  replace P0 : Hid (BoxP u1 (w.heap.size + 1) 31 (.int .i64 (x : Int)) (.string B) (.string T)) := P0.out.below hb
  replace Y0 : Hid (Box4 u1 (w.heap.size + 2) 29 (.string ⟨#[]⟩) (.int .i64 0) (.int .i64 0) (.slice none 0 0)) := Y0.out.below hb
  replace US : Hid (w.heap.size + 3 ≤ u1.heap.size) := Nat.le_trans US.out hb.size
  replace HX : Hid (Bools u1 a 32 f) := HX.out.below hb
  clear hb
  clear LO
  have t0 := X0.out.c0
  have t1 := X0.out.c1
  have t2 := X0.out.c2
  have t3 := X0.out.c3
  have s0 := P0.out.c0
  have s1 := P0.out.c1
  have s2 := P0.out.c2
  go_wp2_with fail
  refine (WO.out _ HX.out).mono ?_
  rintro e z1 ⟨rfl, rfl⟩
  clear WO
  go_wp2_with fail
  refine (TF.out _ (HT.out.below A0.out)).mono ?_
  rintro e u2 ⟨rfl, hb⟩
  clear t0 t1 t2 t3 s0 s1 s2 TF HT
  replace A0 : Hid (Below w.heap.size w u2) := A0.out.trans (hb.mono A0.out.size)
  replace X0 : Hid (Box4 u2 w.heap.size 29 (.string K) (.int .i64 se) (.int .i64 (t : Int)) (.slice a 32 c)) := X0.out.below hb
  replace P0 : Hid (BoxP u2 (w.heap.size + 1) 31 (.int .i64 (x : Int)) (.string B) (.string T)) := P0.out.below hb
  replace Y0 : Hid (Box4 u2 (w.heap.size + 2) 29 (.string ⟨#[]⟩) (.int .i64 0) (.int .i64 0) (.slice none 0 0)) := Y0.out.below hb
  replace US : Hid (w.heap.size + 3 ≤ u2.heap.size) := Nat.le_trans US.out hb.size
  replace HX : Hid (Bools u2 a 32 f) := HX.out.below hb
  clear hb
  have t0 := X0.out.c0
  have ft0 := X0.out.fr 0
  have t1 := X0.out.c1
  have ft1 := X0.out.fr 1
  have t2 := X0.out.c2
  have ft2 := X0.out.fr 2
  have t3 := X0.out.c3
  have ft3 := X0.out.fr 3
  have s0 := P0.out.c0
  have s1 := P0.out.c1
  have s2 := P0.out.c2
  have ho : OnlyB w.heap.size u2 (u2.setCell ⟨w.heap.size, 2, none⟩ (.int .i64 (t : Int))) := (OnlyB.refl _ _).setCell 2 _
  have X3 : Hid (Box4 (u2.setCell ⟨w.heap.size, 2, none⟩ (.int .i64 (t : Int))) w.heap.size 29 (.string K) (.int .i64 se) (.int .i64 (t : Int)) (.slice a 32 c)) := X0.out.set2 _
  have P3 : Hid (BoxP (u2.setCell ⟨w.heap.size, 2, none⟩ (.int .i64 (t : Int))) (w.heap.size + 1) 31 (.int .i64 (x : Int)) (.string B) (.string T)) := P0.out.onlyB ho (by omega)
  have Y3 : Hid (Box4 (u2.setCell ⟨w.heap.size, 2, none⟩ (.int .i64 (t : Int))) (w.heap.size + 2) 29 (.string ⟨#[]⟩) (.int .i64 0) (.int .i64 0) (.slice none 0 0)) := Y0.out.onlyB ho (by omega)
  have A3 : Hid (Below w.heap.size w (u2.setCell ⟨w.heap.size, 2, none⟩ (.int .i64 (t : Int)))) := A0.out.trans (ho.toBelow (B := w.heap.size) (Nat.le_refl _) A0.out.size)
  have US3 : Hid (w.heap.size + 3 ≤ (u2.setCell ⟨w.heap.size, 2, none⟩ (.int .i64 (t : Int))).heap.size) := Nat.le_trans US.out ho.size
  have r0 := P3.out.c0
  clear ho X0 P0 Y0 A0 US HX
  go_wp2_with fail
  generalize (u2.setCell ⟨w.heap.size, 2, none⟩ (.int .i64 (t : Int))) = u3 at *
  clear t0 ft0
  clear t1 ft1
  clear t2 ft2
  clear t3 ft3
  clear s0 s1 s2 r0
  have X0 := X3
  have Y0 := Y3
  have A0 := A3
  have US := US3
  clear X3 P3 Y3 A3 US3
  refine (FL.out _).mono ?_
  rintro e u4 ⟨rfl, hr, hb⟩
  obtain ⟨g, hg⟩ : ∃ g, g = u3.heap.size := ⟨_, rfl⟩
  rw [← hg] at hr ⊢
  have GG : Hid (w.heap.size + 3 ≤ g) := by rw [hg]; exact US.out
  have X4 := X0.out.below hb
  have Y4 := Y0.out.below hb
  have A4 : Below w.heap.size w u4 := A0.out.trans (hb.mono A0.out.size)
  have W4 : OwnB u4 w.heap.size (some ⟨g, 0, none⟩) 32 (tkW t x f) := OwnB.ofRow (by have := GG.out; omega) hr
  have ho : OnlyB w.heap.size u4 (u4.setCell ⟨w.heap.size, 3, none⟩ (.slice (some ⟨g, 0, none⟩) 32 32)) := (OnlyB.refl _ _).setCell 3 _
  have X5 : Hid (Box4 (u4.setCell ⟨w.heap.size, 3, none⟩ (.slice (some ⟨g, 0, none⟩) 32 32)) w.heap.size 29 (.string K) (.int .i64 se) (.int .i64 (t : Int)) (.slice (some ⟨g, 0, none⟩) 32 32)) := X4.set3 _
  have Y5' : Hid (Box4 (u4.setCell ⟨w.heap.size, 3, none⟩ (.slice (some ⟨g, 0, none⟩) 32 32)) (w.heap.size + 2) 29 (.string ⟨#[]⟩) (.int .i64 0) (.int .i64 0) (.slice none 0 0)) := Y4.onlyB ho (by omega)
  have A5 : Hid (Below w.heap.size w (u4.setCell ⟨w.heap.size, 3, none⟩ (.slice (some ⟨g, 0, none⟩) 32 32))) := A4.trans (ho.toBelow (B := w.heap.size) (Nat.le_refl _) A4.size)
  have RW : Hid (OwnB (u4.setCell ⟨w.heap.size, 3, none⟩ (.slice (some ⟨g, 0, none⟩) 32 32)) w.heap.size (some ⟨g, 0, none⟩) 32 (tkW t x f)) := W4.one ho (fun p hp => by cases hp; have := GG.out; show g ≠ _; omega)
  have t3 := X4.c3
  have ft3 := X4.fr 3
  clear hb hr hg X4 Y4 A4 W4 ho X0 Y0 A0 US FL
  go_upto_region 10 with fail
  generalize (u4.setCell ⟨w.heap.size, 3, none⟩ (.slice (some ⟨g, 0, none⟩) 32 32)) = u5 at *
  clear t3 ft3
  have Y0 := Y5'
  have A0 := A5
  clear Y5' A5
  have t0 := X5.out.c0
  have t1 := X5.out.c1
  have t2 := X5.out.c2
  have t3 := X5.out.c3
  clear X5
  obtain ⟨U5, hU5⟩ : ∃ U5, U5 = ((((u5.setCell ⟨w.heap.size + 2, 0, none⟩ (.string K)).setCell ⟨w.heap.size + 2, 1, none⟩ (.int .i64 se)).setCell ⟨w.heap.size + 2, 2, none⟩ (.int .i64 (t : Int))).setCell ⟨w.heap.size + 2, 3, none⟩ (.slice (some ⟨g, 0, none⟩) 32 32)) := ⟨_, rfl⟩
  have O2 : OnlyB (w.heap.size + 2) u5 U5 := by rw [hU5]; exact ((((OnlyB.refl _ _).setCell 0 _).setCell 1 _).setCell 2 _).setCell 3 _
  have Y5 : Hid (Box4 U5 (w.heap.size + 2) 29 (.string K) (.int .i64 se) (.int .i64 (t : Int)) (.slice (some ⟨g, 0, none⟩) 32 32)) := by rw [hU5]; exact (((Y0.out.set0 _).set1 _).set2 _).set3 _
  have B5 : Hid (Below w.heap.size w U5) := A0.out.trans (O2.toBelow (B := w.heap.size) (by omega) A0.out.size)
  have R5 : Hid (OwnB U5 w.heap.size (some ⟨g, 0, none⟩) 32 (tkW t x f)) := RW.out.one O2 (fun p hp => by cases hp; have := GG.out; show g ≠ _; omega)
  have y0 := Y0.out.c0
  have fy0 := Y0.out.fr 0
  have y1 := Y0.out.c1
  have fy1 := Y0.out.fr 1
  have y2 := Y0.out.c2
  have fy2 := Y0.out.fr 2
  have y3 := Y0.out.c3
  have fy3 := Y0.out.fr 3
  have HU : Hid (U5 = ((((u5.setCell ⟨w.heap.size + 2, 0, none⟩ (.string K)).setCell ⟨w.heap.size + 2, 1, none⟩ (.int .i64 se)).setCell ⟨w.heap.size + 2, 2, none⟩ (.int .i64 (t : Int))).setCell ⟨w.heap.size + 2, 3, none⟩ (.slice (some ⟨g, 0, none⟩) 32 32))) := hU5
  clear O2 hU5 Y0 A0
  go_wp2
  rw [← HU.out]
  clear HU y0 fy0 y1 fy1 y2 fy2 y3 fy3
  have y0 := Y5.out.c0
  have y1 := Y5.out.c1
  have y2 := Y5.out.c2
  have y3 := Y5.out.c3
  exact ret_cell2 (b := w.heap.size + 2) (v := .agg #[.string K, .int .i64 se, .int .i64 (t : Int), .slice (some ⟨g, 0, none⟩) 32 32]) (x := .int .i64 0) Tryd.results19 rfl rfl (by go_simp) ⟨⟨_, _, rfl, R5.out⟩, B5.out⟩
set_option maxRecDepth 100000 in
set_option maxHeartbeats 8000000 in
theorem implTake_B (K B T : ByteArray) (se : Int) (t x : Nat) (a : Option Addr) (c : Nat) (f : Nat → Bool) (h2 : LkOk K se (t : Int) 32 f) (hB : B.size ≤ 1048576) (hA : TkC K (t : Int) f (x : Int) B T 0) (hq : t < x) (hq2 : x ≤ 1000000) (w : World) (hW : Bools w a 32 f) (ht : Tabs w) :
    Calls Tryd.prog 19 #[.agg #[.string K, .int .i64 se, .int .i64 (t : Int), .slice a 32 c], .agg #[.int .i64 (x : Int), .string B, .string T]] w fun e w' => RetL w w' e K se (x : Int) 32 (tkW t x f) 0 ∧ Below w.heap.size w w' := by
  have A0 : Hid (Below w.heap.size w (((w.alloc (.cells #[.string K, .int .i64 se, .int .i64 (t : Int), .slice a 32 c] 29)).alloc (.cells #[.int .i64 (x : Int), .string B, .string T] 31)).alloc (.cells #[.string ⟨#[]⟩, .int .i64 0, .int .i64 0, .slice none 0 0] 29))) := (((Below.refl w.heap.size w).alloc (Nat.le_refl _) _).alloc (by simp) _).alloc (by simp; omega) _
  have X0 : Hid (Box4 (((w.alloc (.cells #[.string K, .int .i64 se, .int .i64 (t : Int), .slice a 32 c] 29)).alloc (.cells #[.int .i64 (x : Int), .string B, .string T] 31)).alloc (.cells #[.string ⟨#[]⟩, .int .i64 0, .int .i64 0, .slice none 0 0] 29)) w.heap.size 29 (.string K) (.int .i64 se) (.int .i64 (t : Int)) (.slice a 32 c)) := ((Box4.madeAt rfl _ _ _ _ _).alloc _).alloc _
  have P0 : Hid (BoxP (((w.alloc (.cells #[.string K, .int .i64 se, .int .i64 (t : Int), .slice a 32 c] 29)).alloc (.cells #[.int .i64 (x : Int), .string B, .string T] 31)).alloc (.cells #[.string ⟨#[]⟩, .int .i64 0, .int .i64 0, .slice none 0 0] 29)) (w.heap.size + 1) 31 (.int .i64 (x : Int)) (.string B) (.string T)) := (BoxP.madeAt (by simp) _ _ _ _).alloc _
  have Y0 : Hid (Box4 (((w.alloc (.cells #[.string K, .int .i64 se, .int .i64 (t : Int), .slice a 32 c] 29)).alloc (.cells #[.int .i64 (x : Int), .string B, .string T] 31)).alloc (.cells #[.string ⟨#[]⟩, .int .i64 0, .int .i64 0, .slice none 0 0] 29)) (w.heap.size + 2) 29 (.string ⟨#[]⟩) (.int .i64 0) (.int .i64 0) (.slice none 0 0)) := Box4.madeAt (by simp) _ _ _ _ _
  have US : Hid ((((w.alloc (.cells #[.string K, .int .i64 se, .int .i64 (t : Int), .slice a 32 c] 29)).alloc (.cells #[.int .i64 (x : Int), .string B, .string T] 31)).alloc (.cells #[.string ⟨#[]⟩, .int .i64 0, .int .i64 0, .slice none 0 0] 29)).heap.size = w.heap.size + 3) := by show _ = _; simp
  have HX : Hid (Bools (((w.alloc (.cells #[.string K, .int .i64 se, .int .i64 (t : Int), .slice a 32 c] 29)).alloc (.cells #[.int .i64 (x : Int), .string B, .string T] 31)).alloc (.cells #[.string ⟨#[]⟩, .int .i64 0, .int .i64 0, .slice none 0 0] 29)) a 32 f) := hW.below A0.out
  have LO : Hid (∀ w : World, Bools w a 32 f → Calls Tryd.prog 28 #[.agg #[.string K, .int .i64 se, .int .i64 (t : Int), .slice a 32 c]] w fun e w' => e = .returned (.bool true) ∧ Below w.heap.size w w') := fun w h => implLinkOK_any K se (t : Int) a 32 c f true (by simpa using h2) w h
  have WO : Hid (∀ w : World, Bools w a 32 f → Calls Tryd.prog 33 #[.slice a 32 c] w fun e w' => e = .returned (.int .u32 ((winN f 32 : Nat) : Int)) ∧ w = w') := fun w h => windowOf_any a c f w h
  have TF : Hid (∀ w : World, Tabs w → Calls Tryd.prog 34 #[.agg #[.string K, .int .i64 se, .int .i64 (t : Int), .slice a 32 c], .int .u32 ((winN f 32 : Nat) : Int), .agg #[.int .i64 (x : Int), .string B, .string T]] w fun e w' => e = .returned (.int .i64 0) ∧ Below w.heap.size w w') := fun w h => takeFault_any K se (t : Int) a c f (x : Int) B T 0 h2.1 h2.2.2.1 hB hA w h
  have HT : Hid (Tabs w) := ht
  have hXl : winN f 32 < 2 ^ 32 := winN_lt f 32
  obtain ⟨d, hd⟩ : ∃ d, d = x - t := ⟨_, rfl⟩
  have ed : (x : Int) - (t : Int) = (d : Int) := by omega
  have hd0 : 0 < d := by omega
  have e1 := tkB_shl (winN f 32) d
  have hYl : winN f 32 * 2 ^ min d 32 % 4294967296 < 2 ^ 32 := Nat.mod_lt _ (by decide)
  have e2 := tkB_or _ hYl
  have hXN : (winN f 32 * 2 ^ min d 32 % 4294967296) ||| 1 < 2 ^ 32 := Nat.or_lt_two_pow hYl (by decide)
  have FL : Hid (∀ w : World, Calls Tryd.prog 35 #[.int .u32 (((winN f 32 * 2 ^ min d 32 % 4294967296) ||| 1 : Nat) : Int)] w fun e w' => e = .returned (.slice (some ⟨w.heap.size, 0, none⟩) 32 32) ∧ w'.rowIs w.heap.size 4 32 (fun i => .bool (tkW t x f i)) ∧ Below w.heap.size w w') := fun w => (flags_any _ hXN w).mono fun e w' h => ⟨h.1, h.2.1.congr (fun i hi => by rw [tkB_bit f d i hd0 hi]; unfold tkW; rw [if_neg (by omega), hd]), h.2.2⟩
  have e3 : (0 : Int) < (d : Int) := by omega
  have e3m : max (0 : Int) (d : Int) = (d : Int) := by omega
  have e4 : (t : Int) < (x : Int) := by omega
  have e4m : max (t : Int) (x : Int) = (x : Int) := by omega
  have bt : (t : Int) ≤ 1000000 := by omega
  have bx : (x : Int) ≤ 1000000 := by omega
  generalize hXXN : ((winN f 32 * 2 ^ min d 32 % 4294967296) ||| 1) = XN at *
  generalize hYY : winN f 32 * 2 ^ min d 32 % 4294967296 = Y at *
  generalize winN f 32 = X at *
  clear hXl hA hB h2 ht hW hd hXN hq hq2 hXXN hYl hYY hd0
  go_enter Tryd.func19, Tryd.ntmps19
  go_wp2_with fail
  generalize (((w.alloc (.cells #[.string K, .int .i64 se, .int .i64 (t : Int), .slice a 32 c] 29)).alloc (.cells #[.int .i64 (x : Int), .string B, .string T] 31)).alloc (.cells #[.string ⟨#[]⟩, .int .i64 0, .int .i64 0, .slice none 0 0] 29)) = u at *
  refine (LO.out _ HX.out).mono ?_
  rintro e u1 ⟨rfl, hb⟩
  replace US : Hid (w.heap.size + 3 ≤ u.heap.size) := by have := US.out; show _ ≤ _; omega
  replace A0 : Hid (Below w.heap.size w u1) := A0.out.trans (hb.mono A0.out.size)
  replace X0 : Hid (Box4 u1 w.heap.size 29 (.string K) (.int .i64 se) (.int .i64 (t : Int)) (.slice a 32 c)) := X0.out.below hb
  replace P0 : Hid (BoxP u1 (w.heap.size + 1) 31 (.int .i64 (x : Int)) (.string B) (.string T)) := P0.out.below hb
  replace Y0 : Hid (Box4 u1 (w.heap.size + 2) 29 (.string ⟨#[]⟩) (.int .i64 0) (.int .i64 0) (.slice none 0 0)) := Y0.out.below hb
  replace US : Hid (w.heap.size + 3 ≤ u1.heap.size) := Nat.le_trans US.out hb.size
  replace HX : Hid (Bools u1 a 32 f) := HX.out.below hb
  clear hb
  clear LO
  have t0 := X0.out.c0
  have t1 := X0.out.c1
  have t2 := X0.out.c2
  have t3 := X0.out.c3
  have s0 := P0.out.c0
  have s1 := P0.out.c1
  have s2 := P0.out.c2
  go_wp2_with fail
  refine (WO.out _ HX.out).mono ?_
  rintro e z1 ⟨rfl, rfl⟩
  clear WO
  go_wp2_with fail
  refine (TF.out _ (HT.out.below A0.out)).mono ?_
  rintro e u2 ⟨rfl, hb⟩
  clear t0 t1 t2 t3 s0 s1 s2 TF HT
  replace A0 : Hid (Below w.heap.size w u2) := A0.out.trans (hb.mono A0.out.size)
  replace X0 : Hid (Box4 u2 w.heap.size 29 (.string K) (.int .i64 se) (.int .i64 (t : Int)) (.slice a 32 c)) := X0.out.below hb
  replace P0 : Hid (BoxP u2 (w.heap.size + 1) 31 (.int .i64 (x : Int)) (.string B) (.string T)) := P0.out.below hb
  replace Y0 : Hid (Box4 u2 (w.heap.size + 2) 29 (.string ⟨#[]⟩) (.int .i64 0) (.int .i64 0) (.slice none 0 0)) := Y0.out.below hb
  replace US : Hid (w.heap.size + 3 ≤ u2.heap.size) := Nat.le_trans US.out hb.size
  replace HX : Hid (Bools u2 a 32 f) := HX.out.below hb
  clear hb
  have t0 := X0.out.c0
  have ft0 := X0.out.fr 0
  have t1 := X0.out.c1
  have ft1 := X0.out.fr 1
  have t2 := X0.out.c2
  have ft2 := X0.out.fr 2
  have t3 := X0.out.c3
  have ft3 := X0.out.fr 3
  have s0 := P0.out.c0
  have s1 := P0.out.c1
  have s2 := P0.out.c2
  have ho : OnlyB w.heap.size u2 (u2.setCell ⟨w.heap.size, 2, none⟩ (.int .i64 (x : Int))) := (OnlyB.refl _ _).setCell 2 _
  have X3 : Hid (Box4 (u2.setCell ⟨w.heap.size, 2, none⟩ (.int .i64 (x : Int))) w.heap.size 29 (.string K) (.int .i64 se) (.int .i64 (x : Int)) (.slice a 32 c)) := X0.out.set2 _
  have P3 : Hid (BoxP (u2.setCell ⟨w.heap.size, 2, none⟩ (.int .i64 (x : Int))) (w.heap.size + 1) 31 (.int .i64 (x : Int)) (.string B) (.string T)) := P0.out.onlyB ho (by omega)
  have Y3 : Hid (Box4 (u2.setCell ⟨w.heap.size, 2, none⟩ (.int .i64 (x : Int))) (w.heap.size + 2) 29 (.string ⟨#[]⟩) (.int .i64 0) (.int .i64 0) (.slice none 0 0)) := Y0.out.onlyB ho (by omega)
  have A3 : Hid (Below w.heap.size w (u2.setCell ⟨w.heap.size, 2, none⟩ (.int .i64 (x : Int)))) := A0.out.trans (ho.toBelow (B := w.heap.size) (Nat.le_refl _) A0.out.size)
  have US3 : Hid (w.heap.size + 3 ≤ (u2.setCell ⟨w.heap.size, 2, none⟩ (.int .i64 (x : Int))).heap.size) := Nat.le_trans US.out ho.size
  have r0 := P3.out.c0
  clear ho X0 P0 Y0 A0 US HX
  go_wp2_with fail
  generalize (u2.setCell ⟨w.heap.size, 2, none⟩ (.int .i64 (x : Int))) = u3 at *
  clear t0 ft0
  clear t1 ft1
  clear t2 ft2
  clear t3 ft3
  clear s0 s1 s2 r0
  have X0 := X3
  have Y0 := Y3
  have A0 := A3
  have US := US3
  clear X3 P3 Y3 A3 US3
  refine (FL.out _).mono ?_
  rintro e u4 ⟨rfl, hr, hb⟩
  obtain ⟨g, hg⟩ : ∃ g, g = u3.heap.size := ⟨_, rfl⟩
  rw [← hg] at hr ⊢
  have GG : Hid (w.heap.size + 3 ≤ g) := by rw [hg]; exact US.out
  have X4 := X0.out.below hb
  have Y4 := Y0.out.below hb
  have A4 : Below w.heap.size w u4 := A0.out.trans (hb.mono A0.out.size)
  have W4 : OwnB u4 w.heap.size (some ⟨g, 0, none⟩) 32 (tkW t x f) := OwnB.ofRow (by have := GG.out; omega) hr
  have ho : OnlyB w.heap.size u4 (u4.setCell ⟨w.heap.size, 3, none⟩ (.slice (some ⟨g, 0, none⟩) 32 32)) := (OnlyB.refl _ _).setCell 3 _
  have X5 : Hid (Box4 (u4.setCell ⟨w.heap.size, 3, none⟩ (.slice (some ⟨g, 0, none⟩) 32 32)) w.heap.size 29 (.string K) (.int .i64 se) (.int .i64 (x : Int)) (.slice (some ⟨g, 0, none⟩) 32 32)) := X4.set3 _
  have Y5' : Hid (Box4 (u4.setCell ⟨w.heap.size, 3, none⟩ (.slice (some ⟨g, 0, none⟩) 32 32)) (w.heap.size + 2) 29 (.string ⟨#[]⟩) (.int .i64 0) (.int .i64 0) (.slice none 0 0)) := Y4.onlyB ho (by omega)
  have A5 : Hid (Below w.heap.size w (u4.setCell ⟨w.heap.size, 3, none⟩ (.slice (some ⟨g, 0, none⟩) 32 32))) := A4.trans (ho.toBelow (B := w.heap.size) (Nat.le_refl _) A4.size)
  have RW : Hid (OwnB (u4.setCell ⟨w.heap.size, 3, none⟩ (.slice (some ⟨g, 0, none⟩) 32 32)) w.heap.size (some ⟨g, 0, none⟩) 32 (tkW t x f)) := W4.one ho (fun p hp => by cases hp; have := GG.out; show g ≠ _; omega)
  have t3 := X4.c3
  have ft3 := X4.fr 3
  clear hb hr hg X4 Y4 A4 W4 ho X0 Y0 A0 US FL
  go_upto_region 10 with fail
  generalize (u4.setCell ⟨w.heap.size, 3, none⟩ (.slice (some ⟨g, 0, none⟩) 32 32)) = u5 at *
  clear t3 ft3
  have Y0 := Y5'
  have A0 := A5
  clear Y5' A5
  have t0 := X5.out.c0
  have t1 := X5.out.c1
  have t2 := X5.out.c2
  have t3 := X5.out.c3
  clear X5
  obtain ⟨U5, hU5⟩ : ∃ U5, U5 = ((((u5.setCell ⟨w.heap.size + 2, 0, none⟩ (.string K)).setCell ⟨w.heap.size + 2, 1, none⟩ (.int .i64 se)).setCell ⟨w.heap.size + 2, 2, none⟩ (.int .i64 (x : Int))).setCell ⟨w.heap.size + 2, 3, none⟩ (.slice (some ⟨g, 0, none⟩) 32 32)) := ⟨_, rfl⟩
  have O2 : OnlyB (w.heap.size + 2) u5 U5 := by rw [hU5]; exact ((((OnlyB.refl _ _).setCell 0 _).setCell 1 _).setCell 2 _).setCell 3 _
  have Y5 : Hid (Box4 U5 (w.heap.size + 2) 29 (.string K) (.int .i64 se) (.int .i64 (x : Int)) (.slice (some ⟨g, 0, none⟩) 32 32)) := by rw [hU5]; exact (((Y0.out.set0 _).set1 _).set2 _).set3 _
  have B5 : Hid (Below w.heap.size w U5) := A0.out.trans (O2.toBelow (B := w.heap.size) (by omega) A0.out.size)
  have R5 : Hid (OwnB U5 w.heap.size (some ⟨g, 0, none⟩) 32 (tkW t x f)) := RW.out.one O2 (fun p hp => by cases hp; have := GG.out; show g ≠ _; omega)
  have y0 := Y0.out.c0
  have fy0 := Y0.out.fr 0
  have y1 := Y0.out.c1
  have fy1 := Y0.out.fr 1
  have y2 := Y0.out.c2
  have fy2 := Y0.out.fr 2
  have y3 := Y0.out.c3
  have fy3 := Y0.out.fr 3
  have HU : Hid (U5 = ((((u5.setCell ⟨w.heap.size + 2, 0, none⟩ (.string K)).setCell ⟨w.heap.size + 2, 1, none⟩ (.int .i64 se)).setCell ⟨w.heap.size + 2, 2, none⟩ (.int .i64 (x : Int))).setCell ⟨w.heap.size + 2, 3, none⟩ (.slice (some ⟨g, 0, none⟩) 32 32))) := hU5
  clear O2 hU5 Y0 A0
  go_wp2
  rw [← HU.out]
  clear HU y0 fy0 y1 fy1 y2 fy2 y3 fy3
  have y0 := Y5.out.c0
  have y1 := Y5.out.c1
  have y2 := Y5.out.c2
  have y3 := Y5.out.c3
  exact ret_cell2 (b := w.heap.size + 2) (v := .agg #[.string K, .int .i64 se, .int .i64 (x : Int), .slice (some ⟨g, 0, none⟩) 32 32]) (x := .int .i64 0) Tryd.results19 rfl rfl (by go_simp) ⟨⟨_, _, rfl, R5.out⟩, B5.out⟩
end Go.Proofs.YtkhglllicblbbabDoor
