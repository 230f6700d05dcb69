/-
  Links that send: LinkSend of the program and of the model.
-/
import Derived.Test.YtkhglllicblbbaaDoorLkSd
namespace Go.Proofs.YtkhglllicblbbaaDoor
open Go.ChangeShapes Go.WideShapes Go.ChangeAt Go.RowKit
set_option linter.unusedVariables false
theorem Box4.there {w : World} {b : Nat} {t : TypeId} {x y z m : Value} (h : Box4 w b t x y z m) : w.there b 0 4 := fun j hj => by
  rw [Nat.zero_add]
  exact ⟨by rw [World.rowIs.cell h hj]; rfl, h.fr j⟩
theorem BoxP.there {w : World} {b : Nat} {t : TypeId} {x y z : Value} (h : BoxP w b t x y z) : w.there b 0 3 := fun j hj => by
  rw [Nat.zero_add]
  exact ⟨by rw [World.rowIs.cell h hj]; rfl, h.fr j⟩
theorem Box4.stored {w : World} {b : Nat} {t : TypeId} {x y z m : Value} (h : Box4 w b t x y z m) (v0 v1 v2 v3 : Value) : Box4 (w.setCells b 0 [v0, v1, v2, v3]) b t v0 v1 v2 v3 := (((h.set0 v0).set1 v1).set2 v2).set3 v3
theorem BoxP.stored {w : World} {b : Nat} {t : TypeId} {x y z : Value} (h : BoxP w b t x y z) (v0 v1 v2 : Value) : BoxP (w.setCells b 0 [v0, v1, v2]) b t v0 v1 v2 := ((h.set0 v0).set1 v1).set2 v2
theorem OnlyB.stored4L (w : World) (b : Nat) (v0 v1 v2 v3 : Value) : OnlyB b w (w.setCells b 0 [v0, v1, v2, v3]) := ((((OnlyB.refl b w).setCell 0 v0).setCell 1 v1).setCell 2 v2).setCell 3 v3
theorem OnlyB.stored3L (w : World) (b : Nat) (v0 v1 v2 : Value) : OnlyB b w (w.setCells b 0 [v0, v1, v2]) := (((OnlyB.refl b w).setCell 0 v0).setCell 1 v1).setCell 2 v2
theorem one4L (K : ByteArray) (x y : Int) (a : Option Addr) (n c : Nat) : (#[Value.string K, .int .i64 x, .int .i64 y, .slice a n c].all (·.oneCell')) = true := by simp [Value.oneCell']
theorem one3L (x : Int) (s t : ByteArray) : (#[Value.int .i64 x, .string s, .string t].all (·.oneCell')) = true := by simp [Value.oneCell']
theorem Tryd.sizeLk : (Tryd.prog.info? 52).map (·.size) = some 4 := by kernel_rfl
theorem Tryd.sizePk : (Tryd.prog.info? 57).map (·.size) = some 3 := by kernel_rfl
/-- A link, a packet and a code are handed back. -/
def RetS (w w' : World) (e : Ending) (K : ByteArray) (se tp : Int) (n : Nat) (f : Nat → Bool) (q : Int) (B T : ByteArray) (code : Int) : Prop := ∃ a c, e = .returned (.tuple #[.agg #[.string K, .int .i64 se, .int .i64 tp, .slice a n c], .agg #[.int .i64 q, .string B, .string T], .int .i64 code]) ∧ OwnB w' w.heap.size a n f
/-- What LinkSend answers. -/
def SdA (K body : ByteArray) (se tp : Int) (n : Nat) (f : Nat → Bool) (K' : ByteArray) (se' tp' : Int) (n' : Nat) (f' : Nat → Bool) (q : Int) (B T : ByteArray) (code : Int) : Prop :=
  (65536 < body.size ∧ K' = ⟨#[]⟩ ∧ se' = 0 ∧ tp' = 0 ∧ n' = 0 ∧ q = 0 ∧ B = ⟨#[]⟩ ∧ T = ⟨#[]⟩ ∧ code = 2) ∨
  (body.size ≤ 65536 ∧ ¬ LkOk K se tp n f ∧ K' = ⟨#[]⟩ ∧ se' = 0 ∧ tp' = 0 ∧ n' = 0 ∧ q = 0 ∧ B = ⟨#[]⟩ ∧ T = ⟨#[]⟩ ∧ code = 1) ∨
  (body.size ≤ 65536 ∧ LkOk K se tp n f ∧ se = 1000000 ∧ K' = K ∧ se' = se ∧ tp' = tp ∧ n' = 32 ∧ f' = f ∧ q = 0 ∧ B = ⟨#[]⟩ ∧ T = ⟨#[]⟩ ∧ code = 19) ∨
  (body.size ≤ 65536 ∧ LkOk K se tp n f ∧ se ≠ 1000000 ∧ K' = K ∧ se' = se + 1 ∧ tp' = tp ∧ n' = 32 ∧ f' = f ∧ q = se + 1 ∧ B = body ∧ T = ptag K body (se + 1).toNat ∧ code = 0)
theorem sdA_ex (K body : ByteArray) (se tp : Int) (n : Nat) (f : Nat → Bool) : ∃ K' se' tp' n' f' q B T code, SdA K body se tp n f K' se' tp' n' f' q B T code := by
  by_cases h1 : 65536 < body.size
  · exact ⟨_, _, _, _, f, _, _, _, _, .inl ⟨h1, rfl, rfl, rfl, rfl, rfl, rfl, rfl, rfl⟩⟩
  · by_cases h2 : LkOk K se tp n f
    · by_cases h3 : se = 1000000
      · exact ⟨_, _, _, _, _, _, _, _, _, .inr (.inr (.inl ⟨by omega, h2, h3, rfl, rfl, rfl, rfl, rfl, rfl, rfl, rfl, rfl⟩))⟩
      · exact ⟨_, _, _, _, _, _, _, _, _, .inr (.inr (.inr ⟨by omega, h2, h3, rfl, rfl, rfl, rfl, rfl, rfl, rfl, rfl, rfl⟩))⟩
    · exact ⟨_, _, _, _, f, _, _, _, _, .inr (.inl ⟨by omega, h2, rfl, rfl, rfl, rfl, rfl, rfl, rfl, rfl⟩)⟩
theorem SdA.le {K body : ByteArray} {se tp : Int} {n : Nat} {f : Nat → Bool} {K' : ByteArray} {se' tp' : Int} {n' : Nat} {f' : Nat → Bool} {q : Int} {B T : ByteArray} {code : Int} (h : SdA K body se tp n f K' se' tp' n' f' q B T code) : n' ≤ 32 := by
  rcases h with ⟨_, _, _, _, rfl, _⟩ | ⟨_, _, _, _, _, rfl, _⟩ | ⟨_, _, _, _, _, _, rfl, _⟩ | ⟨_, _, _, _, _, _, rfl, _⟩ <;> omega

set_option maxRecDepth 100000 in
set_option maxHeartbeats 8000000 in
theorem implSend_spent (K body : ByteArray) (tp : Int) (a : Option Addr) (c : Nat) (f : Nat → Bool) (h1 : body.size ≤ 65536) (h2 : LkOk K 1000000 tp 32 f) (w : World) (hB : Bools w a 32 f) (ht : Tabs w) :
    Calls Tryd.prog 24 #[.agg #[.string K, .int .i64 1000000, .int .i64 tp, .slice a 32 c], .string body] w fun e w' => RetS w w' e K 1000000 tp 32 f 0 ⟨#[]⟩ ⟨#[]⟩ 19 ∧ Below w.heap.size w w' := by
  have e1 : ¬ (65536 : Int) < (body.size : Int) := by omega
  have A0 : Hid (Below w.heap.size w (((w.alloc (.cells #[.string K, .int .i64 1000000, .int .i64 tp, .slice a 32 c] 52)).alloc (.cells #[.string ⟨#[]⟩, .int .i64 0, .int .i64 0, .slice none 0 0] 52)).alloc (.cells #[.int .i64 0, .string ⟨#[]⟩, .string ⟨#[]⟩] 57))) := (((Below.refl w.heap.size w).alloc (Nat.le_refl _) _).alloc (by simp) _).alloc (by simp; omega) _
  have X0 : Hid (Box4 (((w.alloc (.cells #[.string K, .int .i64 1000000, .int .i64 tp, .slice a 32 c] 52)).alloc (.cells #[.string ⟨#[]⟩, .int .i64 0, .int .i64 0, .slice none 0 0] 52)).alloc (.cells #[.int .i64 0, .string ⟨#[]⟩, .string ⟨#[]⟩] 57)) w.heap.size 52 (.string K) (.int .i64 1000000) (.int .i64 tp) (.slice a 32 c)) := ((Box4.madeAt rfl _ _ _ _ _).alloc _).alloc _
  have Y0 : Hid (Box4 (((w.alloc (.cells #[.string K, .int .i64 1000000, .int .i64 tp, .slice a 32 c] 52)).alloc (.cells #[.string ⟨#[]⟩, .int .i64 0, .int .i64 0, .slice none 0 0] 52)).alloc (.cells #[.int .i64 0, .string ⟨#[]⟩, .string ⟨#[]⟩] 57)) (w.heap.size + 1) 52 (.string ⟨#[]⟩) (.int .i64 0) (.int .i64 0) (.slice none 0 0)) := (Box4.madeAt (by simp) _ _ _ _ _).alloc _
  have P0 : Hid (BoxP (((w.alloc (.cells #[.string K, .int .i64 1000000, .int .i64 tp, .slice a 32 c] 52)).alloc (.cells #[.string ⟨#[]⟩, .int .i64 0, .int .i64 0, .slice none 0 0] 52)).alloc (.cells #[.int .i64 0, .string ⟨#[]⟩, .string ⟨#[]⟩] 57)) (w.heap.size + 2) 57 (.int .i64 0) (.string ⟨#[]⟩) (.string ⟨#[]⟩)) := BoxP.madeAt (by simp) _ _ _ _
  have US : Hid ((((w.alloc (.cells #[.string K, .int .i64 1000000, .int .i64 tp, .slice a 32 c] 52)).alloc (.cells #[.string ⟨#[]⟩, .int .i64 0, .int .i64 0, .slice none 0 0] 52)).alloc (.cells #[.int .i64 0, .string ⟨#[]⟩, .string ⟨#[]⟩] 57)).heap.size = w.heap.size + 3) := by show _ = _; simp
  have LO : Hid (∀ w : World, Bools w a 32 f → Calls Tryd.prog 30 #[.agg #[.string K, .int .i64 1000000, .int .i64 tp, .slice a 32 c]] w fun e w' => e = .returned (.bool true) ∧ Below w.heap.size w w') := fun w h => implLinkOK_any K 1000000 tp a 32 c f true (by simpa using h2) w h
  skip
  clear h1 h2 ht
  have HX : Hid (Bools (((w.alloc (.cells #[.string K, .int .i64 1000000, .int .i64 tp, .slice a 32 c] 52)).alloc (.cells #[.string ⟨#[]⟩, .int .i64 0, .int .i64 0, .slice none 0 0] 52)).alloc (.cells #[.int .i64 0, .string ⟨#[]⟩, .string ⟨#[]⟩] 57)) a 32 f) := hB.below A0.out
  clear hB
  go_enter Tryd.func24, Tryd.ntmps24
  go_wp2_with fail
  generalize (((w.alloc (.cells #[.string K, .int .i64 1000000, .int .i64 tp, .slice a 32 c] 52)).alloc (.cells #[.string ⟨#[]⟩, .int .i64 0, .int .i64 0, .slice none 0 0] 52)).alloc (.cells #[.int .i64 0, .string ⟨#[]⟩, .string ⟨#[]⟩] 57)) = u at *
  refine (LO.out _ HX.out).mono ?_
  rintro e u1 ⟨rfl, hb⟩
  have A1 : Hid (Below w.heap.size w u1) := A0.out.trans (hb.mono A0.out.size)
  have X1 : Hid (Box4 u1 w.heap.size 52 (.string K) (.int .i64 1000000) (.int .i64 tp) (.slice a 32 c)) := X0.out.below hb
  have Y1 : Hid (Box4 u1 (w.heap.size + 1) 52 (.string ⟨#[]⟩) (.int .i64 0) (.int .i64 0) (.slice none 0 0)) := Y0.out.below hb
  have P1 : Hid (BoxP u1 (w.heap.size + 2) 57 (.int .i64 0) (.string ⟨#[]⟩) (.string ⟨#[]⟩)) := P0.out.below hb
  have HB1 : Hid (Bools u1 a 32 f) := HX.out.below hb
  have S1 : Hid (w.heap.size + 3 ≤ u1.heap.size) := by have := US.out; have := hb.size; show _ ≤ _; omega
  clear hb A0 X0 Y0 P0 US HX LO
  have t0 := X1.out.c0
  have t1 := X1.out.c1
  have t2 := X1.out.c2
  have t3 := X1.out.c3
  have ft := X1.out.fr 3
  go_wp2_with fail
  refine (cloneB_any a c f u1 HB1.out).mono ?_
  rintro e u2 ⟨⟨g, cap, rfl, og⟩, hb⟩
  clear t0 t1 t2 t3 ft
  have GG : Hid (w.heap.size + 3 ≤ g) := by have h1 := og.ge (by omega) _ rfl; have h2 := S1.out; exact Nat.le_trans h2 h1
  have O2 : OwnB u2 w.heap.size (some ⟨g, 0, none⟩) 32 f := og.mono (by have := S1.out; omega)
  have A2 : Hid (Below w.heap.size w u2) := A1.out.trans (hb.mono A1.out.size)
  have X2 := X1.out.below hb
  have Y2 := Y1.out.below hb
  have P2 := P1.out.below hb
  have S2 : Hid (w.heap.size + 3 ≤ u2.heap.size) := Nat.le_trans S1.out hb.size
  clear og hb A1 X1 Y1 P1 HB1 S1
  obtain ⟨u3, hu3⟩ : ∃ u3, u3 = (u2.setCell ⟨w.heap.size, 3, none⟩ (.slice (some ⟨g, 0, none⟩) 32 cap)) := ⟨_, rfl⟩
  have OO3 : OnlyB w.heap.size u2 u3 := by rw [hu3]; exact (OnlyB.refl _ _).setCell 3 _
  have XX : Hid (Box4 u3 w.heap.size 52 (.string K) (.int .i64 1000000) (.int .i64 tp) (.slice (some ⟨g, 0, none⟩) 32 cap)) := by rw [hu3]; exact X2.set3 _
  have YY : Hid (Box4 u3 (w.heap.size + 1) 52 (.string ⟨#[]⟩) (.int .i64 0) (.int .i64 0) (.slice none 0 0)) := Y2.onlyB OO3 (by omega)
  have PP : Hid (BoxP u3 (w.heap.size + 2) 57 (.int .i64 0) (.string ⟨#[]⟩) (.string ⟨#[]⟩)) := P2.onlyB OO3 (by omega)
  have AA : Hid (Below w.heap.size w u3) := A2.out.trans (OO3.toBelow (B := w.heap.size) (Nat.le_refl _) A2.out.size)
  have OO : Hid (OwnB u3 w.heap.size (some ⟨g, 0, none⟩) 32 f) := O2.one OO3 (fun p hp => by cases hp; have := GG.out; show g ≠ _; omega)
  have t0 := X2.c0
  have ft0 := X2.fr 0
  have t1 := X2.c1
  have ft1 := X2.fr 1
  have t2 := X2.c2
  have ft2 := X2.fr 2
  have t3 := X2.c3
  have ft3 := X2.fr 3
  have HU3 : Hid (u3 = (u2.setCell ⟨w.heap.size, 3, none⟩ (.slice (some ⟨g, 0, none⟩) 32 cap))) := hu3
  clear OO3 X2 Y2 P2 A2 O2 S2 hu3
  go_upto_region 7 with fail
  rw [← HU3.out]
  clear t0 ft0
  clear t1 ft1
  clear t2 ft2
  clear t3 ft3
  have t0 := XX.out.c0
  have t1 := XX.out.c1
  have t2 := XX.out.c2
  have t3 := XX.out.c3
  clear HU3
  obtain ⟨U5, hU5⟩ : ∃ U5, U5 = ((((u3.setCell ⟨w.heap.size + 1, 0, none⟩ (.string K)).setCell ⟨w.heap.size + 1, 1, none⟩ (.int .i64 1000000)).setCell ⟨w.heap.size + 1, 2, none⟩ (.int .i64 tp)).setCell ⟨w.heap.size + 1, 3, none⟩ (.slice (some ⟨g, 0, none⟩) 32 cap)) := ⟨_, rfl⟩
  obtain ⟨U8, hU8⟩ : ∃ U8, U8 = (((U5.setCell ⟨w.heap.size + 2, 0, none⟩ (.int .i64 0)).setCell ⟨w.heap.size + 2, 1, none⟩ (.string ⟨#[]⟩)).setCell ⟨w.heap.size + 2, 2, none⟩ (.string ⟨#[]⟩)) := ⟨_, rfl⟩
  have O2 : OnlyB (w.heap.size + 1) u3 U5 := by rw [hU5]; exact ((((OnlyB.refl _ _).setCell 0 _).setCell 1 _).setCell 2 _).setCell 3 _
  have O3 : OnlyB (w.heap.size + 2) U5 U8 := by rw [hU8]; exact (((OnlyB.refl _ _).setCell 0 _).setCell 1 _).setCell 2 _
  have Y5 : Box4 U5 (w.heap.size + 1) 52 (.string K) (.int .i64 1000000) (.int .i64 tp) (.slice (some ⟨g, 0, none⟩) 32 cap) := by rw [hU5]; exact (((YY.out.set0 _).set1 _).set2 _).set3 _
  have P5 : BoxP U5 (w.heap.size + 2) 57 (.int .i64 0) (.string ⟨#[]⟩) (.string ⟨#[]⟩) := PP.out.onlyB O2 (by omega)
  have Y8 : Hid (Box4 U8 (w.heap.size + 1) 52 (.string K) (.int .i64 1000000) (.int .i64 tp) (.slice (some ⟨g, 0, none⟩) 32 cap)) := Y5.onlyB O3 (by omega)
  have P8 : Hid (BoxP U8 (w.heap.size + 2) 57 (.int .i64 0) (.string ⟨#[]⟩) (.string ⟨#[]⟩)) := by rw [hU8]; exact ((P5.set0 _).set1 _).set2 _
  have B8 : Hid (Below w.heap.size w U8) := by
    have q1 := AA.out.trans (O2.toBelow (B := w.heap.size) (by omega) AA.out.size)
    exact q1.trans (O3.toBelow (B := w.heap.size) (by omega) q1.size)
  have R8 : Hid (OwnB U8 w.heap.size (some ⟨g, 0, none⟩) 32 f) := OO.out.ofB O2 (fun p hp => by cases hp; have := GG.out; show g ≠ _; omega) O3 (fun p hp => by cases hp; have := GG.out; show g ≠ _; omega)
  have HU : Hid (U8 = (((((((u3.setCell ⟨w.heap.size + 1, 0, none⟩ (.string K)).setCell ⟨w.heap.size + 1, 1, none⟩ (.int .i64 1000000)).setCell ⟨w.heap.size + 1, 2, none⟩ (.int .i64 tp)).setCell ⟨w.heap.size + 1, 3, none⟩ (.slice (some ⟨g, 0, none⟩) 32 cap)).setCell ⟨w.heap.size + 2, 0, none⟩ (.int .i64 0)).setCell ⟨w.heap.size + 2, 1, none⟩ (.string ⟨#[]⟩)).setCell ⟨w.heap.size + 2, 2, none⟩ (.string ⟨#[]⟩))) := by rw [hU8, hU5]; exact rfl
  have y0 := YY.out.c0
  have fy0 := YY.out.fr 0
  have y1 := YY.out.c1
  have fy1 := YY.out.fr 1
  have y2 := YY.out.c2
  have fy2 := YY.out.fr 2
  have y3 := YY.out.c3
  have fy3 := YY.out.fr 3
  have z0 := PP.out.c0
  have fz0 := PP.out.fr 0
  have z1 := PP.out.c1
  have fz1 := PP.out.fr 1
  have z2 := PP.out.c2
  have fz2 := PP.out.fr 2
  clear O2 O3 Y5 P5 hU5 hU8 YY PP AA
  go_wp2
  rw [← HU.out]
  clear HU
  clear y0 fy0
  clear y1 fy1
  clear y2 fy2
  clear y3 fy3
  clear z0 fz0
  clear z1 fz1
  clear z2 fz2
  have y0 := Y8.out.c0
  have y1 := Y8.out.c1
  have y2 := Y8.out.c2
  have y3 := Y8.out.c3
  have z0 := P8.out.c0
  have z1 := P8.out.c1
  have z2 := P8.out.c2
  exact ret_cell3 (b := w.heap.size + 1) (b2 := w.heap.size + 2) (v := .agg #[.string K, .int .i64 1000000, .int .i64 tp, .slice (some ⟨g, 0, none⟩) 32 cap]) (v2 := .agg #[.int .i64 0, .string ⟨#[]⟩, .string ⟨#[]⟩]) (x := .int .i64 19) Tryd.results24 rfl rfl rfl (by go_simp) (by go_simp) ⟨⟨_, _, rfl, R8.out⟩, B8.out⟩
set_option maxRecDepth 100000 in
set_option maxHeartbeats 8000000 in
theorem implSend_ok (K body : ByteArray) (se tp : Int) (a : Option Addr) (c : Nat) (f : Nat → Bool) (h1 : body.size ≤ 65536) (h2 : LkOk K se tp 32 f) (h3 : se ≠ 1000000) (w : World) (hB : Bools w a 32 f) (ht : Tabs w) :
    Calls Tryd.prog 24 #[.agg #[.string K, .int .i64 se, .int .i64 tp, .slice a 32 c], .string body] w fun e w' => RetS w w' e K (se + 1) tp 32 f (se + 1) body (ptag K body (se + 1).toNat) 0 ∧ Below w.heap.size w w' := by
  have e1 : ¬ (65536 : Int) < (body.size : Int) := by omega
  have A0 : Hid (Below w.heap.size w (((w.alloc (.cells #[.string K, .int .i64 se, .int .i64 tp, .slice a 32 c] 52)).alloc (.cells #[.string ⟨#[]⟩, .int .i64 0, .int .i64 0, .slice none 0 0] 52)).alloc (.cells #[.int .i64 0, .string ⟨#[]⟩, .string ⟨#[]⟩] 57))) := (((Below.refl w.heap.size w).alloc (Nat.le_refl _) _).alloc (by simp) _).alloc (by simp; omega) _
  have X0 : Hid (Box4 (((w.alloc (.cells #[.string K, .int .i64 se, .int .i64 tp, .slice a 32 c] 52)).alloc (.cells #[.string ⟨#[]⟩, .int .i64 0, .int .i64 0, .slice none 0 0] 52)).alloc (.cells #[.int .i64 0, .string ⟨#[]⟩, .string ⟨#[]⟩] 57)) w.heap.size 52 (.string K) (.int .i64 se) (.int .i64 tp) (.slice a 32 c)) := ((Box4.madeAt rfl _ _ _ _ _).alloc _).alloc _
  have Y0 : Hid (Box4 (((w.alloc (.cells #[.string K, .int .i64 se, .int .i64 tp, .slice a 32 c] 52)).alloc (.cells #[.string ⟨#[]⟩, .int .i64 0, .int .i64 0, .slice none 0 0] 52)).alloc (.cells #[.int .i64 0, .string ⟨#[]⟩, .string ⟨#[]⟩] 57)) (w.heap.size + 1) 52 (.string ⟨#[]⟩) (.int .i64 0) (.int .i64 0) (.slice none 0 0)) := (Box4.madeAt (by simp) _ _ _ _ _).alloc _
  have P0 : Hid (BoxP (((w.alloc (.cells #[.string K, .int .i64 se, .int .i64 tp, .slice a 32 c] 52)).alloc (.cells #[.string ⟨#[]⟩, .int .i64 0, .int .i64 0, .slice none 0 0] 52)).alloc (.cells #[.int .i64 0, .string ⟨#[]⟩, .string ⟨#[]⟩] 57)) (w.heap.size + 2) 57 (.int .i64 0) (.string ⟨#[]⟩) (.string ⟨#[]⟩)) := BoxP.madeAt (by simp) _ _ _ _
  have US : Hid ((((w.alloc (.cells #[.string K, .int .i64 se, .int .i64 tp, .slice a 32 c] 52)).alloc (.cells #[.string ⟨#[]⟩, .int .i64 0, .int .i64 0, .slice none 0 0] 52)).alloc (.cells #[.int .i64 0, .string ⟨#[]⟩, .string ⟨#[]⟩] 57)).heap.size = w.heap.size + 3) := by show _ = _; simp
  have LO : Hid (∀ w : World, Bools w a 32 f → Calls Tryd.prog 30 #[.agg #[.string K, .int .i64 se, .int .i64 tp, .slice a 32 c]] w fun e w' => e = .returned (.bool true) ∧ Below w.heap.size w w') := fun w h => implLinkOK_any K se tp a 32 c f true (by simpa using h2) w h
  obtain ⟨T, hT⟩ : ∃ T, T = ptag K body (se + 1).toNat := ⟨_, rfl⟩
  rw [← hT]
  have hs0 : 0 ≤ se ∧ se < 1000000 := by have := h2.2.1; omega
  obtain ⟨x, hx⟩ : ∃ x : Nat, se + 1 = (x : Int) := ⟨(se + 1).toNat, by omega⟩
  have hT2 : T = ptag K body x := by rw [hT, hx, Int.toNat_natCast]
  have PT : Hid (∀ w : World, Tabs w → Calls Tryd.prog 67 #[.string K, .int .i64 (se + 1), .string body] w fun e w' => e = .returned (.string T) ∧ Below w.heap.size w w') := fun w ht => by
    rw [hT2, hx]
    exact packetTag_any K body x h2.1 (by omega) (by omega) w ht
  have HT : Hid (Tabs w) := ht
  have e2 : (se == (1000000 : Int)) = false := by simp; omega
  have sl : (0 : Int) ≤ se := hs0.1
  have sh : se < 1000000 := hs0.2
  clear hx hT hT2 x hs0
  clear h1 h2 ht
  clear h3
  have HX : Hid (Bools (((w.alloc (.cells #[.string K, .int .i64 se, .int .i64 tp, .slice a 32 c] 52)).alloc (.cells #[.string ⟨#[]⟩, .int .i64 0, .int .i64 0, .slice none 0 0] 52)).alloc (.cells #[.int .i64 0, .string ⟨#[]⟩, .string ⟨#[]⟩] 57)) a 32 f) := hB.below A0.out
  clear hB
  go_enter Tryd.func24, Tryd.ntmps24
  go_wp2_with fail
  generalize (((w.alloc (.cells #[.string K, .int .i64 se, .int .i64 tp, .slice a 32 c] 52)).alloc (.cells #[.string ⟨#[]⟩, .int .i64 0, .int .i64 0, .slice none 0 0] 52)).alloc (.cells #[.int .i64 0, .string ⟨#[]⟩, .string ⟨#[]⟩] 57)) = u at *
  refine (LO.out _ HX.out).mono ?_
  rintro e u1 ⟨rfl, hb⟩
  have A1 : Hid (Below w.heap.size w u1) := A0.out.trans (hb.mono A0.out.size)
  have X1 : Hid (Box4 u1 w.heap.size 52 (.string K) (.int .i64 se) (.int .i64 tp) (.slice a 32 c)) := X0.out.below hb
  have Y1 : Hid (Box4 u1 (w.heap.size + 1) 52 (.string ⟨#[]⟩) (.int .i64 0) (.int .i64 0) (.slice none 0 0)) := Y0.out.below hb
  have P1 : Hid (BoxP u1 (w.heap.size + 2) 57 (.int .i64 0) (.string ⟨#[]⟩) (.string ⟨#[]⟩)) := P0.out.below hb
  have HB1 : Hid (Bools u1 a 32 f) := HX.out.below hb
  have S1 : Hid (w.heap.size + 3 ≤ u1.heap.size) := by have := US.out; have := hb.size; show _ ≤ _; omega
  clear hb A0 X0 Y0 P0 US HX LO
  have t0 := X1.out.c0
  have t1 := X1.out.c1
  have t2 := X1.out.c2
  have t3 := X1.out.c3
  have ft := X1.out.fr 3
  go_wp2_with fail
  refine (cloneB_any a c f u1 HB1.out).mono ?_
  rintro e u2 ⟨⟨g, cap, rfl, og⟩, hb⟩
  clear t0 t1 t2 t3 ft
  have GG : Hid (w.heap.size + 3 ≤ g) := by have h1 := og.ge (by omega) _ rfl; have h2 := S1.out; exact Nat.le_trans h2 h1
  have O2 : OwnB u2 w.heap.size (some ⟨g, 0, none⟩) 32 f := og.mono (by have := S1.out; omega)
  have A2 : Hid (Below w.heap.size w u2) := A1.out.trans (hb.mono A1.out.size)
  have X2 := X1.out.below hb
  have Y2 := Y1.out.below hb
  have P2 := P1.out.below hb
  have S2 : Hid (w.heap.size + 3 ≤ u2.heap.size) := Nat.le_trans S1.out hb.size
  clear og hb A1 X1 Y1 P1 HB1 S1
  obtain ⟨u3, hu3⟩ : ∃ u3, u3 = ((u2.setCell ⟨w.heap.size, 3, none⟩ (.slice (some ⟨g, 0, none⟩) 32 cap)).setCell ⟨w.heap.size, 1, none⟩ (.int .i64 (se + 1))) := ⟨_, rfl⟩
  have OO3 : OnlyB w.heap.size u2 u3 := by rw [hu3]; exact ((OnlyB.refl _ _).setCell 3 _).setCell 1 _
  have XX : Hid (Box4 u3 w.heap.size 52 (.string K) (.int .i64 (se + 1)) (.int .i64 tp) (.slice (some ⟨g, 0, none⟩) 32 cap)) := by rw [hu3]; exact (X2.set3 _).set1 _
  have YY : Hid (Box4 u3 (w.heap.size + 1) 52 (.string ⟨#[]⟩) (.int .i64 0) (.int .i64 0) (.slice none 0 0)) := Y2.onlyB OO3 (by omega)
  have PP : Hid (BoxP u3 (w.heap.size + 2) 57 (.int .i64 0) (.string ⟨#[]⟩) (.string ⟨#[]⟩)) := P2.onlyB OO3 (by omega)
  have AA : Hid (Below w.heap.size w u3) := A2.out.trans (OO3.toBelow (B := w.heap.size) (Nat.le_refl _) A2.out.size)
  have OO : Hid (OwnB u3 w.heap.size (some ⟨g, 0, none⟩) 32 f) := O2.one OO3 (fun p hp => by cases hp; have := GG.out; show g ≠ _; omega)
  have t0 := X2.c0
  have ft0 := X2.fr 0
  have t1 := X2.c1
  have ft1 := X2.fr 1
  have t2 := X2.c2
  have ft2 := X2.fr 2
  have t3 := X2.c3
  have ft3 := X2.fr 3
  have HU3 : Hid (u3 = ((u2.setCell ⟨w.heap.size, 3, none⟩ (.slice (some ⟨g, 0, none⟩) 32 cap)).setCell ⟨w.heap.size, 1, none⟩ (.int .i64 (se + 1)))) := hu3
  clear OO3 X2 Y2 P2 A2 O2 S2 hu3
  go_upto_region 9 with fail
  rw [← HU3.out]
  clear t0 ft0
  clear t1 ft1
  clear t2 ft2
  clear t3 ft3
  clear HU3
  clear sl sh e2
  have A1 := AA
  clear AA
  have hb : Below u3.heap.size u3 u3.drew := (Below.refl _ _).drew
  have H : (Box4 u3.drew w.heap.size 52 (.string K) (.int .i64 (se + 1)) (.int .i64 tp) (.slice (some ⟨g, 0, none⟩) 32 cap)) := XX.out.below hb
  replace A1 : Hid (Below w.heap.size w u3.drew) := A1.out.trans (hb.mono A1.out.size)
  replace YY : Hid (Box4 u3.drew (w.heap.size + 1) 52 (.string ⟨#[]⟩) (.int .i64 0) (.int .i64 0) (.slice none 0 0)) := YY.out.below hb
  replace PP : Hid (BoxP u3.drew (w.heap.size + 2) 57 (.int .i64 0) (.string ⟨#[]⟩) (.string ⟨#[]⟩)) := PP.out.below hb
  replace OO : Hid (OwnB u3.drew w.heap.size (some ⟨g, 0, none⟩) 32 f) := OO.out.below hb
  clear hb XX
  refine wp_region_noPanic ?_
  refine wp_region_held_drew (S := fun w' => (Box4 w' w.heap.size 52 (.string K) (.int .i64 (se + 1)) (.int .i64 tp) (.slice (some ⟨g, 0, none⟩) 32 cap))) (by kernel_rfl) H (fun _ => ?_)
  generalize u3.drew = v11 at *
  refine wpAnyH_take (i := 0) (v := .agg #[.string K, .int .i64 (se + 1), .int .i64 tp, .slice (some ⟨g, 0, none⟩) 32 cap]) rfl (by kernel_rfl) (by kernel_rfl) (by kernel_rfl) (fun _ _ _ h => h) (Or.inl ⟨by rfl, ?_⟩) H ?_
  · intro w' hSw; have t0 := hSw.c0; have t1 := hSw.c1; have t2 := hSw.c2; have t3 := hSw.c3; clear hSw; go_simp
  change wpAnyH _ _ _ _ _ _ _ { tmps := #[_, _, _, _, _, _, _, _, _, _, _, _, _, _, _, _, _, _, _, _, _, _, _, _, _, _, _, _, _, _, _, _, _, _, _, _, _, _, _, _, _], defers := _ } _
  refine wpAnyH_take (i := 1) (v := .pointer (some ⟨w.heap.size, 1, none⟩)) rfl (by kernel_rfl) (by kernel_rfl) (by kernel_rfl) (fun _ _ _ h => h) (Or.inl ⟨by rfl, ?_⟩) H ?_
  · intro w' hSw; go_simp
  change wpAnyH _ _ _ _ _ _ _ { tmps := #[_, _, _, _, _, _, _, _, _, _, _, _, _, _, _, _, _, _, _, _, _, _, _, _, _, _, _, _, _, _, _, _, _, _, _, _, _, _, _, _, _], defers := _ } _
  refine wpAnyH_take (i := 2) (v := .int .i64 (se + 1)) rfl (by kernel_rfl) (by kernel_rfl) (by kernel_rfl) (fun _ _ _ h => h) (Or.inl ⟨by rfl, ?_⟩) H ?_
  · intro w' hSw; have t0 := hSw.c0; have t1 := hSw.c1; have t2 := hSw.c2; have t3 := hSw.c3; clear hSw; go_simp
  change wpAnyH _ _ _ _ _ _ _ { tmps := #[_, _, _, _, _, _, _, _, _, _, _, _, _, _, _, _, _, _, _, _, _, _, _, _, _, _, _, _, _, _, _, _, _, _, _, _, _, _, _, _, _], defers := _ } _
  refine wpAnyH_take (i := 3) (v := .string body) rfl (by kernel_rfl) (by kernel_rfl) (by kernel_rfl) (fun _ _ _ h => h) (Or.inl ⟨by rfl, ?_⟩) H ?_
  · intro w' hSw; go_simp
  change wpAnyH _ _ _ _ _ _ _ { tmps := #[_, _, _, _, _, _, _, _, _, _, _, _, _, _, _, _, _, _, _, _, _, _, _, _, _, _, _, _, _, _, _, _, _, _, _, _, _, _, _, _, _], defers := _ } _
  refine wpAnyH_take (i := 4) (v := .pointer (some ⟨w.heap.size, 0, none⟩)) rfl (by kernel_rfl) (by kernel_rfl) (by kernel_rfl) (fun _ _ _ h => h) (Or.inl ⟨by rfl, ?_⟩) H ?_
  · intro w' hSw; go_simp
  change wpAnyH _ _ _ _ _ _ _ { tmps := #[_, _, _, _, _, _, _, _, _, _, _, _, _, _, _, _, _, _, _, _, _, _, _, _, _, _, _, _, _, _, _, _, _, _, _, _, _, _, _, _, _], defers := _ } _
  refine wpAnyH_take (i := 5) (v := .string K) rfl (by kernel_rfl) (by kernel_rfl) (by kernel_rfl) (fun _ _ _ h => h) (Or.inl ⟨by rfl, ?_⟩) H ?_
  · intro w' hSw; have t0 := hSw.c0; have t1 := hSw.c1; have t2 := hSw.c2; have t3 := hSw.c3; clear hSw; go_simp
  change wpAnyH _ _ _ _ _ _ _ { tmps := #[_, _, _, _, _, _, _, _, _, _, _, _, _, _, _, _, _, _, _, _, _, _, _, _, _, _, _, _, _, _, _, _, _, _, _, _, _, _, _, _, _], defers := _ } _
  refine wpAnyH_take (i := 6) (v := .pointer (some ⟨w.heap.size, 1, none⟩)) rfl (by kernel_rfl) (by kernel_rfl) (by kernel_rfl) (fun _ _ _ h => h) (Or.inl ⟨by rfl, ?_⟩) H ?_
  · intro w' hSw; go_simp
  change wpAnyH _ _ _ _ _ _ _ { tmps := #[_, _, _, _, _, _, _, _, _, _, _, _, _, _, _, _, _, _, _, _, _, _, _, _, _, _, _, _, _, _, _, _, _, _, _, _, _, _, _, _, _], defers := _ } _
  refine wpAnyH_take (i := 7) (v := .int .i64 (se + 1)) rfl (by kernel_rfl) (by kernel_rfl) (by kernel_rfl) (fun _ _ _ h => h) (Or.inl ⟨by rfl, ?_⟩) H ?_
  · intro w' hSw; have t0 := hSw.c0; have t1 := hSw.c1; have t2 := hSw.c2; have t3 := hSw.c3; clear hSw; go_simp
  change wpAnyH _ _ _ _ _ _ _ { tmps := #[_, _, _, _, _, _, _, _, _, _, _, _, _, _, _, _, _, _, _, _, _, _, _, _, _, _, _, _, _, _, _, _, _, _, _, _, _, _, _, _, _], defers := _ } _
  refine wpAnyH_take (i := 8) (v := .string body) rfl (by kernel_rfl) (by kernel_rfl) (by kernel_rfl) (fun _ _ _ h => h) (Or.inl ⟨by rfl, ?_⟩) H ?_
  · intro w' hSw; go_simp
  change wpAnyH _ _ _ _ _ _ _ { tmps := #[_, _, _, _, _, _, _, _, _, _, _, _, _, _, _, _, _, _, _, _, _, _, _, _, _, _, _, _, _, _, _, _, _, _, _, _, _, _, _, _, _], defers := _ } _
  refine wpAnyH_ready (rs := [9]) (by kernel_rfl) (by simp) ?_
  refine AllReadyH.cons rfl (fun KK hK => ?_) AllReadyH.nil
  go_simp
  refine (PT.out _ (HT.out.below A1.out)).mono ?_
  rintro e v12 ⟨rfl, hb⟩
  replace A1 : Hid (Below w.heap.size w v12) := A1.out.trans (hb.mono A1.out.size)
  replace YY : Hid (Box4 v12 (w.heap.size + 1) 52 (.string ⟨#[]⟩) (.int .i64 0) (.int .i64 0) (.slice none 0 0)) := YY.out.below hb
  replace PP : Hid (BoxP v12 (w.heap.size + 2) 57 (.int .i64 0) (.string ⟨#[]⟩) (.string ⟨#[]⟩)) := PP.out.below hb
  replace OO : Hid (OwnB v12 w.heap.size (some ⟨g, 0, none⟩) 32 f) := OO.out.below hb
  replace H : (Box4 v12 w.heap.size 52 (.string K) (.int .i64 (se + 1)) (.int .i64 tp) (.slice (some ⟨g, 0, none⟩) 32 cap)) := H.below hb
  clear hb 
  refine hK.out _ _ H (fun _ => ?_)
  clear hK KK
  change wpAnyH _ _ _ _ _ _ _ { tmps := #[_, _, _, _, _, _, _, _, _, _, _, _, _, _, _, _, _, _, _, _, _, _, _, _, _, _, _, _, _, _, _, _, _, _, _, _, _, _, _, _, _], defers := _ } _
  refine wpAnyH_take (i := 10) (v := .agg #[.int .i64 (se + 1), .string body, .string T]) rfl (by kernel_rfl) (by kernel_rfl) (by kernel_rfl) (fun _ _ _ h => h) (Or.inl ⟨by rfl, ?_⟩) H ?_
  · intro w' hSw; go_simp
  change wpAnyH _ _ _ _ _ _ _ { tmps := #[_, _, _, _, _, _, _, _, _, _, _, _, _, _, _, _, _, _, _, _, _, _, _, _, _, _, _, _, _, _, _, _, _, _, _, _, _, _, _, _, _], defers := _ } _
  refine wpAnyH_ready (rs := [11]) (by kernel_rfl) (by simp) ?_
  refine AllReadyH.cons rfl (fun KK hK => ?_) AllReadyH.nil
  rw [if_pos (by rfl)]
  refine wp_store_mid 52 (.tmp 4) (.tmp 30) rfl (w.heap.size + 1) 0 #[.string K, .int .i64 (se + 1), .int .i64 tp, .slice (some ⟨g, 0, none⟩) 32 cap] rfl rfl YY.out.there Tryd.sizeLk (one4L _ _ _ _ _ _) ?_
  have ho : OnlyB (w.heap.size + 1) v12 (v12.setCells (w.heap.size + 1) 0 [.string K, .int .i64 (se + 1), .int .i64 tp, .slice (some ⟨g, 0, none⟩) 32 cap]) := OnlyB.stored4L _ _ _ _ _ _
  replace A1 : Hid (Below w.heap.size w (v12.setCells (w.heap.size + 1) 0 [.string K, .int .i64 (se + 1), .int .i64 tp, .slice (some ⟨g, 0, none⟩) 32 cap])) := A1.out.trans (ho.toBelow (B := w.heap.size) (by omega) A1.out.size)
  replace YY : Hid (Box4 (v12.setCells (w.heap.size + 1) 0 [.string K, .int .i64 (se + 1), .int .i64 tp, .slice (some ⟨g, 0, none⟩) 32 cap]) (w.heap.size + 1) 52 (.string K) (.int .i64 (se + 1)) (.int .i64 tp) (.slice (some ⟨g, 0, none⟩) 32 cap)) := YY.out.stored _ _ _ _
  replace PP : Hid (BoxP (v12.setCells (w.heap.size + 1) 0 [.string K, .int .i64 (se + 1), .int .i64 tp, .slice (some ⟨g, 0, none⟩) 32 cap]) (w.heap.size + 2) 57 (.int .i64 0) (.string ⟨#[]⟩) (.string ⟨#[]⟩)) := PP.out.onlyB ho (by omega)
  replace OO : Hid (OwnB (v12.setCells (w.heap.size + 1) 0 [.string K, .int .i64 (se + 1), .int .i64 tp, .slice (some ⟨g, 0, none⟩) 32 cap]) w.heap.size (some ⟨g, 0, none⟩) 32 f) := OO.out.one ho (fun p hp => by cases hp; have := GG.out; show g ≠ _; omega)
  replace H : (Box4 (v12.setCells (w.heap.size + 1) 0 [.string K, .int .i64 (se + 1), .int .i64 tp, .slice (some ⟨g, 0, none⟩) 32 cap]) w.heap.size 52 (.string K) (.int .i64 (se + 1)) (.int .i64 tp) (.slice (some ⟨g, 0, none⟩) 32 cap)) := H.onlyB ho (by omega)
  refine hK.out _ _ H (fun _ => ?_)
  clear hK KK ho
  generalize (v12.setCells (w.heap.size + 1) 0 [.string K, .int .i64 (se + 1), .int .i64 tp, .slice (some ⟨g, 0, none⟩) 32 cap]) = v13 at *
  change wpAnyH _ _ _ _ _ _ _ { tmps := #[_, _, _, _, _, _, _, _, _, _, _, _, _, _, _, _, _, _, _, _, _, _, _, _, _, _, _, _, _, _, _, _, _, _, _, _, _, _, _, _, _], defers := _ } _
  refine wpAnyH_ready (rs := [12]) (by kernel_rfl) (by simp) ?_
  refine AllReadyH.cons rfl (fun KK hK => ?_) AllReadyH.nil
  rw [if_pos (by rfl)]
  refine wp_store_mid 57 (.tmp 5) (.tmp 40) rfl (w.heap.size + 2) 0 #[.int .i64 (se + 1), .string body, .string T] rfl rfl PP.out.there Tryd.sizePk (one3L _ _ _) ?_
  have ho : OnlyB (w.heap.size + 2) v13 (v13.setCells (w.heap.size + 2) 0 [.int .i64 (se + 1), .string body, .string T]) := OnlyB.stored3L _ _ _ _ _
  replace A1 : Hid (Below w.heap.size w (v13.setCells (w.heap.size + 2) 0 [.int .i64 (se + 1), .string body, .string T])) := A1.out.trans (ho.toBelow (B := w.heap.size) (by omega) A1.out.size)
  replace PP : Hid (BoxP (v13.setCells (w.heap.size + 2) 0 [.int .i64 (se + 1), .string body, .string T]) (w.heap.size + 2) 57 (.int .i64 (se + 1)) (.string body) (.string T)) := PP.out.stored _ _ _
  replace YY : Hid (Box4 (v13.setCells (w.heap.size + 2) 0 [.int .i64 (se + 1), .string body, .string T]) (w.heap.size + 1) 52 (.string K) (.int .i64 (se + 1)) (.int .i64 tp) (.slice (some ⟨g, 0, none⟩) 32 cap)) := YY.out.onlyB ho (by omega)
  replace OO : Hid (OwnB (v13.setCells (w.heap.size + 2) 0 [.int .i64 (se + 1), .string body, .string T]) w.heap.size (some ⟨g, 0, none⟩) 32 f) := OO.out.one ho (fun p hp => by cases hp; have := GG.out; show g ≠ _; omega)
  replace H : (Box4 (v13.setCells (w.heap.size + 2) 0 [.int .i64 (se + 1), .string body, .string T]) w.heap.size 52 (.string K) (.int .i64 (se + 1)) (.int .i64 tp) (.slice (some ⟨g, 0, none⟩) 32 cap)) := H.onlyB ho (by omega)
  refine hK.out _ _ H (fun _ => ?_)
  clear hK KK ho
  generalize (v13.setCells (w.heap.size + 2) 0 [.int .i64 (se + 1), .string body, .string T]) = v14 at *
  change wpAnyH _ _ _ _ _ _ _ { tmps := #[_, _, _, _, _, _, _, _, _, _, _, _, _, _, _, _, _, _, _, _, _, _, _, _, _, _, _, _, _, _, _, _, _, _, _, _, _, _, _, _, _], defers := _ } _
  refine wpAnyH_take (i := 13) (v := .int .i64 0) rfl (by kernel_rfl) (by kernel_rfl) (by kernel_rfl) (fun _ _ _ h => h) (Or.inl ⟨by rfl, ?_⟩) H ?_
  · intro w' hSw; go_simp
  change wpAnyH _ _ _ _ _ _ _ { tmps := #[_, _, _, _, _, _, _, _, _, _, _, _, _, _, _, _, _, _, _, _, _, _, _, _, _, _, _, _, _, _, _, _, _, _, _, _, _, _, _, _, _], defers := _ } _
  refine wpAnyH_done (by kernel_rfl) ?_ _
  refine NoPanic.normal ?_
  clear H PT e1 HT
  have y0 := YY.out.c0
  have y1 := YY.out.c1
  have y2 := YY.out.c2
  have y3 := YY.out.c3
  have z0 := PP.out.c0
  have z1 := PP.out.c1
  have z2 := PP.out.c2
  go_wp2
  exact ret_cell3 (b := w.heap.size + 1) (b2 := w.heap.size + 2) (v := .agg #[.string K, .int .i64 (se + 1), .int .i64 tp, .slice (some ⟨g, 0, none⟩) 32 cap]) (v2 := .agg #[.int .i64 (se + 1), .string body, .string T]) (x := .int .i64 0) Tryd.results24 rfl rfl rfl (by go_simp) (by go_simp) ⟨⟨_, _, rfl, OO.out⟩, A1.out⟩
set_option maxRecDepth 100000 in
set_option maxHeartbeats 8000000 in
theorem implSend_any (K body : ByteArray) (se tp : Int) (a : Option Addr) (n c : Nat) (f : Nat → Bool) (K' : ByteArray) (se' tp' : Int) (n' : Nat) (f' : Nat → Bool) (q : Int) (B T : ByteArray) (code : Int) (hA : SdA K body se tp n f K' se' tp' n' f' q B T code) (w : World) (hB : Bools w a n f) (ht : Tabs w) :
    Calls Tryd.prog 24 #[.agg #[.string K, .int .i64 se, .int .i64 tp, .slice a n c], .string body] w fun e w' => RetS w w' e K' se' tp' n' f' q B T code ∧ Below w.heap.size w w' := by
  have A0 : Hid (Below w.heap.size w (((w.alloc (.cells #[.string K, .int .i64 se, .int .i64 tp, .slice a n c] 52)).alloc (.cells #[.string ⟨#[]⟩, .int .i64 0, .int .i64 0, .slice none 0 0] 52)).alloc (.cells #[.int .i64 0, .string ⟨#[]⟩, .string ⟨#[]⟩] 57))) := (((Below.refl w.heap.size w).alloc (Nat.le_refl _) _).alloc (by simp) _).alloc (by simp; omega) _
  have X0 : Hid (Box4 (((w.alloc (.cells #[.string K, .int .i64 se, .int .i64 tp, .slice a n c] 52)).alloc (.cells #[.string ⟨#[]⟩, .int .i64 0, .int .i64 0, .slice none 0 0] 52)).alloc (.cells #[.int .i64 0, .string ⟨#[]⟩, .string ⟨#[]⟩] 57)) w.heap.size 52 (.string K) (.int .i64 se) (.int .i64 tp) (.slice a n c)) := ((Box4.madeAt rfl _ _ _ _ _).alloc _).alloc _
  have Y0 : Hid (Box4 (((w.alloc (.cells #[.string K, .int .i64 se, .int .i64 tp, .slice a n c] 52)).alloc (.cells #[.string ⟨#[]⟩, .int .i64 0, .int .i64 0, .slice none 0 0] 52)).alloc (.cells #[.int .i64 0, .string ⟨#[]⟩, .string ⟨#[]⟩] 57)) (w.heap.size + 1) 52 (.string ⟨#[]⟩) (.int .i64 0) (.int .i64 0) (.slice none 0 0)) := (Box4.madeAt (by simp) _ _ _ _ _).alloc _
  have P0 : Hid (BoxP (((w.alloc (.cells #[.string K, .int .i64 se, .int .i64 tp, .slice a n c] 52)).alloc (.cells #[.string ⟨#[]⟩, .int .i64 0, .int .i64 0, .slice none 0 0] 52)).alloc (.cells #[.int .i64 0, .string ⟨#[]⟩, .string ⟨#[]⟩] 57)) (w.heap.size + 2) 57 (.int .i64 0) (.string ⟨#[]⟩) (.string ⟨#[]⟩)) := BoxP.madeAt (by simp) _ _ _ _
  have US : Hid ((((w.alloc (.cells #[.string K, .int .i64 se, .int .i64 tp, .slice a n c] 52)).alloc (.cells #[.string ⟨#[]⟩, .int .i64 0, .int .i64 0, .slice none 0 0] 52)).alloc (.cells #[.int .i64 0, .string ⟨#[]⟩, .string ⟨#[]⟩] 57)).heap.size = w.heap.size + 3) := by show _ = _; simp
  rcases hA with ⟨h1, rfl, rfl, rfl, rfl, rfl, rfl, rfl, rfl⟩ | ⟨h1, h2, rfl, rfl, rfl, rfl, rfl, rfl, rfl, rfl⟩ | ⟨h1, h2, rfl, rfl, rfl, rfl, rfl, rfl, rfl, rfl, rfl, rfl⟩ | ⟨h1, h2, h3, rfl, rfl, rfl, rfl, rfl, rfl, rfl, rfl, rfl⟩
  · have e1 : (65536 : Int) < (body.size : Int) := by omega
    clear h1 X0 Y0 P0 US hB ht
    go_enter Tryd.func24, Tryd.ntmps24
    go_wp2
    exact ret_cell3 (b := w.heap.size + 1) (b2 := w.heap.size + 2) (v := .agg #[.string ⟨#[]⟩, .int .i64 0, .int .i64 0, .slice none 0 0]) (v2 := .agg #[.int .i64 0, .string ⟨#[]⟩, .string ⟨#[]⟩]) (x := .int .i64 2) Tryd.results24 rfl rfl rfl (by go_simp) (by go_simp) ⟨⟨none, 0, rfl, .inl rfl⟩, A0.out⟩
  · have e1 : ¬ (65536 : Int) < (body.size : Int) := by omega
    have LO : Hid (∀ w : World, Bools w a n f → Calls Tryd.prog 30 #[.agg #[.string K, .int .i64 se, .int .i64 tp, .slice a n c]] w fun e w' => e = .returned (.bool false) ∧ Below w.heap.size w w') := fun w h => implLinkOK_any K se tp a n c f false (by simpa using h2) w h
    clear h1 h2 ht
    have HX : Hid (Bools (((w.alloc (.cells #[.string K, .int .i64 se, .int .i64 tp, .slice a n c] 52)).alloc (.cells #[.string ⟨#[]⟩, .int .i64 0, .int .i64 0, .slice none 0 0] 52)).alloc (.cells #[.int .i64 0, .string ⟨#[]⟩, .string ⟨#[]⟩] 57)) a n f) := hB.below A0.out
    clear hB
    go_enter Tryd.func24, Tryd.ntmps24
    go_wp2_with fail
    generalize (((w.alloc (.cells #[.string K, .int .i64 se, .int .i64 tp, .slice a n c] 52)).alloc (.cells #[.string ⟨#[]⟩, .int .i64 0, .int .i64 0, .slice none 0 0] 52)).alloc (.cells #[.int .i64 0, .string ⟨#[]⟩, .string ⟨#[]⟩] 57)) = u at *
    refine (LO.out _ HX.out).mono ?_
    rintro e u1 ⟨rfl, hb⟩
    have A1 : Hid (Below w.heap.size w u1) := A0.out.trans (hb.mono A0.out.size)
    have X1 : Hid (Box4 u1 w.heap.size 52 (.string K) (.int .i64 se) (.int .i64 tp) (.slice a n c)) := X0.out.below hb
    have Y1 : Hid (Box4 u1 (w.heap.size + 1) 52 (.string ⟨#[]⟩) (.int .i64 0) (.int .i64 0) (.slice none 0 0)) := Y0.out.below hb
    have P1 : Hid (BoxP u1 (w.heap.size + 2) 57 (.int .i64 0) (.string ⟨#[]⟩) (.string ⟨#[]⟩)) := P0.out.below hb
    have HB1 : Hid (Bools u1 a n f) := HX.out.below hb
    have S1 : Hid (w.heap.size + 3 ≤ u1.heap.size) := by have := US.out; have := hb.size; show _ ≤ _; omega
    clear hb A0 X0 Y0 P0 US HX LO
    have YY := Y1
    have PP := P1
    have AA := A1
    clear X1 Y1 P1 A1 HB1 S1
    obtain ⟨U5, hU5⟩ : ∃ U5, U5 = ((((u1.setCell ⟨w.heap.size + 1, 0, none⟩ (.string ⟨#[]⟩)).setCell ⟨w.heap.size + 1, 1, none⟩ (.int .i64 0)).setCell ⟨w.heap.size + 1, 2, none⟩ (.int .i64 0)).setCell ⟨w.heap.size + 1, 3, none⟩ (.slice none 0 0)) := ⟨_, rfl⟩
    obtain ⟨U8, hU8⟩ : ∃ U8, U8 = (((U5.setCell ⟨w.heap.size + 2, 0, none⟩ (.int .i64 0)).setCell ⟨w.heap.size + 2, 1, none⟩ (.string ⟨#[]⟩)).setCell ⟨w.heap.size + 2, 2, none⟩ (.string ⟨#[]⟩)) := ⟨_, rfl⟩
    have O2 : OnlyB (w.heap.size + 1) u1 U5 := by rw [hU5]; exact ((((OnlyB.refl _ _).setCell 0 _).setCell 1 _).setCell 2 _).setCell 3 _
    have O3 : OnlyB (w.heap.size + 2) U5 U8 := by rw [hU8]; exact (((OnlyB.refl _ _).setCell 0 _).setCell 1 _).setCell 2 _
    have Y5 : Box4 U5 (w.heap.size + 1) 52 (.string ⟨#[]⟩) (.int .i64 0) (.int .i64 0) (.slice none 0 0) := by rw [hU5]; exact (((YY.out.set0 _).set1 _).set2 _).set3 _
    have P5 : BoxP U5 (w.heap.size + 2) 57 (.int .i64 0) (.string ⟨#[]⟩) (.string ⟨#[]⟩) := PP.out.onlyB O2 (by omega)
    have Y8 : Hid (Box4 U8 (w.heap.size + 1) 52 (.string ⟨#[]⟩) (.int .i64 0) (.int .i64 0) (.slice none 0 0)) := Y5.onlyB O3 (by omega)
    have P8 : Hid (BoxP U8 (w.heap.size + 2) 57 (.int .i64 0) (.string ⟨#[]⟩) (.string ⟨#[]⟩)) := by rw [hU8]; exact ((P5.set0 _).set1 _).set2 _
    have B8 : Hid (Below w.heap.size w U8) := by
      have q1 := AA.out.trans (O2.toBelow (B := w.heap.size) (by omega) AA.out.size)
      exact q1.trans (O3.toBelow (B := w.heap.size) (by omega) q1.size)
    have HU : Hid (U8 = (((((((u1.setCell ⟨w.heap.size + 1, 0, none⟩ (.string ⟨#[]⟩)).setCell ⟨w.heap.size + 1, 1, none⟩ (.int .i64 0)).setCell ⟨w.heap.size + 1, 2, none⟩ (.int .i64 0)).setCell ⟨w.heap.size + 1, 3, none⟩ (.slice none 0 0)).setCell ⟨w.heap.size + 2, 0, none⟩ (.int .i64 0)).setCell ⟨w.heap.size + 2, 1, none⟩ (.string ⟨#[]⟩)).setCell ⟨w.heap.size + 2, 2, none⟩ (.string ⟨#[]⟩))) := by rw [hU8, hU5]; exact rfl
    have y0 := YY.out.c0
    have fy0 := YY.out.fr 0
    have y1 := YY.out.c1
    have fy1 := YY.out.fr 1
    have y2 := YY.out.c2
    have fy2 := YY.out.fr 2
    have y3 := YY.out.c3
    have fy3 := YY.out.fr 3
    have z0 := PP.out.c0
    have fz0 := PP.out.fr 0
    have z1 := PP.out.c1
    have fz1 := PP.out.fr 1
    have z2 := PP.out.c2
    have fz2 := PP.out.fr 2
    clear O2 O3 Y5 P5 hU5 hU8 YY PP AA
    go_wp2
    rw [← HU.out]
    clear HU
    clear y0 fy0
    clear y1 fy1
    clear y2 fy2
    clear y3 fy3
    clear z0 fz0
    clear z1 fz1
    clear z2 fz2
    have y0 := Y8.out.c0
    have y1 := Y8.out.c1
    have y2 := Y8.out.c2
    have y3 := Y8.out.c3
    have z0 := P8.out.c0
    have z1 := P8.out.c1
    have z2 := P8.out.c2
    exact ret_cell3 (b := w.heap.size + 1) (b2 := w.heap.size + 2) (v := .agg #[.string ⟨#[]⟩, .int .i64 0, .int .i64 0, .slice none 0 0]) (v2 := .agg #[.int .i64 0, .string ⟨#[]⟩, .string ⟨#[]⟩]) (x := .int .i64 1) Tryd.results24 rfl rfl rfl (by go_simp) (by go_simp) ⟨⟨none, 0, rfl, .inl rfl⟩, B8.out⟩
  · obtain rfl : n = 32 := h2.2.2.2.1
    exact implSend_spent _ _ _ _ _ _ h1 h2 w hB ht
  · obtain rfl : n = 32 := h2.2.2.2.1
    exact implSend_ok _ _ _ _ _ _ _ h1 h2 h3 w hB ht
end Go.Proofs.YtkhglllicblbbaaDoor
