/-
  Texts of the proof, joined: SlotP, SzX, LawOpenSl.
-/
import Derived.Test.YtbecnaabmlkjjabGreatDoorP34
import Derived.Test.YtbecnaabmlkjjabGreatDoorP31
import Derived.Test.YtbecnaabmlkjjabGreatDoorP13
namespace Go.Proofs.YtbecnaabmlkjjabGreatDoor
open Go.ChangeShapes Go.WideShapes Go.ChangeAt Go.RowKit
set_option linter.unusedVariables false
/-- What OpenSlots answers. -/
def OsAns (k : ByteArray) (d : Dk) (E : Int) (D : ByteArray) (code : Int) : Prop := ∃ cf, SfAns k ⟨#[]⟩ d cf ∧ ((cf ≠ 0 ∧ E = 0 ∧ D = ⟨#[]⟩ ∧ code = cf) ∨ (cf = 0 ∧ (bst k d 2).1 = 0 ∧ E = 0 ∧ D = ⟨#[]⟩ ∧ code = 5) ∨ (cf = 0 ∧ (bst k d 2).1 ≠ 0 ∧ E = (bst k d 2).1 ∧ D = (bst k d 2).2 ∧ code = 0))
theorem osAns_ex (k : ByteArray) (d : Dk) : ∃ E D code, OsAns k d E D code := by
  obtain ⟨cf, h⟩ := sfAns_ex k ⟨#[]⟩ d
  by_cases h0 : cf = 0
  · by_cases h1 : (bst k d 2).1 = 0
    · exact ⟨_, _, _, cf, h, .inr (.inl ⟨h0, h1, rfl, rfl, rfl⟩)⟩
    · exact ⟨_, _, _, cf, h, .inr (.inr ⟨h0, h1, rfl, rfl, rfl⟩)⟩
  · exact ⟨_, _, _, cf, h, .inl ⟨h0, rfl, rfl, rfl⟩⟩
theorem sfAns_zero {k s : ByteArray} {d : Dk} (h : SfAns k s d 0) : k.size = 32 ∧ d.Ok ∧ 2 ≤ d.nb := by
  rcases h with ⟨_, h⟩ | ⟨_, _, _, h⟩ | ⟨_, _, _, _, h⟩ | ⟨h1, _, h3, h4, _⟩
  · cases h
  · cases h
  · cases h
  · exact ⟨h1, h3, h4⟩
set_option maxRecDepth 100000 in
set_option maxHeartbeats 2000000 in
theorem implOpenSlots_any (k : ByteArray) (d : Dk) (a0 a1 a2 : Option Addr) (c0 c1 c2 : Nat) (E : Int) (D : ByteArray) (code : Int) (hr : OsAns k d E D code) (hs : d.nb ≤ 1048576 ∧ d.nc ≤ 1048576 ∧ d.ns ≤ 1048576) (p0 p1 : Addr) (w : World) (h : DiskV w d a0 a1 a2) (hE0 : ErrAt w 3 p0) (hE1 : ErrAt w 4 p1) (ht : Tabs w) :
    Calls Tryz.prog 9 #[.string k, .agg #[.slice a0 d.nb c0, .slice a1 d.nc c1, .slice a2 d.ns c2]] w fun e w' => e = .returned (.tuple #[.agg #[.int .i64 E, .string D], .int .i64 code]) ∧ Below w.heap.size w w' := by
  obtain ⟨cf, hf, hr⟩ := hr
  have FA : Hid (∀ w : World, DiskV w d a0 a1 a2 → ErrAt w 3 p0 → ErrAt w 4 p1 → Calls Tryz.prog 27 #[.string k, .string ⟨#[]⟩, .agg #[.slice a0 d.nb c0, .slice a1 d.nc c1, .slice a2 d.ns c2]] w fun e w' => e = .returned (.int .i64 cf) ∧ Below w.heap.size w w') := fun w h1 h2 h3 => slotsFault_any k ⟨#[]⟩ d a0 a1 a2 c0 c1 c2 cf hf hs p0 p1 w h1 h2 h3
  have A0 : Below w.heap.size w ((w.alloc (.cells #[.slice a0 d.nb c0, .slice a1 d.nc c1, .slice a2 d.ns c2] 33)).alloc (.cells #[.int .i64 0, .string ⟨#[]⟩] 28)) := ((Below.refl _ _).alloc (Nat.le_refl _) _).alloc (by simp) _
  have BX : Hid (Box3 ((w.alloc (.cells #[.slice a0 d.nb c0, .slice a1 d.nc c1, .slice a2 d.ns c2] 33)).alloc (.cells #[.int .i64 0, .string ⟨#[]⟩] 28)) w.heap.size 33 (.slice a0 d.nb c0) (.slice a1 d.nc c1) (.slice a2 d.ns c2)) := (Box3.made _ _ _ _ _).alloc _
  have ZR : Hid (Sl2 (w.heap.size + 1) 0 ⟨#[]⟩ ((w.alloc (.cells #[.slice a0 d.nb c0, .slice a1 d.nc c1, .slice a2 d.ns c2] 33)).alloc (.cells #[.int .i64 0, .string ⟨#[]⟩] 28))) := Sl2.madeAt (by simp) _ _ _
  have A1 : Hid (Below w.heap.size w ((w.alloc (.cells #[.slice a0 d.nb c0, .slice a1 d.nc c1, .slice a2 d.ns c2] 33)).alloc (.cells #[.int .i64 0, .string ⟨#[]⟩] 28))) := A0
  have HV : Hid (DiskV w d a0 a1 a2) := h
  have HE : Hid (ErrAt w 3 p0 ∧ ErrAt w 4 p1) := ⟨hE0, hE1⟩
  have HT : Hid (Tabs w) := ht
  have t0 := BX.out.c0
  have t1 := BX.out.c1
  have t2 := BX.out.c2
  clear h hE0 hE1 ht A0
  rcases hr with ⟨h1, rfl, rfl, rfl⟩ | ⟨h1, h2, rfl, rfl, rfl⟩ | ⟨h1, h2, rfl, rfl, rfl⟩
  · have x1 : (code != 0) = true := by rw [bne_iff_ne]; exact h1
    clear hf h1 hs
    go_enter Tryz.func9, Tryz.ntmps9
    go_wp2_with fail
    clear t0 t1 t2
    generalize ((w.alloc (.cells #[.slice a0 d.nb c0, .slice a1 d.nc c1, .slice a2 d.ns c2] 33)).alloc (.cells #[.int .i64 0, .string ⟨#[]⟩] 28)) = v0 at *
    refine (FA.out _ (HV.out.below A1.out) (HE.out.1.below A1.out) (HE.out.2.below A1.out)).mono ?_
    rintro e v1 ⟨rfl, hb⟩
    replace A1 : Hid (Below w.heap.size w v1) := A1.out.trans (hb.mono A1.out.size)
    have Z1 := ZR.out.below hb
    have z0 := Z1.c0
    have z1 := Z1.c1
    have z2 := Z1.fr 0
    have z3 := Z1.fr 1
    clear hb Z1 ZR BX FA
    go_wp2
    exact retCell2 (b := w.heap.size + 1) (v := .agg #[.int .i64 0, .string ⟨#[]⟩]) Tryz.results9 rfl rfl (by go_simp) ⟨rfl, (A1.out.setCell (Nat.le_succ _) _).setCell (Nat.le_succ _) _⟩
  all_goals
    subst h1
    obtain ⟨k1, k2, k3⟩ := sfAns_zero hf
    have BT : Hid (∀ w : World, DiskV w d a0 a1 a2 → Tabs w → Calls Tryz.prog 28 #[.string k, .agg #[.slice a0 d.nb c0, .slice a1 d.nc c1, .slice a2 d.ns c2]] w fun e w' => (∃ pv, e = .returned pv ∧ Bt w' pv (bst k d 2)) ∧ Below w.heap.size w w') := fun w h1 h2 => better_any k d a0 a1 a2 c0 c1 c2 k1 k2 k3 w h1 h2
    obtain ⟨X, hX⟩ : ∃ X, X = bst k d 2 := ⟨_, rfl⟩
    rw [← hX] at h2 BT
    try rw [← hX]
    clear hf hs k1 k2 k3 hX
    go_enter Tryz.func9, Tryz.ntmps9
    go_wp2_with fail
    clear t0 t1 t2
    generalize ((w.alloc (.cells #[.slice a0 d.nb c0, .slice a1 d.nc c1, .slice a2 d.ns c2] 33)).alloc (.cells #[.int .i64 0, .string ⟨#[]⟩] 28)) = v0 at *
    refine (FA.out _ (HV.out.below A1.out) (HE.out.1.below A1.out) (HE.out.2.below A1.out)).mono ?_
    rintro e v1 ⟨rfl, hb⟩
    replace A1 : Hid (Below w.heap.size w v1) := A1.out.trans (hb.mono A1.out.size)
    replace ZR : Hid (Sl2 (w.heap.size + 1) 0 ⟨#[]⟩ v1) := ZR.out.below hb
    replace BX : Hid (Box3 v1 w.heap.size 33 (.slice a0 d.nb c0) (.slice a1 d.nc c1) (.slice a2 d.ns c2)) := BX.out.below hb
    have t0 := BX.out.c0
    have t1 := BX.out.c1
    have t2 := BX.out.c2
    clear hb FA
    go_wp2_with fail
    clear t0 t1 t2
    refine (BT.out _ (HV.out.below A1.out) (HT.out.below A1.out)).mono ?_
    rintro e v2 ⟨⟨pv, rfl, hbt⟩, hb⟩
    replace A1 : Hid (Below w.heap.size w v2) := A1.out.trans (hb.mono A1.out.size)
    have Z1 := ZR.out.below hb
    have z0 := Z1.c0
    have z1 := Z1.c1
    have z2 := Z1.fr 0
    have z3 := Z1.fr 1
    clear hb Z1 ZR BX BT
  · rcases hbt with ⟨-, rfl⟩ | ⟨hne, -⟩
    · clear h2
      go_wp2
      exact retCell2 (b := w.heap.size + 1) (v := .agg #[.int .i64 0, .string ⟨#[]⟩]) Tryz.results9 rfl rfl (by go_simp) ⟨rfl, (A1.out.setCell (Nat.le_succ _) _).setCell (Nat.le_succ _) _⟩
    · exact absurd h2 hne
  · rcases hbt with ⟨h0, -⟩ | ⟨-, pb, rfl, hsl⟩
    · exact absurd h0 h2
    · have s0 := hsl.c0
      have s1 := hsl.c1
      clear h2
      go_wp2
      exact retCell2 (b := w.heap.size + 1) (v := .agg #[.int .i64 X.1, .string X.2]) Tryz.results9 rfl rfl (by go_simp) ⟨rfl, (A1.out.setCell (Nat.le_succ _) _).setCell (Nat.le_succ _) _⟩
set_option maxRecDepth 100000 in
set_option maxHeartbeats 2000000 in
theorem specOpenSlots_any (k : ByteArray) (d : Dk) (a0 a1 a2 : Option Addr) (c0 c1 c2 : Nat) (E : Int) (D : ByteArray) (code : Int) (hr : OsAns k d E D code) (hs : d.nb ≤ 1048576 ∧ d.nc ≤ 1048576 ∧ d.ns ≤ 1048576) (w : World) (h : DiskV w d a0 a1 a2) :
    Calls Tryz.prog 7 #[.string k, .agg #[.slice a0 d.nb c0, .slice a1 d.nc c1, .slice a2 d.ns c2]] w fun e w' => e = .returned (.tuple #[.agg #[.int .i64 E, .string D], .int .i64 code]) ∧ Below w.heap.size w w' := by
  obtain ⟨cf, hf, hr⟩ := hr
  have A0 : Below w.heap.size w ((w.alloc (.cells #[.slice a0 d.nb c0, .slice a1 d.nc c1, .slice a2 d.ns c2] 33)).alloc (.cells #[.int .i64 0, .string ⟨#[]⟩] 28)) := ((Below.refl _ _).alloc (Nat.le_refl _) _).alloc (by simp) _
  have BX : Hid (Box3 ((w.alloc (.cells #[.slice a0 d.nb c0, .slice a1 d.nc c1, .slice a2 d.ns c2] 33)).alloc (.cells #[.int .i64 0, .string ⟨#[]⟩] 28)) w.heap.size 33 (.slice a0 d.nb c0) (.slice a1 d.nc c1) (.slice a2 d.ns c2)) := (Box3.made _ _ _ _ _).alloc _
  have ZR : Hid (Sl2 (w.heap.size + 1) 0 ⟨#[]⟩ ((w.alloc (.cells #[.slice a0 d.nb c0, .slice a1 d.nc c1, .slice a2 d.ns c2] 33)).alloc (.cells #[.int .i64 0, .string ⟨#[]⟩] 28))) := Sl2.madeAt (by simp) _ _ _
  have A1 : Hid (Below w.heap.size w ((w.alloc (.cells #[.slice a0 d.nb c0, .slice a1 d.nc c1, .slice a2 d.ns c2] 33)).alloc (.cells #[.int .i64 0, .string ⟨#[]⟩] 28))) := A0
  have HV : Hid (DiskV w d a0 a1 a2) := h
  have t0 := BX.out.c0
  have t1 := BX.out.c1
  have t2 := BX.out.c2
  clear h A0
  by_cases hk : k.size ≤ 65536
  · have x0 : ¬ (65536 : Int) < (k.size : Int) := by omega
    have FA : Hid (∀ w : World, DiskV w d a0 a1 a2 → Calls Tryz.prog 23 #[.string k, .agg #[.slice a0 d.nb c0, .slice a1 d.nc c1, .slice a2 d.ns c2]] w fun e w' => e = .returned (.int .i64 cf) ∧ Below w.heap.size w w') := fun w h1 => l06Code_any k ⟨#[]⟩ d a0 a1 a2 c0 c1 c2 cf hf ⟨hk, by show 0 ≤ 65536; omega⟩ hs w h1
    rcases hr with ⟨h1, rfl, rfl, rfl⟩ | ⟨h1, h2, rfl, rfl, rfl⟩ | ⟨h1, h2, rfl, rfl, rfl⟩
    · have x1 : (code != 0) = true := by rw [bne_iff_ne]; exact h1
      clear hf h1 hs hk
      go_enter Tryz.func7, Tryz.ntmps7
      go_wp2_with fail
      clear t0 t1 t2
      generalize ((w.alloc (.cells #[.slice a0 d.nb c0, .slice a1 d.nc c1, .slice a2 d.ns c2] 33)).alloc (.cells #[.int .i64 0, .string ⟨#[]⟩] 28)) = v0 at *
      refine (FA.out _ (HV.out.below A1.out)).mono ?_
      rintro e v1 ⟨rfl, hb⟩
      replace A1 : Hid (Below w.heap.size w v1) := A1.out.trans (hb.mono A1.out.size)
      have Z1 := ZR.out.below hb
      have z0 := Z1.c0
      have z1 := Z1.c1
      have z2 := Z1.fr 0
      have z3 := Z1.fr 1
      clear hb Z1 ZR BX FA
      go_wp2
      exact retCell2 (b := w.heap.size + 1) (v := .agg #[.int .i64 0, .string ⟨#[]⟩]) Tryz.results7 rfl rfl (by go_simp) ⟨rfl, (A1.out.setCell (Nat.le_succ _) _).setCell (Nat.le_succ _) _⟩
    all_goals
      subst h1
      obtain ⟨k1, k2, k3⟩ := sfAns_zero hf
      have BT : Hid (∀ w : World, DiskV w d a0 a1 a2 → Calls Tryz.prog 24 #[.string k, .agg #[.slice a0 d.nb c0, .slice a1 d.nc c1, .slice a2 d.ns c2]] w fun e w' => e = .returned (.agg #[.int .i64 (bst k d 2).1, .string (bst k d 2).2]) ∧ Below w.heap.size w w') := fun w h1 => l06Open_any k d a0 a1 a2 c0 c1 c2 k1 k2 k3 w h1
      clear hf hs k1 k2 k3 hk
      generalize (bst k d 2).1 = BE at *
      generalize (bst k d 2).2 = BD at *
      go_enter Tryz.func7, Tryz.ntmps7
      go_wp2_with fail
      clear t0 t1 t2
      generalize ((w.alloc (.cells #[.slice a0 d.nb c0, .slice a1 d.nc c1, .slice a2 d.ns c2] 33)).alloc (.cells #[.int .i64 0, .string ⟨#[]⟩] 28)) = v0 at *
      refine (FA.out _ (HV.out.below A1.out)).mono ?_
      rintro e v1 ⟨rfl, hb⟩
      replace A1 : Hid (Below w.heap.size w v1) := A1.out.trans (hb.mono A1.out.size)
      replace ZR : Hid (Sl2 (w.heap.size + 1) 0 ⟨#[]⟩ v1) := ZR.out.below hb
      replace BX : Hid (Box3 v1 w.heap.size 33 (.slice a0 d.nb c0) (.slice a1 d.nc c1) (.slice a2 d.ns c2)) := BX.out.below hb
      have t0 := BX.out.c0
      have t1 := BX.out.c1
      have t2 := BX.out.c2
      clear hb FA
      go_wp2_with fail
      clear t0 t1 t2
      refine (BT.out _ (HV.out.below A1.out)).mono ?_
      rintro e v2 ⟨rfl, hb⟩
      replace A1 : Hid (Below w.heap.size w v2) := A1.out.trans (hb.mono A1.out.size)
      replace ZR : Hid (Sl2 (w.heap.size + 1) 0 ⟨#[]⟩ v2) := ZR.out.below hb
      have hb : Below v2.heap.size v2 (v2.alloc (.cells #[.int .i64 BE, .string BD] 28)) := (Below.refl _ _).alloc (Nat.le_refl _) _
      have Z1 := ZR.out.below hb
      have z0 := Z1.c0
      have z1 := Z1.c1
      have z2 := Z1.fr 0
      have z3 := Z1.fr 1
      have B5 : Hid (Below w.heap.size w (v2.alloc (.cells #[.int .i64 BE, .string BD] 28))) := A1.out.trans (hb.mono A1.out.size)
      clear hb Z1 ZR BX BT A1
    · have y1 : (BE == 0) = true := by rw [beq_iff_eq]; exact h2
      clear h2
      go_wp2
      exact retCell2 (b := w.heap.size + 1) (v := .agg #[.int .i64 0, .string ⟨#[]⟩]) Tryz.results7 rfl rfl (by go_simp) ⟨rfl, (B5.out.setCell (Nat.le_succ _) _).setCell (Nat.le_succ _) _⟩
    · have y1 : (BE == 0) = false := by rw [beq_eq_false_iff_ne]; exact h2
      clear h2
      go_wp2
      exact retCell2 (b := w.heap.size + 1) (v := .agg #[.int .i64 BE, .string BD]) Tryz.results7 rfl rfl (by go_simp) ⟨rfl, (B5.out.setCell (Nat.le_succ _) _).setCell (Nat.le_succ _) _⟩
  · have x0 : (65536 : Int) < (k.size : Int) := by omega
    obtain ⟨rfl, rfl, rfl⟩ : E = 0 ∧ D = ⟨#[]⟩ ∧ code = 2 := by
      have h2 : cf = 2 := by
        rcases hf with ⟨_, h⟩ | ⟨h1, _⟩ | ⟨h1, _⟩ | ⟨h1, _⟩
        · exact h
        · omega
        · omega
        · omega
      subst h2
      rcases hr with ⟨_, h2, h3, h4⟩ | ⟨h1, _⟩ | ⟨h1, _⟩
      · exact ⟨h2, h3, h4⟩
      · cases h1
      · cases h1
    have z0 := ZR.out.c0
    have z1 := ZR.out.c1
    have z2 := ZR.out.fr 0
    have z3 := ZR.out.fr 1
    clear hr hf hk hs t0 t1 t2
    go_enter Tryz.func7, Tryz.ntmps7
    go_wp2
    first
      | exact retCell2 (b := w.heap.size + 1) (v := .agg #[.int .i64 0, .string ⟨#[]⟩]) Tryz.results7 rfl rfl (by go_simp) ⟨rfl, A1.out⟩
      | exact retCell2 (b := w.heap.size + 1) (v := .agg #[.int .i64 0, .string ⟨#[]⟩]) Tryz.results7 rfl rfl (by go_simp) ⟨rfl, (A1.out.setCell (Nat.le_succ _) _).setCell (Nat.le_succ _) _⟩
end Go.Proofs.YtbecnaabmlkjjabGreatDoor
namespace Go.Proofs.YtbecnaabmlkjjabGreatDoor
open Go.ChangeShapes Go.WideShapes Go.ChangeAt Go.RowKit
set_option maxRecDepth 100000 in
set_option maxHeartbeats 1000000 in
theorem szDisk_x (d : Dk) (a0 a1 a2 : Option Addr) (c0 c1 c2 : Nat) (x : Int) (x0 : 0 ≤ x) (x1 : x ≤ 1048576) (w : World) (h : DiskV w d a0 a1 a2) (l0 : d.nb ≤ maxLen) (l1 : d.nc ≤ maxLen) (l2 : d.ns ≤ maxLen) (m0 : ∀ i, i < d.nb → (d.B i).size ≤ maxLen) (m1 : ∀ i, i < d.nc → (d.D i).size ≤ maxLen) (m2 : ∀ i, i < d.ns → (d.S i).size ≤ maxLen) :
    Calls Tryz.prog 6 #[.agg #[.slice a0 d.nb c0, .slice a1 d.nc c1, .slice a2 d.ns c2], .int .i64 x] w fun e w' => (∃ y : Int, e = .returned (.int .i64 y) ∧ y ≤ 1048576 ∧ (0 ≤ y → d.nb ≤ 1048576 ∧ d.nc ≤ 1048576 ∧ d.ns ≤ 1048576)) ∧ Below w.heap.size w w' := by
  have S0 : Hid (∀ (x : Int) (w : World), 0 ≤ x → x ≤ 1048576 → Strs w a0 d.nb d.B → Calls Tryz.prog 21 #[.slice a0 d.nb c0, .int .i64 x] w fun e w' => (∃ y : Int, e = .returned (.int .i64 y) ∧ y ≤ 1048576 ∧ (0 ≤ y → d.nb ≤ 1048576)) ∧ w = w') := fun x w hx hx' h => szStringS_any a0 d.nb c0 d.B x w h hx hx' l0 m0
  have S1 : Hid (∀ (x : Int) (w : World), 0 ≤ x → x ≤ 1048576 → Pens w a1 d.nc d.A d.D → Calls Tryz.prog 22 #[.slice a1 d.nc c1, .int .i64 x] w fun e w' => (∃ y : Int, e = .returned (.int .i64 y) ∧ y ≤ 1048576 ∧ (0 ≤ y → d.nc ≤ 1048576)) ∧ Below w.heap.size w w') := fun x w hx hx' h => szPendingS_any a1 d.nc c1 d.A d.D x w h hx hx' l1 m1
  have S2 : Hid (∀ (x : Int) (w : World), 0 ≤ x → x ≤ 1048576 → Strs w a2 d.ns d.S → Calls Tryz.prog 21 #[.slice a2 d.ns c2, .int .i64 x] w fun e w' => (∃ y : Int, e = .returned (.int .i64 y) ∧ y ≤ 1048576 ∧ (0 ≤ y → d.ns ≤ 1048576)) ∧ w = w') := fun x w hx hx' h => szStringS_any a2 d.ns c2 d.S x w h hx hx' l2 m2
  have HD : Hid (DiskV w d a0 a1 a2) := h
  clear h l0 l1 l2 m0 m1 m2
  have A1 : Hid (Below w.heap.size w (w.alloc (.cells #[.slice a0 d.nb c0, .slice a1 d.nc c1, .slice a2 d.ns c2] 25))) := (Below.refl w.heap.size w).alloc (Nat.le_refl _) _
  have RA : Hid (Box3 (w.alloc (.cells #[.slice a0 d.nb c0, .slice a1 d.nc c1, .slice a2 d.ns c2] 25)) w.heap.size 25 (.slice a0 d.nb c0) (.slice a1 d.nc c1) (.slice a2 d.ns c2)) := Box3.made w _ _ _ _
  go_enter Tryz.func6, Tryz.ntmps6
  go_wp2_with fail
  generalize (w.alloc (.cells #[.slice a0 d.nb c0, .slice a1 d.nc c1, .slice a2 d.ns c2] 25)) = v at *
  refine (S0.out _ _ (by omega) (by omega) (HD.out.1.below A1.out)).mono ?_
  rintro e w1 ⟨⟨y0, rfl, hy0, hz0⟩, rfl⟩
  have Z0 : Hid (0 ≤ y0 → d.nb ≤ 1048576) := hz0
  have k1 := RA.out.c1
  clear hz0 S0
  by_cases p0 : y0 < 0
  · go_wp2
    go_ret
    exact ⟨⟨-1, rfl, by omega, by omega⟩, A1.out⟩
  · have q0 : ¬ y0 < 0 := p0
    go_wp2_with fail
    refine (S1.out _ _ (by omega) (by omega) (HD.out.2.1.below A1.out)).mono ?_
    rintro e w2 ⟨⟨y1, rfl, hy1, hz1⟩, hb⟩
    have Z1 : Hid (0 ≤ y1 → d.nc ≤ 1048576) := hz1
    replace A1 : Hid (Below w.heap.size w w2) := A1.out.trans (hb.mono A1.out.size)
    replace RA : Hid (Box3 w2 w.heap.size 25 (.slice a0 d.nb c0) (.slice a1 d.nc c1) (.slice a2 d.ns c2)) := RA.out.below hb
    have k2 := RA.out.c2
    clear hz1 S1 hb k1
    by_cases p1 : y1 < 0
    · go_wp2
      go_ret
      exact ⟨⟨-1, rfl, by omega, by omega⟩, A1.out⟩
    · have q1 : ¬ y1 < 0 := p1
      go_wp2_with fail
      refine (S2.out _ _ (by omega) (by omega) (HD.out.2.2.below A1.out)).mono ?_
      rintro e w3 ⟨⟨y2, rfl, hy2, hz2⟩, rfl⟩
      have Z2 : Hid (0 ≤ y2 → d.ns ≤ 1048576) := hz2
      clear hz2 S2
      by_cases p2 : y2 < 0
      · go_wp2
        go_ret
        exact ⟨⟨-1, rfl, by omega, by omega⟩, A1.out⟩
      · have q2 : ¬ y2 < 0 := p2
        go_wp2
        go_ret
        exact ⟨⟨y2, rfl, hy2, fun _ => ⟨Z0.out (by omega), Z1.out (by omega), Z2.out (by omega)⟩⟩, A1.out⟩
end Go.Proofs.YtbecnaabmlkjjabGreatDoor
namespace Go.Proofs.YtbecnaabmlkjjabGreatDoor
open Go.ChangeShapes Go.WideShapes Go.ChangeAt Go.RowKit
set_option linter.unusedVariables false
set_option maxRecDepth 100000 in
set_option maxHeartbeats 8000000 in
theorem law_openSlots (k : ByteArray) (d : Dk) (a0 a1 a2 : Option Addr) (c0 c1 c2 : Nat) (l0 : d.nb ≤ maxLen) (l1 : d.nc ≤ maxLen) (l2 : d.ns ≤ maxLen) (m0 : ∀ i, i < d.nb → (d.B i).size ≤ maxLen) (m1 : ∀ i, i < d.nc → (d.D i).size ≤ maxLen) (m2 : ∀ i, i < d.ns → (d.S i).size ≤ maxLen) (p0 p1 : Addr) (w : World) (h : DiskV w d a0 a1 a2) (hE0 : ErrAt w 3 p0) (hE1 : ErrAt w 4 p1) (ht : Tabs w) :
    Calls Tryz.prog 3 #[.string k, .agg #[.slice a0 d.nb c0, .slice a1 d.nc c1, .slice a2 d.ns c2]] w fun e w' => e = .returned (.bool true) ∧ Below w.heap.size w w' := by
  have A1 : Hid (Below w.heap.size w (w.alloc (.cells #[.slice a0 d.nb c0, .slice a1 d.nc c1, .slice a2 d.ns c2] 25))) := (Below.refl _ _).alloc (Nat.le_refl _) _
  by_cases hk : k.size ≤ 1048576
  rotate_left
  · have x1 : (1048576 : Int) < (k.size : Int) := by omega
    clear h hE0 hE1 ht l0 l1 l2 m0 m1 m2
    go_enter Tryz.func3, Tryz.ntmps3
    go_wp2
    go_ret
    exact ⟨rfl, A1.out⟩
  have x1 : ¬ (1048576 : Int) < (k.size : Int) := by omega
  have SZ1 : Hid (∀ (x : Int) (w : World), 0 ≤ x → x ≤ 1048576 → DiskV w d a0 a1 a2 → Calls Tryz.prog 6 #[.agg #[.slice a0 d.nb c0, .slice a1 d.nc c1, .slice a2 d.ns c2], .int .i64 x] w fun e w' => (∃ y : Int, e = .returned (.int .i64 y) ∧ y ≤ 1048576 ∧ (0 ≤ y → d.nb ≤ 1048576 ∧ d.nc ≤ 1048576 ∧ d.ns ≤ 1048576)) ∧ Below w.heap.size w w') := fun x w hx hx' h => szDisk_x d a0 a1 a2 c0 c1 c2 x hx hx' w h l0 l1 l2 m0 m1 m2
  have HX : Hid (DiskV w d a0 a1 a2) := h
  have HE : Hid (ErrAt w 3 p0 ∧ ErrAt w 4 p1) := ⟨hE0, hE1⟩
  have HT : Hid (Tabs w) := ht
  clear h hE0 hE1 ht l0 l1 l2 m0 m1 m2 hk
  have RA : Hid (Box3 (w.alloc (.cells #[.slice a0 d.nb c0, .slice a1 d.nc c1, .slice a2 d.ns c2] 25)) w.heap.size 25 (.slice a0 d.nb c0) (.slice a1 d.nc c1) (.slice a2 d.ns c2)) := Box3.made _ _ _ _ _
  have j0 := RA.out.c0
  have j1 := RA.out.c1
  have j2 := RA.out.c2
  go_enter Tryz.func3, Tryz.ntmps3
  go_wp2_with fail
  clear j0 j1 j2
  generalize (w.alloc (.cells #[.slice a0 d.nb c0, .slice a1 d.nc c1, .slice a2 d.ns c2] 25)) = v1 at *
  refine (SZ1.out _ _ (by omega) (by omega) (HX.out.below A1.out)).mono ?_
  rintro e v2 ⟨⟨y, rfl, hy, hy2⟩, hb⟩
  replace A1 : Hid (Below w.heap.size w v2) := A1.out.trans (hb.mono A1.out.size)
  replace RA : Hid (Box3 v2 w.heap.size 25 (.slice a0 d.nb c0) (.slice a1 d.nc c1) (.slice a2 d.ns c2)) := RA.out.below hb
  clear hb SZ1
  by_cases hy0 : y < 0
  · clear hy2
    go_wp2
    go_ret
    exact ⟨rfl, A1.out⟩
  obtain ⟨h0, h1, h2⟩ := hy2 (by omega)
  clear hy2
  obtain ⟨E, D, code, hr⟩ := osAns_ex k d
  have TD : Hid (∀ w : World, DiskV w d a0 a1 a2 → Calls Tryz.prog 8 #[.agg #[.slice a0 d.nb c0, .slice a1 d.nc c1, .slice a2 d.ns c2]] w fun e w' => (∃ g0 g1 g2, e = .returned (.agg #[.slice (some ⟨g0, 0, none⟩) d.nb d.nb, .slice (some ⟨g1, 0, none⟩) d.nc d.nc, .slice (some ⟨g2, 0, none⟩) d.ns d.ns]) ∧ DiskV w' d (some ⟨g0, 0, none⟩) (some ⟨g1, 0, none⟩) (some ⟨g2, 0, none⟩)) ∧ Below w.heap.size w w') := fun w h => (toDisk_any d a0 a1 a2 c0 c1 c2 w h h0 h1 h2).mono fun e w' ⟨⟨g0, g1, g2, _, _, _, he, r0, r1, r2⟩, hb⟩ => ⟨⟨g0, g1, g2, he, diskV_of_rows r0 r1 r2⟩, hb⟩
  have SO : Hid (∀ (w : World) (x0 x1 x2 : Nat), DiskV w d (some ⟨x0, 0, none⟩) (some ⟨x1, 0, none⟩) (some ⟨x2, 0, none⟩) → Calls Tryz.prog 7 #[.string k, .agg #[.slice (some ⟨x0, 0, none⟩) d.nb d.nb, .slice (some ⟨x1, 0, none⟩) d.nc d.nc, .slice (some ⟨x2, 0, none⟩) d.ns d.ns]] w fun e w' => e = .returned (.tuple #[.agg #[.int .i64 E, .string D], .int .i64 code]) ∧ Below w.heap.size w w') := fun w x0 x1 x2 h => specOpenSlots_any k d _ _ _ _ _ _ E D code hr ⟨h0, h1, h2⟩ w h
  have IY : Hid (∀ (w : World) (x0 x1 x2 : Nat), DiskV w d (some ⟨x0, 0, none⟩) (some ⟨x1, 0, none⟩) (some ⟨x2, 0, none⟩) → ErrAt w 3 p0 → ErrAt w 4 p1 → Tabs w → Calls Tryz.prog 9 #[.string k, .agg #[.slice (some ⟨x0, 0, none⟩) d.nb d.nb, .slice (some ⟨x1, 0, none⟩) d.nc d.nc, .slice (some ⟨x2, 0, none⟩) d.ns d.ns]] w fun e w' => e = .returned (.tuple #[.agg #[.int .i64 E, .string D], .int .i64 code]) ∧ Below w.heap.size w w') := fun w x0 x1 x2 h h1' h2' h3' => implOpenSlots_any k d _ _ _ _ _ _ E D code hr ⟨h0, h1, h2⟩ p0 p1 w h h1' h2' h3'
  have EQ : Hid (∀ w : World, Calls Tryz.prog 10 #[.agg #[.int .i64 E, .string D], .agg #[.int .i64 E, .string D]] w fun e w' => e = .returned (.bool true) ∧ Below w.heap.size w w') := fun w => eqSlot_yes E D w
  have ED : Hid (∀ (w : World) (x0 x1 x2 y0 y1 y2 : Option Addr), DiskV w d x0 x1 x2 → DiskV w d y0 y1 y2 → Calls Tryz.prog 11 #[.agg #[.slice x0 d.nb d.nb, .slice x1 d.nc d.nc, .slice x2 d.ns d.ns], .agg #[.slice y0 d.nb d.nb, .slice y1 d.nc d.nc, .slice y2 d.ns d.ns]] w fun e w' => e = .returned (.bool true) ∧ Below w.heap.size w w') := fun w x0 x1 x2 y0 y1 y2 h h' => eqDisk_yes d d x0 x1 x2 y0 y1 y2 _ _ _ _ _ _ w h h' rfl rfl rfl (fun _ _ => rfl) (fun _ _ => ⟨rfl, rfl⟩) (fun _ _ => rfl) h0 h1 h2
  have er : (code != code) = false := by simp
  clear hr h0 h1 h2 hy
  have j0 := RA.out.c0
  have j1 := RA.out.c1
  have j2 := RA.out.c2
  go_wp2_with fail
  clear j0 j1 j2
  clear hy0
  refine (TD.out _ (HX.out.below A1.out)).mono ?_
  rintro e v3 ⟨⟨f0, f1, f2, rfl, rd⟩, hb⟩
  replace A1 : Hid (Below w.heap.size w v3) := A1.out.trans (hb.mono A1.out.size)
  replace RA : Hid (Box3 v3 w.heap.size 25 (.slice a0 d.nb c0) (.slice a1 d.nc c1) (.slice a2 d.ns c2)) := RA.out.below hb
  have V1 : Hid (DiskV v3 d (some ⟨f0, 0, none⟩) (some ⟨f1, 0, none⟩) (some ⟨f2, 0, none⟩)) := rd
  clear hb rd
  go_wp2_with fail
  refine (SO.out _ _ _ _ V1.out).mono ?_
  rintro e v4 ⟨rfl, hb⟩
  replace A1 : Hid (Below w.heap.size w v4) := A1.out.trans (hb.mono A1.out.size)
  replace RA : Hid (Box3 v4 w.heap.size 25 (.slice a0 d.nb c0) (.slice a1 d.nc c1) (.slice a2 d.ns c2)) := RA.out.below hb
  replace V1 : Hid (DiskV v4 d (some ⟨f0, 0, none⟩) (some ⟨f1, 0, none⟩) (some ⟨f2, 0, none⟩)) := V1.out.below hb
  clear hb SO
  clear V1
  have hb : Below v4.heap.size v4 (v4.alloc (.cells #[.int .i64 E, .string D] 28)) := (Below.refl _ _).alloc (Nat.le_refl _) _
  have S0 : Hid (Sl2 v4.heap.size E D (v4.alloc (.cells #[.int .i64 E, .string D] 28))) := Sl2.made _ _ _ _
  have vis0 := (RA.out.below hb).c0
  have vis1 := (RA.out.below hb).c1
  have vis2 := (RA.out.below hb).c2
  go_wp2_with fail
  generalize (v4.alloc (.cells #[.int .i64 E, .string D] 28)) = v5 at *
  replace A1 : Hid (Below w.heap.size w v5) := A1.out.trans (hb.mono A1.out.size)
  replace RA : Hid (Box3 v5 w.heap.size 25 (.slice a0 d.nb c0) (.slice a1 d.nc c1) (.slice a2 d.ns c2)) := RA.out.below hb
  clear hb vis0 vis1 vis2
  obtain ⟨sb, hsb⟩ : ∃ bx, bx = v4.heap.size := ⟨_, rfl⟩
  rw [← hsb] at S0 ⊢
  clear hsb
  refine (TD.out _ (HX.out.below A1.out)).mono ?_
  rintro e v6 ⟨⟨x0, x1', x2, rfl, rd⟩, hb⟩
  replace A1 : Hid (Below w.heap.size w v6) := A1.out.trans (hb.mono A1.out.size)
  replace RA : Hid (Box3 v6 w.heap.size 25 (.slice a0 d.nb c0) (.slice a1 d.nc c1) (.slice a2 d.ns c2)) := RA.out.below hb
  replace S0 : Hid (Sl2 sb E D v6) := S0.out.below hb
  have VX : Hid (DiskV v6 d (some ⟨x0, 0, none⟩) (some ⟨x1', 0, none⟩) (some ⟨x2, 0, none⟩)) := rd
  clear hb rd
  have hb : Below v6.heap.size v6 (v6.alloc (.cells #[.slice (some ⟨x0, 0, none⟩) d.nb d.nb, .slice (some ⟨x1', 0, none⟩) d.nc d.nc, .slice (some ⟨x2, 0, none⟩) d.ns d.ns] 33)) := (Below.refl _ _).alloc (Nat.le_refl _) _
  have X0 : Hid (Box3 (v6.alloc (.cells #[.slice (some ⟨x0, 0, none⟩) d.nb d.nb, .slice (some ⟨x1', 0, none⟩) d.nc d.nc, .slice (some ⟨x2, 0, none⟩) d.ns d.ns] 33)) v6.heap.size 33 (.slice (some ⟨x0, 0, none⟩) d.nb d.nb) (.slice (some ⟨x1', 0, none⟩) d.nc d.nc) (.slice (some ⟨x2, 0, none⟩) d.ns d.ns)) := Box3.made _ _ _ _ _
  go_wp2_with fail
  generalize (v6.alloc (.cells #[.slice (some ⟨x0, 0, none⟩) d.nb d.nb, .slice (some ⟨x1', 0, none⟩) d.nc d.nc, .slice (some ⟨x2, 0, none⟩) d.ns d.ns] 33)) = v7 at *
  replace A1 : Hid (Below w.heap.size w v7) := A1.out.trans (hb.mono A1.out.size)
  replace RA : Hid (Box3 v7 w.heap.size 25 (.slice a0 d.nb c0) (.slice a1 d.nc c1) (.slice a2 d.ns c2)) := RA.out.below hb
  replace S0 : Hid (Sl2 sb E D v7) := S0.out.below hb
  replace VX : Hid (DiskV v7 d (some ⟨x0, 0, none⟩) (some ⟨x1', 0, none⟩) (some ⟨x2, 0, none⟩)) := VX.out.below hb
  clear hb 
  obtain ⟨bx, hbx⟩ : ∃ bx, bx = v6.heap.size := ⟨_, rfl⟩
  rw [← hbx] at X0 ⊢
  clear hbx
  refine (IY.out _ _ _ _ VX.out (HE.out.1.below A1.out) (HE.out.2.below A1.out) (HT.out.below A1.out)).mono ?_
  rintro e v8 ⟨rfl, hb⟩
  replace A1 : Hid (Below w.heap.size w v8) := A1.out.trans (hb.mono A1.out.size)
  replace RA : Hid (Box3 v8 w.heap.size 25 (.slice a0 d.nb c0) (.slice a1 d.nc c1) (.slice a2 d.ns c2)) := RA.out.below hb
  replace S0 : Hid (Sl2 sb E D v8) := S0.out.below hb
  replace VX : Hid (DiskV v8 d (some ⟨x0, 0, none⟩) (some ⟨x1', 0, none⟩) (some ⟨x2, 0, none⟩)) := VX.out.below hb
  replace X0 : Hid (Box3 v8 bx 33 (.slice (some ⟨x0, 0, none⟩) d.nb d.nb) (.slice (some ⟨x1', 0, none⟩) d.nc d.nc) (.slice (some ⟨x2, 0, none⟩) d.ns d.ns)) := X0.out.below hb
  clear hb IY HT HE
  have hb : Below v8.heap.size v8 (v8.alloc (.cells #[.int .i64 E, .string D] 28)) := (Below.refl _ _).alloc (Nat.le_refl _) _
  have S1 : Hid (Sl2 v8.heap.size E D (v8.alloc (.cells #[.int .i64 E, .string D] 28))) := Sl2.made _ _ _ _
  have vis0 := (S0.out.below hb).c0
  have vis1 := (S0.out.below hb).c1
  go_wp2_with fail
  generalize (v8.alloc (.cells #[.int .i64 E, .string D] 28)) = v9 at *
  replace A1 : Hid (Below w.heap.size w v9) := A1.out.trans (hb.mono A1.out.size)
  replace RA : Hid (Box3 v9 w.heap.size 25 (.slice a0 d.nb c0) (.slice a1 d.nc c1) (.slice a2 d.ns c2)) := RA.out.below hb
  replace S0 : Hid (Sl2 sb E D v9) := S0.out.below hb
  replace VX : Hid (DiskV v9 d (some ⟨x0, 0, none⟩) (some ⟨x1', 0, none⟩) (some ⟨x2, 0, none⟩)) := VX.out.below hb
  replace X0 : Hid (Box3 v9 bx 33 (.slice (some ⟨x0, 0, none⟩) d.nb d.nb) (.slice (some ⟨x1', 0, none⟩) d.nc d.nc) (.slice (some ⟨x2, 0, none⟩) d.ns d.ns)) := X0.out.below hb
  clear hb vis0 vis1
  obtain ⟨sc, hsc⟩ : ∃ bx, bx = v8.heap.size := ⟨_, rfl⟩
  rw [← hsc] at S1 ⊢
  clear hsc
  refine (EQ.out _).mono ?_
  rintro e v10 ⟨rfl, hb⟩
  replace A1 : Hid (Below w.heap.size w v10) := A1.out.trans (hb.mono A1.out.size)
  replace RA : Hid (Box3 v10 w.heap.size 25 (.slice a0 d.nb c0) (.slice a1 d.nc c1) (.slice a2 d.ns c2)) := RA.out.below hb
  replace S0 : Hid (Sl2 sb E D v10) := S0.out.below hb
  replace VX : Hid (DiskV v10 d (some ⟨x0, 0, none⟩) (some ⟨x1', 0, none⟩) (some ⟨x2, 0, none⟩)) := VX.out.below hb
  replace X0 : Hid (Box3 v10 bx 33 (.slice (some ⟨x0, 0, none⟩) d.nb d.nb) (.slice (some ⟨x1', 0, none⟩) d.nc d.nc) (.slice (some ⟨x2, 0, none⟩) d.ns d.ns)) := X0.out.below hb
  replace S1 : Hid (Sl2 sc E D v10) := S1.out.below hb
  clear hb EQ
  have s0 := X0.out.c0
  have s1 := X0.out.c1
  have s2 := X0.out.c2
  have j0 := RA.out.c0
  have j1 := RA.out.c1
  have j2 := RA.out.c2
  go_wp2_with fail
  clear s0 s1 s2 j0 j1 j2
  have hb : Below v10.heap.size v10 v10.drew := (Below.refl _ _).drew
  have H : (Box3 v10.drew w.heap.size 25 (.slice a0 d.nb c0) (.slice a1 d.nc c1) (.slice a2 d.ns c2)) ∧ (Box3 v10.drew bx 33 (.slice (some ⟨x0, 0, none⟩) d.nb d.nb) (.slice (some ⟨x1', 0, none⟩) d.nc d.nc) (.slice (some ⟨x2, 0, none⟩) d.ns d.ns)) := ⟨RA.out.below hb, X0.out.below hb⟩
  replace A1 : Hid (Below w.heap.size w v10.drew) := A1.out.trans (hb.mono A1.out.size)
  replace S0 : Hid (Sl2 sb E D v10.drew) := S0.out.below hb
  replace VX : Hid (DiskV v10.drew d (some ⟨x0, 0, none⟩) (some ⟨x1', 0, none⟩) (some ⟨x2, 0, none⟩)) := VX.out.below hb
  replace S1 : Hid (Sl2 sc E D v10.drew) := S1.out.below hb
  clear hb RA X0
  refine wp_region_noPanic ?_
  refine wp_region_held_drew (S := fun w' => (Box3 w' w.heap.size 25 (.slice a0 d.nb c0) (.slice a1 d.nc c1) (.slice a2 d.ns c2)) ∧ (Box3 w' bx 33 (.slice (some ⟨x0, 0, none⟩) d.nb d.nb) (.slice (some ⟨x1', 0, none⟩) d.nc d.nc) (.slice (some ⟨x2, 0, none⟩) d.ns d.ns))) (by kernel_rfl) H (fun _ => ?_)
  generalize v10.drew = v11 at *
  refine wpAnyH_take (i := 0) (v := .agg #[.slice (some ⟨x0, 0, none⟩) d.nb d.nb, .slice (some ⟨x1', 0, none⟩) d.nc d.nc, .slice (some ⟨x2, 0, none⟩) d.ns d.ns]) rfl (by kernel_rfl) (by kernel_rfl) (by kernel_rfl) (fun _ _ _ h => h) (Or.inl ⟨by rfl, ?_⟩) H ?_
  · intro w' hSw; have t0 := hSw.2.c0; have t1 := hSw.2.c1; have t2 := hSw.2.c2; clear hSw; go_simp
  change wpAnyH _ _ _ _ _ _ _ { tmps := #[_, _, _, _, _, _, _, _, _, _, _, _, _, _, _, _, _, _, _, _, _, _, _, _, _, _, _, _, _, _, _, _, _, _, _, _, _, _, _, _, _, _, _, _, _, _, _, _], defers := _ } _
  refine wpAnyH_take (i := 1) (v := .agg #[.slice a0 d.nb c0, .slice a1 d.nc c1, .slice a2 d.ns c2]) rfl (by kernel_rfl) (by kernel_rfl) (by kernel_rfl) (fun _ _ _ h => h) (Or.inl ⟨by rfl, ?_⟩) H ?_
  · intro w' hSw; have t0 := hSw.1.c0; have t1 := hSw.1.c1; have t2 := hSw.1.c2; clear hSw; go_simp
  change wpAnyH _ _ _ _ _ _ _ { tmps := #[_, _, _, _, _, _, _, _, _, _, _, _, _, _, _, _, _, _, _, _, _, _, _, _, _, _, _, _, _, _, _, _, _, _, _, _, _, _, _, _, _, _, _, _, _, _, _, _], defers := _ } _
  refine wpAnyH_ready (rs := [2]) (by kernel_rfl) (by simp) ?_
  refine AllReadyH.cons rfl (fun KK hK => ?_) AllReadyH.nil
  go_simp
  refine (TD.out _ (HX.out.below A1.out)).mono ?_
  rintro e v12 ⟨⟨m0, m1, m2, rfl, rd⟩, hb⟩
  replace A1 : Hid (Below w.heap.size w v12) := A1.out.trans (hb.mono A1.out.size)
  replace S0 : Hid (Sl2 sb E D v12) := S0.out.below hb
  replace VX : Hid (DiskV v12 d (some ⟨x0, 0, none⟩) (some ⟨x1', 0, none⟩) (some ⟨x2, 0, none⟩)) := VX.out.below hb
  replace S1 : Hid (Sl2 sc E D v12) := S1.out.below hb
  replace H : (Box3 v12 w.heap.size 25 (.slice a0 d.nb c0) (.slice a1 d.nc c1) (.slice a2 d.ns c2)) ∧ (Box3 v12 bx 33 (.slice (some ⟨x0, 0, none⟩) d.nb d.nb) (.slice (some ⟨x1', 0, none⟩) d.nc d.nc) (.slice (some ⟨x2, 0, none⟩) d.ns d.ns)) := ⟨H.1.below hb, H.2.below hb⟩
  have V3 : Hid (DiskV v12 d (some ⟨m0, 0, none⟩) (some ⟨m1, 0, none⟩) (some ⟨m2, 0, none⟩)) := rd
  clear hb rd
  refine hK.out _ _ H (fun _ => ?_)
  clear hK KK
  change wpAnyH _ _ _ _ _ _ _ { tmps := #[_, _, _, _, _, _, _, _, _, _, _, _, _, _, _, _, _, _, _, _, _, _, _, _, _, _, _, _, _, _, _, _, _, _, _, _, _, _, _, _, _, _, _, _, _, _, _, _], defers := _ } _
  refine wpAnyH_ready (rs := [3]) (by kernel_rfl) (by simp) ?_
  refine AllReadyH.cons rfl (fun KK hK => ?_) AllReadyH.nil
  go_simp
  refine (ED.out _ _ _ _ _ _ _ VX.out V3.out).mono ?_
  rintro e v13 ⟨rfl, hb⟩
  replace A1 : Hid (Below w.heap.size w v13) := A1.out.trans (hb.mono A1.out.size)
  replace S0 : Hid (Sl2 sb E D v13) := S0.out.below hb
  replace VX : Hid (DiskV v13 d (some ⟨x0, 0, none⟩) (some ⟨x1', 0, none⟩) (some ⟨x2, 0, none⟩)) := VX.out.below hb
  replace S1 : Hid (Sl2 sc E D v13) := S1.out.below hb
  replace V3 : Hid (DiskV v13 d (some ⟨m0, 0, none⟩) (some ⟨m1, 0, none⟩) (some ⟨m2, 0, none⟩)) := V3.out.below hb
  replace H : (Box3 v13 w.heap.size 25 (.slice a0 d.nb c0) (.slice a1 d.nc c1) (.slice a2 d.ns c2)) ∧ (Box3 v13 bx 33 (.slice (some ⟨x0, 0, none⟩) d.nb d.nb) (.slice (some ⟨x1', 0, none⟩) d.nc d.nc) (.slice (some ⟨x2, 0, none⟩) d.ns d.ns)) := ⟨H.1.below hb, H.2.below hb⟩
  clear hb 
  refine hK.out _ _ H (fun _ => ?_)
  clear hK KK
  change wpAnyH _ _ _ _ _ _ _ { tmps := #[_, _, _, _, _, _, _, _, _, _, _, _, _, _, _, _, _, _, _, _, _, _, _, _, _, _, _, _, _, _, _, _, _, _, _, _, _, _, _, _, _, _, _, _, _, _, _, _], defers := _ } _
  refine wpAnyH_take (i := 4) (v := .bool false) rfl (by kernel_rfl) (by kernel_rfl) (by kernel_rfl) (fun _ _ _ h => h) (Or.inl ⟨by rfl, ?_⟩) H ?_
  · intro w' hSw; go_simp
  change wpAnyH _ _ _ _ _ _ _ { tmps := #[_, _, _, _, _, _, _, _, _, _, _, _, _, _, _, _, _, _, _, _, _, _, _, _, _, _, _, _, _, _, _, _, _, _, _, _, _, _, _, _, _, _, _, _, _, _, _, _], defers := _ } _
  have RA : Hid (Box3 v13 w.heap.size 25 (.slice a0 d.nb c0) (.slice a1 d.nc c1) (.slice a2 d.ns c2)) := H.1
  have X0 : Hid (Box3 v13 bx 33 (.slice (some ⟨x0, 0, none⟩) d.nb d.nb) (.slice (some ⟨x1', 0, none⟩) d.nc d.nc) (.slice (some ⟨x2, 0, none⟩) d.ns d.ns)) := H.2
  clear H
  refine wpAnyH_done (by kernel_rfl) ?_ _
  refine NoPanic.normal ?_
  clear TD ED
  go_wp2
  go_ret
  exact ⟨rfl, A1.out⟩
end Go.Proofs.YtbecnaabmlkjjabGreatDoor
