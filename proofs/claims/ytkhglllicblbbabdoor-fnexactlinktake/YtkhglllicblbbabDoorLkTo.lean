/-
  Links in the laws: copied, sized, compared, marked and held.
-/
import Derived.Test.YtkhglllicblbbabDoorBoolB
import Derived.Test.YtkhglllicblbbabDoorBox4
import Derived.Test.YtkhglllicblbbabDoorRetCell
namespace Go.Proofs.YtkhglllicblbbabDoor
open Go.ChangeShapes Go.WideShapes Go.ChangeAt Go.RowKit
set_option linter.unusedVariables false
set_option maxRecDepth 100000 in
set_option maxHeartbeats 2000000 in
theorem toLink_any (K : ByteArray) (se to : Int) (a : Option Addr) (n c : Nat) (f : Nat → Bool) (hn : n ≤ 1048576) (w : World) (h : Bools w a n f) :
    Calls Tryd.prog 10 #[.agg #[.string K, .int .i64 se, .int .i64 to, .slice a n c]] w fun e w' => e = .returned (.agg #[.string K, .int .i64 se, .int .i64 to, .slice (some ⟨w.heap.size + 3, 0, none⟩) n n]) ∧ w'.rowIs (w.heap.size + 3) 4 n (fun i => .bool (f i)) ∧ Below w.heap.size w w' := by
  obtain ⟨W3, hW3⟩ : ∃ W3, W3 = (((w.alloc (.cells #[.string K, .int .i64 se, .int .i64 to, .slice a n c] 27)).alloc (.cells #[.string ⟨#[]⟩, .int .i64 0, .int .i64 0, .slice none 0 0] 29)).alloc (.cells #[.string K, .int .i64 se, .int .i64 to, .slice none 0 0] 29)) := ⟨_, rfl⟩
  have A1 : Below w.heap.size w W3 := by rw [hW3]; exact (((Below.refl w.heap.size w).alloc (Nat.le_refl _) _).alloc (by simp) _).alloc (by simp; omega) _
  have G0 : W3.heap.size = w.heap.size + 3 := by rw [hW3]; simp
  have CC : Hid (Calls Tryd.prog 27 #[.slice a n c] W3 fun e w' => e = .returned (.slice (some ⟨w.heap.size + 3, 0, none⟩) n n) ∧ w'.rowIs (w.heap.size + 3) 4 n (fun i => .bool (f i)) ∧ Below W3.heap.size W3 w') := by
    have q := toBoolS_any a n c f W3 (h.below A1) hn
    rw [G0] at q
    rw [G0]
    exact q
  have X0 : Hid (Box4 W3 (w.heap.size + 2) 29 (.string K) (.int .i64 se) (.int .i64 to) (.slice none 0 0)) := by rw [hW3]; exact Box4.madeAt (by simp) _ _ _ _ _
  have Y0 : Hid (Box4 W3 (w.heap.size + 1) 29 (.string ⟨#[]⟩) (.int .i64 0) (.int .i64 0) (.slice none 0 0)) := by rw [hW3]; exact (Box4.madeAt (by simp) _ _ _ _ _).alloc _
  have AA1 : Hid (Below w.heap.size w W3) := A1
  have HW : Hid (W3 = _) := hW3
  clear h A1 hW3 G0
  go_enter Tryd.func10, Tryd.ntmps10
  go_wp2_with fail
  rw [← HW.out]
  clear HW
  refine (Calls.mono CC.out) ?_
  rintro e w1 ⟨rfl, hr, hb⟩
  have X1 := X0.out.below hb
  have Y1 := Y0.out.below hb
  have m0 := X1.c0
  have m1 := X1.c1
  have m2 := X1.c2
  have m3 := X1.c3
  have p3 := X1.fr 3
  have n0 := Y1.c0
  have n1 := Y1.c1
  have n2 := Y1.c2
  have n3 := Y1.c3
  have f0 := Y1.fr 0
  have f1 := Y1.fr 1
  have f2 := Y1.fr 2
  have f3 := Y1.fr 3
  have B1 : Below w.heap.size w w1 := AA1.out.trans (hb.mono AA1.out.size)
  obtain ⟨U1, hU1⟩ : ∃ U1, U1 = w1.setCell ⟨w.heap.size + 2, 3, none⟩ (.slice (some ⟨w.heap.size + 3, 0, none⟩) n n) := ⟨_, rfl⟩
  obtain ⟨U5, hU5⟩ : ∃ U5, U5 = (((U1.setCell ⟨w.heap.size + 1, 0, none⟩ (.string K)).setCell ⟨w.heap.size + 1, 1, none⟩ (.int .i64 se)).setCell ⟨w.heap.size + 1, 2, none⟩ (.int .i64 to)).setCell ⟨w.heap.size + 1, 3, none⟩ (.slice (some ⟨w.heap.size + 3, 0, none⟩) n n) := ⟨_, rfl⟩
  have O1 : OnlyB (w.heap.size + 2) w1 U1 := by rw [hU1]; exact (OnlyB.refl _ w1).setCell 3 _
  have O2 : OnlyB (w.heap.size + 1) U1 U5 := by rw [hU5]; exact ((((OnlyB.refl _ _).setCell 0 _).setCell 1 _).setCell 2 _).setCell 3 _
  have Y5 : Hid (Box4 U5 (w.heap.size + 1) 29 (.string K) (.int .i64 se) (.int .i64 to) (.slice (some ⟨w.heap.size + 3, 0, none⟩) n n)) := by rw [hU5]; exact ((((Y1.ofBlock (O1.block _ Y1.lt (by omega))).set0 _).set1 _).set2 _).set3 _
  have R5 : Hid (U5.rowIs (w.heap.size + 3) 4 n (fun i => .bool (f i))) := World.rowIs.of_block (World.rowIs.of_block hr (O1.block _ (World.rowIs.lt hr) (by omega))) (O2.block _ (Nat.lt_of_lt_of_le (World.rowIs.lt hr) O1.size) (by omega))
  have B5 : Hid (Below w.heap.size w U5) := by
    have q1 := B1.trans (O1.toBelow (B := w.heap.size) (by omega) B1.size)
    exact q1.trans (O2.toBelow (B := w.heap.size) (by omega) q1.size)
  have HU : Hid (U5 = ((((w1.setCell ⟨w.heap.size + 2, 3, none⟩ (.slice (some ⟨w.heap.size + 3, 0, none⟩) n n)).setCell ⟨w.heap.size + 1, 0, none⟩ (.string K)).setCell ⟨w.heap.size + 1, 1, none⟩ (.int .i64 se)).setCell ⟨w.heap.size + 1, 2, none⟩ (.int .i64 to)).setCell ⟨w.heap.size + 1, 3, none⟩ (.slice (some ⟨w.heap.size + 3, 0, none⟩) n n)) := by rw [hU5, hU1]; exact rfl
  clear O1 O2 B1 X1 Y1 hr hb X0 Y0 AA1 CC hU1 hU5
  go_wp2
  rw [← HU.out]
  clear HU m0 m1 m2 m3 p3 n0 n1 n2 n3 f0 f1 f2 f3
  have y0 := Y5.out.c0
  have y1 := Y5.out.c1
  have y2 := Y5.out.c2
  have y3 := Y5.out.c3
  exact ret_cell (b := w.heap.size + 1) (v := .agg #[.string K, .int .i64 se, .int .i64 to, .slice (some ⟨w.heap.size + 3, 0, none⟩) n n]) Tryd.results10 rfl (by go_simp) ⟨rfl, R5.out, B5.out⟩
set_option maxRecDepth 100000 in
set_option maxHeartbeats 2000000 in
theorem szLink_x (K : ByteArray) (se to : Int) (a : Option Addr) (n c : Nat) (w : World) (hn : n ≤ maxLen) (hs : K.size ≤ maxLen) :
    Calls Tryd.prog 8 #[.agg #[.string K, .int .i64 se, .int .i64 to, .slice a n c], .int .i64 1048576] w fun e w' => (∃ y : Int, e = .returned (.int .i64 y) ∧ y ≤ 1048576 ∧ (0 ≤ y → n ≤ 1048576 ∧ K.size ≤ 1048576)) ∧ Below w.heap.size w w' := by
  have A1 : Hid (Below w.heap.size w (w.alloc (.cells #[.string K, .int .i64 se, .int .i64 to, .slice a n c] 27))) := (Below.refl _ _).alloc (Nat.le_refl _) _
  have SB : Hid (∀ (y : Int) (w : World), 0 ≤ y → y ≤ 1048576 → Calls Tryd.prog 24 #[.slice a n c, .int .i64 y] w fun e w' => (∃ y : Int, e = .returned (.int .i64 y) ∧ y ≤ 1048576 ∧ (0 ≤ y → n ≤ 1048576)) ∧ w = w') := fun y w h1 h2 => szBoolS_x a n c y w h1 h2 hn
  unfold maxLen at hs
  clear hn
  by_cases h0 : (K.size : Int) ≤ 1048576
  · have e0 : ¬ 1048576 - (K.size : Int) < 0 := by omega
    go_enter Tryd.func8, Tryd.ntmps8
    go_wp2_with fail
    refine (SB.out _ _ (by omega) (by omega)).mono ?_
    rintro e w1 ⟨⟨y, rfl, hy1, hy2⟩, rfl⟩
    have HY : Hid (0 ≤ y → n ≤ 1048576 ∧ K.size ≤ 1048576) := fun h => ⟨hy2 h, by omega⟩
    clear hy2
    by_cases h1 : y < 0
    · go_wp2
      go_ret
      exact ⟨⟨-1, rfl, by omega, fun h => by omega⟩, A1.out⟩
    · go_wp2
      go_ret
      exact ⟨⟨_, rfl, hy1, HY.out⟩, A1.out⟩
  · have e0 : 1048576 - (K.size : Int) < 0 := by omega
    go_enter Tryd.func8, Tryd.ntmps8
    go_wp2
    go_ret
    exact ⟨⟨-1, rfl, by omega, fun h => by omega⟩, A1.out⟩
set_option maxRecDepth 100000 in
set_option maxHeartbeats 2000000 in
theorem eqLink_yes (K : ByteArray) (se to : Int) (a b : Option Addr) (n c d : Nat) (f : Nat → Bool) (hn : n ≤ 1048576) (w : World) (h : Bools w a n f) (h' : Bools w b n f) :
    Calls Tryd.prog 12 #[.agg #[.string K, .int .i64 se, .int .i64 to, .slice a n c], .agg #[.string K, .int .i64 se, .int .i64 to, .slice b n d]] w fun e w' => e = .returned (.bool true) ∧ Below w.heap.size w w' := by
  obtain ⟨W2, hW2⟩ : ∃ W2, W2 = ((w.alloc (.cells #[.string K, .int .i64 se, .int .i64 to, .slice a n c] 29)).alloc (.cells #[.string K, .int .i64 se, .int .i64 to, .slice b n d] 29)) := ⟨_, rfl⟩
  have A1 : Below w.heap.size w W2 := by rw [hW2]; exact ((Below.refl w.heap.size w).alloc (Nat.le_refl _) _).alloc (by simp) _
  have CC : Hid (Calls Tryd.prog 30 #[.slice a n c, .slice b n d] W2 fun e w' => e = .returned (.bool true) ∧ ∃ q, w' = W2.drewN q) := eqBoolS_yes a b n c d f f W2 (h.below A1) (h'.below A1) (fun _ _ => rfl) hn
  have AA1 : Hid (Below w.heap.size w W2) := A1
  have HW : Hid (W2 = _) := hW2
  have k2 : (se == se) = true := by simp
  have k3 : (to == to) = true := by simp
  clear h h' A1 hW2
  go_enter Tryd.func12, Tryd.ntmps12
  go_wp2_with fail
  rw [← HW.out]
  clear HW
  refine (Calls.mono CC.out) ?_
  rintro e w1 ⟨rfl, q, rfl⟩
  clear CC
  go_wp2
  go_ret
  exact ⟨rfl, ⟨AA1.out.os, AA1.out.tape, AA1.out.output, AA1.out.size, AA1.out.block⟩⟩
end Go.Proofs.YtkhglllicblbbabDoor
