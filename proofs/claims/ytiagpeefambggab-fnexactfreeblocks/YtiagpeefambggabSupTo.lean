/-
  The laws' own helpers on supers: copies, sizes, comparison, marks.
-/
import Derived.Test.YtiagpeefambggabPlaceS
import Derived.Test.YtiagpeefambggabBox3
namespace Go.Proofs.Ytiagpeefambggab
open Go.ChangeShapes Go.WideShapes Go.ChangeAt Go.RowKit
set_option linter.unusedVariables false
theorem Box3.loadSup {w : World} {b : Nat} {x y z : Value} (h : Box3 w b 31 x y z) : (loadVar 31 ⟨b, 0, none⟩).run Try.prog w = .ok (.agg #[x, y, z]) w := by
  have h0 := h.c0
  have h1 := h.c1
  have h2 := h.c2
  go_simp
set_option maxRecDepth 100000 in
set_option maxHeartbeats 1000000 in
/-- laws.toSuper: a super in new memory that holds the same. -/
theorem toSuper_any (z : Int) (a : Option Addr) (n c : Nat) (P : Nat → Plc) (r : ByteArray) (hn : n ≤ 1048576) (w : World) (h : Els w 2 a n (pcF P)) :
    Calls Try.prog 6 #[.agg #[.int .i64 z, .slice a n c, .string r]] w fun e w' => (∃ g, e = .returned (.agg #[.int .i64 z, .slice (some ⟨g, 0, none⟩) n n, .string r]) ∧ RowE w' 2 (some ⟨g, 0, none⟩) g n (pcF P) ∧ w.heap.size ≤ g ∧ g < w'.heap.size) ∧ Below w.heap.size w w' := by
  have T0 : Hid (∀ w : World, Els w 2 a n (pcF P) → Calls Try.prog 17 #[.slice a n c] w fun e w' => e = .returned (.slice (some ⟨w.heap.size, 0, none⟩) n n) ∧ RowE w' 2 (some ⟨w.heap.size, 0, none⟩) w.heap.size n (pcF P) ∧ w.heap.size < w'.heap.size ∧ Below w.heap.size w w') := fun w h => toPlaceS_any a n c P w h hn
  have HD : Hid (Els w 2 a n (pcF P)) := h
  clear h hn
  have A1 : Hid (Below w.heap.size w (((w.alloc (.cells #[.int .i64 z, .slice a n c, .string r] 24)).alloc (.cells #[.int .i64 0, .slice none 0 0, .string ⟨#[]⟩] 31)).alloc (.cells #[.int .i64 z, .slice none 0 0, .string ⟨#[]⟩] 31))) := (((Below.refl w.heap.size w).alloc (Nat.le_refl _) _).alloc (by simp) _).alloc (by simp; omega) _
  have RA : Hid (Box3 (((w.alloc (.cells #[.int .i64 z, .slice a n c, .string r] 24)).alloc (.cells #[.int .i64 0, .slice none 0 0, .string ⟨#[]⟩] 31)).alloc (.cells #[.int .i64 z, .slice none 0 0, .string ⟨#[]⟩] 31)) w.heap.size 24 (.int .i64 z) (.slice a n c) (.string r)) := ((Box3.made w _ _ _ _).alloc _).alloc _
  have RB : Hid (Box3 (((w.alloc (.cells #[.int .i64 z, .slice a n c, .string r] 24)).alloc (.cells #[.int .i64 0, .slice none 0 0, .string ⟨#[]⟩] 31)).alloc (.cells #[.int .i64 z, .slice none 0 0, .string ⟨#[]⟩] 31)) (w.heap.size + 1) 31 (.int .i64 0) (.slice none 0 0) (.string ⟨#[]⟩)) := (Box3.madeAt (by simp) _ _ _ _).alloc _
  have RC : Hid (Box3 (((w.alloc (.cells #[.int .i64 z, .slice a n c, .string r] 24)).alloc (.cells #[.int .i64 0, .slice none 0 0, .string ⟨#[]⟩] 31)).alloc (.cells #[.int .i64 z, .slice none 0 0, .string ⟨#[]⟩] 31)) (w.heap.size + 1 + 1) 31 (.int .i64 z) (.slice none 0 0) (.string ⟨#[]⟩)) := Box3.madeAt (by simp) _ _ _ _
  have SZ : Hid (w.heap.size + 1 + 1 < (((w.alloc (.cells #[.int .i64 z, .slice a n c, .string r] 24)).alloc (.cells #[.int .i64 0, .slice none 0 0, .string ⟨#[]⟩] 31)).alloc (.cells #[.int .i64 z, .slice none 0 0, .string ⟨#[]⟩] 31)).heap.size) := by show _ < _; simp
  go_enter Try.func6, Try.ntmps6
  go_wp2_with fail
  generalize (((w.alloc (.cells #[.int .i64 z, .slice a n c, .string r] 24)).alloc (.cells #[.int .i64 0, .slice none 0 0, .string ⟨#[]⟩] 31)).alloc (.cells #[.int .i64 z, .slice none 0 0, .string ⟨#[]⟩] 31)) = v at *
  refine (T0.out _ (HD.out.below A1.out)).mono ?_
  rintro e w1 ⟨rfl, hr0, hl0, hb⟩
  replace A1 : Hid (Below w.heap.size w w1) := A1.out.trans (hb.mono A1.out.size)
  replace RA : Hid (Box3 w1 w.heap.size 24 (.int .i64 z) (.slice a n c) (.string r)) := RA.out.below hb
  replace RB : Hid (Box3 w1 (w.heap.size + 1) 31 (.int .i64 0) (.slice none 0 0) (.string ⟨#[]⟩)) := RB.out.below hb
  replace RC : Hid (Box3 w1 (w.heap.size + 1 + 1) 31 (.int .i64 z) (.slice none 0 0) (.string ⟨#[]⟩)) := RC.out.below hb
  have E0 : Hid (RowE w1 2 (some ⟨v.heap.size, 0, none⟩) v.heap.size n (pcF P)) := hr0
  have L0 : Hid (v.heap.size < w1.heap.size) := hl0
  clear hb hr0 hl0 T0
  obtain ⟨g0, hg0⟩ : ∃ g, g = v.heap.size := ⟨_, rfl⟩
  rw [← hg0] at E0 L0 SZ ⊢
  clear hg0
  have k0 := RC.out.c0
  have k1 := RC.out.c1
  have k2 := RC.out.c2
  have k3 := RC.out.fr 0
  have k4 := RC.out.fr 1
  have k5 := RC.out.fr 2
  have k6 := RA.out.c2
  have l0 := RB.out.c0
  have l1 := RB.out.c1
  have l2 := RB.out.c2
  have l3 := RB.out.fr 0
  have l4 := RB.out.fr 1
  have l5 := RB.out.fr 2
  have sz := SZ.out
  have h1 := L0.out
  go_wp2
  have FR : RowE (((((w1.setCell ⟨w.heap.size + 1 + 1, 1, none⟩ (.slice (some ⟨g0, 0, none⟩) n n)).setCell ⟨w.heap.size + 1 + 1, 2, none⟩ (.string r)).setCell ⟨w.heap.size + 1, 0, none⟩ (.int .i64 z)).setCell ⟨w.heap.size + 1, 1, none⟩ (.slice (some ⟨g0, 0, none⟩) n n)).setCell ⟨w.heap.size + 1, 2, none⟩ (.string r)) 2 (some ⟨g0, 0, none⟩) g0 n (pcF P) :=
    ((((E0.out.setOther (fun _ => by show g0 ≠ w.heap.size + 1 + 1; omega) _).setOther (fun _ => by show g0 ≠ w.heap.size + 1 + 1; omega) _).setOther (fun _ => by show g0 ≠ w.heap.size + 1; omega) _).setOther (fun _ => by show g0 ≠ w.heap.size + 1; omega) _).setOther (fun _ => by show g0 ≠ w.heap.size + 1; omega) _
  have FB : Box3 (((((w1.setCell ⟨w.heap.size + 1 + 1, 1, none⟩ (.slice (some ⟨g0, 0, none⟩) n n)).setCell ⟨w.heap.size + 1 + 1, 2, none⟩ (.string r)).setCell ⟨w.heap.size + 1, 0, none⟩ (.int .i64 z)).setCell ⟨w.heap.size + 1, 1, none⟩ (.slice (some ⟨g0, 0, none⟩) n n)).setCell ⟨w.heap.size + 1, 2, none⟩ (.string r)) (w.heap.size + 1) 31 (.int .i64 z) (.slice (some ⟨g0, 0, none⟩) n n) (.string r) := ((((RB.out.other (by simp) _).other (by simp) _).set0 _).set1 _).set2 _
  have FA : Below w.heap.size w (((((w1.setCell ⟨w.heap.size + 1 + 1, 1, none⟩ (.slice (some ⟨g0, 0, none⟩) n n)).setCell ⟨w.heap.size + 1 + 1, 2, none⟩ (.string r)).setCell ⟨w.heap.size + 1, 0, none⟩ (.int .i64 z)).setCell ⟨w.heap.size + 1, 1, none⟩ (.slice (some ⟨g0, 0, none⟩) n n)).setCell ⟨w.heap.size + 1, 2, none⟩ (.string r)) := ((((A1.out.setCell (by simp; omega) _).setCell (by simp; omega) _).setCell (by simp) _).setCell (by simp) _).setCell (by simp) _
  exact ret_cell (b := w.heap.size + 1) Try.results6 rfl FB.loadSup ⟨⟨g0, rfl, FR, by omega, by simpa using h1⟩, FA⟩
set_option maxRecDepth 100000 in
set_option maxHeartbeats 1000000 in
theorem szSuper_any (z : Int) (a : Option Addr) (n c : Nat) (r : ByteArray) (hn : n ≤ maxLen) (hr : r.size ≤ maxLen) (w : World) :
    Calls Try.prog 4 #[.agg #[.int .i64 z, .slice a n c, .string r], .int .i64 1048576] w fun e w' => (∃ y : Int, e = .returned (.int .i64 y) ∧ (0 ≤ y → n ≤ 1048576 ∧ r.size ≤ 1048576)) ∧ Below w.heap.size w w' := by
  have S0 : Hid (∀ w : World, Calls Try.prog 13 #[.slice a n c, .int .i64 1048576] w fun e w' => (∃ y : Int, e = .returned (.int .i64 y) ∧ y ≤ 1048576 ∧ (0 ≤ y → n ≤ 1048576)) ∧ Below w.heap.size w w') := fun w => szPlaceS_any a n c 1048576 w (by omega) (by omega) hn
  have A1 : Hid (Below w.heap.size w (w.alloc (.cells #[.int .i64 z, .slice a n c, .string r] 24))) := (Below.refl w.heap.size w).alloc (Nat.le_refl _) _
  have RA : Hid (Box3 (w.alloc (.cells #[.int .i64 z, .slice a n c, .string r] 24)) w.heap.size 24 (.int .i64 z) (.slice a n c) (.string r)) := Box3.made w _ _ _ _
  unfold maxLen at hr
  clear hn
  go_enter Try.func4, Try.ntmps4
  go_wp2_with fail
  generalize (w.alloc (.cells #[.int .i64 z, .slice a n c, .string r] 24)) = v at *
  refine (S0.out _).mono ?_
  rintro e w1 ⟨⟨y0, rfl, hy0, hz0⟩, hb⟩
  replace A1 : Hid (Below w.heap.size w w1) := A1.out.trans (hb.mono A1.out.size)
  have k1 := (RA.out.below hb).c2
  have Z0 : Hid (0 ≤ y0 → n ≤ 1048576) := hz0
  clear hz0 S0 hb RA
  by_cases p0 : y0 < 0
  · go_wp2
    go_ret
    exact ⟨⟨-1, rfl, by omega⟩, A1.out⟩
  · have x2 : IntKind.i64.wrap (y0 - (r.size : Int)) = y0 - (r.size : Int) := IntWalk.i64_in _ (by omega)
    by_cases p1 : y0 - (r.size : Int) < 0
    · go_wp2
      go_ret
      exact ⟨⟨-1, rfl, by omega⟩, A1.out⟩
    · have HX : Hid (n ≤ 1048576 ∧ r.size ≤ 1048576) := ⟨Z0.out (by omega), by omega⟩
      clear Z0 hy0 hr
      go_wp2
      go_ret
      exact ⟨⟨_, rfl, fun _ => HX.out⟩, A1.out⟩
set_option maxRecDepth 100000 in
set_option maxHeartbeats 1000000 in
theorem eqSuper_yes (z : Int) (a b : Option Addr) (n c d : Nat) (P : Nat → Plc) (r : ByteArray) (hn : n ≤ 1048576) (w : World) (h : Els w 2 a n (pcF P)) (h' : Els w 2 b n (pcF P)) :
    Calls Try.prog 9 #[.agg #[.int .i64 z, .slice a n c, .string r], .agg #[.int .i64 z, .slice b n d, .string r]] w fun e w' => e = .returned (.bool true) ∧ Below w.heap.size w w' := by
  have Q0 : Hid (∀ w : World, Els w 2 a n (pcF P) → Els w 2 b n (pcF P) → Calls Try.prog 20 #[.slice a n c, .slice b n d] w fun e w' => e = .returned (.bool true) ∧ Below w.heap.size w w') := fun w k k' => eqPlaceS_yes a b n c d P w k k' hn
  have HX : Hid (Els w 2 a n (pcF P)) := h
  have HY : Hid (Els w 2 b n (pcF P)) := h'
  have zz : (z != z) = false := by simp
  clear h h' hn
  have A1 : Hid (Below w.heap.size w ((w.alloc (.cells #[.int .i64 z, .slice a n c, .string r] 31)).alloc (.cells #[.int .i64 z, .slice b n d, .string r] 31))) := ((Below.refl w.heap.size w).alloc (Nat.le_refl _) _).alloc (by simp) _
  have RA : Hid (Box3 ((w.alloc (.cells #[.int .i64 z, .slice a n c, .string r] 31)).alloc (.cells #[.int .i64 z, .slice b n d, .string r] 31)) w.heap.size 31 (.int .i64 z) (.slice a n c) (.string r)) := (Box3.made w _ _ _ _).alloc _
  have RB : Hid (Box3 ((w.alloc (.cells #[.int .i64 z, .slice a n c, .string r] 31)).alloc (.cells #[.int .i64 z, .slice b n d, .string r] 31)) (w.heap.size + 1) 31 (.int .i64 z) (.slice b n d) (.string r)) := Box3.madeAt (by simp) _ _ _ _
  have k0 := RA.out.c0
  have k1 := RA.out.c1
  have l0 := RB.out.c0
  have l1 := RB.out.c1
  go_enter Try.func9, Try.ntmps9
  go_wp2_with fail
  clear k0 k1 l0 l1
  generalize ((w.alloc (.cells #[.int .i64 z, .slice a n c, .string r] 31)).alloc (.cells #[.int .i64 z, .slice b n d, .string r] 31)) = v at *
  refine (Q0.out _ (HX.out.below A1.out) (HY.out.below A1.out)).mono ?_
  rintro e w1 ⟨rfl, hb⟩
  replace A1 : Hid (Below w.heap.size w w1) := A1.out.trans (hb.mono A1.out.size)
  have k2 := (RA.out.below hb).c2
  have l2 := (RB.out.below hb).c2
  clear Q0 hb RA RB
  go_wp2
  go_ret
  exact ⟨rfl, A1.out⟩
set_option maxRecDepth 100000 in
set_option maxHeartbeats 1000000 in
theorem markSuper_any (z : Int) (a : Option Addr) (g n c k : Nat) (P : Nat → Plc) (r : ByteArray) (hk : 1 ≤ k) (hn : k + 2 * n ≤ 10000000) (w : World) (h : RowE w 2 a g n (pcF P)) :
    Calls Try.prog 10 #[.agg #[.int .i64 z, .slice a n c, .string r], .int .i64 (k : Int)] w fun e w' => (e = .returned (.int .i64 ((k + 2 * n : Nat) : Int)) ∧ RowE w' 2 a g n (pcF (pcM k))) ∧ TurnedE g n w w' := by
  have M0 : Hid (∀ w : World, RowE w 2 a g n (pcF P) → Calls Try.prog 21 #[.slice a n c, .int .i64 (k : Int)] w fun e w' => e = .returned (.int .i64 ((k + 2 * n : Nat) : Int)) ∧ RowE w' 2 a g n (pcF (pcM k)) ∧ TurnedE g n w w') := fun w h => markPlaceK a g n c k P hk hn w h
  have hb : Below w.heap.size w (w.alloc (.cells #[.int .i64 z, .slice a n c, .string r] 31)) := (Below.refl w.heap.size w).alloc (Nat.le_refl _) _
  have R0 : Hid (RowE (w.alloc (.cells #[.int .i64 z, .slice a n c, .string r] 31)) 2 a g n (pcF P)) := h.below (by omega) hb
  have HB : Hid (Below w.heap.size w (w.alloc (.cells #[.int .i64 z, .slice a n c, .string r] 31))) := hb
  clear h hb hk hn
  generalize ((k + 2 * n : Nat) : Int) = K2 at *
  go_enter Try.func10, Try.ntmps10
  go_wp2_with fail
  generalize (w.alloc (.cells #[.int .i64 z, .slice a n c, .string r] 31)) = v at *
  refine (M0.out _ R0.out).mono ?_
  rintro e w1 ⟨rfl, hr, ho⟩
  have HR : Hid (RowE w1 2 a g n (pcF (pcM k))) := hr
  have HT : Hid (TurnedE g n w w1) := ⟨⟨ho.1.os.trans HB.out.os, ho.1.tape.trans HB.out.tape, ho.1.output.trans HB.out.output, Nat.le_trans HB.out.size ho.1.size, fun b q hne => (ho.1.block b (Nat.lt_of_lt_of_le q HB.out.size) hne).trans (HB.out.block b q)⟩, fun e => HB.out.trans ((ho.2 e).mono HB.out.size)⟩
  clear hr ho M0 R0 HB
  go_wp2
  go_ret
  exact ⟨⟨rfl, HR.out⟩, HT.out⟩
end Go.Proofs.Ytiagpeefambggab
