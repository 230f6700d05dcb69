/-
  The laws' own helpers on banks: copies of what came in, whether it is small, whether two are alike, marks.
-/
import Derived.Test.YtfhjenohgafjlabDoorBankOk
namespace Go.Proofs.YtfhjenohgafjlabDoor
open Go.ChangeShapes Go.WideShapes Go.ChangeAt Go.RowKit
set_option linter.unusedVariables false
/-- A bank's rows lie in blocks g0 and g1 from their heads on and may be written. -/
structure RowB (w : World) (b : Bk) (a0 a1 : Option Addr) (g0 g1 : Nat) : Prop where
  s0 : RowE w 3 a0 g0 b.nr (rgF b.R)
  s1 : RowE w 4 a1 g1 b.ns (seF b.S)
  ne : 0 < b.nr → 0 < b.ns → g0 ≠ g1
theorem RowB.bankV {w : World} {b : Bk} {a0 a1 : Option Addr} {g0 g1 : Nat} (h : RowB w b a0 a1 g0 g1) : BankV w b a0 a1 := ⟨h.s0.els, h.s1.els⟩
theorem RowB.below {w w' : World} {b : Bk} {a0 a1 : Option Addr} {g0 g1 : Nat} (h : RowB w b a0 a1 g0 g1) (hb : Below w.heap.size w w') : RowB w' b a0 a1 g0 g1 := ⟨h.s0.below (by omega) hb, h.s1.below (by omega) hb, h.ne⟩
theorem Box2.loadB {w : World} {b : Nat} {x y : Value} (h : Box2 w b 34 x y) : (loadVar 34 ⟨b, 0, none⟩).run Tryd.prog w = .ok (.agg #[x, y]) w := by
  have h0 := h.c0
  have h1 := h.c1
  go_simp
set_option maxRecDepth 100000 in
set_option maxHeartbeats 1000000 in
/-- laws.toBank: a bank in new memory that holds the same. -/
theorem toBank_any (d : Bk) (a0 a1 : Option Addr) (c0 c1 : Nat) (w : World) (h : BankV w d a0 a1) (h0 : d.nr ≤ 1048576) (h1 : d.ns ≤ 1048576) :
    Calls Tryd.prog 7 #[.agg #[.slice a0 d.nr c0, .slice a1 d.ns c1]] w fun e w' => (∃ g0 g1, w.heap.size ≤ g0 ∧ g0 < g1 ∧ g1 < w'.heap.size ∧ e = .returned (.agg #[.slice (some ⟨g0, 0, none⟩) d.nr d.nr, .slice (some ⟨g1, 0, none⟩) d.ns d.ns]) ∧ RowB w' d (some ⟨g0, 0, none⟩) (some ⟨g1, 0, none⟩) g0 g1) ∧ Below w.heap.size w w' := by
  have T0 : Hid (∀ w : World, Els w 3 a0 d.nr (rgF d.R) → Calls Tryd.prog 21 #[.slice a0 d.nr c0] w fun e w' => e = .returned (.slice (some ⟨w.heap.size, 0, none⟩) d.nr d.nr) ∧ RowE w' 3 (some ⟨w.heap.size, 0, none⟩) w.heap.size d.nr (rgF d.R) ∧ w.heap.size < w'.heap.size ∧ Below w.heap.size w w') := fun w h => toRegisterS_any a0 d.nr c0 d.R w h h0
  have T1 : Hid (∀ w : World, Els w 4 a1 d.ns (seF d.S) → Calls Tryd.prog 22 #[.slice a1 d.ns c1] w fun e w' => e = .returned (.slice (some ⟨w.heap.size, 0, none⟩) d.ns d.ns) ∧ RowE w' 4 (some ⟨w.heap.size, 0, none⟩) w.heap.size d.ns (seF d.S) ∧ w.heap.size < w'.heap.size ∧ Below w.heap.size w w') := fun w h => toSessionS_any a1 d.ns c1 d.S w h h1
  have HD : Hid (BankV w d a0 a1) := h
  clear h h0 h1
  go_enter Tryd.func7, Tryd.ntmps7
  have A1 : Hid (Below w.heap.size w (((w.alloc (.cells #[.slice a0 d.nr c0, .slice a1 d.ns c1] 25)).alloc (.cells #[.slice none 0 0, .slice none 0 0] 34)).alloc (.cells #[.slice none 0 0, .slice none 0 0] 34))) := (((Below.refl w.heap.size w).alloc (Nat.le_refl _) _).alloc (by simp) _).alloc (by simp; omega) _
  have RA : Hid (Box2 (((w.alloc (.cells #[.slice a0 d.nr c0, .slice a1 d.ns c1] 25)).alloc (.cells #[.slice none 0 0, .slice none 0 0] 34)).alloc (.cells #[.slice none 0 0, .slice none 0 0] 34)) w.heap.size 25 (.slice a0 d.nr c0) (.slice a1 d.ns c1)) := ((Box2.made w _ _ _).alloc _).alloc _
  have RB : Hid (Box2 (((w.alloc (.cells #[.slice a0 d.nr c0, .slice a1 d.ns c1] 25)).alloc (.cells #[.slice none 0 0, .slice none 0 0] 34)).alloc (.cells #[.slice none 0 0, .slice none 0 0] 34)) (w.heap.size + 1) 34 (.slice none 0 0) (.slice none 0 0)) := (Box2.madeAt (by simp) _ _ _).alloc _
  have RC : Hid (Box2 (((w.alloc (.cells #[.slice a0 d.nr c0, .slice a1 d.ns c1] 25)).alloc (.cells #[.slice none 0 0, .slice none 0 0] 34)).alloc (.cells #[.slice none 0 0, .slice none 0 0] 34)) (w.heap.size + 1 + 1) 34 (.slice none 0 0) (.slice none 0 0)) := Box2.madeAt (by simp) _ _ _
  have SZ : Hid (w.heap.size + 1 + 1 < (((w.alloc (.cells #[.slice a0 d.nr c0, .slice a1 d.ns c1] 25)).alloc (.cells #[.slice none 0 0, .slice none 0 0] 34)).alloc (.cells #[.slice none 0 0, .slice none 0 0] 34)).heap.size) := by show _ < _; simp
  go_wp2_with fail
  generalize (((w.alloc (.cells #[.slice a0 d.nr c0, .slice a1 d.ns c1] 25)).alloc (.cells #[.slice none 0 0, .slice none 0 0] 34)).alloc (.cells #[.slice none 0 0, .slice none 0 0] 34)) = v at *
  refine (T0.out _ (HD.out.1.below A1.out)).mono ?_
  rintro e w1 ⟨rfl, hr0, hl0, hb⟩
  replace A1 : Hid (Below w.heap.size w w1) := A1.out.trans (hb.mono A1.out.size)
  replace RA : Hid (Box2 w1 w.heap.size 25 (.slice a0 d.nr c0) (.slice a1 d.ns c1)) := RA.out.below hb
  replace RB : Hid (Box2 w1 (w.heap.size + 1) 34 (.slice none 0 0) (.slice none 0 0)) := RB.out.below hb
  replace RC : Hid (Box2 w1 (w.heap.size + 1 + 1) 34 (.slice none 0 0) (.slice none 0 0)) := RC.out.below hb
  have E0 : Hid (RowE w1 3 (some ⟨v.heap.size, 0, none⟩) v.heap.size d.nr (rgF d.R)) := hr0
  have L0 : Hid (v.heap.size < w1.heap.size) := hl0
  clear hb hr0 hl0 T0
  obtain ⟨g0, hg0⟩ : ∃ g, g = v.heap.size := ⟨_, rfl⟩
  rw [← hg0] at E0 L0 SZ ⊢
  clear hg0
  have k0 := RC.out.c0
  have k1 := RC.out.fr 0
  have k2 := RA.out.c1
  go_wp2_with fail
  have N1 : Hid (Box2 (w1.setCell ⟨w.heap.size + 1 + 1, 0, none⟩ (.slice (some ⟨g0, 0, none⟩) d.nr d.nr)) (w.heap.size + 1 + 1) 34 (.slice (some ⟨g0, 0, none⟩) d.nr d.nr) (.slice none 0 0)) := RC.out.set0 _
  replace RB : Hid (Box2 (w1.setCell ⟨w.heap.size + 1 + 1, 0, none⟩ (.slice (some ⟨g0, 0, none⟩) d.nr d.nr)) (w.heap.size + 1) 34 (.slice none 0 0) (.slice none 0 0)) := RB.out.other (by simp) _
  have sz := SZ.out
  replace E0 : Hid (RowE (w1.setCell ⟨w.heap.size + 1 + 1, 0, none⟩ (.slice (some ⟨g0, 0, none⟩) d.nr d.nr)) 3 (some ⟨g0, 0, none⟩) g0 d.nr (rgF d.R)) := E0.out.setOther (fun _ => by show g0 ≠ w.heap.size + 1 + 1; omega) _
  replace A1 : Hid (Below w.heap.size w (w1.setCell ⟨w.heap.size + 1 + 1, 0, none⟩ (.slice (some ⟨g0, 0, none⟩) d.nr d.nr))) := A1.out.setCell (by simp; omega) _
  replace L0 : Hid (g0 < (w1.setCell ⟨w.heap.size + 1 + 1, 0, none⟩ (.slice (some ⟨g0, 0, none⟩) d.nr d.nr)).heap.size) := by have := L0.out; show _ < _; simpa using this
  clear sz
  generalize (w1.setCell ⟨w.heap.size + 1 + 1, 0, none⟩ (.slice (some ⟨g0, 0, none⟩) d.nr d.nr)) = v1 at *
  clear RC RA k0 k1 k2
  refine (T1.out _ (HD.out.2.below A1.out)).mono ?_
  rintro e w2 ⟨rfl, hr1, hl1, hb⟩
  replace A1 : Hid (Below w.heap.size w w2) := A1.out.trans (hb.mono A1.out.size)
  replace RB : Hid (Box2 w2 (w.heap.size + 1) 34 (.slice none 0 0) (.slice none 0 0)) := RB.out.below hb
  replace N1 : Hid (Box2 w2 (w.heap.size + 1 + 1) 34 (.slice (some ⟨g0, 0, none⟩) d.nr d.nr) (.slice none 0 0)) := N1.out.below hb
  replace E0 : Hid (RowE w2 3 (some ⟨g0, 0, none⟩) g0 d.nr (rgF d.R)) := E0.out.below (by omega) hb
  have E1 : Hid (RowE w2 4 (some ⟨v1.heap.size, 0, none⟩) v1.heap.size d.ns (seF d.S)) := hr1
  have L1 : Hid (v1.heap.size < w2.heap.size) := hl1
  clear hb hr1 hl1 T1
  obtain ⟨g1, hg1⟩ : ∃ g, g = v1.heap.size := ⟨_, rfl⟩
  rw [← hg1] at E1 L1 L0 ⊢
  clear hg1 HD
  have k0 := N1.out.c1
  have k1 := N1.out.fr 1
  have k3 := N1.out.c0
  have k5 := RB.out.c0
  have k6 := RB.out.c1
  have k8 := RB.out.fr 0
  have k9 := RB.out.fr 1
  go_wp2
  have sz := SZ.out
  have l0 := L0.out
  have FR : RowB (((w2.setCell ⟨w.heap.size + 1 + 1, 1, none⟩ (.slice (some ⟨g1, 0, none⟩) d.ns d.ns)).setCell ⟨w.heap.size + 1, 0, none⟩ (.slice (some ⟨g0, 0, none⟩) d.nr d.nr)).setCell ⟨w.heap.size + 1, 1, none⟩ (.slice (some ⟨g1, 0, none⟩) d.ns d.ns)) d (some ⟨g0, 0, none⟩) (some ⟨g1, 0, none⟩) g0 g1 :=
    ⟨((E0.out.setOther (fun _ => by show g0 ≠ w.heap.size + 1 + 1; omega) _).setOther (fun _ => by show g0 ≠ w.heap.size + 1; omega) _).setOther (fun _ => by show g0 ≠ w.heap.size + 1; omega) _, ((E1.out.setOther (fun _ => by show g1 ≠ w.heap.size + 1 + 1; omega) _).setOther (fun _ => by show g1 ≠ w.heap.size + 1; omega) _).setOther (fun _ => by show g1 ≠ w.heap.size + 1; omega) _, fun _ _ => by omega⟩
  have FB : Box2 (((w2.setCell ⟨w.heap.size + 1 + 1, 1, none⟩ (.slice (some ⟨g1, 0, none⟩) d.ns d.ns)).setCell ⟨w.heap.size + 1, 0, none⟩ (.slice (some ⟨g0, 0, none⟩) d.nr d.nr)).setCell ⟨w.heap.size + 1, 1, none⟩ (.slice (some ⟨g1, 0, none⟩) d.ns d.ns)) (w.heap.size + 1) 34 (.slice (some ⟨g0, 0, none⟩) d.nr d.nr) (.slice (some ⟨g1, 0, none⟩) d.ns d.ns) := ((RB.out.other (by simp) _).set0 _).set1 _
  have FA : Below w.heap.size w (((w2.setCell ⟨w.heap.size + 1 + 1, 1, none⟩ (.slice (some ⟨g1, 0, none⟩) d.ns d.ns)).setCell ⟨w.heap.size + 1, 0, none⟩ (.slice (some ⟨g0, 0, none⟩) d.nr d.nr)).setCell ⟨w.heap.size + 1, 1, none⟩ (.slice (some ⟨g1, 0, none⟩) d.ns d.ns)) := ((A1.out.setCell (by simp; omega) _).setCell (by simp) _).setCell (by simp) _
  exact ret_cell (b := w.heap.size + 1) Tryd.results7 rfl FB.loadB ⟨⟨g0, g1, by omega, by omega, by have := L1.out; simpa using this, rfl, FR⟩, FA⟩
set_option maxRecDepth 100000 in
set_option maxHeartbeats 1000000 in
/-- laws.szBank: what is left is less than nothing, or the bank is small. -/
theorem szBank_any (d : Bk) (a0 a1 : Option Addr) (c0 c1 : Nat) (w : World) (h : BankV w d a0 a1) (l0 : d.nr ≤ maxLen) (l1 : d.ns ≤ maxLen) (m0 : ∀ i, i < d.nr → (d.R i).r.size ≤ maxLen) :
    Calls Tryd.prog 5 #[.agg #[.slice a0 d.nr c0, .slice a1 d.ns c1], .int .i64 1048576] w fun e w' => (∃ y : Int, e = .returned (.int .i64 y) ∧ y ≤ 1048576 ∧ (0 ≤ y → d.nr ≤ 1048576 ∧ d.ns ≤ 1048576)) ∧ Below w.heap.size w w' := by
  have S0 : Hid (∀ (x : Int) (w : World), 0 ≤ x → x ≤ 1048576 → Els w 3 a0 d.nr (rgF d.R) → Calls Tryd.prog 17 #[.slice a0 d.nr c0, .int .i64 x] w fun e w' => (∃ y : Int, e = .returned (.int .i64 y) ∧ y ≤ 1048576 ∧ (0 ≤ y → d.nr ≤ 1048576)) ∧ Below w.heap.size w w') := fun x w hx hx' h => szRegisterS_any a0 d.nr c0 d.R x w h hx hx' l0 m0
  have S1 : Hid (∀ (x : Int) (w : World), 0 ≤ x → x ≤ 1048576 → Calls Tryd.prog 18 #[.slice a1 d.ns c1, .int .i64 x] w fun e w' => (∃ y : Int, e = .returned (.int .i64 y) ∧ y ≤ 1048576 ∧ (0 ≤ y → d.ns ≤ 1048576)) ∧ Below w.heap.size w w') := fun x w hx hx' => szSessionS_any a1 d.ns c1 x w hx hx' l1
  have HD : Hid (BankV w d a0 a1) := h
  clear h l0 l1 m0
  have A1 : Hid (Below w.heap.size w (w.alloc (.cells #[.slice a0 d.nr c0, .slice a1 d.ns c1] 25))) := (Below.refl w.heap.size w).alloc (Nat.le_refl _) _
  have RA : Hid (Box2 (w.alloc (.cells #[.slice a0 d.nr c0, .slice a1 d.ns c1] 25)) w.heap.size 25 (.slice a0 d.nr c0) (.slice a1 d.ns c1)) := Box2.made w _ _ _
  go_enter Tryd.func5, Tryd.ntmps5
  go_wp2_with fail
  generalize (w.alloc (.cells #[.slice a0 d.nr c0, .slice a1 d.ns c1] 25)) = v at *
  refine (S0.out _ _ (by omega) (by omega) (HD.out.1.below A1.out)).mono ?_
  rintro e w1 ⟨⟨y0, rfl, hy0, hz0⟩, hb⟩
  replace A1 : Hid (Below w.heap.size w w1) := A1.out.trans (hb.mono A1.out.size)
  have Z0 : Hid (0 ≤ y0 → d.nr ≤ 1048576) := hz0
  have k1 := (RA.out.below hb).c1
  clear hz0 S0 hb RA HD
  by_cases p0 : y0 < 0
  · go_wp2
    go_ret
    exact ⟨⟨-1, rfl, by omega, by omega⟩, A1.out⟩
  · go_wp2_with fail
    refine (S1.out _ _ (by omega) hy0).mono ?_
    rintro e w2 ⟨⟨y1, rfl, hy1, hz1⟩, hb⟩
    replace A1 : Hid (Below w.heap.size w w2) := A1.out.trans (hb.mono A1.out.size)
    have Z1 : Hid (0 ≤ y1 → d.ns ≤ 1048576) := hz1
    clear hz1 S1 hb k1
    by_cases p1 : y1 < 0
    · go_wp2
      go_ret
      exact ⟨⟨-1, rfl, by omega, by omega⟩, A1.out⟩
    · go_wp2
      go_ret
      exact ⟨⟨y1, rfl, by omega, fun q => ⟨Z0.out (by omega), Z1.out q⟩⟩, A1.out⟩
set_option maxRecDepth 100000 in
set_option maxHeartbeats 1000000 in
/-- laws.eqBank of two banks that hold the same. -/
theorem eqBank_yes (d : Bk) (a0 a1 b0 b1 : Option Addr) (c0 c1 d0 d1 : Nat) (w : World) (h : BankV w d a0 a1) (h' : BankV w d b0 b1) (l0 : d.nr ≤ 1048576) (l1 : d.ns ≤ 1048576) :
    Calls Tryd.prog 10 #[.agg #[.slice a0 d.nr c0, .slice a1 d.ns c1], .agg #[.slice b0 d.nr d0, .slice b1 d.ns d1]] w fun e w' => e = .returned (.bool true) ∧ Below w.heap.size w w' := by
  have Q0 : Hid (∀ w : World, Els w 3 a0 d.nr (rgF d.R) → Els w 3 b0 d.nr (rgF d.R) → Calls Tryd.prog 26 #[.slice a0 d.nr c0, .slice b0 d.nr d0] w fun e w' => e = .returned (.bool true) ∧ Below w.heap.size w w') := fun w k k' => eqRegisterS_yes a0 b0 d.nr c0 d0 d.R w k k' l0
  have Q1 : Hid (∀ w : World, Els w 4 a1 d.ns (seF d.S) → Els w 4 b1 d.ns (seF d.S) → Calls Tryd.prog 27 #[.slice a1 d.ns c1, .slice b1 d.ns d1] w fun e w' => e = .returned (.bool true) ∧ Below w.heap.size w w') := fun w k k' => eqSessionS_yes a1 b1 d.ns c1 d1 d.S w k k' l1
  have HX : Hid (BankV w d a0 a1) := h
  have HY : Hid (BankV w d b0 b1) := h'
  clear h h' l0 l1
  have A1 : Hid (Below w.heap.size w ((w.alloc (.cells #[.slice a0 d.nr c0, .slice a1 d.ns c1] 34)).alloc (.cells #[.slice b0 d.nr d0, .slice b1 d.ns d1] 34))) := ((Below.refl w.heap.size w).alloc (Nat.le_refl _) _).alloc (by simp) _
  have RA : Hid (Box2 ((w.alloc (.cells #[.slice a0 d.nr c0, .slice a1 d.ns c1] 34)).alloc (.cells #[.slice b0 d.nr d0, .slice b1 d.ns d1] 34)) w.heap.size 34 (.slice a0 d.nr c0) (.slice a1 d.ns c1)) := (Box2.made w _ _ _).alloc _
  have RB : Hid (Box2 ((w.alloc (.cells #[.slice a0 d.nr c0, .slice a1 d.ns c1] 34)).alloc (.cells #[.slice b0 d.nr d0, .slice b1 d.ns d1] 34)) (w.heap.size + 1) 34 (.slice b0 d.nr d0) (.slice b1 d.ns d1)) := Box2.madeAt (by simp) _ _ _
  go_enter Tryd.func10, Tryd.ntmps10
  go_wp2_with fail
  generalize ((w.alloc (.cells #[.slice a0 d.nr c0, .slice a1 d.ns c1] 34)).alloc (.cells #[.slice b0 d.nr d0, .slice b1 d.ns d1] 34)) = v at *
  refine (Q0.out _ (HX.out.1.below A1.out) (HY.out.1.below A1.out)).mono ?_
  rintro e w1 ⟨rfl, hb⟩
  replace A1 : Hid (Below w.heap.size w w1) := A1.out.trans (hb.mono A1.out.size)
  have k1 := (RA.out.below hb).c1
  have k2 := (RB.out.below hb).c1
  clear Q0 hb RA RB
  go_wp2_with fail
  refine (Q1.out _ (HX.out.2.below A1.out) (HY.out.2.below A1.out)).mono ?_
  rintro e w2 ⟨rfl, hb⟩
  replace A1 : Hid (Below w.heap.size w w2) := A1.out.trans (hb.mono A1.out.size)
  clear Q1 hb k1 k2
  go_wp2
  go_ret
  exact ⟨rfl, A1.out⟩
/-- What is marked from k on. -/
def Bk.marked (d : Bk) (k : Nat) : Bk := ⟨d.nr, rgM k, d.ns, seM (k + 3 * d.nr)⟩
/-- All but blocks g0 and g1 is as it was. -/
def KeepB (w w' : World) (d : Bk) (g0 g1 : Nat) : Prop := w.heap.size ≤ w'.heap.size ∧ ∀ b, b < w.heap.size → (0 < d.nr → b ≠ g0) → (0 < d.ns → b ≠ g1) → w'.heap[b]? = w.heap[b]?
set_option maxRecDepth 100000 in
set_option maxHeartbeats 1000000 in
theorem markBank_any (B : Nat) (d : Bk) (a0 a1 : Option Addr) (c0 c1 g0 g1 k : Nat) (hk : 1 ≤ k) (hn : k + 3 * d.nr + 4 * d.ns ≤ 10000000) (hB : (0 < d.nr → B ≤ g0) ∧ (0 < d.ns → B ≤ g1)) (w : World) (hw : B ≤ w.heap.size) (h : RowB w d a0 a1 g0 g1) :
    Calls Tryd.prog 15 #[.agg #[.slice a0 d.nr c0, .slice a1 d.ns c1], .int .i64 (k : Int)] w fun e w' => e = .returned (.int .i64 ((k + 3 * d.nr + 4 * d.ns : Nat) : Int)) ∧ RowB w' (d.marked k) a0 a1 g0 g1 ∧ KeepB w w' d g0 g1 ∧ Below B w w' := by
  have M0 : Hid (∀ w : World, RowE w 3 a0 g0 d.nr (rgF d.R) → Calls Tryd.prog 35 #[.slice a0 d.nr c0, .int .i64 (k : Int)] w fun e w' => e = .returned (.int .i64 ((k + 3 * d.nr : Nat) : Int)) ∧ RowE w' 3 a0 g0 d.nr (rgF (rgM k)) ∧ TurnedE g0 d.nr w w') := fun w h => markRegisterK a0 g0 d.nr c0 k d.R hk (by omega) w h
  have M1 : Hid (∀ w : World, RowE w 4 a1 g1 d.ns (seF d.S) → Calls Tryd.prog 36 #[.slice a1 d.ns c1, .int .i64 ((k + 3 * d.nr : Nat) : Int)] w fun e w' => e = .returned (.int .i64 ((k + 3 * d.nr + 4 * d.ns : Nat) : Int)) ∧ RowE w' 4 a1 g1 d.ns (seF (seM (k + 3 * d.nr))) ∧ TurnedE g1 d.ns w w') := fun w h => markSessionK a1 g1 d.ns c1 (k + 3 * d.nr) d.S (by omega) (by omega) w h
  have HX : Hid (RowB w d a0 a1 g0 g1) := h
  have HB : Hid ((0 < d.nr → B ≤ g0) ∧ (0 < d.ns → B ≤ g1)) := hB
  have hb : Below w.heap.size w (w.alloc (.cells #[.slice a0 d.nr c0, .slice a1 d.ns c1] 34)) := (Below.refl w.heap.size w).alloc (Nat.le_refl _) _
  have K0 : Hid (KeepB w (w.alloc (.cells #[.slice a0 d.nr c0, .slice a1 d.ns c1] 34)) d g0 g1) := ⟨hb.size, fun b q _ _ => hb.block b q⟩
  have RA : Hid (Box2 (w.alloc (.cells #[.slice a0 d.nr c0, .slice a1 d.ns c1] 34)) w.heap.size 34 (.slice a0 d.nr c0) (.slice a1 d.ns c1)) := Box2.made w _ _ _
  have A1 : Hid (Below B w (w.alloc (.cells #[.slice a0 d.nr c0, .slice a1 d.ns c1] 34))) := hb.mono hw
  have R0 : Hid (RowB (w.alloc (.cells #[.slice a0 d.nr c0, .slice a1 d.ns c1] 34)) d a0 a1 g0 g1) := HX.out.below hb
  have N0 : Hid ((0 < d.nr → w.heap.size ≠ g0) ∧ (0 < d.ns → w.heap.size ≠ g1)) := ⟨fun q => Nat.ne_of_gt (h.s0.lt (by omega) q), fun q => Nat.ne_of_gt (h.s1.lt (by omega) q)⟩
  have HW : Hid (B ≤ w.heap.size) := hw
  clear h hB hk hn hb HX hw
  generalize ((k + 3 * d.nr + 4 * d.ns : Nat) : Int) = K2 at *
  generalize ((k + 3 * d.nr : Nat) : Int) = K1 at *
  go_enter Tryd.func15, Tryd.ntmps15
  go_wp2_with fail
  generalize (w.alloc (.cells #[.slice a0 d.nr c0, .slice a1 d.ns c1] 34)) = v at *
  refine (M0.out _ R0.out.s0).mono ?_
  rintro e w1 ⟨rfl, hr, ho⟩
  have E0 : Hid (RowE w1 3 a0 g0 d.nr (rgF (rgM k))) := hr
  have E1 : Hid (RowE w1 4 a1 g1 d.ns (seF d.S)) := R0.out.s1.turned (by omega) ho (fun x y => (R0.out.ne y x).symm)
  replace K0 : Hid (KeepB w w1 d g0 g1) := ⟨Nat.le_trans K0.out.1 ho.1.size, fun b q q0 q1 => (ho.block (Nat.lt_of_lt_of_le q K0.out.1) q0).trans (K0.out.2 b q q0 q1)⟩
  replace A1 : Hid (Below B w w1) := A1.out.trans (ho.toBelow HB.out.1 (Nat.le_trans HW.out A1.out.size))
  have k1 := (RA.out.turned ho N0.out.1).c1
  have NE : Hid (0 < d.nr → 0 < d.ns → g0 ≠ g1) := R0.out.ne
  clear M0 hr ho RA R0 N0
  go_wp2_with fail
  refine (M1.out _ E1.out).mono ?_
  rintro e w2 ⟨rfl, hr, ho⟩
  have F : Hid (RowB w2 (d.marked k) a0 a1 g0 g1) := ⟨E0.out.turned (by omega) ho (fun x y => NE.out x y), hr, NE.out⟩
  replace K0 : Hid (KeepB w w2 d g0 g1) := ⟨Nat.le_trans K0.out.1 ho.1.size, fun b q q0 q1 => (ho.block (Nat.lt_of_lt_of_le q K0.out.1) q1).trans (K0.out.2 b q q0 q1)⟩
  replace A1 : Hid (Below B w w2) := A1.out.trans (ho.toBelow HB.out.2 (Nat.le_trans HW.out A1.out.size))
  clear M1 hr ho E0 E1 k1
  go_wp2
  go_ret
  exact ⟨rfl, F.out, K0.out, A1.out⟩
set_option maxRecDepth 100000 in
set_option maxHeartbeats 1000000 in
theorem heldBank_yes (d : Bk) (a0 a1 : Option Addr) (c0 c1 k : Nat) (hk : 1 ≤ k) (hn : k + 3 * d.nr + 4 * d.ns ≤ 10000000) (w : World) (h : BankV w (d.marked k) a0 a1) :
    Calls Tryd.prog 16 #[.agg #[.slice a0 d.nr c0, .slice a1 d.ns c1], .int .i64 (k : Int)] w fun e w' => e = .returned (.int .i64 ((k + 3 * d.nr + 4 * d.ns : Nat) : Int)) ∧ Below w.heap.size w w' := by
  have M0 : Hid (∀ w : World, Els w 3 a0 d.nr (rgF (rgM k)) → Calls Tryd.prog 37 #[.slice a0 d.nr c0, .int .i64 (k : Int)] w fun e w' => e = .returned (.int .i64 ((k + 3 * d.nr : Nat) : Int)) ∧ Below w.heap.size w w') := fun w h => heldRegisterK a0 d.nr c0 k hk (by omega) w h
  have M1 : Hid (∀ w : World, Els w 4 a1 d.ns (seF (seM (k + 3 * d.nr))) → Calls Tryd.prog 38 #[.slice a1 d.ns c1, .int .i64 ((k + 3 * d.nr : Nat) : Int)] w fun e w' => e = .returned (.int .i64 ((k + 3 * d.nr + 4 * d.ns : Nat) : Int)) ∧ Below w.heap.size w w') := fun w h => heldSessionK a1 d.ns c1 (k + 3 * d.nr) (by omega) (by omega) w h
  have HX : Hid (Els w 3 a0 d.nr (rgF (rgM k)) ∧ Els w 4 a1 d.ns (seF (seM (k + 3 * d.nr)))) := h
  have A1 : Hid (Below w.heap.size w (w.alloc (.cells #[.slice a0 d.nr c0, .slice a1 d.ns c1] 34))) := (Below.refl w.heap.size w).alloc (Nat.le_refl _) _
  have RA : Hid (Box2 (w.alloc (.cells #[.slice a0 d.nr c0, .slice a1 d.ns c1] 34)) w.heap.size 34 (.slice a0 d.nr c0) (.slice a1 d.ns c1)) := Box2.made w _ _ _
  have p1 : ¬ ((k + 3 * d.nr : Nat) : Int) < 0 := by omega
  have p2 : ¬ ((k + 3 * d.nr + 4 * d.ns : Nat) : Int) < 0 := by omega
  clear h hk hn
  generalize ((k + 3 * d.nr + 4 * d.ns : Nat) : Int) = K2 at *
  generalize ((k + 3 * d.nr : Nat) : Int) = K1 at *
  go_enter Tryd.func16, Tryd.ntmps16
  go_wp2_with fail
  generalize (w.alloc (.cells #[.slice a0 d.nr c0, .slice a1 d.ns c1] 34)) = v at *
  refine (M0.out _ (HX.out.1.below A1.out)).mono ?_
  rintro e w1 ⟨rfl, hb⟩
  replace A1 : Hid (Below w.heap.size w w1) := A1.out.trans (hb.mono A1.out.size)
  have k1 := (RA.out.below hb).c1
  clear M0 hb RA
  go_wp2_with fail
  refine (M1.out _ (HX.out.2.below A1.out)).mono ?_
  rintro e w2 ⟨rfl, hb⟩
  replace A1 : Hid (Below w.heap.size w w2) := A1.out.trans (hb.mono A1.out.size)
  clear M1 hb k1
  go_wp2
  go_ret
  exact ⟨rfl, A1.out⟩
end Go.Proofs.YtfhjenohgafjlabDoor
