/-
  The laws' own helpers on banks: copies of what came in, whether it is small, whether two are alike, marks.
-/
import Derived.Test.YtfhjenohgafjlabBankOk
namespace Go.Proofs.Ytfhjenohgafjlab
open Go.ChangeShapes Go.WideShapes Go.ChangeAt Go.RowKit
set_option linter.unusedVariables false
/-- A bank's rows lie in blocks g0 and g1 from their heads on and may be written. -/
structure RowB (w : World) (b : Bk) (a0 a1 : Option Addr) (g0 g1 : Nat) : Prop where
  s0 : RowE w 3 a0 g0 b.nr (rgF b.R)
  s1 : RowE w 4 a1 g1 b.ns (seF b.S)
  ne : 0 < b.nr → 0 < b.ns → g0 ≠ g1
theorem RowB.bankV {w : World} {b : Bk} {a0 a1 : Option Addr} {g0 g1 : Nat} (h : RowB w b a0 a1 g0 g1) : BankV w b a0 a1 := ⟨h.s0.els, h.s1.els⟩
theorem RowB.below {w w' : World} {b : Bk} {a0 a1 : Option Addr} {g0 g1 : Nat} (h : RowB w b a0 a1 g0 g1) (hb : Below w.heap.size w w') : RowB w' b a0 a1 g0 g1 := ⟨h.s0.below (by omega) hb, h.s1.below (by omega) hb, h.ne⟩
theorem Box2.loadB {w : World} {b : Nat} {x y : Value} (h : Box2 w b 27 x y) : (loadVar 27 ⟨b, 0, none⟩).run Try.prog w = .ok (.agg #[x, y]) w := by
  have h0 := h.c0
  have h1 := h.c1
  go_simp
set_option maxRecDepth 100000 in
set_option maxHeartbeats 1000000 in
/-- laws.eqBank of two banks that hold the same. -/
theorem eqBank_yes (d : Bk) (a0 a1 b0 b1 : Option Addr) (c0 c1 d0 d1 : Nat) (w : World) (h : BankV w d a0 a1) (h' : BankV w d b0 b1) (l0 : d.nr ≤ 1048576) (l1 : d.ns ≤ 1048576) :
    Calls Try.prog 10 #[.agg #[.slice a0 d.nr c0, .slice a1 d.ns c1], .agg #[.slice b0 d.nr d0, .slice b1 d.ns d1]] w fun e w' => e = .returned (.bool true) ∧ Below w.heap.size w w' := by
  have Q0 : Hid (∀ w : World, Els w 3 a0 d.nr (rgF d.R) → Els w 3 b0 d.nr (rgF d.R) → Calls Try.prog 39 #[.slice a0 d.nr c0, .slice b0 d.nr d0] w fun e w' => e = .returned (.bool true) ∧ Below w.heap.size w w') := fun w k k' => eqRegisterS_yes a0 b0 d.nr c0 d0 d.R w k k' l0
  have Q1 : Hid (∀ w : World, Els w 4 a1 d.ns (seF d.S) → Els w 4 b1 d.ns (seF d.S) → Calls Try.prog 40 #[.slice a1 d.ns c1, .slice b1 d.ns d1] w fun e w' => e = .returned (.bool true) ∧ Below w.heap.size w w') := fun w k k' => eqSessionS_yes a1 b1 d.ns c1 d1 d.S w k k' l1
  have HX : Hid (BankV w d a0 a1) := h
  have HY : Hid (BankV w d b0 b1) := h'
  clear h h' l0 l1
  have A1 : Hid (Below w.heap.size w ((w.alloc (.cells #[.slice a0 d.nr c0, .slice a1 d.ns c1] 27)).alloc (.cells #[.slice b0 d.nr d0, .slice b1 d.ns d1] 27))) := ((Below.refl w.heap.size w).alloc (Nat.le_refl _) _).alloc (by simp) _
  have RA : Hid (Box2 ((w.alloc (.cells #[.slice a0 d.nr c0, .slice a1 d.ns c1] 27)).alloc (.cells #[.slice b0 d.nr d0, .slice b1 d.ns d1] 27)) w.heap.size 27 (.slice a0 d.nr c0) (.slice a1 d.ns c1)) := (Box2.made w _ _ _).alloc _
  have RB : Hid (Box2 ((w.alloc (.cells #[.slice a0 d.nr c0, .slice a1 d.ns c1] 27)).alloc (.cells #[.slice b0 d.nr d0, .slice b1 d.ns d1] 27)) (w.heap.size + 1) 27 (.slice b0 d.nr d0) (.slice b1 d.ns d1)) := Box2.madeAt (by simp) _ _ _
  go_enter Try.func10, Try.ntmps10
  go_wp2_with fail
  generalize ((w.alloc (.cells #[.slice a0 d.nr c0, .slice a1 d.ns c1] 27)).alloc (.cells #[.slice b0 d.nr d0, .slice b1 d.ns d1] 27)) = v at *
  refine (Q0.out _ (HX.out.1.below A1.out) (HY.out.1.below A1.out)).mono ?_
  rintro e w1 ⟨rfl, hb⟩
  replace A1 : Hid (Below w.heap.size w w1) := A1.out.trans (hb.mono A1.out.size)
  have k1 := (RA.out.below hb).c1
  have k2 := (RB.out.below hb).c1
  clear Q0 hb RA RB
  go_wp2_with fail
  refine (Q1.out _ (HX.out.2.below A1.out) (HY.out.2.below A1.out)).mono ?_
  rintro e w2 ⟨rfl, hb⟩
  replace A1 : Hid (Below w.heap.size w w2) := A1.out.trans (hb.mono A1.out.size)
  clear Q1 hb k1 k2
  go_wp2
  go_ret
  exact ⟨rfl, A1.out⟩
/-- What is marked from k on. -/
def Bk.marked (d : Bk) (k : Nat) : Bk := ⟨d.nr, rgM k, d.ns, seM (k + 3 * d.nr)⟩
/-- All but blocks g0 and g1 is as it was. -/
def KeepB (w w' : World) (d : Bk) (g0 g1 : Nat) : Prop := w.heap.size ≤ w'.heap.size ∧ ∀ b, b < w.heap.size → (0 < d.nr → b ≠ g0) → (0 < d.ns → b ≠ g1) → w'.heap[b]? = w.heap[b]?
set_option maxRecDepth 100000 in
set_option maxHeartbeats 1000000 in
theorem markBank_any (B : Nat) (d : Bk) (a0 a1 : Option Addr) (c0 c1 g0 g1 k : Nat) (hk : 1 ≤ k) (hn : k + 3 * d.nr + 4 * d.ns ≤ 10000000) (hB : (0 < d.nr → B ≤ g0) ∧ (0 < d.ns → B ≤ g1)) (w : World) (hw : B ≤ w.heap.size) (h : RowB w d a0 a1 g0 g1) :
    Calls Try.prog 14 #[.agg #[.slice a0 d.nr c0, .slice a1 d.ns c1], .int .i64 (k : Int)] w fun e w' => e = .returned (.int .i64 ((k + 3 * d.nr + 4 * d.ns : Nat) : Int)) ∧ RowB w' (d.marked k) a0 a1 g0 g1 ∧ KeepB w w' d g0 g1 ∧ Below B w w' := by
  have M0 : Hid (∀ w : World, RowE w 3 a0 g0 d.nr (rgF d.R) → Calls Try.prog 43 #[.slice a0 d.nr c0, .int .i64 (k : Int)] w fun e w' => e = .returned (.int .i64 ((k + 3 * d.nr : Nat) : Int)) ∧ RowE w' 3 a0 g0 d.nr (rgF (rgM k)) ∧ TurnedE g0 d.nr w w') := fun w h => markRegisterK a0 g0 d.nr c0 k d.R hk (by omega) w h
  have M1 : Hid (∀ w : World, RowE w 4 a1 g1 d.ns (seF d.S) → Calls Try.prog 44 #[.slice a1 d.ns c1, .int .i64 ((k + 3 * d.nr : Nat) : Int)] w fun e w' => e = .returned (.int .i64 ((k + 3 * d.nr + 4 * d.ns : Nat) : Int)) ∧ RowE w' 4 a1 g1 d.ns (seF (seM (k + 3 * d.nr))) ∧ TurnedE g1 d.ns w w') := fun w h => markSessionK a1 g1 d.ns c1 (k + 3 * d.nr) d.S (by omega) (by omega) w h
  have HX : Hid (RowB w d a0 a1 g0 g1) := h
  have HB : Hid ((0 < d.nr → B ≤ g0) ∧ (0 < d.ns → B ≤ g1)) := hB
  have hb : Below w.heap.size w (w.alloc (.cells #[.slice a0 d.nr c0, .slice a1 d.ns c1] 27)) := (Below.refl w.heap.size w).alloc (Nat.le_refl _) _
  have K0 : Hid (KeepB w (w.alloc (.cells #[.slice a0 d.nr c0, .slice a1 d.ns c1] 27)) d g0 g1) := ⟨hb.size, fun b q _ _ => hb.block b q⟩
  have RA : Hid (Box2 (w.alloc (.cells #[.slice a0 d.nr c0, .slice a1 d.ns c1] 27)) w.heap.size 27 (.slice a0 d.nr c0) (.slice a1 d.ns c1)) := Box2.made w _ _ _
  have A1 : Hid (Below B w (w.alloc (.cells #[.slice a0 d.nr c0, .slice a1 d.ns c1] 27))) := hb.mono hw
  have R0 : Hid (RowB (w.alloc (.cells #[.slice a0 d.nr c0, .slice a1 d.ns c1] 27)) d a0 a1 g0 g1) := HX.out.below hb
  have N0 : Hid ((0 < d.nr → w.heap.size ≠ g0) ∧ (0 < d.ns → w.heap.size ≠ g1)) := ⟨fun q => Nat.ne_of_gt (h.s0.lt (by omega) q), fun q => Nat.ne_of_gt (h.s1.lt (by omega) q)⟩
  have HW : Hid (B ≤ w.heap.size) := hw
  clear h hB hk hn hb HX hw
  generalize ((k + 3 * d.nr + 4 * d.ns : Nat) : Int) = K2 at *
  generalize ((k + 3 * d.nr : Nat) : Int) = K1 at *
  go_enter Try.func14, Try.ntmps14
  go_wp2_with fail
  generalize (w.alloc (.cells #[.slice a0 d.nr c0, .slice a1 d.ns c1] 27)) = v at *
  refine (M0.out _ R0.out.s0).mono ?_
  rintro e w1 ⟨rfl, hr, ho⟩
  have E0 : Hid (RowE w1 3 a0 g0 d.nr (rgF (rgM k))) := hr
  have E1 : Hid (RowE w1 4 a1 g1 d.ns (seF d.S)) := R0.out.s1.turned (by omega) ho (fun x y => (R0.out.ne y x).symm)
  replace K0 : Hid (KeepB w w1 d g0 g1) := ⟨Nat.le_trans K0.out.1 ho.1.size, fun b q q0 q1 => (ho.block (Nat.lt_of_lt_of_le q K0.out.1) q0).trans (K0.out.2 b q q0 q1)⟩
  replace A1 : Hid (Below B w w1) := A1.out.trans (ho.toBelow HB.out.1 (Nat.le_trans HW.out A1.out.size))
  have k1 := (RA.out.turned ho N0.out.1).c1
  have NE : Hid (0 < d.nr → 0 < d.ns → g0 ≠ g1) := R0.out.ne
  clear M0 hr ho RA R0 N0
  go_wp2_with fail
  refine (M1.out _ E1.out).mono ?_
  rintro e w2 ⟨rfl, hr, ho⟩
  have F : Hid (RowB w2 (d.marked k) a0 a1 g0 g1) := ⟨E0.out.turned (by omega) ho (fun x y => NE.out x y), hr, NE.out⟩
  replace K0 : Hid (KeepB w w2 d g0 g1) := ⟨Nat.le_trans K0.out.1 ho.1.size, fun b q q0 q1 => (ho.block (Nat.lt_of_lt_of_le q K0.out.1) q1).trans (K0.out.2 b q q0 q1)⟩
  replace A1 : Hid (Below B w w2) := A1.out.trans (ho.toBelow HB.out.2 (Nat.le_trans HW.out A1.out.size))
  clear M1 hr ho E0 E1 k1
  go_wp2
  go_ret
  exact ⟨rfl, F.out, K0.out, A1.out⟩
set_option maxRecDepth 100000 in
set_option maxHeartbeats 1000000 in
theorem heldBank_yes (d : Bk) (a0 a1 : Option Addr) (c0 c1 k : Nat) (hk : 1 ≤ k) (hn : k + 3 * d.nr + 4 * d.ns ≤ 10000000) (w : World) (h : BankV w (d.marked k) a0 a1) :
    Calls Try.prog 16 #[.agg #[.slice a0 d.nr c0, .slice a1 d.ns c1], .int .i64 (k : Int)] w fun e w' => e = .returned (.int .i64 ((k + 3 * d.nr + 4 * d.ns : Nat) : Int)) ∧ Below w.heap.size w w' := by
  have M0 : Hid (∀ w : World, Els w 3 a0 d.nr (rgF (rgM k)) → Calls Try.prog 45 #[.slice a0 d.nr c0, .int .i64 (k : Int)] w fun e w' => e = .returned (.int .i64 ((k + 3 * d.nr : Nat) : Int)) ∧ Below w.heap.size w w') := fun w h => heldRegisterK a0 d.nr c0 k hk (by omega) w h
  have M1 : Hid (∀ w : World, Els w 4 a1 d.ns (seF (seM (k + 3 * d.nr))) → Calls Try.prog 46 #[.slice a1 d.ns c1, .int .i64 ((k + 3 * d.nr : Nat) : Int)] w fun e w' => e = .returned (.int .i64 ((k + 3 * d.nr + 4 * d.ns : Nat) : Int)) ∧ Below w.heap.size w w') := fun w h => heldSessionK a1 d.ns c1 (k + 3 * d.nr) (by omega) (by omega) w h
  have HX : Hid (Els w 3 a0 d.nr (rgF (rgM k)) ∧ Els w 4 a1 d.ns (seF (seM (k + 3 * d.nr)))) := h
  have A1 : Hid (Below w.heap.size w (w.alloc (.cells #[.slice a0 d.nr c0, .slice a1 d.ns c1] 27))) := (Below.refl w.heap.size w).alloc (Nat.le_refl _) _
  have RA : Hid (Box2 (w.alloc (.cells #[.slice a0 d.nr c0, .slice a1 d.ns c1] 27)) w.heap.size 27 (.slice a0 d.nr c0) (.slice a1 d.ns c1)) := Box2.made w _ _ _
  have p1 : ¬ ((k + 3 * d.nr : Nat) : Int) < 0 := by omega
  have p2 : ¬ ((k + 3 * d.nr + 4 * d.ns : Nat) : Int) < 0 := by omega
  clear h hk hn
  generalize ((k + 3 * d.nr + 4 * d.ns : Nat) : Int) = K2 at *
  generalize ((k + 3 * d.nr : Nat) : Int) = K1 at *
  go_enter Try.func16, Try.ntmps16
  go_wp2_with fail
  generalize (w.alloc (.cells #[.slice a0 d.nr c0, .slice a1 d.ns c1] 27)) = v at *
  refine (M0.out _ (HX.out.1.below A1.out)).mono ?_
  rintro e w1 ⟨rfl, hb⟩
  replace A1 : Hid (Below w.heap.size w w1) := A1.out.trans (hb.mono A1.out.size)
  have k1 := (RA.out.below hb).c1
  clear M0 hb RA
  go_wp2_with fail
  refine (M1.out _ (HX.out.2.below A1.out)).mono ?_
  rintro e w2 ⟨rfl, hb⟩
  replace A1 : Hid (Below w.heap.size w w2) := A1.out.trans (hb.mono A1.out.size)
  clear M1 hb k1
  go_wp2
  go_ret
  exact ⟨rfl, A1.out⟩
end Go.Proofs.Ytfhjenohgafjlab
