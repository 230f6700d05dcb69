/-
  Texts of the proof, joined: SvcG.
-/
import Derived.Test.YtedncfcmhaaobaaY18
namespace Go.Proofs.Ytedncfcmhaaobaa
open Go.ChangeShapes Go.WideShapes Go.ChangeAt Go.RowKit
set_option linter.unusedVariables false
structure Sv where
 n : Nat
 R : Nat → Rp
 t : Int
 m : Nat
 W : Nat → Wo
 l : Nat
 Q : Nat → Ro
structure Sa where
 a : Option Addr
 b : Option Addr
 d : Option Addr
 A : Nat → Option Addr
 B : Nat → Option Addr
 D : Nat → Option Addr
 X : Nat → Nat
 Y : Nat → Nat
 Z : Nat → Nat
 ca : Nat
 cb : Nat
 cd : Nat
def SvV (w : World) (s : Sv) (p : Sa) : Prop := RpV w p.a s.n s.R p.A p.X ∧ WoV w p.b s.m s.W p.B p.Y ∧ RoV w p.d s.l s.Q p.D p.Z
theorem SvV.below {w w' : World} {s : Sv} {p : Sa} (h : SvV w s p) (hb : Below w.heap.size w w') : SvV w' s p := ⟨h.1.below hb, h.2.1.below hb, h.2.2.below hb⟩
def Sv.max (s : Sv) (x : Nat) : Prop := (s.n ≤ x ∧ ∀ i, i < s.n → (s.R i).ne ≤ x) ∧ (s.m ≤ x ∧ ∀ i, i < s.m → (s.W i).ne ≤ x) ∧ (s.l ≤ x ∧ ∀ i, i < s.l → (s.Q i).ne ≤ x)
set_option maxRecDepth 100000 in
set_option maxHeartbeats 2000000 in
theorem eqService_any (s : Sv) (p q : Sa) (hm : s.max 1048576) (w : World) (h : SvV w s p) (h' : SvV w s q) :
  Calls Try.prog 14 #[.agg #[.slice p.a s.n p.ca, .int .i64 s.t, .slice p.b s.m p.cb, .slice p.d s.l p.cd], .agg #[.slice q.a s.n q.ca, .int .i64 s.t, .slice q.b s.m q.cb, .slice q.d s.l q.cd]] w fun e w' => e = .returned (.bool true) ∧ Below w.heap.size w w' := by
 have A1 : Hid (Below w.heap.size w ((w.alloc (.cells #[.slice p.a s.n p.ca, .int .i64 s.t, .slice p.b s.m p.cb, .slice p.d s.l p.cd] 28)).alloc (.cells #[.slice q.a s.n q.ca, .int .i64 s.t, .slice q.b s.m q.cb, .slice q.d s.l q.cd] 28))) := ((Below.refl _ _).alloc (Nat.le_refl _) _).alloc (by simp) _
 have X : Hid (Box4 ((w.alloc (.cells #[.slice p.a s.n p.ca, .int .i64 s.t, .slice p.b s.m p.cb, .slice p.d s.l p.cd] 28)).alloc (.cells #[.slice q.a s.n q.ca, .int .i64 s.t, .slice q.b s.m q.cb, .slice q.d s.l q.cd] 28)) w.heap.size 28 (.slice p.a s.n p.ca) (.int .i64 s.t) (.slice p.b s.m p.cb) (.slice p.d s.l p.cd)) := (Box4.madeAt rfl _ _ _ _ _).alloc _
 have Y : Hid (Box4 ((w.alloc (.cells #[.slice p.a s.n p.ca, .int .i64 s.t, .slice p.b s.m p.cb, .slice p.d s.l p.cd] 28)).alloc (.cells #[.slice q.a s.n q.ca, .int .i64 s.t, .slice q.b s.m q.cb, .slice q.d s.l q.cd] 28)) (w.heap.size + 1) 28 (.slice q.a s.n q.ca) (.int .i64 s.t) (.slice q.b s.m q.cb) (.slice q.d s.l q.cd)) := Box4.madeAt (by simp) _ _ _ _ _
 have et : (s.t != s.t) = false := by simp
 have E0 : Hid (∀ w : World, SvV w s p → SvV w s q → Calls Try.prog 40 #[.slice p.a s.n p.ca, .slice q.a s.n q.ca] w fun e w' => e = .returned (.bool true) ∧ Below w.heap.size w w') := fun w h h' => eqReplicaS_yes p.a q.a s.n p.ca q.ca s.R p.A q.A p.X q.X hm.1.1 hm.1.2 w h.1 h'.1
 have E1 : Hid (∀ w : World, SvV w s p → SvV w s q → Calls Try.prog 41 #[.slice p.b s.m p.cb, .slice q.b s.m q.cb] w fun e w' => e = .returned (.bool true) ∧ Below w.heap.size w w') := fun w h h' => eqWriteOpS_yes p.b q.b s.m p.cb q.cb s.W p.B q.B p.Y q.Y hm.2.1.1 hm.2.1.2 w h.2.1 h'.2.1
 have E2 : Hid (∀ w : World, SvV w s p → SvV w s q → Calls Try.prog 42 #[.slice p.d s.l p.cd, .slice q.d s.l q.cd] w fun e w' => e = .returned (.bool true) ∧ Below w.heap.size w w') := fun w h h' => eqReadOpS_yes p.d q.d s.l p.cd q.cd s.Q p.D q.D p.Z q.Z hm.2.2.1 hm.2.2.2 w h.2.2 h'.2.2
 have HA : Hid (SvV w s p) := h
 have HB : Hid (SvV w s q) := h'
 clear h h' hm
 go_enter Try.func14, Try.ntmps14
 go_wp2_with fail
 generalize ((w.alloc (.cells #[.slice p.a s.n p.ca, .int .i64 s.t, .slice p.b s.m p.cb, .slice p.d s.l p.cd] 28)).alloc (.cells #[.slice q.a s.n q.ca, .int .i64 s.t, .slice q.b s.m q.cb, .slice q.d s.l q.cd] 28)) = v at *
 refine (E0.out _ (HA.out.below A1.out) (HB.out.below A1.out)).mono ?_
 rintro e v1 ⟨rfl, hb⟩
 replace A1 : Hid (Below w.heap.size w v1) := A1.out.trans (hb.mono A1.out.size)
 replace X : Hid (Box4 v1 w.heap.size 28 (.slice p.a s.n p.ca) (.int .i64 s.t) (.slice p.b s.m p.cb) (.slice p.d s.l p.cd)) := X.out.below hb
 replace Y : Hid (Box4 v1 (w.heap.size + 1) 28 (.slice q.a s.n q.ca) (.int .i64 s.t) (.slice q.b s.m q.cb) (.slice q.d s.l q.cd)) := Y.out.below hb
 clear hb
 have x := X.out
 have y := Y.out
 have x1 := x.c1
 have y1 := y.c1
 have x2 := x.c2
 have y2 := y.c2
 have x3 := x.c3
 have y3 := y.c3
 clear x y
 go_wp2_with fail
 clear x1 y1 x2 y2 x3 y3
 refine (E1.out _ (HA.out.below A1.out) (HB.out.below A1.out)).mono ?_
 rintro e v2 ⟨rfl, hb⟩
 replace A1 : Hid (Below w.heap.size w v2) := A1.out.trans (hb.mono A1.out.size)
 replace X : Hid (Box4 v2 w.heap.size 28 (.slice p.a s.n p.ca) (.int .i64 s.t) (.slice p.b s.m p.cb) (.slice p.d s.l p.cd)) := X.out.below hb
 replace Y : Hid (Box4 v2 (w.heap.size + 1) 28 (.slice q.a s.n q.ca) (.int .i64 s.t) (.slice q.b s.m q.cb) (.slice q.d s.l q.cd)) := Y.out.below hb
 clear hb
 have x := X.out
 have y := Y.out
 have x1 := x.c1
 have y1 := y.c1
 have x2 := x.c2
 have y2 := y.c2
 have x3 := x.c3
 have y3 := y.c3
 clear x y
 go_wp2_with fail
 clear x1 y1 x2 y2 x3 y3
 refine (E2.out _ (HA.out.below A1.out) (HB.out.below A1.out)).mono ?_
 rintro e v3 ⟨rfl, hb⟩
 replace A1 : Hid (Below w.heap.size w v3) := A1.out.trans (hb.mono A1.out.size)
 replace X : Hid (Box4 v3 w.heap.size 28 (.slice p.a s.n p.ca) (.int .i64 s.t) (.slice p.b s.m p.cb) (.slice p.d s.l p.cd)) := X.out.below hb
 replace Y : Hid (Box4 v3 (w.heap.size + 1) 28 (.slice q.a s.n q.ca) (.int .i64 s.t) (.slice q.b s.m q.cb) (.slice q.d s.l q.cd)) := Y.out.below hb
 clear hb
 clear X Y HA HB E0 E1 E2
 go_wp2
 go_ret
 exact ⟨rfl, A1.out⟩
end Go.Proofs.Ytedncfcmhaaobaa
