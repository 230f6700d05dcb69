/-
  Texts of the proof, joined: QuDr.
-/
import Derived.Test.YtedncfcmhaaobaaV30
import Derived.Test.YtedncfcmhaaobaaV46
import Derived.Test.YtedncfcmhaaobaaV06
import Derived.Deep.Cut
namespace Go.Proofs.Ytedncfcmhaaobaa
open Go.ChangeShapes Go.WideShapes Go.ChangeAt Go.RowKit
set_option linter.unusedVariables false
def Dq (w0 : World) (b : Nat) (a : Option Addr) (len cap : Nat) (z : Nat → Nat) (A : Nat) (w : World) : Prop := SrcA w b a len cap A ∧ Code8 w a len z ∧ ChB (PG b) w0 w
structure Dk0 (w0 : World) (b : Nat) (a : Option Addr) (len : Nat) (z : Nat → Nat) : Prop where
 hz : ∀ i, z i < 256
 hl : len ≤ maxLen
 hb : b < w0.heap.size
 hk : ∀ x, 0 < len → a = some x → x.block < w0.heap.size ∧ x.block ≠ b
theorem Dq.step {w0 w w' : World} {b : Nat} {a : Option Addr} {len cap A : Nat} {z : Nat → Nat} (k : Dk0 w0 b a len z) (h : Dq w0 b a len cap z A w) (hb : Below w0.heap.size w w') : Dq w0 b a len cap z A w' :=
 ⟨h.1.belowAt hb k.hb, fun i hi => by
  obtain ⟨cb, off, e, hc⟩ := h.2.1 i hi
  exact ⟨cb, off, e, by rw [hb.cell (p := ⟨cb, off + i, none⟩) (k.hk ⟨cb, off, none⟩ (by omega) e).1]; exact hc⟩, ⟨hb.os.trans h.2.2.os, hb.tape.trans h.2.2.tape, hb.output.trans h.2.2.output, Nat.le_trans h.2.2.size hb.size, fun g hg hp => (hb.block g hg).trans (h.2.2.block g hg hp)⟩⟩
theorem Dq.only {w0 w w' : World} {b : Nat} {a : Option Addr} {len cap A A' : Nat} {z : Nat → Nat} (k : Dk0 w0 b a len z) (h : Dq w0 b a len cap z A w) (hs : SrcA w' b a len cap A') (ho : OnlyB b w w') : Dq w0 b a len cap z A' w' :=
 ⟨hs, fun i hi => by
  obtain ⟨cb, off, e, hc⟩ := h.2.1 i hi
  exact ⟨cb, off, e, (cellE (ho.block cb (strBlock hc) (k.hk ⟨cb, off, none⟩ (by omega) e).2)).trans hc⟩, ⟨ho.os.trans h.2.2.os, ho.tape.trans h.2.2.tape, ho.output.trans h.2.2.output, Nat.le_trans h.2.2.size ho.size, fun g hg hp => (ho.block g (Nat.lt_of_lt_of_le hg h.2.2.size) hp).trans (h.2.2.block g hg hp)⟩⟩
theorem Dq.onlyB {w0 w : World} {b : Nat} {a : Option Addr} {len cap A : Nat} {z : Nat → Nat} (h : Dq w0 b a len cap z A w) : OnlyB b w0 w := ⟨h.2.2.os, h.2.2.tape, h.2.2.output, h.2.2.size, fun g hg hp => h.2.2.block g hg hp⟩
theorem next_q (w0 : World) (n : Nat) (hn : 1 ≤ n) (hn' : n ≤ 256) (b : Nat) (a : Option Addr) (len cap A : Nat) (z : Nat → Nat) (k : Dk0 w0 b a len z) (hA : A ≤ 10000) (w : World) (h : Dq w0 b a len cap z A w) :
  Calls Try.prog 55 #[.pointer (some ⟨b, 0, none⟩), .int .i64 (n : Int)] w fun e w' => (∃ r : Nat, r < n ∧ e = .returned (.int .i64 (r : Int))) ∧ Dq w0 b a len cap z (A + 1) w' ∧ OnlyB b w w' := by
 by_cases h1 : n = 1
 ·subst h1
  have H : Hid (Dq w0 b a len cap z (A + 1) w) := ⟨h.1.mono (by omega), h.2⟩
  clear h k
  go_enter Try.func55, Try.ntmps55
  go_wp2
  go_ret
  exact ⟨⟨0, by omega, rfl⟩, H.out, OnlyB.refl _ _⟩
 ·exact (next_ex n (by omega) hn' b a len cap A z k.hz (by omega) k.hl (fun x h1 h2 => (k.hk x h1 h2).2) w h.1 h.2.1).mono fun e w' ⟨h1, h2, h3⟩ => ⟨h1, h.only k h2 h3, h3⟩
set_option maxRecDepth 100000 in
theorem chance_q (w0 : World) (n : Nat) (hn : 1 ≤ n) (hn' : n ≤ 256) (b : Nat) (a : Option Addr) (len cap A : Nat) (z : Nat → Nat) (k : Dk0 w0 b a len z) (hA : A ≤ 10000) (w : World) (h : Dq w0 b a len cap z A w) :
  Calls Try.prog 58 #[.pointer (some ⟨b, 0, none⟩), .int .i64 (n : Int)] w fun e w' => (∃ r : Bool, e = .returned (.bool r)) ∧ Dq w0 b a len cap z (A + 1) w' ∧ OnlyB b w w' := by
 have NX : Hid (Calls Try.prog 55 #[.pointer (some ⟨b, 0, none⟩), .int .i64 (n : Int)] w fun e w' => (∃ r : Nat, r < n ∧ e = .returned (.int .i64 (r : Int))) ∧ Dq w0 b a len cap z (A + 1) w' ∧ OnlyB b w w') := next_q w0 n hn hn' b a len cap A z k hA w h
 have e1 : IntKind.i64.wrap ((n : Int) - 1) = (n : Int) - 1 := IntWalk.i64_in _ (by omega)
 clear h k
 go_enter Try.func58, Try.ntmps58
 go_wp2_with fail
 refine NX.out.mono ?_
 rintro e w1 ⟨⟨r, hr, rfl⟩, hs1, ho1⟩
 have HS1 : Hid (Dq w0 b a len cap z (A + 1) w1) := hs1
 have HO1 : Hid (OnlyB b w w1) := ho1
 clear hs1 ho1 NX
 go_wp2
 go_ret
 exact ⟨⟨_, rfl⟩, HS1.out, HO1.out⟩
theorem set3b {B p : Nat} (w : World) (hp : B ≤ p) (x y z : Value) : Below B w (((w.setCell ⟨p, 0, none⟩ x).setCell ⟨p, 1, none⟩ y).setCell ⟨p, 2, none⟩ z) := (((Below.refl B w).setCell (p := ⟨p, 0, none⟩) hp x).setCell (p := ⟨p, 1, none⟩) hp y).setCell (p := ⟨p, 2, none⟩) hp z
theorem Box3.loadqa {w : World} {b : Nat} {x y z : Value} (h : Box3 w b 41 x y z) : (loadVar 41 ⟨b, 0, none⟩).run Try.prog w = .ok (.agg #[x, y, z]) w := by
 have h0 := h.c0
 have h1 := h.c1
 have h2 := h.c2
 go_simp
set_option maxRecDepth 100000 in
set_option maxHeartbeats 4000000 in
theorem quAct_q (n : Nat) (hn : 1 ≤ n) (hn' : n ≤ 7) (b : Nat) (a : Option Addr) (len cap A : Nat) (z : Nat → Nat) (w : World) (k : Dk0 w b a len z) (hA : A ≤ 5000) (h : SrcA w b a len cap A) (hc : Code8 w a len z) :
  Calls Try.prog 57 #[.pointer (some ⟨b, 0, none⟩), .int .i64 (n : Int)] w fun e w' => (∃ x : Qa, e = .returned (.agg #[.int .i64 x.k, .int .i64 x.r, .int .i64 x.n])) ∧ Dq w b a len cap z (A + 4) w' := by
 have KK : Hid (Dk0 w b a len z) := k
 have NX : Hid (∀ (m i : Nat) (v : World), 1 ≤ m → m ≤ 256 → i ≤ 4 → Dq w b a len cap z (A + i) v → Calls Try.prog 55 #[.pointer (some ⟨b, 0, none⟩), .int .i64 (m : Int)] v fun e w' => (∃ r : Nat, r < m ∧ e = .returned (.int .i64 (r : Int))) ∧ Dq w b a len cap z (A + (i + 1)) w' ∧ OnlyB b v w') := fun m i v h1 h2 h3 h => next_q w m h1 h2 b a len cap (A + i) z KK.out (by omega) v h
 have CX : Hid (∀ (i : Nat) (v : World), i ≤ 4 → Dq w b a len cap z (A + i) v → Calls Try.prog 58 #[.pointer (some ⟨b, 0, none⟩), .int .i64 2] v fun e w' => (∃ r : Bool, e = .returned (.bool r)) ∧ Dq w b a len cap z (A + (i + 1)) w' ∧ OnlyB b v w') := fun i v h3 h => chance_q w 2 (by omega) (by omega) b a len cap (A + i) z KK.out (by omega) v h
 have bw : Below w.heap.size w (w.alloc (.cells #[.int .i64 0, .int .i64 0, .int .i64 0] 41)) := (Below.refl _ _).alloc (Nat.le_refl _) _
 have X4 : Hid (Box3 (w.alloc (.cells #[.int .i64 0, .int .i64 0, .int .i64 0] 41)) w.heap.size 41 (.int .i64 0) (.int .i64 0) (.int .i64 0)) := Box3.made _ _ _ _ _
 have DQ : Hid (Dq w b a len cap z (A + 0) (w.alloc (.cells #[.int .i64 0, .int .i64 0, .int .i64 0] 41))) := Dq.step k ⟨h, hc, ChB.refl _ _⟩ bw
 have NB : Hid (w.heap.size ≠ b) := by have := k.hb; show _ ≠ _; omega
 have HN : Hid (1 ≤ n ∧ n ≤ 256) := ⟨hn, by omega⟩
 clear bw h hc k
 go_enter Try.func57, Try.ntmps57
 go_wp2_with fail
 generalize (w.alloc (.cells #[.int .i64 0, .int .i64 0, .int .i64 0] 41)) = v at *
 refine (NX.out n 0 _ HN.out.1 HN.out.2 (by omega) DQ.out).mono ?_
 rintro e v1 ⟨⟨r0, hr0, rfl⟩, hs, ho⟩
 have X4lt : Hid (w.heap.size < v1.heap.size) := Nat.lt_of_lt_of_le X4.out.lt ho.size
 have bw : Below w.heap.size v1 (v1.alloc (.cells #[.int .i64 2, .int .i64 (r0 : Int), .int .i64 0] 41)) := (Below.refl _ _).alloc hs.2.2.size _
 have bv : Below v1.heap.size v1 (v1.alloc (.cells #[.int .i64 2, .int .i64 (r0 : Int), .int .i64 0] 41)) := (Below.refl _ _).alloc (Nat.le_refl _) _
 replace X4 : Hid (Box3 (v1.alloc (.cells #[.int .i64 2, .int .i64 (r0 : Int), .int .i64 0] 41)) w.heap.size 41 (.int .i64 0) (.int .i64 0) (.int .i64 0)) := (X4.out.ofBlock (ho.block _ X4.out.lt NB.out)).below bv
 have X5 : Hid (Box3 (v1.alloc (.cells #[.int .i64 2, .int .i64 (r0 : Int), .int .i64 0] 41)) v1.heap.size 41 (.int .i64 2) (.int .i64 (r0 : Int)) (.int .i64 0)) := Box3.made _ _ _ _ _
 replace DQ : Hid (Dq w b a len cap z (A + 1) (v1.alloc (.cells #[.int .i64 2, .int .i64 (r0 : Int), .int .i64 0] 41))) := hs.step KK.out bw
 have PB : Hid (v1.heap.size ≠ b ∧ v1.heap.size ≠ w.heap.size ∧ w.heap.size ≤ v1.heap.size) := by
  have h1 := hs.2.2.size
  have h2 := KK.out.hb
  have h3 := ho.size
  exact ⟨by omega, by have := X4.out.lt; have := DQ.out.2.2.size; have h5 : w.heap.size < v1.heap.size := X4lt.out; omega, h1⟩
 clear bw bv hs ho hr0
 go_wp2_with fail
 generalize (v1.alloc (.cells #[.int .i64 2, .int .i64 (r0 : Int), .int .i64 0] 41)) = v2 at *
 obtain ⟨pb, hpb⟩ : ∃ x, x = v1.heap.size := ⟨_, rfl⟩
 rw [← hpb] at X5 PB ⊢
 clear hpb
 refine (NX.out 14 1 _ (by omega) (by omega) (by omega) DQ.out).mono ?_
 rintro e v3 ⟨⟨sw, hsw, rfl⟩, hs, ho⟩
 replace X4 : Hid (Box3 v3 w.heap.size 41 (.int .i64 0) (.int .i64 0) (.int .i64 0)) := X4.out.ofBlock (ho.block _ X4.out.lt NB.out)
 replace X5 : Hid (Box3 v3 pb 41 (.int .i64 2) (.int .i64 (r0 : Int)) (.int .i64 0)) := X5.out.ofBlock (ho.block _ X5.out.lt PB.out.1)
 replace DQ : Hid (Dq w b a len cap z (A + 2) v3) := hs
 clear hs ho
 obtain ⟨S, hS⟩ : ∃ S : Int, S = (sw : Int) := ⟨_, rfl⟩
 rw [← hS]
 have hS2 : S = 0 ∨ S = 1 ∨ S = 2 ∨ S = 3 ∨ S = 4 ∨ S = 5 ∨ S = 6 ∨ S = 7 ∨ S = 8 ∨ S = 9 ∨ S = 10 ∨ S = 11 ∨ S = 12 ∨ S = 13 := by omega
 clear hS hsw
 rcases hS2 with rfl | rfl | rfl | rfl | rfl | rfl | rfl | rfl | rfl | rfl | rfl | rfl | rfl | rfl
 ·--0
  go_wp2_with fail
  refine (NX.out 9 2 _ (by have := HN.out; omega) (by have := HN.out; omega) (by omega) DQ.out).mono ?_
  rintro e u1 ⟨⟨r1, hr, rfl⟩, hs, ho⟩
  replace X4 : Hid (Box3 u1 w.heap.size 41 (.int .i64 0) (.int .i64 0) (.int .i64 0)) := X4.out.ofBlock (ho.block _ X4.out.lt NB.out)
  replace X5 : Hid (Box3 u1 pb 41 (.int .i64 2) (.int .i64 (r0 : Int)) (.int .i64 0)) := X5.out.ofBlock (ho.block _ X5.out.lt PB.out.1)
  replace DQ : Hid (Dq w b a len cap z (A + 3) u1) := hs
  clear hs ho hr
  have x0 := X5.out.c0
  have x1 := X5.out.c1
  have x2 := X5.out.c2
  have f0 := X5.out.fr 0
  have f1 := X5.out.fr 1
  have f2 := X5.out.fr 2
  replace X4 : Hid (Box3 (((u1.setCell ⟨pb, 0, none⟩ (.int .i64 1)).setCell ⟨pb, 1, none⟩ (.int .i64 0)).setCell ⟨pb, 2, none⟩ (.int .i64 (r1 : Int))) w.heap.size 41 (.int .i64 0) (.int .i64 0) (.int .i64 0)) := (((X4.out.other (a := ⟨pb, 0, none⟩) PB.out.2.1.symm _).other (a := ⟨pb, 1, none⟩) PB.out.2.1.symm _).other (a := ⟨pb, 2, none⟩) PB.out.2.1.symm _)
  replace X5 : Hid (Box3 (((u1.setCell ⟨pb, 0, none⟩ (.int .i64 1)).setCell ⟨pb, 1, none⟩ (.int .i64 0)).setCell ⟨pb, 2, none⟩ (.int .i64 (r1 : Int))) pb 41 (.int .i64 1) (.int .i64 0) (.int .i64 (r1 : Int))) := (((X5.out.set0 _).set1 _).set2 _)
  replace DQ : Hid (Dq w b a len cap z (A + 3) (((u1.setCell ⟨pb, 0, none⟩ (.int .i64 1)).setCell ⟨pb, 1, none⟩ (.int .i64 0)).setCell ⟨pb, 2, none⟩ (.int .i64 (r1 : Int)))) := DQ.out.step KK.out ((((Below.refl _ _).setCell PB.out.2.2 _).setCell PB.out.2.2 _).setCell PB.out.2.2 _)
  go_upto_region 23 with fail
  generalize (((u1.setCell ⟨pb, 0, none⟩ (.int .i64 1)).setCell ⟨pb, 1, none⟩ (.int .i64 0)).setCell ⟨pb, 2, none⟩ (.int .i64 (r1 : Int))) = u2 at *
  clear x0 x1 x2 f0 f1 f2
  have x0 := X5.out.c0
  have x1 := X5.out.c1
  have x2 := X5.out.c2
  have y0 := X4.out.c0
  have g0 := X4.out.fr 0
  have y1 := X4.out.c1
  have g1 := X4.out.fr 1
  have y2 := X4.out.c2
  have g2 := X4.out.fr 2
  have X9 : Hid (Box3 (((u2.setCell ⟨w.heap.size, 0, none⟩ (.int .i64 1)).setCell ⟨w.heap.size, 1, none⟩ (.int .i64 0)).setCell ⟨w.heap.size, 2, none⟩ (.int .i64 (r1 : Int))) w.heap.size 41 (.int .i64 1) (.int .i64 0) (.int .i64 (r1 : Int))) := ((X4.out.set0 _).set1 _).set2 _
  have D9 : Hid (Dq w b a len cap z (A + 4) (((u2.setCell ⟨w.heap.size, 0, none⟩ (.int .i64 1)).setCell ⟨w.heap.size, 1, none⟩ (.int .i64 0)).setCell ⟨w.heap.size, 2, none⟩ (.int .i64 (r1 : Int)))) := by
   have h9 : Dq w b a len cap z (A + 3) (((u2.setCell ⟨w.heap.size, 0, none⟩ (.int .i64 1)).setCell ⟨w.heap.size, 1, none⟩ (.int .i64 0)).setCell ⟨w.heap.size, 2, none⟩ (.int .i64 (r1 : Int))) := DQ.out.step KK.out (set3b u2 (Nat.le_refl _) _ _ _)
   exact ⟨h9.1.mono (by omega), h9.2⟩
  clear X4 X5 DQ NX CX KK NB PB HN
  go_wp2
  exact ret_cell (b := w.heap.size) Try.results57 rfl (Box3.loadqa X9.out) ⟨⟨⟨1, 0, (r1 : Int)⟩, rfl⟩, D9.out⟩
 ·--1
  go_wp2_with fail
  refine (NX.out 9 2 _ (by have := HN.out; omega) (by have := HN.out; omega) (by omega) DQ.out).mono ?_
  rintro e u1 ⟨⟨r1, hr, rfl⟩, hs, ho⟩
  replace X4 : Hid (Box3 u1 w.heap.size 41 (.int .i64 0) (.int .i64 0) (.int .i64 0)) := X4.out.ofBlock (ho.block _ X4.out.lt NB.out)
  replace X5 : Hid (Box3 u1 pb 41 (.int .i64 2) (.int .i64 (r0 : Int)) (.int .i64 0)) := X5.out.ofBlock (ho.block _ X5.out.lt PB.out.1)
  replace DQ : Hid (Dq w b a len cap z (A + 3) u1) := hs
  clear hs ho hr
  have x0 := X5.out.c0
  have x1 := X5.out.c1
  have x2 := X5.out.c2
  have f0 := X5.out.fr 0
  have f1 := X5.out.fr 1
  have f2 := X5.out.fr 2
  replace X4 : Hid (Box3 (((u1.setCell ⟨pb, 0, none⟩ (.int .i64 1)).setCell ⟨pb, 1, none⟩ (.int .i64 0)).setCell ⟨pb, 2, none⟩ (.int .i64 (r1 : Int))) w.heap.size 41 (.int .i64 0) (.int .i64 0) (.int .i64 0)) := (((X4.out.other (a := ⟨pb, 0, none⟩) PB.out.2.1.symm _).other (a := ⟨pb, 1, none⟩) PB.out.2.1.symm _).other (a := ⟨pb, 2, none⟩) PB.out.2.1.symm _)
  replace X5 : Hid (Box3 (((u1.setCell ⟨pb, 0, none⟩ (.int .i64 1)).setCell ⟨pb, 1, none⟩ (.int .i64 0)).setCell ⟨pb, 2, none⟩ (.int .i64 (r1 : Int))) pb 41 (.int .i64 1) (.int .i64 0) (.int .i64 (r1 : Int))) := (((X5.out.set0 _).set1 _).set2 _)
  replace DQ : Hid (Dq w b a len cap z (A + 3) (((u1.setCell ⟨pb, 0, none⟩ (.int .i64 1)).setCell ⟨pb, 1, none⟩ (.int .i64 0)).setCell ⟨pb, 2, none⟩ (.int .i64 (r1 : Int)))) := DQ.out.step KK.out ((((Below.refl _ _).setCell PB.out.2.2 _).setCell PB.out.2.2 _).setCell PB.out.2.2 _)
  go_upto_region 23 with fail
  generalize (((u1.setCell ⟨pb, 0, none⟩ (.int .i64 1)).setCell ⟨pb, 1, none⟩ (.int .i64 0)).setCell ⟨pb, 2, none⟩ (.int .i64 (r1 : Int))) = u2 at *
  clear x0 x1 x2 f0 f1 f2
  have x0 := X5.out.c0
  have x1 := X5.out.c1
  have x2 := X5.out.c2
  have y0 := X4.out.c0
  have g0 := X4.out.fr 0
  have y1 := X4.out.c1
  have g1 := X4.out.fr 1
  have y2 := X4.out.c2
  have g2 := X4.out.fr 2
  have X9 : Hid (Box3 (((u2.setCell ⟨w.heap.size, 0, none⟩ (.int .i64 1)).setCell ⟨w.heap.size, 1, none⟩ (.int .i64 0)).setCell ⟨w.heap.size, 2, none⟩ (.int .i64 (r1 : Int))) w.heap.size 41 (.int .i64 1) (.int .i64 0) (.int .i64 (r1 : Int))) := ((X4.out.set0 _).set1 _).set2 _
  have D9 : Hid (Dq w b a len cap z (A + 4) (((u2.setCell ⟨w.heap.size, 0, none⟩ (.int .i64 1)).setCell ⟨w.heap.size, 1, none⟩ (.int .i64 0)).setCell ⟨w.heap.size, 2, none⟩ (.int .i64 (r1 : Int)))) := by
   have h9 : Dq w b a len cap z (A + 3) (((u2.setCell ⟨w.heap.size, 0, none⟩ (.int .i64 1)).setCell ⟨w.heap.size, 1, none⟩ (.int .i64 0)).setCell ⟨w.heap.size, 2, none⟩ (.int .i64 (r1 : Int))) := DQ.out.step KK.out (set3b u2 (Nat.le_refl _) _ _ _)
   exact ⟨h9.1.mono (by omega), h9.2⟩
  clear X4 X5 DQ NX CX KK NB PB HN
  go_wp2
  exact ret_cell (b := w.heap.size) Try.results57 rfl (Box3.loadqa X9.out) ⟨⟨⟨1, 0, (r1 : Int)⟩, rfl⟩, D9.out⟩
 ·--2
  have x0 := X5.out.c0
  have x1 := X5.out.c1
  have x2 := X5.out.c2
  have f0 := X5.out.fr 0
  have f1 := X5.out.fr 1
  have f2 := X5.out.fr 2
  replace X4 : Hid (Box3 (((v3.setCell ⟨pb, 0, none⟩ (.int .i64 3)).setCell ⟨pb, 1, none⟩ (.int .i64 0)).setCell ⟨pb, 2, none⟩ (.int .i64 0)) w.heap.size 41 (.int .i64 0) (.int .i64 0) (.int .i64 0)) := (((X4.out.other (a := ⟨pb, 0, none⟩) PB.out.2.1.symm _).other (a := ⟨pb, 1, none⟩) PB.out.2.1.symm _).other (a := ⟨pb, 2, none⟩) PB.out.2.1.symm _)
  replace X5 : Hid (Box3 (((v3.setCell ⟨pb, 0, none⟩ (.int .i64 3)).setCell ⟨pb, 1, none⟩ (.int .i64 0)).setCell ⟨pb, 2, none⟩ (.int .i64 0)) pb 41 (.int .i64 3) (.int .i64 0) (.int .i64 0)) := (((X5.out.set0 _).set1 _).set2 _)
  replace DQ : Hid (Dq w b a len cap z (A + 2) (((v3.setCell ⟨pb, 0, none⟩ (.int .i64 3)).setCell ⟨pb, 1, none⟩ (.int .i64 0)).setCell ⟨pb, 2, none⟩ (.int .i64 0))) := DQ.out.step KK.out ((((Below.refl _ _).setCell PB.out.2.2 _).setCell PB.out.2.2 _).setCell PB.out.2.2 _)
  go_upto_region 23 with fail
  generalize (((v3.setCell ⟨pb, 0, none⟩ (.int .i64 3)).setCell ⟨pb, 1, none⟩ (.int .i64 0)).setCell ⟨pb, 2, none⟩ (.int .i64 0)) = u1 at *
  clear x0 x1 x2 f0 f1 f2
  have x0 := X5.out.c0
  have x1 := X5.out.c1
  have x2 := X5.out.c2
  have y0 := X4.out.c0
  have g0 := X4.out.fr 0
  have y1 := X4.out.c1
  have g1 := X4.out.fr 1
  have y2 := X4.out.c2
  have g2 := X4.out.fr 2
  have X9 : Hid (Box3 (((u1.setCell ⟨w.heap.size, 0, none⟩ (.int .i64 3)).setCell ⟨w.heap.size, 1, none⟩ (.int .i64 0)).setCell ⟨w.heap.size, 2, none⟩ (.int .i64 0)) w.heap.size 41 (.int .i64 3) (.int .i64 0) (.int .i64 0)) := ((X4.out.set0 _).set1 _).set2 _
  have D9 : Hid (Dq w b a len cap z (A + 4) (((u1.setCell ⟨w.heap.size, 0, none⟩ (.int .i64 3)).setCell ⟨w.heap.size, 1, none⟩ (.int .i64 0)).setCell ⟨w.heap.size, 2, none⟩ (.int .i64 0))) := by
   have h9 : Dq w b a len cap z (A + 2) (((u1.setCell ⟨w.heap.size, 0, none⟩ (.int .i64 3)).setCell ⟨w.heap.size, 1, none⟩ (.int .i64 0)).setCell ⟨w.heap.size, 2, none⟩ (.int .i64 0)) := DQ.out.step KK.out (set3b u1 (Nat.le_refl _) _ _ _)
   exact ⟨h9.1.mono (by omega), h9.2⟩
  clear X4 X5 DQ NX CX KK NB PB HN
  go_wp2
  exact ret_cell (b := w.heap.size) Try.results57 rfl (Box3.loadqa X9.out) ⟨⟨⟨3, 0, 0⟩, rfl⟩, D9.out⟩
 ·--3
  have x0 := X5.out.c0
  have x1 := X5.out.c1
  have x2 := X5.out.c2
  have f0 := X5.out.fr 0
  replace X4 : Hid (Box3 (v3.setCell ⟨pb, 0, none⟩ (.int .i64 4)) w.heap.size 41 (.int .i64 0) (.int .i64 0) (.int .i64 0)) := (X4.out.other (a := ⟨pb, 0, none⟩) PB.out.2.1.symm _)
  replace X5 : Hid (Box3 (v3.setCell ⟨pb, 0, none⟩ (.int .i64 4)) pb 41 (.int .i64 4) (.int .i64 (r0 : Int)) (.int .i64 0)) := (X5.out.set0 _)
  replace DQ : Hid (Dq w b a len cap z (A + 2) (v3.setCell ⟨pb, 0, none⟩ (.int .i64 4))) := DQ.out.step KK.out ((Below.refl _ _).setCell PB.out.2.2 _)
  go_wp2_with fail
  generalize (v3.setCell ⟨pb, 0, none⟩ (.int .i64 4)) = u1 at *
  refine (NX.out 3 2 _ (by have := HN.out; omega) (by have := HN.out; omega) (by omega) DQ.out).mono ?_
  rintro e u2 ⟨⟨r1, hr, rfl⟩, hs, ho⟩
  replace X4 : Hid (Box3 u2 w.heap.size 41 (.int .i64 0) (.int .i64 0) (.int .i64 0)) := X4.out.ofBlock (ho.block _ X4.out.lt NB.out)
  replace X5 : Hid (Box3 u2 pb 41 (.int .i64 4) (.int .i64 (r0 : Int)) (.int .i64 0)) := X5.out.ofBlock (ho.block _ X5.out.lt PB.out.1)
  replace DQ : Hid (Dq w b a len cap z (A + 3) u2) := hs
  clear hs ho hr
  clear x0 x1 x2 f0
  have x0 := X5.out.c0
  have x1 := X5.out.c1
  have x2 := X5.out.c2
  have f2 := X5.out.fr 2
  replace X4 : Hid (Box3 (u2.setCell ⟨pb, 2, none⟩ (.int .i64 (r1 : Int))) w.heap.size 41 (.int .i64 0) (.int .i64 0) (.int .i64 0)) := (X4.out.other (a := ⟨pb, 2, none⟩) PB.out.2.1.symm _)
  replace X5 : Hid (Box3 (u2.setCell ⟨pb, 2, none⟩ (.int .i64 (r1 : Int))) pb 41 (.int .i64 4) (.int .i64 (r0 : Int)) (.int .i64 (r1 : Int))) := (X5.out.set2 _)
  replace DQ : Hid (Dq w b a len cap z (A + 3) (u2.setCell ⟨pb, 2, none⟩ (.int .i64 (r1 : Int)))) := DQ.out.step KK.out ((Below.refl _ _).setCell PB.out.2.2 _)
  go_upto_region 23 with fail
  generalize (u2.setCell ⟨pb, 2, none⟩ (.int .i64 (r1 : Int))) = u3 at *
  clear x0 x1 x2 f2
  have x0 := X5.out.c0
  have x1 := X5.out.c1
  have x2 := X5.out.c2
  have y0 := X4.out.c0
  have g0 := X4.out.fr 0
  have y1 := X4.out.c1
  have g1 := X4.out.fr 1
  have y2 := X4.out.c2
  have g2 := X4.out.fr 2
  have X9 : Hid (Box3 (((u3.setCell ⟨w.heap.size, 0, none⟩ (.int .i64 4)).setCell ⟨w.heap.size, 1, none⟩ (.int .i64 (r0 : Int))).setCell ⟨w.heap.size, 2, none⟩ (.int .i64 (r1 : Int))) w.heap.size 41 (.int .i64 4) (.int .i64 (r0 : Int)) (.int .i64 (r1 : Int))) := ((X4.out.set0 _).set1 _).set2 _
  have D9 : Hid (Dq w b a len cap z (A + 4) (((u3.setCell ⟨w.heap.size, 0, none⟩ (.int .i64 4)).setCell ⟨w.heap.size, 1, none⟩ (.int .i64 (r0 : Int))).setCell ⟨w.heap.size, 2, none⟩ (.int .i64 (r1 : Int)))) := by
   have h9 : Dq w b a len cap z (A + 3) (((u3.setCell ⟨w.heap.size, 0, none⟩ (.int .i64 4)).setCell ⟨w.heap.size, 1, none⟩ (.int .i64 (r0 : Int))).setCell ⟨w.heap.size, 2, none⟩ (.int .i64 (r1 : Int))) := DQ.out.step KK.out (set3b u3 (Nat.le_refl _) _ _ _)
   exact ⟨h9.1.mono (by omega), h9.2⟩
  clear X4 X5 DQ NX CX KK NB PB HN
  go_wp2
  exact ret_cell (b := w.heap.size) Try.results57 rfl (Box3.loadqa X9.out) ⟨⟨⟨4, (r0 : Int), (r1 : Int)⟩, rfl⟩, D9.out⟩
 ·--4
  have x0 := X5.out.c0
  have x1 := X5.out.c1
  have x2 := X5.out.c2
  have f0 := X5.out.fr 0
  replace X4 : Hid (Box3 (v3.setCell ⟨pb, 0, none⟩ (.int .i64 4)) w.heap.size 41 (.int .i64 0) (.int .i64 0) (.int .i64 0)) := (X4.out.other (a := ⟨pb, 0, none⟩) PB.out.2.1.symm _)
  replace X5 : Hid (Box3 (v3.setCell ⟨pb, 0, none⟩ (.int .i64 4)) pb 41 (.int .i64 4) (.int .i64 (r0 : Int)) (.int .i64 0)) := (X5.out.set0 _)
  replace DQ : Hid (Dq w b a len cap z (A + 2) (v3.setCell ⟨pb, 0, none⟩ (.int .i64 4))) := DQ.out.step KK.out ((Below.refl _ _).setCell PB.out.2.2 _)
  go_wp2_with fail
  generalize (v3.setCell ⟨pb, 0, none⟩ (.int .i64 4)) = u1 at *
  refine (NX.out 3 2 _ (by have := HN.out; omega) (by have := HN.out; omega) (by omega) DQ.out).mono ?_
  rintro e u2 ⟨⟨r1, hr, rfl⟩, hs, ho⟩
  replace X4 : Hid (Box3 u2 w.heap.size 41 (.int .i64 0) (.int .i64 0) (.int .i64 0)) := X4.out.ofBlock (ho.block _ X4.out.lt NB.out)
  replace X5 : Hid (Box3 u2 pb 41 (.int .i64 4) (.int .i64 (r0 : Int)) (.int .i64 0)) := X5.out.ofBlock (ho.block _ X5.out.lt PB.out.1)
  replace DQ : Hid (Dq w b a len cap z (A + 3) u2) := hs
  clear hs ho hr
  clear x0 x1 x2 f0
  have x0 := X5.out.c0
  have x1 := X5.out.c1
  have x2 := X5.out.c2
  have f2 := X5.out.fr 2
  replace X4 : Hid (Box3 (u2.setCell ⟨pb, 2, none⟩ (.int .i64 (r1 : Int))) w.heap.size 41 (.int .i64 0) (.int .i64 0) (.int .i64 0)) := (X4.out.other (a := ⟨pb, 2, none⟩) PB.out.2.1.symm _)
  replace X5 : Hid (Box3 (u2.setCell ⟨pb, 2, none⟩ (.int .i64 (r1 : Int))) pb 41 (.int .i64 4) (.int .i64 (r0 : Int)) (.int .i64 (r1 : Int))) := (X5.out.set2 _)
  replace DQ : Hid (Dq w b a len cap z (A + 3) (u2.setCell ⟨pb, 2, none⟩ (.int .i64 (r1 : Int)))) := DQ.out.step KK.out ((Below.refl _ _).setCell PB.out.2.2 _)
  go_upto_region 23 with fail
  generalize (u2.setCell ⟨pb, 2, none⟩ (.int .i64 (r1 : Int))) = u3 at *
  clear x0 x1 x2 f2
  have x0 := X5.out.c0
  have x1 := X5.out.c1
  have x2 := X5.out.c2
  have y0 := X4.out.c0
  have g0 := X4.out.fr 0
  have y1 := X4.out.c1
  have g1 := X4.out.fr 1
  have y2 := X4.out.c2
  have g2 := X4.out.fr 2
  have X9 : Hid (Box3 (((u3.setCell ⟨w.heap.size, 0, none⟩ (.int .i64 4)).setCell ⟨w.heap.size, 1, none⟩ (.int .i64 (r0 : Int))).setCell ⟨w.heap.size, 2, none⟩ (.int .i64 (r1 : Int))) w.heap.size 41 (.int .i64 4) (.int .i64 (r0 : Int)) (.int .i64 (r1 : Int))) := ((X4.out.set0 _).set1 _).set2 _
  have D9 : Hid (Dq w b a len cap z (A + 4) (((u3.setCell ⟨w.heap.size, 0, none⟩ (.int .i64 4)).setCell ⟨w.heap.size, 1, none⟩ (.int .i64 (r0 : Int))).setCell ⟨w.heap.size, 2, none⟩ (.int .i64 (r1 : Int)))) := by
   have h9 : Dq w b a len cap z (A + 3) (((u3.setCell ⟨w.heap.size, 0, none⟩ (.int .i64 4)).setCell ⟨w.heap.size, 1, none⟩ (.int .i64 (r0 : Int))).setCell ⟨w.heap.size, 2, none⟩ (.int .i64 (r1 : Int))) := DQ.out.step KK.out (set3b u3 (Nat.le_refl _) _ _ _)
   exact ⟨h9.1.mono (by omega), h9.2⟩
  clear X4 X5 DQ NX CX KK NB PB HN
  go_wp2
  exact ret_cell (b := w.heap.size) Try.results57 rfl (Box3.loadqa X9.out) ⟨⟨⟨4, (r0 : Int), (r1 : Int)⟩, rfl⟩, D9.out⟩
 ·--5
  have x0 := X5.out.c0
  have x1 := X5.out.c1
  have x2 := X5.out.c2
  have f0 := X5.out.fr 0
  replace X4 : Hid (Box3 (v3.setCell ⟨pb, 0, none⟩ (.int .i64 4)) w.heap.size 41 (.int .i64 0) (.int .i64 0) (.int .i64 0)) := (X4.out.other (a := ⟨pb, 0, none⟩) PB.out.2.1.symm _)
  replace X5 : Hid (Box3 (v3.setCell ⟨pb, 0, none⟩ (.int .i64 4)) pb 41 (.int .i64 4) (.int .i64 (r0 : Int)) (.int .i64 0)) := (X5.out.set0 _)
  replace DQ : Hid (Dq w b a len cap z (A + 2) (v3.setCell ⟨pb, 0, none⟩ (.int .i64 4))) := DQ.out.step KK.out ((Below.refl _ _).setCell PB.out.2.2 _)
  go_wp2_with fail
  generalize (v3.setCell ⟨pb, 0, none⟩ (.int .i64 4)) = u1 at *
  refine (NX.out 3 2 _ (by have := HN.out; omega) (by have := HN.out; omega) (by omega) DQ.out).mono ?_
  rintro e u2 ⟨⟨r1, hr, rfl⟩, hs, ho⟩
  replace X4 : Hid (Box3 u2 w.heap.size 41 (.int .i64 0) (.int .i64 0) (.int .i64 0)) := X4.out.ofBlock (ho.block _ X4.out.lt NB.out)
  replace X5 : Hid (Box3 u2 pb 41 (.int .i64 4) (.int .i64 (r0 : Int)) (.int .i64 0)) := X5.out.ofBlock (ho.block _ X5.out.lt PB.out.1)
  replace DQ : Hid (Dq w b a len cap z (A + 3) u2) := hs
  clear hs ho hr
  clear x0 x1 x2 f0
  have x0 := X5.out.c0
  have x1 := X5.out.c1
  have x2 := X5.out.c2
  have f2 := X5.out.fr 2
  replace X4 : Hid (Box3 (u2.setCell ⟨pb, 2, none⟩ (.int .i64 (r1 : Int))) w.heap.size 41 (.int .i64 0) (.int .i64 0) (.int .i64 0)) := (X4.out.other (a := ⟨pb, 2, none⟩) PB.out.2.1.symm _)
  replace X5 : Hid (Box3 (u2.setCell ⟨pb, 2, none⟩ (.int .i64 (r1 : Int))) pb 41 (.int .i64 4) (.int .i64 (r0 : Int)) (.int .i64 (r1 : Int))) := (X5.out.set2 _)
  replace DQ : Hid (Dq w b a len cap z (A + 3) (u2.setCell ⟨pb, 2, none⟩ (.int .i64 (r1 : Int)))) := DQ.out.step KK.out ((Below.refl _ _).setCell PB.out.2.2 _)
  go_upto_region 23 with fail
  generalize (u2.setCell ⟨pb, 2, none⟩ (.int .i64 (r1 : Int))) = u3 at *
  clear x0 x1 x2 f2
  have x0 := X5.out.c0
  have x1 := X5.out.c1
  have x2 := X5.out.c2
  have y0 := X4.out.c0
  have g0 := X4.out.fr 0
  have y1 := X4.out.c1
  have g1 := X4.out.fr 1
  have y2 := X4.out.c2
  have g2 := X4.out.fr 2
  have X9 : Hid (Box3 (((u3.setCell ⟨w.heap.size, 0, none⟩ (.int .i64 4)).setCell ⟨w.heap.size, 1, none⟩ (.int .i64 (r0 : Int))).setCell ⟨w.heap.size, 2, none⟩ (.int .i64 (r1 : Int))) w.heap.size 41 (.int .i64 4) (.int .i64 (r0 : Int)) (.int .i64 (r1 : Int))) := ((X4.out.set0 _).set1 _).set2 _
  have D9 : Hid (Dq w b a len cap z (A + 4) (((u3.setCell ⟨w.heap.size, 0, none⟩ (.int .i64 4)).setCell ⟨w.heap.size, 1, none⟩ (.int .i64 (r0 : Int))).setCell ⟨w.heap.size, 2, none⟩ (.int .i64 (r1 : Int)))) := by
   have h9 : Dq w b a len cap z (A + 3) (((u3.setCell ⟨w.heap.size, 0, none⟩ (.int .i64 4)).setCell ⟨w.heap.size, 1, none⟩ (.int .i64 (r0 : Int))).setCell ⟨w.heap.size, 2, none⟩ (.int .i64 (r1 : Int))) := DQ.out.step KK.out (set3b u3 (Nat.le_refl _) _ _ _)
   exact ⟨h9.1.mono (by omega), h9.2⟩
  clear X4 X5 DQ NX CX KK NB PB HN
  go_wp2
  exact ret_cell (b := w.heap.size) Try.results57 rfl (Box3.loadqa X9.out) ⟨⟨⟨4, (r0 : Int), (r1 : Int)⟩, rfl⟩, D9.out⟩
 ·--6
  have x0 := X5.out.c0
  have x1 := X5.out.c1
  have x2 := X5.out.c2
  have f0 := X5.out.fr 0
  replace X4 : Hid (Box3 (v3.setCell ⟨pb, 0, none⟩ (.int .i64 5)) w.heap.size 41 (.int .i64 0) (.int .i64 0) (.int .i64 0)) := (X4.out.other (a := ⟨pb, 0, none⟩) PB.out.2.1.symm _)
  replace X5 : Hid (Box3 (v3.setCell ⟨pb, 0, none⟩ (.int .i64 5)) pb 41 (.int .i64 5) (.int .i64 (r0 : Int)) (.int .i64 0)) := (X5.out.set0 _)
  replace DQ : Hid (Dq w b a len cap z (A + 2) (v3.setCell ⟨pb, 0, none⟩ (.int .i64 5))) := DQ.out.step KK.out ((Below.refl _ _).setCell PB.out.2.2 _)
  go_upto_region 23 with fail
  generalize (v3.setCell ⟨pb, 0, none⟩ (.int .i64 5)) = u1 at *
  clear x0 x1 x2 f0
  have x0 := X5.out.c0
  have x1 := X5.out.c1
  have x2 := X5.out.c2
  have y0 := X4.out.c0
  have g0 := X4.out.fr 0
  have y1 := X4.out.c1
  have g1 := X4.out.fr 1
  have y2 := X4.out.c2
  have g2 := X4.out.fr 2
  have X9 : Hid (Box3 (((u1.setCell ⟨w.heap.size, 0, none⟩ (.int .i64 5)).setCell ⟨w.heap.size, 1, none⟩ (.int .i64 (r0 : Int))).setCell ⟨w.heap.size, 2, none⟩ (.int .i64 0)) w.heap.size 41 (.int .i64 5) (.int .i64 (r0 : Int)) (.int .i64 0)) := ((X4.out.set0 _).set1 _).set2 _
  have D9 : Hid (Dq w b a len cap z (A + 4) (((u1.setCell ⟨w.heap.size, 0, none⟩ (.int .i64 5)).setCell ⟨w.heap.size, 1, none⟩ (.int .i64 (r0 : Int))).setCell ⟨w.heap.size, 2, none⟩ (.int .i64 0))) := by
   have h9 : Dq w b a len cap z (A + 2) (((u1.setCell ⟨w.heap.size, 0, none⟩ (.int .i64 5)).setCell ⟨w.heap.size, 1, none⟩ (.int .i64 (r0 : Int))).setCell ⟨w.heap.size, 2, none⟩ (.int .i64 0)) := DQ.out.step KK.out (set3b u1 (Nat.le_refl _) _ _ _)
   exact ⟨h9.1.mono (by omega), h9.2⟩
  clear X4 X5 DQ NX CX KK NB PB HN
  go_wp2
  exact ret_cell (b := w.heap.size) Try.results57 rfl (Box3.loadqa X9.out) ⟨⟨⟨5, (r0 : Int), 0⟩, rfl⟩, D9.out⟩
 ·--7
  go_wp2_with fail
  refine (CX.out 2 _ (by omega) DQ.out).mono ?_
  rintro e u1 ⟨⟨rb, rfl⟩, hs, ho⟩
  replace X4 : Hid (Box3 u1 w.heap.size 41 (.int .i64 0) (.int .i64 0) (.int .i64 0)) := X4.out.ofBlock (ho.block _ X4.out.lt NB.out)
  replace X5 : Hid (Box3 u1 pb 41 (.int .i64 2) (.int .i64 (r0 : Int)) (.int .i64 0)) := X5.out.ofBlock (ho.block _ X5.out.lt PB.out.1)
  replace DQ : Hid (Dq w b a len cap z (A + 3) u1) := hs
  clear hs ho
  cases rb
  ·skip
   have x0 := X5.out.c0
   have x1 := X5.out.c1
   have x2 := X5.out.c2
   have y0 := X4.out.c0
   have g0 := X4.out.fr 0
   have y1 := X4.out.c1
   have g1 := X4.out.fr 1
   have y2 := X4.out.c2
   have g2 := X4.out.fr 2
   have X9 : Hid (Box3 (((u1.setCell ⟨w.heap.size, 0, none⟩ (.int .i64 2)).setCell ⟨w.heap.size, 1, none⟩ (.int .i64 (r0 : Int))).setCell ⟨w.heap.size, 2, none⟩ (.int .i64 0)) w.heap.size 41 (.int .i64 2) (.int .i64 (r0 : Int)) (.int .i64 0)) := ((X4.out.set0 _).set1 _).set2 _
   have D9 : Hid (Dq w b a len cap z (A + 4) (((u1.setCell ⟨w.heap.size, 0, none⟩ (.int .i64 2)).setCell ⟨w.heap.size, 1, none⟩ (.int .i64 (r0 : Int))).setCell ⟨w.heap.size, 2, none⟩ (.int .i64 0))) := by
    have h9 : Dq w b a len cap z (A + 3) (((u1.setCell ⟨w.heap.size, 0, none⟩ (.int .i64 2)).setCell ⟨w.heap.size, 1, none⟩ (.int .i64 (r0 : Int))).setCell ⟨w.heap.size, 2, none⟩ (.int .i64 0)) := DQ.out.step KK.out (set3b u1 (Nat.le_refl _) _ _ _)
    exact ⟨h9.1.mono (by omega), h9.2⟩
   clear X4 X5 DQ NX CX KK NB PB HN
   go_wp2
   exact ret_cell (b := w.heap.size) Try.results57 rfl (Box3.loadqa X9.out) ⟨⟨⟨2, (r0 : Int), 0⟩, rfl⟩, D9.out⟩
  ·skip
   have x0 := X5.out.c0
   have x1 := X5.out.c1
   have x2 := X5.out.c2
   have f0 := X5.out.fr 0
   replace X4 : Hid (Box3 (u1.setCell ⟨pb, 0, none⟩ (.int .i64 6)) w.heap.size 41 (.int .i64 0) (.int .i64 0) (.int .i64 0)) := (X4.out.other (a := ⟨pb, 0, none⟩) PB.out.2.1.symm _)
   replace X5 : Hid (Box3 (u1.setCell ⟨pb, 0, none⟩ (.int .i64 6)) pb 41 (.int .i64 6) (.int .i64 (r0 : Int)) (.int .i64 0)) := (X5.out.set0 _)
   replace DQ : Hid (Dq w b a len cap z (A + 3) (u1.setCell ⟨pb, 0, none⟩ (.int .i64 6))) := DQ.out.step KK.out ((Below.refl _ _).setCell PB.out.2.2 _)
   go_wp2_with fail
   generalize (u1.setCell ⟨pb, 0, none⟩ (.int .i64 6)) = u2 at *
   refine (NX.out 2 3 _ (by have := HN.out; omega) (by have := HN.out; omega) (by omega) DQ.out).mono ?_
   rintro e u3 ⟨⟨r1, hr, rfl⟩, hs, ho⟩
   replace X4 : Hid (Box3 u3 w.heap.size 41 (.int .i64 0) (.int .i64 0) (.int .i64 0)) := X4.out.ofBlock (ho.block _ X4.out.lt NB.out)
   replace X5 : Hid (Box3 u3 pb 41 (.int .i64 6) (.int .i64 (r0 : Int)) (.int .i64 0)) := X5.out.ofBlock (ho.block _ X5.out.lt PB.out.1)
   replace DQ : Hid (Dq w b a len cap z (A + 4) u3) := hs
   clear hs ho hr
   clear x0 x1 x2 f0
   have x0 := X5.out.c0
   have x1 := X5.out.c1
   have x2 := X5.out.c2
   have f2 := X5.out.fr 2
   replace X4 : Hid (Box3 (u3.setCell ⟨pb, 2, none⟩ (.int .i64 (r1 : Int))) w.heap.size 41 (.int .i64 0) (.int .i64 0) (.int .i64 0)) := (X4.out.other (a := ⟨pb, 2, none⟩) PB.out.2.1.symm _)
   replace X5 : Hid (Box3 (u3.setCell ⟨pb, 2, none⟩ (.int .i64 (r1 : Int))) pb 41 (.int .i64 6) (.int .i64 (r0 : Int)) (.int .i64 (r1 : Int))) := (X5.out.set2 _)
   replace DQ : Hid (Dq w b a len cap z (A + 4) (u3.setCell ⟨pb, 2, none⟩ (.int .i64 (r1 : Int)))) := DQ.out.step KK.out ((Below.refl _ _).setCell PB.out.2.2 _)
   go_upto_region 23 with fail
   generalize (u3.setCell ⟨pb, 2, none⟩ (.int .i64 (r1 : Int))) = u4 at *
   clear x0 x1 x2 f2
   have x0 := X5.out.c0
   have x1 := X5.out.c1
   have x2 := X5.out.c2
   have y0 := X4.out.c0
   have g0 := X4.out.fr 0
   have y1 := X4.out.c1
   have g1 := X4.out.fr 1
   have y2 := X4.out.c2
   have g2 := X4.out.fr 2
   have X9 : Hid (Box3 (((u4.setCell ⟨w.heap.size, 0, none⟩ (.int .i64 6)).setCell ⟨w.heap.size, 1, none⟩ (.int .i64 (r0 : Int))).setCell ⟨w.heap.size, 2, none⟩ (.int .i64 (r1 : Int))) w.heap.size 41 (.int .i64 6) (.int .i64 (r0 : Int)) (.int .i64 (r1 : Int))) := ((X4.out.set0 _).set1 _).set2 _
   have D9 : Hid (Dq w b a len cap z (A + 4) (((u4.setCell ⟨w.heap.size, 0, none⟩ (.int .i64 6)).setCell ⟨w.heap.size, 1, none⟩ (.int .i64 (r0 : Int))).setCell ⟨w.heap.size, 2, none⟩ (.int .i64 (r1 : Int)))) := by
    have h9 : Dq w b a len cap z (A + 4) (((u4.setCell ⟨w.heap.size, 0, none⟩ (.int .i64 6)).setCell ⟨w.heap.size, 1, none⟩ (.int .i64 (r0 : Int))).setCell ⟨w.heap.size, 2, none⟩ (.int .i64 (r1 : Int))) := DQ.out.step KK.out (set3b u4 (Nat.le_refl _) _ _ _)
    exact ⟨h9.1.mono (by omega), h9.2⟩
   clear X4 X5 DQ NX CX KK NB PB HN
   go_wp2
   exact ret_cell (b := w.heap.size) Try.results57 rfl (Box3.loadqa X9.out) ⟨⟨⟨6, (r0 : Int), (r1 : Int)⟩, rfl⟩, D9.out⟩
 ·--8
  have x0 := X5.out.c0
  have x1 := X5.out.c1
  have x2 := X5.out.c2
  have f0 := X5.out.fr 0
  replace X4 : Hid (Box3 (v3.setCell ⟨pb, 0, none⟩ (.int .i64 7)) w.heap.size 41 (.int .i64 0) (.int .i64 0) (.int .i64 0)) := (X4.out.other (a := ⟨pb, 0, none⟩) PB.out.2.1.symm _)
  replace X5 : Hid (Box3 (v3.setCell ⟨pb, 0, none⟩ (.int .i64 7)) pb 41 (.int .i64 7) (.int .i64 (r0 : Int)) (.int .i64 0)) := (X5.out.set0 _)
  replace DQ : Hid (Dq w b a len cap z (A + 2) (v3.setCell ⟨pb, 0, none⟩ (.int .i64 7))) := DQ.out.step KK.out ((Below.refl _ _).setCell PB.out.2.2 _)
  go_wp2_with fail
  generalize (v3.setCell ⟨pb, 0, none⟩ (.int .i64 7)) = u1 at *
  refine (NX.out n 2 _ (by have := HN.out; omega) (by have := HN.out; omega) (by omega) DQ.out).mono ?_
  rintro e u2 ⟨⟨r1, hr, rfl⟩, hs, ho⟩
  replace X4 : Hid (Box3 u2 w.heap.size 41 (.int .i64 0) (.int .i64 0) (.int .i64 0)) := X4.out.ofBlock (ho.block _ X4.out.lt NB.out)
  replace X5 : Hid (Box3 u2 pb 41 (.int .i64 7) (.int .i64 (r0 : Int)) (.int .i64 0)) := X5.out.ofBlock (ho.block _ X5.out.lt PB.out.1)
  replace DQ : Hid (Dq w b a len cap z (A + 3) u2) := hs
  clear hs ho hr
  clear x0 x1 x2 f0
  have x0 := X5.out.c0
  have x1 := X5.out.c1
  have x2 := X5.out.c2
  have f2 := X5.out.fr 2
  replace X4 : Hid (Box3 (u2.setCell ⟨pb, 2, none⟩ (.int .i64 (r1 : Int))) w.heap.size 41 (.int .i64 0) (.int .i64 0) (.int .i64 0)) := (X4.out.other (a := ⟨pb, 2, none⟩) PB.out.2.1.symm _)
  replace X5 : Hid (Box3 (u2.setCell ⟨pb, 2, none⟩ (.int .i64 (r1 : Int))) pb 41 (.int .i64 7) (.int .i64 (r0 : Int)) (.int .i64 (r1 : Int))) := (X5.out.set2 _)
  replace DQ : Hid (Dq w b a len cap z (A + 3) (u2.setCell ⟨pb, 2, none⟩ (.int .i64 (r1 : Int)))) := DQ.out.step KK.out ((Below.refl _ _).setCell PB.out.2.2 _)
  go_upto_region 23 with fail
  generalize (u2.setCell ⟨pb, 2, none⟩ (.int .i64 (r1 : Int))) = u3 at *
  clear x0 x1 x2 f2
  have x0 := X5.out.c0
  have x1 := X5.out.c1
  have x2 := X5.out.c2
  have y0 := X4.out.c0
  have g0 := X4.out.fr 0
  have y1 := X4.out.c1
  have g1 := X4.out.fr 1
  have y2 := X4.out.c2
  have g2 := X4.out.fr 2
  have X9 : Hid (Box3 (((u3.setCell ⟨w.heap.size, 0, none⟩ (.int .i64 7)).setCell ⟨w.heap.size, 1, none⟩ (.int .i64 (r0 : Int))).setCell ⟨w.heap.size, 2, none⟩ (.int .i64 (r1 : Int))) w.heap.size 41 (.int .i64 7) (.int .i64 (r0 : Int)) (.int .i64 (r1 : Int))) := ((X4.out.set0 _).set1 _).set2 _
  have D9 : Hid (Dq w b a len cap z (A + 4) (((u3.setCell ⟨w.heap.size, 0, none⟩ (.int .i64 7)).setCell ⟨w.heap.size, 1, none⟩ (.int .i64 (r0 : Int))).setCell ⟨w.heap.size, 2, none⟩ (.int .i64 (r1 : Int)))) := by
   have h9 : Dq w b a len cap z (A + 3) (((u3.setCell ⟨w.heap.size, 0, none⟩ (.int .i64 7)).setCell ⟨w.heap.size, 1, none⟩ (.int .i64 (r0 : Int))).setCell ⟨w.heap.size, 2, none⟩ (.int .i64 (r1 : Int))) := DQ.out.step KK.out (set3b u3 (Nat.le_refl _) _ _ _)
   exact ⟨h9.1.mono (by omega), h9.2⟩
  clear X4 X5 DQ NX CX KK NB PB HN
  go_wp2
  exact ret_cell (b := w.heap.size) Try.results57 rfl (Box3.loadqa X9.out) ⟨⟨⟨7, (r0 : Int), (r1 : Int)⟩, rfl⟩, D9.out⟩
 ·--9
  have x0 := X5.out.c0
  have x1 := X5.out.c1
  have x2 := X5.out.c2
  have f0 := X5.out.fr 0
  replace X4 : Hid (Box3 (v3.setCell ⟨pb, 0, none⟩ (.int .i64 7)) w.heap.size 41 (.int .i64 0) (.int .i64 0) (.int .i64 0)) := (X4.out.other (a := ⟨pb, 0, none⟩) PB.out.2.1.symm _)
  replace X5 : Hid (Box3 (v3.setCell ⟨pb, 0, none⟩ (.int .i64 7)) pb 41 (.int .i64 7) (.int .i64 (r0 : Int)) (.int .i64 0)) := (X5.out.set0 _)
  replace DQ : Hid (Dq w b a len cap z (A + 2) (v3.setCell ⟨pb, 0, none⟩ (.int .i64 7))) := DQ.out.step KK.out ((Below.refl _ _).setCell PB.out.2.2 _)
  go_wp2_with fail
  generalize (v3.setCell ⟨pb, 0, none⟩ (.int .i64 7)) = u1 at *
  refine (NX.out n 2 _ (by have := HN.out; omega) (by have := HN.out; omega) (by omega) DQ.out).mono ?_
  rintro e u2 ⟨⟨r1, hr, rfl⟩, hs, ho⟩
  replace X4 : Hid (Box3 u2 w.heap.size 41 (.int .i64 0) (.int .i64 0) (.int .i64 0)) := X4.out.ofBlock (ho.block _ X4.out.lt NB.out)
  replace X5 : Hid (Box3 u2 pb 41 (.int .i64 7) (.int .i64 (r0 : Int)) (.int .i64 0)) := X5.out.ofBlock (ho.block _ X5.out.lt PB.out.1)
  replace DQ : Hid (Dq w b a len cap z (A + 3) u2) := hs
  clear hs ho hr
  clear x0 x1 x2 f0
  have x0 := X5.out.c0
  have x1 := X5.out.c1
  have x2 := X5.out.c2
  have f2 := X5.out.fr 2
  replace X4 : Hid (Box3 (u2.setCell ⟨pb, 2, none⟩ (.int .i64 (r1 : Int))) w.heap.size 41 (.int .i64 0) (.int .i64 0) (.int .i64 0)) := (X4.out.other (a := ⟨pb, 2, none⟩) PB.out.2.1.symm _)
  replace X5 : Hid (Box3 (u2.setCell ⟨pb, 2, none⟩ (.int .i64 (r1 : Int))) pb 41 (.int .i64 7) (.int .i64 (r0 : Int)) (.int .i64 (r1 : Int))) := (X5.out.set2 _)
  replace DQ : Hid (Dq w b a len cap z (A + 3) (u2.setCell ⟨pb, 2, none⟩ (.int .i64 (r1 : Int)))) := DQ.out.step KK.out ((Below.refl _ _).setCell PB.out.2.2 _)
  go_upto_region 23 with fail
  generalize (u2.setCell ⟨pb, 2, none⟩ (.int .i64 (r1 : Int))) = u3 at *
  clear x0 x1 x2 f2
  have x0 := X5.out.c0
  have x1 := X5.out.c1
  have x2 := X5.out.c2
  have y0 := X4.out.c0
  have g0 := X4.out.fr 0
  have y1 := X4.out.c1
  have g1 := X4.out.fr 1
  have y2 := X4.out.c2
  have g2 := X4.out.fr 2
  have X9 : Hid (Box3 (((u3.setCell ⟨w.heap.size, 0, none⟩ (.int .i64 7)).setCell ⟨w.heap.size, 1, none⟩ (.int .i64 (r0 : Int))).setCell ⟨w.heap.size, 2, none⟩ (.int .i64 (r1 : Int))) w.heap.size 41 (.int .i64 7) (.int .i64 (r0 : Int)) (.int .i64 (r1 : Int))) := ((X4.out.set0 _).set1 _).set2 _
  have D9 : Hid (Dq w b a len cap z (A + 4) (((u3.setCell ⟨w.heap.size, 0, none⟩ (.int .i64 7)).setCell ⟨w.heap.size, 1, none⟩ (.int .i64 (r0 : Int))).setCell ⟨w.heap.size, 2, none⟩ (.int .i64 (r1 : Int)))) := by
   have h9 : Dq w b a len cap z (A + 3) (((u3.setCell ⟨w.heap.size, 0, none⟩ (.int .i64 7)).setCell ⟨w.heap.size, 1, none⟩ (.int .i64 (r0 : Int))).setCell ⟨w.heap.size, 2, none⟩ (.int .i64 (r1 : Int))) := DQ.out.step KK.out (set3b u3 (Nat.le_refl _) _ _ _)
   exact ⟨h9.1.mono (by omega), h9.2⟩
  clear X4 X5 DQ NX CX KK NB PB HN
  go_wp2
  exact ret_cell (b := w.heap.size) Try.results57 rfl (Box3.loadqa X9.out) ⟨⟨⟨7, (r0 : Int), (r1 : Int)⟩, rfl⟩, D9.out⟩
 ·--10
  have x0 := X5.out.c0
  have x1 := X5.out.c1
  have x2 := X5.out.c2
  have y0 := X4.out.c0
  have g0 := X4.out.fr 0
  have y1 := X4.out.c1
  have g1 := X4.out.fr 1
  have y2 := X4.out.c2
  have g2 := X4.out.fr 2
  have X9 : Hid (Box3 (((v3.setCell ⟨w.heap.size, 0, none⟩ (.int .i64 2)).setCell ⟨w.heap.size, 1, none⟩ (.int .i64 (r0 : Int))).setCell ⟨w.heap.size, 2, none⟩ (.int .i64 0)) w.heap.size 41 (.int .i64 2) (.int .i64 (r0 : Int)) (.int .i64 0)) := ((X4.out.set0 _).set1 _).set2 _
  have D9 : Hid (Dq w b a len cap z (A + 4) (((v3.setCell ⟨w.heap.size, 0, none⟩ (.int .i64 2)).setCell ⟨w.heap.size, 1, none⟩ (.int .i64 (r0 : Int))).setCell ⟨w.heap.size, 2, none⟩ (.int .i64 0))) := by
   have h9 : Dq w b a len cap z (A + 2) (((v3.setCell ⟨w.heap.size, 0, none⟩ (.int .i64 2)).setCell ⟨w.heap.size, 1, none⟩ (.int .i64 (r0 : Int))).setCell ⟨w.heap.size, 2, none⟩ (.int .i64 0)) := DQ.out.step KK.out (set3b v3 (Nat.le_refl _) _ _ _)
   exact ⟨h9.1.mono (by omega), h9.2⟩
  clear X4 X5 DQ NX CX KK NB PB HN
  go_wp2
  exact ret_cell (b := w.heap.size) Try.results57 rfl (Box3.loadqa X9.out) ⟨⟨⟨2, (r0 : Int), 0⟩, rfl⟩, D9.out⟩
 ·--11
  have x0 := X5.out.c0
  have x1 := X5.out.c1
  have x2 := X5.out.c2
  have y0 := X4.out.c0
  have g0 := X4.out.fr 0
  have y1 := X4.out.c1
  have g1 := X4.out.fr 1
  have y2 := X4.out.c2
  have g2 := X4.out.fr 2
  have X9 : Hid (Box3 (((v3.setCell ⟨w.heap.size, 0, none⟩ (.int .i64 2)).setCell ⟨w.heap.size, 1, none⟩ (.int .i64 (r0 : Int))).setCell ⟨w.heap.size, 2, none⟩ (.int .i64 0)) w.heap.size 41 (.int .i64 2) (.int .i64 (r0 : Int)) (.int .i64 0)) := ((X4.out.set0 _).set1 _).set2 _
  have D9 : Hid (Dq w b a len cap z (A + 4) (((v3.setCell ⟨w.heap.size, 0, none⟩ (.int .i64 2)).setCell ⟨w.heap.size, 1, none⟩ (.int .i64 (r0 : Int))).setCell ⟨w.heap.size, 2, none⟩ (.int .i64 0))) := by
   have h9 : Dq w b a len cap z (A + 2) (((v3.setCell ⟨w.heap.size, 0, none⟩ (.int .i64 2)).setCell ⟨w.heap.size, 1, none⟩ (.int .i64 (r0 : Int))).setCell ⟨w.heap.size, 2, none⟩ (.int .i64 0)) := DQ.out.step KK.out (set3b v3 (Nat.le_refl _) _ _ _)
   exact ⟨h9.1.mono (by omega), h9.2⟩
  clear X4 X5 DQ NX CX KK NB PB HN
  go_wp2
  exact ret_cell (b := w.heap.size) Try.results57 rfl (Box3.loadqa X9.out) ⟨⟨⟨2, (r0 : Int), 0⟩, rfl⟩, D9.out⟩
 ·--12
  have x0 := X5.out.c0
  have x1 := X5.out.c1
  have x2 := X5.out.c2
  have y0 := X4.out.c0
  have g0 := X4.out.fr 0
  have y1 := X4.out.c1
  have g1 := X4.out.fr 1
  have y2 := X4.out.c2
  have g2 := X4.out.fr 2
  have X9 : Hid (Box3 (((v3.setCell ⟨w.heap.size, 0, none⟩ (.int .i64 2)).setCell ⟨w.heap.size, 1, none⟩ (.int .i64 (r0 : Int))).setCell ⟨w.heap.size, 2, none⟩ (.int .i64 0)) w.heap.size 41 (.int .i64 2) (.int .i64 (r0 : Int)) (.int .i64 0)) := ((X4.out.set0 _).set1 _).set2 _
  have D9 : Hid (Dq w b a len cap z (A + 4) (((v3.setCell ⟨w.heap.size, 0, none⟩ (.int .i64 2)).setCell ⟨w.heap.size, 1, none⟩ (.int .i64 (r0 : Int))).setCell ⟨w.heap.size, 2, none⟩ (.int .i64 0))) := by
   have h9 : Dq w b a len cap z (A + 2) (((v3.setCell ⟨w.heap.size, 0, none⟩ (.int .i64 2)).setCell ⟨w.heap.size, 1, none⟩ (.int .i64 (r0 : Int))).setCell ⟨w.heap.size, 2, none⟩ (.int .i64 0)) := DQ.out.step KK.out (set3b v3 (Nat.le_refl _) _ _ _)
   exact ⟨h9.1.mono (by omega), h9.2⟩
  clear X4 X5 DQ NX CX KK NB PB HN
  go_wp2
  exact ret_cell (b := w.heap.size) Try.results57 rfl (Box3.loadqa X9.out) ⟨⟨⟨2, (r0 : Int), 0⟩, rfl⟩, D9.out⟩
 ·--13
  have x0 := X5.out.c0
  have x1 := X5.out.c1
  have x2 := X5.out.c2
  have y0 := X4.out.c0
  have g0 := X4.out.fr 0
  have y1 := X4.out.c1
  have g1 := X4.out.fr 1
  have y2 := X4.out.c2
  have g2 := X4.out.fr 2
  have X9 : Hid (Box3 (((v3.setCell ⟨w.heap.size, 0, none⟩ (.int .i64 2)).setCell ⟨w.heap.size, 1, none⟩ (.int .i64 (r0 : Int))).setCell ⟨w.heap.size, 2, none⟩ (.int .i64 0)) w.heap.size 41 (.int .i64 2) (.int .i64 (r0 : Int)) (.int .i64 0)) := ((X4.out.set0 _).set1 _).set2 _
  have D9 : Hid (Dq w b a len cap z (A + 4) (((v3.setCell ⟨w.heap.size, 0, none⟩ (.int .i64 2)).setCell ⟨w.heap.size, 1, none⟩ (.int .i64 (r0 : Int))).setCell ⟨w.heap.size, 2, none⟩ (.int .i64 0))) := by
   have h9 : Dq w b a len cap z (A + 2) (((v3.setCell ⟨w.heap.size, 0, none⟩ (.int .i64 2)).setCell ⟨w.heap.size, 1, none⟩ (.int .i64 (r0 : Int))).setCell ⟨w.heap.size, 2, none⟩ (.int .i64 0)) := DQ.out.step KK.out (set3b v3 (Nat.le_refl _) _ _ _)
   exact ⟨h9.1.mono (by omega), h9.2⟩
  clear X4 X5 DQ NX CX KK NB PB HN
  go_wp2
  exact ret_cell (b := w.heap.size) Try.results57 rfl (Box3.loadqa X9.out) ⟨⟨⟨2, (r0 : Int), 0⟩, rfl⟩, D9.out⟩
end Go.Proofs.Ytedncfcmhaaobaa
