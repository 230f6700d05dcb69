/-
  A call on files, in the model: l14Call (written by tools/mkcalls.py).
-/
import Derived.Test.YtgcdoabcopihlaaGreatE09
import Derived.Test.YtgcdoabcopihlaaGreatE06
import Derived.Test.YtgcdoabcopihlaaGreatE10
import Derived.Test.YtgcdoabcopihlaaGreatE13
import Derived.Test.YtgcdoabcopihlaaGreatFileOkS
import Derived.Test.YtgcdoabcopihlaaGreatE02
import Derived.Test.YtgcdoabcopihlaaGreatFileRm
import Derived.Test.YtgcdoabcopihlaaGreatFileMk
namespace Go.Proofs.YtgcdoabcopihlaaGreat
open Go.ChangeShapes Go.WideShapes Go.ChangeAt Go.RowKit
set_option linter.unusedVariables false
theorem ret_tc {P : Program} {fn : Func} {p u : Tmp} {ty : TypeId} {tmps : Array Value} {w : World} {b : Nat} {v x : Value} {Post : Ending → World → Prop} (h : fn.results = #[.tmp u, .cell p ty]) (hp : tmps.getD p undef = .pointer (some ⟨b, 0, none⟩)) (hu : tmps.getD u undef = x) (hl : (loadVar ty ⟨b, 0, none⟩).run P w = .ok v w) (hq : Post (.returned (.tuple #[x, v])) w) : bodyPost P fn Post .ret { tmps := tmps, defers := [] } w := by
  refine bodyPost_ret (v := .tuple #[x, v]) ?_ rfl hq
  simp only [Array.getD_eq_getD_getElem?] at hp hu
  unfold results
  rw [h]
  simp [hp, hu, asAddr, hl, Result.andThen]
theorem Els.offSet {w : World} {s : Nat} {a : Option Addr} {m : Nat} {F : Nat → Nat → Value} (h : Els w s a m F) {q i : Nat} {v : Value} (hn : ∀ x, a = some x → x.block ≠ q) : Els (w.setCell ⟨q, i, none⟩ v) s a m F := fun k hk => by
  obtain ⟨b, off, e, hc⟩ := h k hk
  refine ⟨b, off, e, fun j hj => ?_⟩
  rw [World.cell?_of_block (w := w) (a := ⟨b, off + k * s + j, none⟩) (Below.heap_setCell w ⟨q, i, none⟩ v b (hn _ e))]
  exact hc j hj
/-- What a call hands back. -/
def RetCl (Q : Nat → Prop) (B n : Nat) (F : Nat → Fi) (x : Fcl) (e : Ending) (w : World) : Prop := ∃ (a : Option Addr) (m c : Nat) (G : Nat → Fi) (t : ByteArray) (cd : Int), e = .returned (.tuple #[.slice a m c, .agg #[.int .i64 cd, .string t]]) ∧ Els w 3 a m (fiF G) ∧ SlQ Q B a m c ∧ CfP n F x m G t cd
set_option maxRecDepth 100000 in
set_option maxHeartbeats 8000000 in
theorem l14Call_any (a : Option Addr) (n c : Nat) (F : Nat → Fi) (x : Fcl) (hF : FsOk n F) (hp : x.p.size ≤ 65536) (ho : x.o.size ≤ 65536) (hd : x.d.size ≤ 65536) (hsl : SlP a n c) (Q : Nat → Prop) (hQ : ∀ y, a = some y → Q y.block) (w : World) (hlt : ∀ y, a = some y → y.block < w.heap.size) (h : Els w 3 a n (fiF F)) :
    Calls Tryz.prog 29 #[.slice a n c, .agg #[.int .i64 x.k, .int .i64 x.a, .int .i64 x.n, .string x.p, .string x.o, .string x.d]] w fun e w' => RetCl Q w.heap.size n F x e w' ∧ Below w.heap.size w w' := by
  obtain ⟨xk, xa, xn, xp, xo, xd⟩ := x
  dsimp only at *
  have hn12 : n ≤ 12 := hF.1
  have HF : Hid (FsOk n F) := hF
  have HS : Hid (SlP a n c) := hsl
  have H : Hid (Els w 3 a n (fiF F)) := h
  have HQ : Hid (∀ y, a = some y → Q y.block ∧ y.block < w.heap.size) := fun y e => ⟨hQ y e, hlt y e⟩
  have HSQ : Hid (SlQ Q w.heap.size a n c) := ⟨hsl, fun y e => .inl (hQ y e)⟩
  have HKK : xk = 1 ∨ xk = 2 ∨ xk = 3 ∨ xk = 4 ∨ xk = 5 ∨ xk = 6 ∨ xk = 7 ∨ ¬ (1 ≤ xk ∧ xk ≤ 7) := by omega
  rcases HKK with e | e | e | e | e | e | e | e
  · subst e
    have W1 : Below w.heap.size w ((w.alloc (.cells #[.int .i64 1, .int .i64 xa, .int .i64 xn, .string xp, .string xo, .string xd] 26)).alloc (.cells #[.int .i64 0, .string ⟨#[]⟩] 29)) := ((Below.refl _ _).alloc (Nat.le_refl _) _).alloc (by simp) _
    have XB : Hid (FclB ((w.alloc (.cells #[.int .i64 1, .int .i64 xa, .int .i64 xn, .string xp, .string xo, .string xd] 26)).alloc (.cells #[.int .i64 0, .string ⟨#[]⟩] 29)) w.heap.size ⟨1, xa, xn, xp, xo, xd⟩) := (FclB.madeOf (x := ⟨1, xa, xn, xp, xo, xd⟩) rfl).ofBlock (((Below.refl _ (w.alloc (.cells #[.int .i64 1, .int .i64 xa, .int .i64 xn, .string xp, .string xo, .string xd] 26))).alloc (Nat.le_refl _) _).block _ (by simp))
    have RB : Hid (Box2 ((w.alloc (.cells #[.int .i64 1, .int .i64 xa, .int .i64 xn, .string xp, .string xo, .string xd] 26)).alloc (.cells #[.int .i64 0, .string ⟨#[]⟩] 29)) (w.heap.size + 1) 29 (.int .i64 0) (.string ⟨#[]⟩)) := Box2.madeAt (by simp) _ _ _
    have A1 : Hid (Below w.heap.size w ((w.alloc (.cells #[.int .i64 1, .int .i64 xa, .int .i64 xn, .string xp, .string xo, .string xd] 26)).alloc (.cells #[.int .i64 0, .string ⟨#[]⟩] 29))) := W1
    clear h hF hsl hQ hlt W1
    go_enter Tryz.func29, Tryz.ntmps29
    go_wp2_with fail
    generalize ((w.alloc (.cells #[.int .i64 1, .int .i64 xa, .int .i64 xn, .string xp, .string xo, .string xd] 26)).alloc (.cells #[.int .i64 0, .string ⟨#[]⟩] 29)) = v1 at *
    obtain ⟨q1, hq1⟩ : ∃ q, q = w.heap.size := ⟨_, rfl⟩
    obtain ⟨q2, hq2⟩ : ∃ q, q = w.heap.size + 1 := ⟨_, rfl⟩
    have HG : Hid (w.heap.size ≤ q1 ∧ w.heap.size ≤ q2) := ⟨by omega, by omega⟩
    rw [← hq2] at RB ⊢
    rw [← hq1] at XB ⊢
    clear hq1 hq2
    obtain ⟨x0, x1, x2, x3, x4, x5⟩ := XB.out.c
    dsimp only at x0 x1 x2 x3 x4 x5
    refine (in_any 1 1 7 true (by decide) v1).mono ?_
    rintro e _ ⟨rfl, rfl⟩
    go_wp2_with fail
    refine (l11Path_any xp (by unfold maxLen; omega) v1).mono ?_
    rintro e v2 ⟨⟨y, rfl, hy⟩, hb⟩
    have HY : Hid (y = true ↔ PathOk xp) := hy
    clear hy
    replace XB : Hid (FclB v2 q1 ⟨1, xa, xn, xp, xo, xd⟩) := XB.out.below hb
    replace RB : Hid (Box2 v2 q2 29 (.int .i64 0) (.string ⟨#[]⟩)) := RB.out.below hb
    replace A1 : Hid (Below w.heap.size w v2) := A1.out.trans (hb.mono A1.out.size)
    clear x0 x1 x2 x3 x4 x5 hb
    obtain ⟨x0, x1, x2, x3, x4, x5⟩ := XB.out.c
    dsimp only at x0 x1 x2 x3 x4 x5
    cases y with
    | false =>
      have RB2 : Hid (Box2 (vrSt v2 q2 16 ⟨#[]⟩) q2 29 (.int .i64 16) (.string ⟨#[]⟩)) := RB.out.vr _ _
      have B2 : Hid (Below w.heap.size w (vrSt v2 q2 16 ⟨#[]⟩)) := vr_below A1.out HG.out.2 _ _
      have HC : Hid (CfP n F ⟨1, xa, xn, xp, xo, xd⟩ n F ⟨#[]⟩ 16) := .inr ⟨by dsimp only; omega, .inl ⟨.inl ⟨(fun z => by have := HY.out.2 z; cases this), (fun z => by have := z.1; dsimp only at this; omega)⟩, rfl, rfl, rfl, rfl⟩⟩
      have k0 := RB.out.c0
      have k1 := RB.out.c1
      have f0 := RB.out.fr 0
      have f1 := RB.out.fr 1
      clear A1 RB XB
      go_wp2
      exact ret_tc (b := q2) (v := .agg #[.int .i64 16, .string ⟨#[]⟩]) Tryz.results29 rfl rfl RB2.out.loadVr ⟨⟨a, n, c, F, ⟨#[]⟩, 16, rfl, H.out.below B2.out, HSQ.out, HC.out⟩, B2.out⟩
    | true =>
      have HP : Hid (PathOk xp) := HY.out.1 rfl
      clear HY
      have BX : Below v2.heap.size v2 (v2.alloc (.cells #[.int .i64 0, .string ⟨#[]⟩] 29)) := (Below.refl _ _).alloc (Nat.le_refl _) _
      have R3 : Hid (Box2 (v2.alloc (.cells #[.int .i64 0, .string ⟨#[]⟩] 29)) v2.heap.size 29 (.int .i64 0) (.string ⟨#[]⟩)) := Box2.madeAt rfl _ _ _
      have HN3 : Hid (v2.heap.size ≠ q2 ∧ w.heap.size ≤ v2.heap.size) := ⟨by have := RB.out.lt; omega, A1.out.size⟩
      replace XB : Hid (FclB (v2.alloc (.cells #[.int .i64 0, .string ⟨#[]⟩] 29)) q1 ⟨1, xa, xn, xp, xo, xd⟩) := XB.out.below BX
      replace RB : Hid (Box2 (v2.alloc (.cells #[.int .i64 0, .string ⟨#[]⟩] 29)) q2 29 (.int .i64 0) (.string ⟨#[]⟩)) := RB.out.below BX
      replace A1 : Hid (Below w.heap.size w (v2.alloc (.cells #[.int .i64 0, .string ⟨#[]⟩] 29))) := A1.out.trans (BX.mono A1.out.size)
      obtain ⟨y0, y1, y2, y3, y4, y5⟩ := XB.out.c
      dsimp only at y0 y1 y2 y3 y4 y5
      clear BX
      go_wp2_with fail
      clear x0 x1 x2 x3 x4 x5
      generalize (v2.alloc (.cells #[.int .i64 0, .string ⟨#[]⟩] 29)) = v4 at *
      obtain ⟨q3, hq3⟩ : ∃ q, q = v2.heap.size := ⟨_, rfl⟩
      rw [← hq3] at R3 HN3 ⊢
      clear hq3 y0 y1 y2 y3 y4 y5
      obtain ⟨x0, x1, x2, x3, x4, x5⟩ := XB.out.c
      dsimp only at x0 x1 x2 x3 x4 x5
      refine (l11Mkdir_any a n c F xp HF.out.srt HP.out.1 (by omega) HS.out (fun g => Q g ∧ g < w.heap.size) HQ.out v4 (H.out.below A1.out)).mono ?_
      rintro e v5 ⟨⟨a', m, c', G, cd, rfl, hE, hS, hM⟩, hb⟩
      have HC : Hid (CfP n F ⟨1, xa, xn, xp, xo, xd⟩ m G ⟨#[]⟩ cd) := .inr ⟨by dsimp only; omega, .inr ⟨(fun z => z.elim (fun y => y.1 HP.out) (fun y => by have := y.1; dsimp only at this; omega)), .inl ⟨rfl, hM, rfl⟩⟩⟩
      have HE : Hid (Els v5 3 a' m (fiF G)) := hE
      have HSL : Hid (SlQ (fun g => Q g ∧ g < w.heap.size) v4.heap.size a' m c') := hS
      have HV4 : Hid (q2 < v4.heap.size ∧ q3 < v4.heap.size ∧ w.heap.size ≤ v4.heap.size) := ⟨RB.out.lt, R3.out.lt, A1.out.size⟩
      replace R3 : Hid (Box2 v5 q3 29 (.int .i64 0) (.string ⟨#[]⟩)) := R3.out.below hb
      replace XB : Hid (FclB v5 q1 ⟨1, xa, xn, xp, xo, xd⟩) := XB.out.below hb
      replace RB : Hid (Box2 v5 q2 29 (.int .i64 0) (.string ⟨#[]⟩)) := RB.out.below hb
      replace A1 : Hid (Below w.heap.size w v5) := A1.out.trans (hb.mono A1.out.size)
      clear x0 x1 x2 x3 x4 x5 hb
      obtain ⟨x0, x1, x2, x3, x4, x5⟩ := XB.out.c
      dsimp only at x0 x1 x2 x3 x4 x5
      clear hE hS hM
      have k0 := R3.out.c0
      have k1 := R3.out.c1
      have f0 := R3.out.fr 0
      have f1 := R3.out.fr 1
      go_wp2_with fail
      clear k0 k1 f0 f1 x0 x1 x2 x3 x4 x5
      have R6 : Hid (Box2 (v5.setCell ⟨q3, 0, none⟩ (.int .i64 cd)) q3 29 (.int .i64 cd) (.string ⟨#[]⟩)) := R3.out.set0 _
      have RB6 : Hid (Box2 (v5.setCell ⟨q3, 0, none⟩ (.int .i64 cd)) q2 29 (.int .i64 0) (.string ⟨#[]⟩)) := RB.out.ofBlock (Below.heap_setCell v5 ⟨q3, 0, none⟩ _ q2 (Ne.symm HN3.out.1))
      have A6 : Hid (Below w.heap.size w (v5.setCell ⟨q3, 0, none⟩ (.int .i64 cd))) := A1.out.setCell HN3.out.2 _
      have E6 : Hid (Els (v5.setCell ⟨q3, 0, none⟩ (.int .i64 cd)) 3 a' m (fiF G)) := HE.out.offSet (fun y e => (HSL.out.2 y e).elim (fun z => by have := z.2; have := HN3.out.2; omega) (fun z => by have := HV4.out.2.1; omega))
      clear R3 RB A1 HE XB
      generalize (v5.setCell ⟨q3, 0, none⟩ (.int .i64 cd)) = v6 at *
      have E7 : Hid (Els (vrSt v6 q2 cd ⟨#[]⟩) 3 a' m (fiF G)) := (E6.out.offSet (fun y e => (HSL.out.2 y e).elim (fun z => by have := z.2; have := HG.out.2; omega) (fun z => by have := HV4.out.1; omega))).offSet (fun y e => (HSL.out.2 y e).elim (fun z => by have := z.2; have := HG.out.2; omega) (fun z => by have := HV4.out.1; omega))
      have R7 : Hid (Box2 (vrSt v6 q2 cd ⟨#[]⟩) q2 29 (.int .i64 cd) (.string ⟨#[]⟩)) := RB6.out.vr _ _
      have B7 : Hid (Below w.heap.size w (vrSt v6 q2 cd ⟨#[]⟩)) := vr_below A6.out HG.out.2 _ _
      have S7 : Hid (SlQ Q w.heap.size a' m c') := ⟨HSL.out.1, fun y e => (HSL.out.2 y e).imp (fun z => z.1) (fun z => by have := HV4.out.2.2; omega)⟩
      have k0 := R6.out.c0
      have k1 := R6.out.c1
      have j0 := RB6.out.c0
      have j1 := RB6.out.c1
      have f0 := RB6.out.fr 0
      have f1 := RB6.out.fr 1
      go_region
      clear k0 k1 j0 j1 f0 f1 R6 RB6 A6 E6
      change Exit.then _ _ _ _ (vrSt v6 q2 cd ⟨#[]⟩).drew
      have E8 : Hid (Els (vrSt v6 q2 cd ⟨#[]⟩).drew 3 a' m (fiF G)) := fun i hi => E7.out i hi
      have R8 : Hid (Box2 (vrSt v6 q2 cd ⟨#[]⟩).drew q2 29 (.int .i64 cd) (.string ⟨#[]⟩)) := R7.out.ofBlock rfl
      have B8 : Hid (Below w.heap.size w (vrSt v6 q2 cd ⟨#[]⟩).drew) := ⟨B7.out.os, B7.out.tape, B7.out.output, B7.out.size, B7.out.block⟩
      clear E7 R7 B7
      generalize (vrSt v6 q2 cd ⟨#[]⟩).drew = v8 at *
      go_wp2
      exact ret_tc (b := q2) (v := .agg #[.int .i64 cd, .string ⟨#[]⟩]) Tryz.results29 rfl rfl R8.out.loadVr ⟨⟨a', m, c', G, ⟨#[]⟩, cd, rfl, E8.out, S7.out, HC.out⟩, B8.out⟩
  · subst e
    have W1 : Below w.heap.size w ((w.alloc (.cells #[.int .i64 2, .int .i64 xa, .int .i64 xn, .string xp, .string xo, .string xd] 26)).alloc (.cells #[.int .i64 0, .string ⟨#[]⟩] 29)) := ((Below.refl _ _).alloc (Nat.le_refl _) _).alloc (by simp) _
    have XB : Hid (FclB ((w.alloc (.cells #[.int .i64 2, .int .i64 xa, .int .i64 xn, .string xp, .string xo, .string xd] 26)).alloc (.cells #[.int .i64 0, .string ⟨#[]⟩] 29)) w.heap.size ⟨2, xa, xn, xp, xo, xd⟩) := (FclB.madeOf (x := ⟨2, xa, xn, xp, xo, xd⟩) rfl).ofBlock (((Below.refl _ (w.alloc (.cells #[.int .i64 2, .int .i64 xa, .int .i64 xn, .string xp, .string xo, .string xd] 26))).alloc (Nat.le_refl _) _).block _ (by simp))
    have RB : Hid (Box2 ((w.alloc (.cells #[.int .i64 2, .int .i64 xa, .int .i64 xn, .string xp, .string xo, .string xd] 26)).alloc (.cells #[.int .i64 0, .string ⟨#[]⟩] 29)) (w.heap.size + 1) 29 (.int .i64 0) (.string ⟨#[]⟩)) := Box2.madeAt (by simp) _ _ _
    have A1 : Hid (Below w.heap.size w ((w.alloc (.cells #[.int .i64 2, .int .i64 xa, .int .i64 xn, .string xp, .string xo, .string xd] 26)).alloc (.cells #[.int .i64 0, .string ⟨#[]⟩] 29))) := W1
    clear h hF hsl hQ hlt W1
    go_enter Tryz.func29, Tryz.ntmps29
    go_wp2_with fail
    generalize ((w.alloc (.cells #[.int .i64 2, .int .i64 xa, .int .i64 xn, .string xp, .string xo, .string xd] 26)).alloc (.cells #[.int .i64 0, .string ⟨#[]⟩] 29)) = v1 at *
    obtain ⟨q1, hq1⟩ : ∃ q, q = w.heap.size := ⟨_, rfl⟩
    obtain ⟨q2, hq2⟩ : ∃ q, q = w.heap.size + 1 := ⟨_, rfl⟩
    have HG : Hid (w.heap.size ≤ q1 ∧ w.heap.size ≤ q2) := ⟨by omega, by omega⟩
    rw [← hq2] at RB ⊢
    rw [← hq1] at XB ⊢
    clear hq1 hq2
    obtain ⟨x0, x1, x2, x3, x4, x5⟩ := XB.out.c
    dsimp only at x0 x1 x2 x3 x4 x5
    refine (in_any 2 1 7 true (by decide) v1).mono ?_
    rintro e _ ⟨rfl, rfl⟩
    go_wp2_with fail
    refine (l11Path_any xp (by unfold maxLen; omega) v1).mono ?_
    rintro e v2 ⟨⟨y, rfl, hy⟩, hb⟩
    have HY : Hid (y = true ↔ PathOk xp) := hy
    clear hy
    replace XB : Hid (FclB v2 q1 ⟨2, xa, xn, xp, xo, xd⟩) := XB.out.below hb
    replace RB : Hid (Box2 v2 q2 29 (.int .i64 0) (.string ⟨#[]⟩)) := RB.out.below hb
    replace A1 : Hid (Below w.heap.size w v2) := A1.out.trans (hb.mono A1.out.size)
    clear x0 x1 x2 x3 x4 x5 hb
    obtain ⟨x0, x1, x2, x3, x4, x5⟩ := XB.out.c
    dsimp only at x0 x1 x2 x3 x4 x5
    cases y with
    | false =>
      have RB2 : Hid (Box2 (vrSt v2 q2 16 ⟨#[]⟩) q2 29 (.int .i64 16) (.string ⟨#[]⟩)) := RB.out.vr _ _
      have B2 : Hid (Below w.heap.size w (vrSt v2 q2 16 ⟨#[]⟩)) := vr_below A1.out HG.out.2 _ _
      have HC : Hid (CfP n F ⟨2, xa, xn, xp, xo, xd⟩ n F ⟨#[]⟩ 16) := .inr ⟨by dsimp only; omega, .inl ⟨.inl ⟨(fun z => by have := HY.out.2 z; cases this), (fun z => by have := z.1; dsimp only at this; omega)⟩, rfl, rfl, rfl, rfl⟩⟩
      have k0 := RB.out.c0
      have k1 := RB.out.c1
      have f0 := RB.out.fr 0
      have f1 := RB.out.fr 1
      clear A1 RB XB
      go_wp2
      exact ret_tc (b := q2) (v := .agg #[.int .i64 16, .string ⟨#[]⟩]) Tryz.results29 rfl rfl RB2.out.loadVr ⟨⟨a, n, c, F, ⟨#[]⟩, 16, rfl, H.out.below B2.out, HSQ.out, HC.out⟩, B2.out⟩
    | true =>
      have HP : Hid (PathOk xp) := HY.out.1 rfl
      clear HY
      have BX : Below v2.heap.size v2 (v2.alloc (.cells #[.int .i64 0, .string ⟨#[]⟩] 29)) := (Below.refl _ _).alloc (Nat.le_refl _) _
      have R3 : Hid (Box2 (v2.alloc (.cells #[.int .i64 0, .string ⟨#[]⟩] 29)) v2.heap.size 29 (.int .i64 0) (.string ⟨#[]⟩)) := Box2.madeAt rfl _ _ _
      have HN3 : Hid (v2.heap.size ≠ q2 ∧ w.heap.size ≤ v2.heap.size) := ⟨by have := RB.out.lt; omega, A1.out.size⟩
      replace XB : Hid (FclB (v2.alloc (.cells #[.int .i64 0, .string ⟨#[]⟩] 29)) q1 ⟨2, xa, xn, xp, xo, xd⟩) := XB.out.below BX
      replace RB : Hid (Box2 (v2.alloc (.cells #[.int .i64 0, .string ⟨#[]⟩] 29)) q2 29 (.int .i64 0) (.string ⟨#[]⟩)) := RB.out.below BX
      replace A1 : Hid (Below w.heap.size w (v2.alloc (.cells #[.int .i64 0, .string ⟨#[]⟩] 29))) := A1.out.trans (BX.mono A1.out.size)
      obtain ⟨y0, y1, y2, y3, y4, y5⟩ := XB.out.c
      dsimp only at y0 y1 y2 y3 y4 y5
      clear BX
      go_wp2_with fail
      clear x0 x1 x2 x3 x4 x5
      generalize (v2.alloc (.cells #[.int .i64 0, .string ⟨#[]⟩] 29)) = v4 at *
      obtain ⟨q3, hq3⟩ : ∃ q, q = v2.heap.size := ⟨_, rfl⟩
      rw [← hq3] at R3 HN3 ⊢
      clear hq3 y0 y1 y2 y3 y4 y5
      obtain ⟨x0, x1, x2, x3, x4, x5⟩ := XB.out.c
      dsimp only at x0 x1 x2 x3 x4 x5
      refine (l11Write_any a n c F xp xa xd HF.out HP.out.1 hd HS.out (fun g => Q g ∧ g < w.heap.size) HQ.out v4 (H.out.below A1.out)).mono ?_
      rintro e v5 ⟨⟨a', m, c', G, cd, rfl, hE, hS, hM⟩, hb⟩
      have HC : Hid (CfP n F ⟨2, xa, xn, xp, xo, xd⟩ m G ⟨#[]⟩ cd) := .inr ⟨by dsimp only; omega, .inr ⟨(fun z => z.elim (fun y => y.1 HP.out) (fun y => by have := y.1; dsimp only at this; omega)), .inr (.inl ⟨rfl, hM, rfl⟩)⟩⟩
      have HE : Hid (Els v5 3 a' m (fiF G)) := hE
      have HSL : Hid (SlQ (fun g => Q g ∧ g < w.heap.size) v4.heap.size a' m c') := hS
      have HV4 : Hid (q2 < v4.heap.size ∧ q3 < v4.heap.size ∧ w.heap.size ≤ v4.heap.size) := ⟨RB.out.lt, R3.out.lt, A1.out.size⟩
      replace R3 : Hid (Box2 v5 q3 29 (.int .i64 0) (.string ⟨#[]⟩)) := R3.out.below hb
      replace XB : Hid (FclB v5 q1 ⟨2, xa, xn, xp, xo, xd⟩) := XB.out.below hb
      replace RB : Hid (Box2 v5 q2 29 (.int .i64 0) (.string ⟨#[]⟩)) := RB.out.below hb
      replace A1 : Hid (Below w.heap.size w v5) := A1.out.trans (hb.mono A1.out.size)
      clear x0 x1 x2 x3 x4 x5 hb
      obtain ⟨x0, x1, x2, x3, x4, x5⟩ := XB.out.c
      dsimp only at x0 x1 x2 x3 x4 x5
      clear hE hS hM
      have k0 := R3.out.c0
      have k1 := R3.out.c1
      have f0 := R3.out.fr 0
      have f1 := R3.out.fr 1
      go_wp2_with fail
      clear k0 k1 f0 f1 x0 x1 x2 x3 x4 x5
      have R6 : Hid (Box2 (v5.setCell ⟨q3, 0, none⟩ (.int .i64 cd)) q3 29 (.int .i64 cd) (.string ⟨#[]⟩)) := R3.out.set0 _
      have RB6 : Hid (Box2 (v5.setCell ⟨q3, 0, none⟩ (.int .i64 cd)) q2 29 (.int .i64 0) (.string ⟨#[]⟩)) := RB.out.ofBlock (Below.heap_setCell v5 ⟨q3, 0, none⟩ _ q2 (Ne.symm HN3.out.1))
      have A6 : Hid (Below w.heap.size w (v5.setCell ⟨q3, 0, none⟩ (.int .i64 cd))) := A1.out.setCell HN3.out.2 _
      have E6 : Hid (Els (v5.setCell ⟨q3, 0, none⟩ (.int .i64 cd)) 3 a' m (fiF G)) := HE.out.offSet (fun y e => (HSL.out.2 y e).elim (fun z => by have := z.2; have := HN3.out.2; omega) (fun z => by have := HV4.out.2.1; omega))
      clear R3 RB A1 HE XB
      generalize (v5.setCell ⟨q3, 0, none⟩ (.int .i64 cd)) = v6 at *
      have E7 : Hid (Els (vrSt v6 q2 cd ⟨#[]⟩) 3 a' m (fiF G)) := (E6.out.offSet (fun y e => (HSL.out.2 y e).elim (fun z => by have := z.2; have := HG.out.2; omega) (fun z => by have := HV4.out.1; omega))).offSet (fun y e => (HSL.out.2 y e).elim (fun z => by have := z.2; have := HG.out.2; omega) (fun z => by have := HV4.out.1; omega))
      have R7 : Hid (Box2 (vrSt v6 q2 cd ⟨#[]⟩) q2 29 (.int .i64 cd) (.string ⟨#[]⟩)) := RB6.out.vr _ _
      have B7 : Hid (Below w.heap.size w (vrSt v6 q2 cd ⟨#[]⟩)) := vr_below A6.out HG.out.2 _ _
      have S7 : Hid (SlQ Q w.heap.size a' m c') := ⟨HSL.out.1, fun y e => (HSL.out.2 y e).imp (fun z => z.1) (fun z => by have := HV4.out.2.2; omega)⟩
      have k0 := R6.out.c0
      have k1 := R6.out.c1
      have j0 := RB6.out.c0
      have j1 := RB6.out.c1
      have f0 := RB6.out.fr 0
      have f1 := RB6.out.fr 1
      go_region
      clear k0 k1 j0 j1 f0 f1 R6 RB6 A6 E6
      change Exit.then _ _ _ _ (vrSt v6 q2 cd ⟨#[]⟩).drew
      have E8 : Hid (Els (vrSt v6 q2 cd ⟨#[]⟩).drew 3 a' m (fiF G)) := fun i hi => E7.out i hi
      have R8 : Hid (Box2 (vrSt v6 q2 cd ⟨#[]⟩).drew q2 29 (.int .i64 cd) (.string ⟨#[]⟩)) := R7.out.ofBlock rfl
      have B8 : Hid (Below w.heap.size w (vrSt v6 q2 cd ⟨#[]⟩).drew) := ⟨B7.out.os, B7.out.tape, B7.out.output, B7.out.size, B7.out.block⟩
      clear E7 R7 B7
      generalize (vrSt v6 q2 cd ⟨#[]⟩).drew = v8 at *
      go_wp2
      exact ret_tc (b := q2) (v := .agg #[.int .i64 cd, .string ⟨#[]⟩]) Tryz.results29 rfl rfl R8.out.loadVr ⟨⟨a', m, c', G, ⟨#[]⟩, cd, rfl, E8.out, S7.out, HC.out⟩, B8.out⟩
  · subst e
    have W1 : Below w.heap.size w ((w.alloc (.cells #[.int .i64 3, .int .i64 xa, .int .i64 xn, .string xp, .string xo, .string xd] 26)).alloc (.cells #[.int .i64 0, .string ⟨#[]⟩] 29)) := ((Below.refl _ _).alloc (Nat.le_refl _) _).alloc (by simp) _
    have XB : Hid (FclB ((w.alloc (.cells #[.int .i64 3, .int .i64 xa, .int .i64 xn, .string xp, .string xo, .string xd] 26)).alloc (.cells #[.int .i64 0, .string ⟨#[]⟩] 29)) w.heap.size ⟨3, xa, xn, xp, xo, xd⟩) := (FclB.madeOf (x := ⟨3, xa, xn, xp, xo, xd⟩) rfl).ofBlock (((Below.refl _ (w.alloc (.cells #[.int .i64 3, .int .i64 xa, .int .i64 xn, .string xp, .string xo, .string xd] 26))).alloc (Nat.le_refl _) _).block _ (by simp))
    have RB : Hid (Box2 ((w.alloc (.cells #[.int .i64 3, .int .i64 xa, .int .i64 xn, .string xp, .string xo, .string xd] 26)).alloc (.cells #[.int .i64 0, .string ⟨#[]⟩] 29)) (w.heap.size + 1) 29 (.int .i64 0) (.string ⟨#[]⟩)) := Box2.madeAt (by simp) _ _ _
    have A1 : Hid (Below w.heap.size w ((w.alloc (.cells #[.int .i64 3, .int .i64 xa, .int .i64 xn, .string xp, .string xo, .string xd] 26)).alloc (.cells #[.int .i64 0, .string ⟨#[]⟩] 29))) := W1
    clear h hF hsl hQ hlt W1
    go_enter Tryz.func29, Tryz.ntmps29
    go_wp2_with fail
    generalize ((w.alloc (.cells #[.int .i64 3, .int .i64 xa, .int .i64 xn, .string xp, .string xo, .string xd] 26)).alloc (.cells #[.int .i64 0, .string ⟨#[]⟩] 29)) = v1 at *
    obtain ⟨q1, hq1⟩ : ∃ q, q = w.heap.size := ⟨_, rfl⟩
    obtain ⟨q2, hq2⟩ : ∃ q, q = w.heap.size + 1 := ⟨_, rfl⟩
    have HG : Hid (w.heap.size ≤ q1 ∧ w.heap.size ≤ q2) := ⟨by omega, by omega⟩
    rw [← hq2] at RB ⊢
    rw [← hq1] at XB ⊢
    clear hq1 hq2
    obtain ⟨x0, x1, x2, x3, x4, x5⟩ := XB.out.c
    dsimp only at x0 x1 x2 x3 x4 x5
    refine (in_any 3 1 7 true (by decide) v1).mono ?_
    rintro e _ ⟨rfl, rfl⟩
    go_wp2_with fail
    refine (l11Path_any xp (by unfold maxLen; omega) v1).mono ?_
    rintro e v2 ⟨⟨y, rfl, hy⟩, hb⟩
    have HY : Hid (y = true ↔ PathOk xp) := hy
    clear hy
    replace XB : Hid (FclB v2 q1 ⟨3, xa, xn, xp, xo, xd⟩) := XB.out.below hb
    replace RB : Hid (Box2 v2 q2 29 (.int .i64 0) (.string ⟨#[]⟩)) := RB.out.below hb
    replace A1 : Hid (Below w.heap.size w v2) := A1.out.trans (hb.mono A1.out.size)
    clear x0 x1 x2 x3 x4 x5 hb
    obtain ⟨x0, x1, x2, x3, x4, x5⟩ := XB.out.c
    dsimp only at x0 x1 x2 x3 x4 x5
    cases y with
    | false =>
      have RB2 : Hid (Box2 (vrSt v2 q2 16 ⟨#[]⟩) q2 29 (.int .i64 16) (.string ⟨#[]⟩)) := RB.out.vr _ _
      have B2 : Hid (Below w.heap.size w (vrSt v2 q2 16 ⟨#[]⟩)) := vr_below A1.out HG.out.2 _ _
      have HC : Hid (CfP n F ⟨3, xa, xn, xp, xo, xd⟩ n F ⟨#[]⟩ 16) := .inr ⟨by dsimp only; omega, .inl ⟨.inl ⟨(fun z => by have := HY.out.2 z; cases this), (fun z => by have := z.1; dsimp only at this; omega)⟩, rfl, rfl, rfl, rfl⟩⟩
      have k0 := RB.out.c0
      have k1 := RB.out.c1
      have f0 := RB.out.fr 0
      have f1 := RB.out.fr 1
      clear A1 RB XB
      go_wp2
      exact ret_tc (b := q2) (v := .agg #[.int .i64 16, .string ⟨#[]⟩]) Tryz.results29 rfl rfl RB2.out.loadVr ⟨⟨a, n, c, F, ⟨#[]⟩, 16, rfl, H.out.below B2.out, HSQ.out, HC.out⟩, B2.out⟩
    | true =>
      have HP : Hid (PathOk xp) := HY.out.1 rfl
      clear HY
      have BX : Below v2.heap.size v2 (v2.alloc (.cells #[.int .i64 0, .string ⟨#[]⟩] 29)) := (Below.refl _ _).alloc (Nat.le_refl _) _
      have R3 : Hid (Box2 (v2.alloc (.cells #[.int .i64 0, .string ⟨#[]⟩] 29)) v2.heap.size 29 (.int .i64 0) (.string ⟨#[]⟩)) := Box2.madeAt rfl _ _ _
      have HN3 : Hid (v2.heap.size ≠ q2 ∧ w.heap.size ≤ v2.heap.size) := ⟨by have := RB.out.lt; omega, A1.out.size⟩
      replace XB : Hid (FclB (v2.alloc (.cells #[.int .i64 0, .string ⟨#[]⟩] 29)) q1 ⟨3, xa, xn, xp, xo, xd⟩) := XB.out.below BX
      replace RB : Hid (Box2 (v2.alloc (.cells #[.int .i64 0, .string ⟨#[]⟩] 29)) q2 29 (.int .i64 0) (.string ⟨#[]⟩)) := RB.out.below BX
      replace A1 : Hid (Below w.heap.size w (v2.alloc (.cells #[.int .i64 0, .string ⟨#[]⟩] 29))) := A1.out.trans (BX.mono A1.out.size)
      obtain ⟨y0, y1, y2, y3, y4, y5⟩ := XB.out.c
      dsimp only at y0 y1 y2 y3 y4 y5
      clear BX
      go_wp2_with fail
      clear x0 x1 x2 x3 x4 x5
      generalize (v2.alloc (.cells #[.int .i64 0, .string ⟨#[]⟩] 29)) = v4 at *
      obtain ⟨q3, hq3⟩ : ∃ q, q = v2.heap.size := ⟨_, rfl⟩
      rw [← hq3] at R3 HN3 ⊢
      clear hq3 y0 y1 y2 y3 y4 y5
      obtain ⟨x0, x1, x2, x3, x4, x5⟩ := XB.out.c
      dsimp only at x0 x1 x2 x3 x4 x5
      refine (specRead_any a n c F xp xa xn (fun i hi => by have := (HF.out.2 i hi).1.1.1; omega) (by omega) (by omega) v4 (H.out.below A1.out)).mono ?_
      rintro e v5 ⟨⟨t, cd, hM, rfl⟩, hb⟩
      have HC : Hid (CfP n F ⟨3, xa, xn, xp, xo, xd⟩ n F t cd) := .inr ⟨by dsimp only; omega, .inr ⟨(fun z => z.elim (fun y => y.1 HP.out) (fun y => by have := y.1; dsimp only at this; omega)), .inr (.inr (.inl ⟨rfl, hM, rfl, rfl⟩))⟩⟩
      replace R3 : Hid (Box2 v5 q3 29 (.int .i64 0) (.string ⟨#[]⟩)) := R3.out.below hb
      replace XB : Hid (FclB v5 q1 ⟨3, xa, xn, xp, xo, xd⟩) := XB.out.below hb
      replace RB : Hid (Box2 v5 q2 29 (.int .i64 0) (.string ⟨#[]⟩)) := RB.out.below hb
      replace A1 : Hid (Below w.heap.size w v5) := A1.out.trans (hb.mono A1.out.size)
      clear x0 x1 x2 x3 x4 x5 hb
      obtain ⟨x0, x1, x2, x3, x4, x5⟩ := XB.out.c
      dsimp only at x0 x1 x2 x3 x4 x5
      clear hM
      have k0 := R3.out.c0
      have k1 := R3.out.c1
      have f0 := R3.out.fr 0
      have f1 := R3.out.fr 1
      go_wp2_with fail
      clear k0 k1 f0 f1 x0 x1 x2 x3 x4 x5
      have R6 : Hid (Box2 ((v5.setCell ⟨q3, 1, none⟩ (.string t)).setCell ⟨q3, 0, none⟩ (.int .i64 cd)) q3 29 (.int .i64 cd) (.string t)) := (R3.out.set1 _).set0 _
      have RB6 : Hid (Box2 ((v5.setCell ⟨q3, 1, none⟩ (.string t)).setCell ⟨q3, 0, none⟩ (.int .i64 cd)) q2 29 (.int .i64 0) (.string ⟨#[]⟩)) := (RB.out.ofBlock (Below.heap_setCell v5 ⟨q3, 1, none⟩ _ q2 (Ne.symm HN3.out.1))).ofBlock (Below.heap_setCell _ ⟨q3, 0, none⟩ _ q2 (Ne.symm HN3.out.1))
      have A6 : Hid (Below w.heap.size w ((v5.setCell ⟨q3, 1, none⟩ (.string t)).setCell ⟨q3, 0, none⟩ (.int .i64 cd))) := (A1.out.setCell HN3.out.2 _).setCell HN3.out.2 _
      clear R3 RB A1 XB
      generalize ((v5.setCell ⟨q3, 1, none⟩ (.string t)).setCell ⟨q3, 0, none⟩ (.int .i64 cd)) = v6 at *
      have R7 : Hid (Box2 (vrSt v6 q2 cd t) q2 29 (.int .i64 cd) (.string t)) := RB6.out.vr _ _
      have B7 : Hid (Below w.heap.size w (vrSt v6 q2 cd t)) := vr_below A6.out HG.out.2 _ _
      have k0 := R6.out.c0
      have k1 := R6.out.c1
      have j0 := RB6.out.c0
      have j1 := RB6.out.c1
      have f0 := RB6.out.fr 0
      have f1 := RB6.out.fr 1
      go_region
      clear k0 k1 j0 j1 f0 f1 R6 RB6 A6
      change Exit.then _ _ _ _ (vrSt v6 q2 cd t).drew
      have R8 : Hid (Box2 (vrSt v6 q2 cd t).drew q2 29 (.int .i64 cd) (.string t)) := R7.out.ofBlock rfl
      have B8 : Hid (Below w.heap.size w (vrSt v6 q2 cd t).drew) := ⟨B7.out.os, B7.out.tape, B7.out.output, B7.out.size, B7.out.block⟩
      clear R7 B7
      generalize (vrSt v6 q2 cd t).drew = v8 at *
      go_wp2
      exact ret_tc (b := q2) (v := .agg #[.int .i64 cd, .string t]) Tryz.results29 rfl rfl R8.out.loadVr ⟨⟨a, n, c, F, t, cd, rfl, H.out.below B8.out, HSQ.out, HC.out⟩, B8.out⟩
  · subst e
    have W1 : Below w.heap.size w ((w.alloc (.cells #[.int .i64 4, .int .i64 xa, .int .i64 xn, .string xp, .string xo, .string xd] 26)).alloc (.cells #[.int .i64 0, .string ⟨#[]⟩] 29)) := ((Below.refl _ _).alloc (Nat.le_refl _) _).alloc (by simp) _
    have XB : Hid (FclB ((w.alloc (.cells #[.int .i64 4, .int .i64 xa, .int .i64 xn, .string xp, .string xo, .string xd] 26)).alloc (.cells #[.int .i64 0, .string ⟨#[]⟩] 29)) w.heap.size ⟨4, xa, xn, xp, xo, xd⟩) := (FclB.madeOf (x := ⟨4, xa, xn, xp, xo, xd⟩) rfl).ofBlock (((Below.refl _ (w.alloc (.cells #[.int .i64 4, .int .i64 xa, .int .i64 xn, .string xp, .string xo, .string xd] 26))).alloc (Nat.le_refl _) _).block _ (by simp))
    have RB : Hid (Box2 ((w.alloc (.cells #[.int .i64 4, .int .i64 xa, .int .i64 xn, .string xp, .string xo, .string xd] 26)).alloc (.cells #[.int .i64 0, .string ⟨#[]⟩] 29)) (w.heap.size + 1) 29 (.int .i64 0) (.string ⟨#[]⟩)) := Box2.madeAt (by simp) _ _ _
    have A1 : Hid (Below w.heap.size w ((w.alloc (.cells #[.int .i64 4, .int .i64 xa, .int .i64 xn, .string xp, .string xo, .string xd] 26)).alloc (.cells #[.int .i64 0, .string ⟨#[]⟩] 29))) := W1
    clear h hF hsl hQ hlt W1
    go_enter Tryz.func29, Tryz.ntmps29
    go_wp2_with fail
    generalize ((w.alloc (.cells #[.int .i64 4, .int .i64 xa, .int .i64 xn, .string xp, .string xo, .string xd] 26)).alloc (.cells #[.int .i64 0, .string ⟨#[]⟩] 29)) = v1 at *
    obtain ⟨q1, hq1⟩ : ∃ q, q = w.heap.size := ⟨_, rfl⟩
    obtain ⟨q2, hq2⟩ : ∃ q, q = w.heap.size + 1 := ⟨_, rfl⟩
    have HG : Hid (w.heap.size ≤ q1 ∧ w.heap.size ≤ q2) := ⟨by omega, by omega⟩
    rw [← hq2] at RB ⊢
    rw [← hq1] at XB ⊢
    clear hq1 hq2
    obtain ⟨x0, x1, x2, x3, x4, x5⟩ := XB.out.c
    dsimp only at x0 x1 x2 x3 x4 x5
    refine (in_any 4 1 7 true (by decide) v1).mono ?_
    rintro e _ ⟨rfl, rfl⟩
    go_wp2_with fail
    refine (l11Path_any xp (by unfold maxLen; omega) v1).mono ?_
    rintro e v2 ⟨⟨y, rfl, hy⟩, hb⟩
    have HY : Hid (y = true ↔ PathOk xp) := hy
    clear hy
    replace XB : Hid (FclB v2 q1 ⟨4, xa, xn, xp, xo, xd⟩) := XB.out.below hb
    replace RB : Hid (Box2 v2 q2 29 (.int .i64 0) (.string ⟨#[]⟩)) := RB.out.below hb
    replace A1 : Hid (Below w.heap.size w v2) := A1.out.trans (hb.mono A1.out.size)
    clear x0 x1 x2 x3 x4 x5 hb
    obtain ⟨x0, x1, x2, x3, x4, x5⟩ := XB.out.c
    dsimp only at x0 x1 x2 x3 x4 x5
    cases y with
    | false =>
      have RB2 : Hid (Box2 (vrSt v2 q2 16 ⟨#[]⟩) q2 29 (.int .i64 16) (.string ⟨#[]⟩)) := RB.out.vr _ _
      have B2 : Hid (Below w.heap.size w (vrSt v2 q2 16 ⟨#[]⟩)) := vr_below A1.out HG.out.2 _ _
      have HC : Hid (CfP n F ⟨4, xa, xn, xp, xo, xd⟩ n F ⟨#[]⟩ 16) := .inr ⟨by dsimp only; omega, .inl ⟨.inl ⟨(fun z => by have := HY.out.2 z; cases this), (fun z => by have := z.1; dsimp only at this; omega)⟩, rfl, rfl, rfl, rfl⟩⟩
      have k0 := RB.out.c0
      have k1 := RB.out.c1
      have f0 := RB.out.fr 0
      have f1 := RB.out.fr 1
      clear A1 RB XB
      go_wp2
      exact ret_tc (b := q2) (v := .agg #[.int .i64 16, .string ⟨#[]⟩]) Tryz.results29 rfl rfl RB2.out.loadVr ⟨⟨a, n, c, F, ⟨#[]⟩, 16, rfl, H.out.below B2.out, HSQ.out, HC.out⟩, B2.out⟩
    | true =>
      have HP : Hid (PathOk xp) := HY.out.1 rfl
      clear HY
      have BX : Below v2.heap.size v2 (v2.alloc (.cells #[.int .i64 0, .string ⟨#[]⟩] 29)) := (Below.refl _ _).alloc (Nat.le_refl _) _
      have R3 : Hid (Box2 (v2.alloc (.cells #[.int .i64 0, .string ⟨#[]⟩] 29)) v2.heap.size 29 (.int .i64 0) (.string ⟨#[]⟩)) := Box2.madeAt rfl _ _ _
      have HN3 : Hid (v2.heap.size ≠ q2 ∧ w.heap.size ≤ v2.heap.size) := ⟨by have := RB.out.lt; omega, A1.out.size⟩
      replace XB : Hid (FclB (v2.alloc (.cells #[.int .i64 0, .string ⟨#[]⟩] 29)) q1 ⟨4, xa, xn, xp, xo, xd⟩) := XB.out.below BX
      replace RB : Hid (Box2 (v2.alloc (.cells #[.int .i64 0, .string ⟨#[]⟩] 29)) q2 29 (.int .i64 0) (.string ⟨#[]⟩)) := RB.out.below BX
      replace A1 : Hid (Below w.heap.size w (v2.alloc (.cells #[.int .i64 0, .string ⟨#[]⟩] 29))) := A1.out.trans (BX.mono A1.out.size)
      obtain ⟨y0, y1, y2, y3, y4, y5⟩ := XB.out.c
      dsimp only at y0 y1 y2 y3 y4 y5
      clear BX
      go_wp2_with fail
      clear x0 x1 x2 x3 x4 x5
      generalize (v2.alloc (.cells #[.int .i64 0, .string ⟨#[]⟩] 29)) = v4 at *
      obtain ⟨q3, hq3⟩ : ∃ q, q = v2.heap.size := ⟨_, rfl⟩
      rw [← hq3] at R3 HN3 ⊢
      clear hq3 y0 y1 y2 y3 y4 y5
      obtain ⟨x0, x1, x2, x3, x4, x5⟩ := XB.out.c
      dsimp only at x0 x1 x2 x3 x4 x5
      refine (l11Cut_any a n c F xp xn HF.out HP.out.1 HS.out (fun g => Q g ∧ g < w.heap.size) HQ.out v4 (H.out.below A1.out)).mono ?_
      rintro e v5 ⟨⟨a', m, c', G, cd, rfl, hE, hS, hM⟩, hb⟩
      have HC : Hid (CfP n F ⟨4, xa, xn, xp, xo, xd⟩ m G ⟨#[]⟩ cd) := .inr ⟨by dsimp only; omega, .inr ⟨(fun z => z.elim (fun y => y.1 HP.out) (fun y => by have := y.1; dsimp only at this; omega)), .inr (.inr (.inr (.inl ⟨rfl, hM, rfl⟩)))⟩⟩
      have HE : Hid (Els v5 3 a' m (fiF G)) := hE
      have HSL : Hid (SlQ (fun g => Q g ∧ g < w.heap.size) v4.heap.size a' m c') := hS
      have HV4 : Hid (q2 < v4.heap.size ∧ q3 < v4.heap.size ∧ w.heap.size ≤ v4.heap.size) := ⟨RB.out.lt, R3.out.lt, A1.out.size⟩
      replace R3 : Hid (Box2 v5 q3 29 (.int .i64 0) (.string ⟨#[]⟩)) := R3.out.below hb
      replace XB : Hid (FclB v5 q1 ⟨4, xa, xn, xp, xo, xd⟩) := XB.out.below hb
      replace RB : Hid (Box2 v5 q2 29 (.int .i64 0) (.string ⟨#[]⟩)) := RB.out.below hb
      replace A1 : Hid (Below w.heap.size w v5) := A1.out.trans (hb.mono A1.out.size)
      clear x0 x1 x2 x3 x4 x5 hb
      obtain ⟨x0, x1, x2, x3, x4, x5⟩ := XB.out.c
      dsimp only at x0 x1 x2 x3 x4 x5
      clear hE hS hM
      have k0 := R3.out.c0
      have k1 := R3.out.c1
      have f0 := R3.out.fr 0
      have f1 := R3.out.fr 1
      go_wp2_with fail
      clear k0 k1 f0 f1 x0 x1 x2 x3 x4 x5
      have R6 : Hid (Box2 (v5.setCell ⟨q3, 0, none⟩ (.int .i64 cd)) q3 29 (.int .i64 cd) (.string ⟨#[]⟩)) := R3.out.set0 _
      have RB6 : Hid (Box2 (v5.setCell ⟨q3, 0, none⟩ (.int .i64 cd)) q2 29 (.int .i64 0) (.string ⟨#[]⟩)) := RB.out.ofBlock (Below.heap_setCell v5 ⟨q3, 0, none⟩ _ q2 (Ne.symm HN3.out.1))
      have A6 : Hid (Below w.heap.size w (v5.setCell ⟨q3, 0, none⟩ (.int .i64 cd))) := A1.out.setCell HN3.out.2 _
      have E6 : Hid (Els (v5.setCell ⟨q3, 0, none⟩ (.int .i64 cd)) 3 a' m (fiF G)) := HE.out.offSet (fun y e => (HSL.out.2 y e).elim (fun z => by have := z.2; have := HN3.out.2; omega) (fun z => by have := HV4.out.2.1; omega))
      clear R3 RB A1 HE XB
      generalize (v5.setCell ⟨q3, 0, none⟩ (.int .i64 cd)) = v6 at *
      have E7 : Hid (Els (vrSt v6 q2 cd ⟨#[]⟩) 3 a' m (fiF G)) := (E6.out.offSet (fun y e => (HSL.out.2 y e).elim (fun z => by have := z.2; have := HG.out.2; omega) (fun z => by have := HV4.out.1; omega))).offSet (fun y e => (HSL.out.2 y e).elim (fun z => by have := z.2; have := HG.out.2; omega) (fun z => by have := HV4.out.1; omega))
      have R7 : Hid (Box2 (vrSt v6 q2 cd ⟨#[]⟩) q2 29 (.int .i64 cd) (.string ⟨#[]⟩)) := RB6.out.vr _ _
      have B7 : Hid (Below w.heap.size w (vrSt v6 q2 cd ⟨#[]⟩)) := vr_below A6.out HG.out.2 _ _
      have S7 : Hid (SlQ Q w.heap.size a' m c') := ⟨HSL.out.1, fun y e => (HSL.out.2 y e).imp (fun z => z.1) (fun z => by have := HV4.out.2.2; omega)⟩
      have k0 := R6.out.c0
      have k1 := R6.out.c1
      have j0 := RB6.out.c0
      have j1 := RB6.out.c1
      have f0 := RB6.out.fr 0
      have f1 := RB6.out.fr 1
      go_region
      clear k0 k1 j0 j1 f0 f1 R6 RB6 A6 E6
      change Exit.then _ _ _ _ (vrSt v6 q2 cd ⟨#[]⟩).drew
      have E8 : Hid (Els (vrSt v6 q2 cd ⟨#[]⟩).drew 3 a' m (fiF G)) := fun i hi => E7.out i hi
      have R8 : Hid (Box2 (vrSt v6 q2 cd ⟨#[]⟩).drew q2 29 (.int .i64 cd) (.string ⟨#[]⟩)) := R7.out.ofBlock rfl
      have B8 : Hid (Below w.heap.size w (vrSt v6 q2 cd ⟨#[]⟩).drew) := ⟨B7.out.os, B7.out.tape, B7.out.output, B7.out.size, B7.out.block⟩
      clear E7 R7 B7
      generalize (vrSt v6 q2 cd ⟨#[]⟩).drew = v8 at *
      go_wp2
      exact ret_tc (b := q2) (v := .agg #[.int .i64 cd, .string ⟨#[]⟩]) Tryz.results29 rfl rfl R8.out.loadVr ⟨⟨a', m, c', G, ⟨#[]⟩, cd, rfl, E8.out, S7.out, HC.out⟩, B8.out⟩
  · subst e
    have W1 : Below w.heap.size w ((w.alloc (.cells #[.int .i64 5, .int .i64 xa, .int .i64 xn, .string xp, .string xo, .string xd] 26)).alloc (.cells #[.int .i64 0, .string ⟨#[]⟩] 29)) := ((Below.refl _ _).alloc (Nat.le_refl _) _).alloc (by simp) _
    have XB : Hid (FclB ((w.alloc (.cells #[.int .i64 5, .int .i64 xa, .int .i64 xn, .string xp, .string xo, .string xd] 26)).alloc (.cells #[.int .i64 0, .string ⟨#[]⟩] 29)) w.heap.size ⟨5, xa, xn, xp, xo, xd⟩) := (FclB.madeOf (x := ⟨5, xa, xn, xp, xo, xd⟩) rfl).ofBlock (((Below.refl _ (w.alloc (.cells #[.int .i64 5, .int .i64 xa, .int .i64 xn, .string xp, .string xo, .string xd] 26))).alloc (Nat.le_refl _) _).block _ (by simp))
    have RB : Hid (Box2 ((w.alloc (.cells #[.int .i64 5, .int .i64 xa, .int .i64 xn, .string xp, .string xo, .string xd] 26)).alloc (.cells #[.int .i64 0, .string ⟨#[]⟩] 29)) (w.heap.size + 1) 29 (.int .i64 0) (.string ⟨#[]⟩)) := Box2.madeAt (by simp) _ _ _
    have A1 : Hid (Below w.heap.size w ((w.alloc (.cells #[.int .i64 5, .int .i64 xa, .int .i64 xn, .string xp, .string xo, .string xd] 26)).alloc (.cells #[.int .i64 0, .string ⟨#[]⟩] 29))) := W1
    clear h hF hsl hQ hlt W1
    go_enter Tryz.func29, Tryz.ntmps29
    go_wp2_with fail
    generalize ((w.alloc (.cells #[.int .i64 5, .int .i64 xa, .int .i64 xn, .string xp, .string xo, .string xd] 26)).alloc (.cells #[.int .i64 0, .string ⟨#[]⟩] 29)) = v1 at *
    obtain ⟨q1, hq1⟩ : ∃ q, q = w.heap.size := ⟨_, rfl⟩
    obtain ⟨q2, hq2⟩ : ∃ q, q = w.heap.size + 1 := ⟨_, rfl⟩
    have HG : Hid (w.heap.size ≤ q1 ∧ w.heap.size ≤ q2) := ⟨by omega, by omega⟩
    rw [← hq2] at RB ⊢
    rw [← hq1] at XB ⊢
    clear hq1 hq2
    obtain ⟨x0, x1, x2, x3, x4, x5⟩ := XB.out.c
    dsimp only at x0 x1 x2 x3 x4 x5
    refine (in_any 5 1 7 true (by decide) v1).mono ?_
    rintro e _ ⟨rfl, rfl⟩
    go_wp2_with fail
    refine (l11Path_any xp (by unfold maxLen; omega) v1).mono ?_
    rintro e v2 ⟨⟨y, rfl, hy⟩, hb⟩
    have HY : Hid (y = true ↔ PathOk xp) := hy
    clear hy
    replace XB : Hid (FclB v2 q1 ⟨5, xa, xn, xp, xo, xd⟩) := XB.out.below hb
    replace RB : Hid (Box2 v2 q2 29 (.int .i64 0) (.string ⟨#[]⟩)) := RB.out.below hb
    replace A1 : Hid (Below w.heap.size w v2) := A1.out.trans (hb.mono A1.out.size)
    clear x0 x1 x2 x3 x4 x5 hb
    obtain ⟨x0, x1, x2, x3, x4, x5⟩ := XB.out.c
    dsimp only at x0 x1 x2 x3 x4 x5
    cases y with
    | false =>
      have RB2 : Hid (Box2 (vrSt v2 q2 16 ⟨#[]⟩) q2 29 (.int .i64 16) (.string ⟨#[]⟩)) := RB.out.vr _ _
      have B2 : Hid (Below w.heap.size w (vrSt v2 q2 16 ⟨#[]⟩)) := vr_below A1.out HG.out.2 _ _
      have HC : Hid (CfP n F ⟨5, xa, xn, xp, xo, xd⟩ n F ⟨#[]⟩ 16) := .inr ⟨by dsimp only; omega, .inl ⟨.inl ⟨(fun z => by have := HY.out.2 z; cases this), (fun z => by have := z.1; dsimp only at this; omega)⟩, rfl, rfl, rfl, rfl⟩⟩
      have k0 := RB.out.c0
      have k1 := RB.out.c1
      have f0 := RB.out.fr 0
      have f1 := RB.out.fr 1
      clear A1 RB XB
      go_wp2
      exact ret_tc (b := q2) (v := .agg #[.int .i64 16, .string ⟨#[]⟩]) Tryz.results29 rfl rfl RB2.out.loadVr ⟨⟨a, n, c, F, ⟨#[]⟩, 16, rfl, H.out.below B2.out, HSQ.out, HC.out⟩, B2.out⟩
    | true =>
      have HP : Hid (PathOk xp) := HY.out.1 rfl
      clear HY
      go_wp2_with fail
      refine (l11Path_any xo (by unfold maxLen; omega) v2).mono ?_
      rintro e v3 ⟨⟨y, rfl, hy⟩, hb⟩
      have HY : Hid (y = true ↔ PathOk xo) := hy
      clear hy
      replace XB : Hid (FclB v3 q1 ⟨5, xa, xn, xp, xo, xd⟩) := XB.out.below hb
      replace RB : Hid (Box2 v3 q2 29 (.int .i64 0) (.string ⟨#[]⟩)) := RB.out.below hb
      replace A1 : Hid (Below w.heap.size w v3) := A1.out.trans (hb.mono A1.out.size)
      clear x0 x1 x2 x3 x4 x5 hb
      obtain ⟨x0, x1, x2, x3, x4, x5⟩ := XB.out.c
      dsimp only at x0 x1 x2 x3 x4 x5
      cases y with
      | false =>
        have RB2 : Hid (Box2 (vrSt v3 q2 16 ⟨#[]⟩) q2 29 (.int .i64 16) (.string ⟨#[]⟩)) := RB.out.vr _ _
        have B2 : Hid (Below w.heap.size w (vrSt v3 q2 16 ⟨#[]⟩)) := vr_below A1.out HG.out.2 _ _
        have HC : Hid (CfP n F ⟨5, xa, xn, xp, xo, xd⟩ n F ⟨#[]⟩ 16) := .inr ⟨by dsimp only; omega, .inl ⟨.inr ⟨rfl, (fun z => by have := HY.out.2 z; cases this)⟩, rfl, rfl, rfl, rfl⟩⟩
        have k0 := RB.out.c0
        have k1 := RB.out.c1
        have f0 := RB.out.fr 0
        have f1 := RB.out.fr 1
        clear A1 RB XB
        go_wp2
        exact ret_tc (b := q2) (v := .agg #[.int .i64 16, .string ⟨#[]⟩]) Tryz.results29 rfl rfl RB2.out.loadVr ⟨⟨a, n, c, F, ⟨#[]⟩, 16, rfl, H.out.below B2.out, HSQ.out, HC.out⟩, B2.out⟩
      | true =>
        have HP2 : Hid (PathOk xo) := HY.out.1 rfl
        clear HY
        have BX : Below v3.heap.size v3 (v3.alloc (.cells #[.int .i64 0, .string ⟨#[]⟩] 29)) := (Below.refl _ _).alloc (Nat.le_refl _) _
        have R3 : Hid (Box2 (v3.alloc (.cells #[.int .i64 0, .string ⟨#[]⟩] 29)) v3.heap.size 29 (.int .i64 0) (.string ⟨#[]⟩)) := Box2.madeAt rfl _ _ _
        have HN3 : Hid (v3.heap.size ≠ q2 ∧ w.heap.size ≤ v3.heap.size) := ⟨by have := RB.out.lt; omega, A1.out.size⟩
        replace XB : Hid (FclB (v3.alloc (.cells #[.int .i64 0, .string ⟨#[]⟩] 29)) q1 ⟨5, xa, xn, xp, xo, xd⟩) := XB.out.below BX
        replace RB : Hid (Box2 (v3.alloc (.cells #[.int .i64 0, .string ⟨#[]⟩] 29)) q2 29 (.int .i64 0) (.string ⟨#[]⟩)) := RB.out.below BX
        replace A1 : Hid (Below w.heap.size w (v3.alloc (.cells #[.int .i64 0, .string ⟨#[]⟩] 29))) := A1.out.trans (BX.mono A1.out.size)
        obtain ⟨y0, y1, y2, y3, y4, y5⟩ := XB.out.c
        dsimp only at y0 y1 y2 y3 y4 y5
        clear BX
        go_wp2_with fail
        clear x0 x1 x2 x3 x4 x5
        generalize (v3.alloc (.cells #[.int .i64 0, .string ⟨#[]⟩] 29)) = v4 at *
        obtain ⟨q3, hq3⟩ : ∃ q, q = v3.heap.size := ⟨_, rfl⟩
        rw [← hq3] at R3 HN3 ⊢
        clear hq3 y0 y1 y2 y3 y4 y5
        obtain ⟨x0, x1, x2, x3, x4, x5⟩ := XB.out.c
        dsimp only at x0 x1 x2 x3 x4 x5
        refine (l11Move_any a n c F xp xo HF.out HP.out HP2.out HS.out (fun g => Q g ∧ g < w.heap.size) HQ.out v4 (H.out.below A1.out)).mono ?_
        rintro e v5 ⟨⟨a', m, c', G, cd, rfl, hE, hS, hM⟩, hb⟩
        have HC : Hid (CfP n F ⟨5, xa, xn, xp, xo, xd⟩ m G ⟨#[]⟩ cd) := .inr ⟨by dsimp only; omega, .inr ⟨(fun z => z.elim (fun y => y.1 HP.out) (fun y => y.2 HP2.out)), .inr (.inr (.inr (.inr (.inl ⟨rfl, hM, rfl⟩))))⟩⟩
        have HE : Hid (Els v5 3 a' m (fiF G)) := hE
        have HSL : Hid (SlQ (fun g => Q g ∧ g < w.heap.size) v4.heap.size a' m c') := hS
        have HV4 : Hid (q2 < v4.heap.size ∧ q3 < v4.heap.size ∧ w.heap.size ≤ v4.heap.size) := ⟨RB.out.lt, R3.out.lt, A1.out.size⟩
        replace R3 : Hid (Box2 v5 q3 29 (.int .i64 0) (.string ⟨#[]⟩)) := R3.out.below hb
        replace XB : Hid (FclB v5 q1 ⟨5, xa, xn, xp, xo, xd⟩) := XB.out.below hb
        replace RB : Hid (Box2 v5 q2 29 (.int .i64 0) (.string ⟨#[]⟩)) := RB.out.below hb
        replace A1 : Hid (Below w.heap.size w v5) := A1.out.trans (hb.mono A1.out.size)
        clear x0 x1 x2 x3 x4 x5 hb
        obtain ⟨x0, x1, x2, x3, x4, x5⟩ := XB.out.c
        dsimp only at x0 x1 x2 x3 x4 x5
        clear hE hS hM
        have k0 := R3.out.c0
        have k1 := R3.out.c1
        have f0 := R3.out.fr 0
        have f1 := R3.out.fr 1
        go_wp2_with fail
        clear k0 k1 f0 f1 x0 x1 x2 x3 x4 x5
        have R6 : Hid (Box2 (v5.setCell ⟨q3, 0, none⟩ (.int .i64 cd)) q3 29 (.int .i64 cd) (.string ⟨#[]⟩)) := R3.out.set0 _
        have RB6 : Hid (Box2 (v5.setCell ⟨q3, 0, none⟩ (.int .i64 cd)) q2 29 (.int .i64 0) (.string ⟨#[]⟩)) := RB.out.ofBlock (Below.heap_setCell v5 ⟨q3, 0, none⟩ _ q2 (Ne.symm HN3.out.1))
        have A6 : Hid (Below w.heap.size w (v5.setCell ⟨q3, 0, none⟩ (.int .i64 cd))) := A1.out.setCell HN3.out.2 _
        have E6 : Hid (Els (v5.setCell ⟨q3, 0, none⟩ (.int .i64 cd)) 3 a' m (fiF G)) := HE.out.offSet (fun y e => (HSL.out.2 y e).elim (fun z => by have := z.2; have := HN3.out.2; omega) (fun z => by have := HV4.out.2.1; omega))
        clear R3 RB A1 HE XB
        generalize (v5.setCell ⟨q3, 0, none⟩ (.int .i64 cd)) = v6 at *
        have E7 : Hid (Els (vrSt v6 q2 cd ⟨#[]⟩) 3 a' m (fiF G)) := (E6.out.offSet (fun y e => (HSL.out.2 y e).elim (fun z => by have := z.2; have := HG.out.2; omega) (fun z => by have := HV4.out.1; omega))).offSet (fun y e => (HSL.out.2 y e).elim (fun z => by have := z.2; have := HG.out.2; omega) (fun z => by have := HV4.out.1; omega))
        have R7 : Hid (Box2 (vrSt v6 q2 cd ⟨#[]⟩) q2 29 (.int .i64 cd) (.string ⟨#[]⟩)) := RB6.out.vr _ _
        have B7 : Hid (Below w.heap.size w (vrSt v6 q2 cd ⟨#[]⟩)) := vr_below A6.out HG.out.2 _ _
        have S7 : Hid (SlQ Q w.heap.size a' m c') := ⟨HSL.out.1, fun y e => (HSL.out.2 y e).imp (fun z => z.1) (fun z => by have := HV4.out.2.2; omega)⟩
        have k0 := R6.out.c0
        have k1 := R6.out.c1
        have j0 := RB6.out.c0
        have j1 := RB6.out.c1
        have f0 := RB6.out.fr 0
        have f1 := RB6.out.fr 1
        go_region
        clear k0 k1 j0 j1 f0 f1 R6 RB6 A6 E6
        change Exit.then _ _ _ _ (vrSt v6 q2 cd ⟨#[]⟩).drew
        have E8 : Hid (Els (vrSt v6 q2 cd ⟨#[]⟩).drew 3 a' m (fiF G)) := fun i hi => E7.out i hi
        have R8 : Hid (Box2 (vrSt v6 q2 cd ⟨#[]⟩).drew q2 29 (.int .i64 cd) (.string ⟨#[]⟩)) := R7.out.ofBlock rfl
        have B8 : Hid (Below w.heap.size w (vrSt v6 q2 cd ⟨#[]⟩).drew) := ⟨B7.out.os, B7.out.tape, B7.out.output, B7.out.size, B7.out.block⟩
        clear E7 R7 B7
        generalize (vrSt v6 q2 cd ⟨#[]⟩).drew = v8 at *
        go_wp2
        exact ret_tc (b := q2) (v := .agg #[.int .i64 cd, .string ⟨#[]⟩]) Tryz.results29 rfl rfl R8.out.loadVr ⟨⟨a', m, c', G, ⟨#[]⟩, cd, rfl, E8.out, S7.out, HC.out⟩, B8.out⟩
  · subst e
    have W1 : Below w.heap.size w ((w.alloc (.cells #[.int .i64 6, .int .i64 xa, .int .i64 xn, .string xp, .string xo, .string xd] 26)).alloc (.cells #[.int .i64 0, .string ⟨#[]⟩] 29)) := ((Below.refl _ _).alloc (Nat.le_refl _) _).alloc (by simp) _
    have XB : Hid (FclB ((w.alloc (.cells #[.int .i64 6, .int .i64 xa, .int .i64 xn, .string xp, .string xo, .string xd] 26)).alloc (.cells #[.int .i64 0, .string ⟨#[]⟩] 29)) w.heap.size ⟨6, xa, xn, xp, xo, xd⟩) := (FclB.madeOf (x := ⟨6, xa, xn, xp, xo, xd⟩) rfl).ofBlock (((Below.refl _ (w.alloc (.cells #[.int .i64 6, .int .i64 xa, .int .i64 xn, .string xp, .string xo, .string xd] 26))).alloc (Nat.le_refl _) _).block _ (by simp))
    have RB : Hid (Box2 ((w.alloc (.cells #[.int .i64 6, .int .i64 xa, .int .i64 xn, .string xp, .string xo, .string xd] 26)).alloc (.cells #[.int .i64 0, .string ⟨#[]⟩] 29)) (w.heap.size + 1) 29 (.int .i64 0) (.string ⟨#[]⟩)) := Box2.madeAt (by simp) _ _ _
    have A1 : Hid (Below w.heap.size w ((w.alloc (.cells #[.int .i64 6, .int .i64 xa, .int .i64 xn, .string xp, .string xo, .string xd] 26)).alloc (.cells #[.int .i64 0, .string ⟨#[]⟩] 29))) := W1
    clear h hF hsl hQ hlt W1
    go_enter Tryz.func29, Tryz.ntmps29
    go_wp2_with fail
    generalize ((w.alloc (.cells #[.int .i64 6, .int .i64 xa, .int .i64 xn, .string xp, .string xo, .string xd] 26)).alloc (.cells #[.int .i64 0, .string ⟨#[]⟩] 29)) = v1 at *
    obtain ⟨q1, hq1⟩ : ∃ q, q = w.heap.size := ⟨_, rfl⟩
    obtain ⟨q2, hq2⟩ : ∃ q, q = w.heap.size + 1 := ⟨_, rfl⟩
    have HG : Hid (w.heap.size ≤ q1 ∧ w.heap.size ≤ q2) := ⟨by omega, by omega⟩
    rw [← hq2] at RB ⊢
    rw [← hq1] at XB ⊢
    clear hq1 hq2
    obtain ⟨x0, x1, x2, x3, x4, x5⟩ := XB.out.c
    dsimp only at x0 x1 x2 x3 x4 x5
    refine (in_any 6 1 7 true (by decide) v1).mono ?_
    rintro e _ ⟨rfl, rfl⟩
    go_wp2_with fail
    refine (l11Path_any xp (by unfold maxLen; omega) v1).mono ?_
    rintro e v2 ⟨⟨y, rfl, hy⟩, hb⟩
    have HY : Hid (y = true ↔ PathOk xp) := hy
    clear hy
    replace XB : Hid (FclB v2 q1 ⟨6, xa, xn, xp, xo, xd⟩) := XB.out.below hb
    replace RB : Hid (Box2 v2 q2 29 (.int .i64 0) (.string ⟨#[]⟩)) := RB.out.below hb
    replace A1 : Hid (Below w.heap.size w v2) := A1.out.trans (hb.mono A1.out.size)
    clear x0 x1 x2 x3 x4 x5 hb
    obtain ⟨x0, x1, x2, x3, x4, x5⟩ := XB.out.c
    dsimp only at x0 x1 x2 x3 x4 x5
    cases y with
    | false =>
      have RB2 : Hid (Box2 (vrSt v2 q2 16 ⟨#[]⟩) q2 29 (.int .i64 16) (.string ⟨#[]⟩)) := RB.out.vr _ _
      have B2 : Hid (Below w.heap.size w (vrSt v2 q2 16 ⟨#[]⟩)) := vr_below A1.out HG.out.2 _ _
      have HC : Hid (CfP n F ⟨6, xa, xn, xp, xo, xd⟩ n F ⟨#[]⟩ 16) := .inr ⟨by dsimp only; omega, .inl ⟨.inl ⟨(fun z => by have := HY.out.2 z; cases this), (fun z => by have := z.1; dsimp only at this; omega)⟩, rfl, rfl, rfl, rfl⟩⟩
      have k0 := RB.out.c0
      have k1 := RB.out.c1
      have f0 := RB.out.fr 0
      have f1 := RB.out.fr 1
      clear A1 RB XB
      go_wp2
      exact ret_tc (b := q2) (v := .agg #[.int .i64 16, .string ⟨#[]⟩]) Tryz.results29 rfl rfl RB2.out.loadVr ⟨⟨a, n, c, F, ⟨#[]⟩, 16, rfl, H.out.below B2.out, HSQ.out, HC.out⟩, B2.out⟩
    | true =>
      have HP : Hid (PathOk xp) := HY.out.1 rfl
      clear HY
      have BX : Below v2.heap.size v2 (v2.alloc (.cells #[.int .i64 0, .string ⟨#[]⟩] 29)) := (Below.refl _ _).alloc (Nat.le_refl _) _
      have R3 : Hid (Box2 (v2.alloc (.cells #[.int .i64 0, .string ⟨#[]⟩] 29)) v2.heap.size 29 (.int .i64 0) (.string ⟨#[]⟩)) := Box2.madeAt rfl _ _ _
      have HN3 : Hid (v2.heap.size ≠ q2 ∧ w.heap.size ≤ v2.heap.size) := ⟨by have := RB.out.lt; omega, A1.out.size⟩
      replace XB : Hid (FclB (v2.alloc (.cells #[.int .i64 0, .string ⟨#[]⟩] 29)) q1 ⟨6, xa, xn, xp, xo, xd⟩) := XB.out.below BX
      replace RB : Hid (Box2 (v2.alloc (.cells #[.int .i64 0, .string ⟨#[]⟩] 29)) q2 29 (.int .i64 0) (.string ⟨#[]⟩)) := RB.out.below BX
      replace A1 : Hid (Below w.heap.size w (v2.alloc (.cells #[.int .i64 0, .string ⟨#[]⟩] 29))) := A1.out.trans (BX.mono A1.out.size)
      obtain ⟨y0, y1, y2, y3, y4, y5⟩ := XB.out.c
      dsimp only at y0 y1 y2 y3 y4 y5
      clear BX
      go_wp2_with fail
      clear x0 x1 x2 x3 x4 x5
      generalize (v2.alloc (.cells #[.int .i64 0, .string ⟨#[]⟩] 29)) = v4 at *
      obtain ⟨q3, hq3⟩ : ∃ q, q = v2.heap.size := ⟨_, rfl⟩
      rw [← hq3] at R3 HN3 ⊢
      clear hq3 y0 y1 y2 y3 y4 y5
      obtain ⟨x0, x1, x2, x3, x4, x5⟩ := XB.out.c
      dsimp only at x0 x1 x2 x3 x4 x5
      refine (l11Remove_any a n c F xp HF.out.srt HP.out.1 (by omega) HS.out (fun g => Q g ∧ g < w.heap.size) HQ.out v4 (H.out.below A1.out)).mono ?_
      rintro e v5 ⟨⟨a', m, c', G, cd, rfl, hE, hS, hM⟩, hb⟩
      have HC : Hid (CfP n F ⟨6, xa, xn, xp, xo, xd⟩ m G ⟨#[]⟩ cd) := .inr ⟨by dsimp only; omega, .inr ⟨(fun z => z.elim (fun y => y.1 HP.out) (fun y => by have := y.1; dsimp only at this; omega)), .inr (.inr (.inr (.inr (.inr (.inl ⟨rfl, hM, rfl⟩)))))⟩⟩
      have HE : Hid (Els v5 3 a' m (fiF G)) := hE
      have HSL : Hid (SlQ (fun g => Q g ∧ g < w.heap.size) v4.heap.size a' m c') := hS
      have HV4 : Hid (q2 < v4.heap.size ∧ q3 < v4.heap.size ∧ w.heap.size ≤ v4.heap.size) := ⟨RB.out.lt, R3.out.lt, A1.out.size⟩
      replace R3 : Hid (Box2 v5 q3 29 (.int .i64 0) (.string ⟨#[]⟩)) := R3.out.below hb
      replace XB : Hid (FclB v5 q1 ⟨6, xa, xn, xp, xo, xd⟩) := XB.out.below hb
      replace RB : Hid (Box2 v5 q2 29 (.int .i64 0) (.string ⟨#[]⟩)) := RB.out.below hb
      replace A1 : Hid (Below w.heap.size w v5) := A1.out.trans (hb.mono A1.out.size)
      clear x0 x1 x2 x3 x4 x5 hb
      obtain ⟨x0, x1, x2, x3, x4, x5⟩ := XB.out.c
      dsimp only at x0 x1 x2 x3 x4 x5
      clear hE hS hM
      have k0 := R3.out.c0
      have k1 := R3.out.c1
      have f0 := R3.out.fr 0
      have f1 := R3.out.fr 1
      go_wp2_with fail
      clear k0 k1 f0 f1 x0 x1 x2 x3 x4 x5
      have R6 : Hid (Box2 (v5.setCell ⟨q3, 0, none⟩ (.int .i64 cd)) q3 29 (.int .i64 cd) (.string ⟨#[]⟩)) := R3.out.set0 _
      have RB6 : Hid (Box2 (v5.setCell ⟨q3, 0, none⟩ (.int .i64 cd)) q2 29 (.int .i64 0) (.string ⟨#[]⟩)) := RB.out.ofBlock (Below.heap_setCell v5 ⟨q3, 0, none⟩ _ q2 (Ne.symm HN3.out.1))
      have A6 : Hid (Below w.heap.size w (v5.setCell ⟨q3, 0, none⟩ (.int .i64 cd))) := A1.out.setCell HN3.out.2 _
      have E6 : Hid (Els (v5.setCell ⟨q3, 0, none⟩ (.int .i64 cd)) 3 a' m (fiF G)) := HE.out.offSet (fun y e => (HSL.out.2 y e).elim (fun z => by have := z.2; have := HN3.out.2; omega) (fun z => by have := HV4.out.2.1; omega))
      clear R3 RB A1 HE XB
      generalize (v5.setCell ⟨q3, 0, none⟩ (.int .i64 cd)) = v6 at *
      have E7 : Hid (Els (vrSt v6 q2 cd ⟨#[]⟩) 3 a' m (fiF G)) := (E6.out.offSet (fun y e => (HSL.out.2 y e).elim (fun z => by have := z.2; have := HG.out.2; omega) (fun z => by have := HV4.out.1; omega))).offSet (fun y e => (HSL.out.2 y e).elim (fun z => by have := z.2; have := HG.out.2; omega) (fun z => by have := HV4.out.1; omega))
      have R7 : Hid (Box2 (vrSt v6 q2 cd ⟨#[]⟩) q2 29 (.int .i64 cd) (.string ⟨#[]⟩)) := RB6.out.vr _ _
      have B7 : Hid (Below w.heap.size w (vrSt v6 q2 cd ⟨#[]⟩)) := vr_below A6.out HG.out.2 _ _
      have S7 : Hid (SlQ Q w.heap.size a' m c') := ⟨HSL.out.1, fun y e => (HSL.out.2 y e).imp (fun z => z.1) (fun z => by have := HV4.out.2.2; omega)⟩
      have k0 := R6.out.c0
      have k1 := R6.out.c1
      have j0 := RB6.out.c0
      have j1 := RB6.out.c1
      have f0 := RB6.out.fr 0
      have f1 := RB6.out.fr 1
      go_region
      clear k0 k1 j0 j1 f0 f1 R6 RB6 A6 E6
      change Exit.then _ _ _ _ (vrSt v6 q2 cd ⟨#[]⟩).drew
      have E8 : Hid (Els (vrSt v6 q2 cd ⟨#[]⟩).drew 3 a' m (fiF G)) := fun i hi => E7.out i hi
      have R8 : Hid (Box2 (vrSt v6 q2 cd ⟨#[]⟩).drew q2 29 (.int .i64 cd) (.string ⟨#[]⟩)) := R7.out.ofBlock rfl
      have B8 : Hid (Below w.heap.size w (vrSt v6 q2 cd ⟨#[]⟩).drew) := ⟨B7.out.os, B7.out.tape, B7.out.output, B7.out.size, B7.out.block⟩
      clear E7 R7 B7
      generalize (vrSt v6 q2 cd ⟨#[]⟩).drew = v8 at *
      go_wp2
      exact ret_tc (b := q2) (v := .agg #[.int .i64 cd, .string ⟨#[]⟩]) Tryz.results29 rfl rfl R8.out.loadVr ⟨⟨a', m, c', G, ⟨#[]⟩, cd, rfl, E8.out, S7.out, HC.out⟩, B8.out⟩
  · subst e
    have W1 : Below w.heap.size w ((w.alloc (.cells #[.int .i64 7, .int .i64 xa, .int .i64 xn, .string xp, .string xo, .string xd] 26)).alloc (.cells #[.int .i64 0, .string ⟨#[]⟩] 29)) := ((Below.refl _ _).alloc (Nat.le_refl _) _).alloc (by simp) _
    have XB : Hid (FclB ((w.alloc (.cells #[.int .i64 7, .int .i64 xa, .int .i64 xn, .string xp, .string xo, .string xd] 26)).alloc (.cells #[.int .i64 0, .string ⟨#[]⟩] 29)) w.heap.size ⟨7, xa, xn, xp, xo, xd⟩) := (FclB.madeOf (x := ⟨7, xa, xn, xp, xo, xd⟩) rfl).ofBlock (((Below.refl _ (w.alloc (.cells #[.int .i64 7, .int .i64 xa, .int .i64 xn, .string xp, .string xo, .string xd] 26))).alloc (Nat.le_refl _) _).block _ (by simp))
    have RB : Hid (Box2 ((w.alloc (.cells #[.int .i64 7, .int .i64 xa, .int .i64 xn, .string xp, .string xo, .string xd] 26)).alloc (.cells #[.int .i64 0, .string ⟨#[]⟩] 29)) (w.heap.size + 1) 29 (.int .i64 0) (.string ⟨#[]⟩)) := Box2.madeAt (by simp) _ _ _
    have A1 : Hid (Below w.heap.size w ((w.alloc (.cells #[.int .i64 7, .int .i64 xa, .int .i64 xn, .string xp, .string xo, .string xd] 26)).alloc (.cells #[.int .i64 0, .string ⟨#[]⟩] 29))) := W1
    clear h hF hsl hQ hlt W1
    go_enter Tryz.func29, Tryz.ntmps29
    go_wp2_with fail
    generalize ((w.alloc (.cells #[.int .i64 7, .int .i64 xa, .int .i64 xn, .string xp, .string xo, .string xd] 26)).alloc (.cells #[.int .i64 0, .string ⟨#[]⟩] 29)) = v1 at *
    obtain ⟨q1, hq1⟩ : ∃ q, q = w.heap.size := ⟨_, rfl⟩
    obtain ⟨q2, hq2⟩ : ∃ q, q = w.heap.size + 1 := ⟨_, rfl⟩
    have HG : Hid (w.heap.size ≤ q1 ∧ w.heap.size ≤ q2) := ⟨by omega, by omega⟩
    rw [← hq2] at RB ⊢
    rw [← hq1] at XB ⊢
    clear hq1 hq2
    obtain ⟨x0, x1, x2, x3, x4, x5⟩ := XB.out.c
    dsimp only at x0 x1 x2 x3 x4 x5
    refine (in_any 7 1 7 true (by decide) v1).mono ?_
    rintro e _ ⟨rfl, rfl⟩
    go_wp2_with fail
    refine (l11Path_any xp (by unfold maxLen; omega) v1).mono ?_
    rintro e v2 ⟨⟨y, rfl, hy⟩, hb⟩
    have HY : Hid (y = true ↔ PathOk xp) := hy
    clear hy
    replace XB : Hid (FclB v2 q1 ⟨7, xa, xn, xp, xo, xd⟩) := XB.out.below hb
    replace RB : Hid (Box2 v2 q2 29 (.int .i64 0) (.string ⟨#[]⟩)) := RB.out.below hb
    replace A1 : Hid (Below w.heap.size w v2) := A1.out.trans (hb.mono A1.out.size)
    clear x0 x1 x2 x3 x4 x5 hb
    obtain ⟨x0, x1, x2, x3, x4, x5⟩ := XB.out.c
    dsimp only at x0 x1 x2 x3 x4 x5
    cases y with
    | true =>
      have HP : Hid (PathOk xp) := HY.out.1 rfl
      clear HY
      have BX : Below v2.heap.size v2 (v2.alloc (.cells #[.int .i64 0, .string ⟨#[]⟩] 29)) := (Below.refl _ _).alloc (Nat.le_refl _) _
      have R3 : Hid (Box2 (v2.alloc (.cells #[.int .i64 0, .string ⟨#[]⟩] 29)) v2.heap.size 29 (.int .i64 0) (.string ⟨#[]⟩)) := Box2.madeAt rfl _ _ _
      have HN3 : Hid (v2.heap.size ≠ q2 ∧ w.heap.size ≤ v2.heap.size) := ⟨by have := RB.out.lt; omega, A1.out.size⟩
      replace XB : Hid (FclB (v2.alloc (.cells #[.int .i64 0, .string ⟨#[]⟩] 29)) q1 ⟨7, xa, xn, xp, xo, xd⟩) := XB.out.below BX
      replace RB : Hid (Box2 (v2.alloc (.cells #[.int .i64 0, .string ⟨#[]⟩] 29)) q2 29 (.int .i64 0) (.string ⟨#[]⟩)) := RB.out.below BX
      replace A1 : Hid (Below w.heap.size w (v2.alloc (.cells #[.int .i64 0, .string ⟨#[]⟩] 29))) := A1.out.trans (BX.mono A1.out.size)
      obtain ⟨y0, y1, y2, y3, y4, y5⟩ := XB.out.c
      dsimp only at y0 y1 y2 y3 y4 y5
      clear BX
      go_wp2_with fail
      clear x0 x1 x2 x3 x4 x5
      generalize (v2.alloc (.cells #[.int .i64 0, .string ⟨#[]⟩] 29)) = v4 at *
      obtain ⟨q3, hq3⟩ : ∃ q, q = v2.heap.size := ⟨_, rfl⟩
      rw [← hq3] at R3 HN3 ⊢
      clear hq3 y0 y1 y2 y3 y4 y5
      obtain ⟨x0, x1, x2, x3, x4, x5⟩ := XB.out.c
      dsimp only at x0 x1 x2 x3 x4 x5
      refine (specLs_any a n c F xp (fun i hi => by have := (HF.out.2 i hi).1.1.1; omega) (by omega) (by omega) v4 (H.out.below A1.out)).mono ?_
      rintro e v5 ⟨⟨L, cd, hL, o6, c6, rfl, hN⟩, hb⟩
      have HL : Hid (LsIs n F xp L cd) := hL
      have HN : Hid (Els v5 1 o6 L.length (pxF (nthT L))) := hN.els
      have HNM : Hid (∀ y, o6 = some y → y.block ≠ q3 ∧ y.block ≠ q2) := fun y e => by subst e; have h1 := (hN.ge y.block rfl).1; have h2 := RB.out.lt; have h3 := R3.out.lt; exact ⟨by omega, by omega⟩
      have hll : L.length ≤ 100 := by have h1 := HL.out.len; omega
      have HJZ : Hid (∀ k, (joinT L k).size ≤ 42 * k) := joinT_size L (HL.out.short HF.out)
      have HNZ : Hid (∀ k, (nthT L k).size ≤ 41) := HL.out.short HF.out
      replace R3 : Hid (Box2 v5 q3 29 (.int .i64 0) (.string ⟨#[]⟩)) := R3.out.below hb
      clear hL hN
      replace XB : Hid (FclB v5 q1 ⟨7, xa, xn, xp, xo, xd⟩) := XB.out.below hb
      replace RB : Hid (Box2 v5 q2 29 (.int .i64 0) (.string ⟨#[]⟩)) := RB.out.below hb
      replace A1 : Hid (Below w.heap.size w v5) := A1.out.trans (hb.mono A1.out.size)
      clear x0 x1 x2 x3 x4 x5 hb
      obtain ⟨x0, x1, x2, x3, x4, x5⟩ := XB.out.c
      dsimp only at x0 x1 x2 x3 x4 x5
      have k0 := R3.out.c0
      have k1 := R3.out.c1
      have f0 := R3.out.fr 0
      have f1 := R3.out.fr 1
      obtain ⟨NN, hNN⟩ : ∃ NN, NN = L.length := ⟨_, rfl⟩
      have HNN : Hid (NN = L.length) := hNN
      rw [← hNN] at hll HN ⊢
      clear hNN
      go_wp2_with fail
      clear k0 k1 f0 f1 x0 x1 x2 x3 x4 x5
      have R6 : Hid (Box2 (v5.setCell ⟨q3, 0, none⟩ (.int .i64 cd)) q3 29 (.int .i64 cd) (.string (joinT L 0))) := R3.out.set0 _
      have RB6 : Hid (Box2 (v5.setCell ⟨q3, 0, none⟩ (.int .i64 cd)) q2 29 (.int .i64 0) (.string ⟨#[]⟩)) := RB.out.ofBlock (Below.heap_setCell v5 ⟨q3, 0, none⟩ _ q2 (Ne.symm HN3.out.1))
      have A6 : Hid (Below w.heap.size w (v5.setCell ⟨q3, 0, none⟩ (.int .i64 cd))) := A1.out.setCell HN3.out.2 _
      have N6 : Hid (Els (v5.setCell ⟨q3, 0, none⟩ (.int .i64 cd)) 1 o6 NN (pxF (nthT L))) := HN.out.offSet (fun y e => (HNM.out y e).1)
      clear R3 RB A1 XB HN
      generalize (v5.setCell ⟨q3, 0, none⟩ (.int .i64 cd)) = v6 at *
      go_loopw [10] (fun i wr => ∃ k : Nat, k ≤ NN ∧ i = .int .i64 k ∧ Box2 wr q3 29 (.int .i64 cd) (.string (joinT L k)) ∧ Box2 wr q2 29 (.int .i64 0) (.string ⟨#[]⟩) ∧ Below w.heap.size w wr ∧ Els wr 1 o6 NN (pxF (nthT L))) (fun i _ => NN - (intOf i).toNat)
      case atStart => exact ⟨0, by omega, rfl, R6.out, RB6.out, A6.out, N6.out⟩
      case round =>
        clear R6 RB6 A6 N6
        obtain ⟨k, hk, rfl, hR, hB, hA, hN⟩ := hrel
        have R6 : Hid (Box2 wr q3 29 (.int .i64 cd) (.string (joinT L k))) := hR
        have RB6 : Hid (Box2 wr q2 29 (.int .i64 0) (.string ⟨#[]⟩)) := hB
        have A6 : Hid (Below w.heap.size w wr) := hA
        have N6 : Hid (Els wr 1 o6 NN (pxF (nthT L))) := hN
        clear hR hB hA hN
        by_cases hlt : k < NN
        · have hlt' : (k : Int) < (NN : Int) := by omega
          obtain ⟨g, q, rfl, hc⟩ := N6.out.opened (by omega)
          have c1 : wr.cell? ⟨g, q + k, none⟩ = some (.string (nthT L k)) := by
            have := hc k hlt 0 (by omega)
            rw [Nat.mul_one, Nat.add_zero] at this
            exact this
          have hgq : g ≠ q3 := (HNM.out _ rfl).1
          clear hc
          have k0 := R6.out.c0
          have k1 := R6.out.c1
          have f0 := R6.out.fr 0
          have f1 := R6.out.fr 1
          by_cases hz : k = 0
          · subst hz
            have c2 : wr.cell? ⟨g, q, none⟩ = some (.string (nthT L 0)) := by simpa using c1
            have HJ : Hid (joinT L 0 ++ nthT L 0 = joinT L 1) := rfl
            have z0 := HJZ.out 0
            have z1 := HNZ.out 0
            have X6 : Hid (Box2 (wr.setCell ⟨q3, 1, none⟩ (.string (joinT L 0 ++ nthT L 0))) q3 29 (.int .i64 cd) (.string (joinT L (0 + 1)))) := by have := R6.out.set1 (.string ((joinT L 0 ++ nthT L 0))); rw [HJ.out] at this ⊢; exact this
            have Y6 : Hid (Box2 (wr.setCell ⟨q3, 1, none⟩ (.string (joinT L 0 ++ nthT L 0))) q2 29 (.int .i64 0) (.string ⟨#[]⟩)) := RB6.out.ofBlock (Below.heap_setCell wr ⟨q3, 1, none⟩ _ q2 (Ne.symm HN3.out.1))
            have Z6 : Hid (Below w.heap.size w (wr.setCell ⟨q3, 1, none⟩ (.string (joinT L 0 ++ nthT L 0)))) := A6.out.setCell HN3.out.2 _
            have M6 : Hid (Els (wr.setCell ⟨q3, 1, none⟩ (.string (joinT L 0 ++ nthT L 0))) 1 (some ⟨g, q, none⟩) NN (pxF (nthT L))) := N6.out.offSet (fun y e => (HNM.out y e).1)
            clear R6 RB6 A6 N6 HJ
            generalize hT0 : joinT L 0 = T0 at *
            clear hT0
            go_wp2_with fail
            go_region
            clear c1 k0 k1 f0 f1 z0 z1
            have X8 := X6.out.ofBlock (w' := (wr.setCell ⟨q3, 1, none⟩ (.string (T0 ++ nthT L 0))).drew) rfl
            have Y8 := Y6.out.ofBlock (w' := (wr.setCell ⟨q3, 1, none⟩ (.string (T0 ++ nthT L 0))).drew) rfl
            have Z8 : Below w.heap.size w (wr.setCell ⟨q3, 1, none⟩ (.string (T0 ++ nthT L 0))).drew := ⟨Z6.out.os, Z6.out.tape, Z6.out.output, Z6.out.size, Z6.out.block⟩
            have M8 : Els (wr.setCell ⟨q3, 1, none⟩ (.string (T0 ++ nthT L 0))).drew 1 (some ⟨g, q, none⟩) NN (pxF (nthT L)) := fun i hi => M6.out i hi
            have HX8 : Hid _ := X8
            have HY8 : Hid _ := Y8
            have HZ8 : Hid _ := Z8
            have HM8 : Hid _ := M8
            clear X8 Y8 Z8 M8 X6 Y6 Z6 M6
            generalize (wr.setCell ⟨q3, 1, none⟩ (.string (T0 ++ nthT L 0))).drew = v9 at *
            go_wp2
            go_roundw
            case rel => exact ⟨0 + 1, by omega, by go_num, HX8, HY8, HZ8, HM8⟩
            case measure => simp [intOf]; omega
          · have hz2 : (0 : Int) < (k : Int) := by omega
            have HJ : Hid (joinT L k ++ ⟨#[32]⟩ ++ nthT L k = joinT L (k + 1)) := by show _ = (if k = 0 then joinT L k ++ nthT L k else joinT L k ++ ⟨#[32]⟩ ++ nthT L k); rw [if_neg hz]
            have z0 := HJZ.out k
            have z1 := HNZ.out k
            have R7 : Hid (Box2 (wr.setCell ⟨q3, 1, none⟩ (.string (joinT L k ++ ⟨#[32]⟩))) q3 29 (.int .i64 cd) (.string (joinT L k ++ ⟨#[32]⟩))) := R6.out.set1 _
            have RB7 : Hid (Box2 (wr.setCell ⟨q3, 1, none⟩ (.string (joinT L k ++ ⟨#[32]⟩))) q2 29 (.int .i64 0) (.string ⟨#[]⟩)) := RB6.out.ofBlock (Below.heap_setCell wr ⟨q3, 1, none⟩ _ q2 (Ne.symm HN3.out.1))
            have A7 : Hid (Below w.heap.size w (wr.setCell ⟨q3, 1, none⟩ (.string (joinT L k ++ ⟨#[32]⟩)))) := A6.out.setCell HN3.out.2 _
            have N7 : Hid (Els (wr.setCell ⟨q3, 1, none⟩ (.string (joinT L k ++ ⟨#[32]⟩))) 1 (some ⟨g, q, none⟩) NN (pxF (nthT L))) := N6.out.offSet (fun y e => (HNM.out y e).1)
            clear R6 RB6 A6 N6
            go_wp2_with fail
            clear c1 k0 k1 f0 f1
            obtain ⟨TK, hTK⟩ : ∃ TK, TK = joinT L k ++ ⟨#[32]⟩ := ⟨_, rfl⟩
            have zk : TK.size ≤ 42 * k + 1 := by rw [hTK, ByteArray.size_append]; have : (⟨#[32]⟩ : ByteArray).size = 1 := rfl; omega
            rw [← hTK] at R7 RB7 A7 N7 HJ ⊢
            clear hTK
            generalize (wr.setCell ⟨q3, 1, none⟩ (.string TK)) = v7 at *
            have R6 : Hid (Box2 v7 q3 29 (.int .i64 cd) (.string TK)) := R7.out
            have RB6 : Hid (Box2 v7 q2 29 (.int .i64 0) (.string ⟨#[]⟩)) := RB7.out
            have A6 : Hid (Below w.heap.size w v7) := A7.out
            have N6 : Hid (Els v7 1 (some ⟨g, q, none⟩) NN (pxF (nthT L))) := N7.out
            clear R7 RB7 A7 N7
            have c1 : v7.cell? ⟨g, q + k, none⟩ = some (.string (nthT L k)) := by
              obtain ⟨g5, q5, e5, hc⟩ := N6.out.opened (by omega)
              cases e5
              have := hc k hlt 0 (by omega)
              rw [Nat.mul_one, Nat.add_zero] at this
              exact this
            have k0 := R6.out.c0
            have k1 := R6.out.c1
            have f0 := R6.out.fr 0
            have f1 := R6.out.fr 1
            have X6 : Hid (Box2 (v7.setCell ⟨q3, 1, none⟩ (.string (TK ++ nthT L k))) q3 29 (.int .i64 cd) (.string (joinT L (k + 1)))) := by have := R6.out.set1 (.string ((TK ++ nthT L k))); rw [HJ.out] at this ⊢; exact this
            have Y6 : Hid (Box2 (v7.setCell ⟨q3, 1, none⟩ (.string (TK ++ nthT L k))) q2 29 (.int .i64 0) (.string ⟨#[]⟩)) := RB6.out.ofBlock (Below.heap_setCell v7 ⟨q3, 1, none⟩ _ q2 (Ne.symm HN3.out.1))
            have Z6 : Hid (Below w.heap.size w (v7.setCell ⟨q3, 1, none⟩ (.string (TK ++ nthT L k)))) := A6.out.setCell HN3.out.2 _
            have M6 : Hid (Els (v7.setCell ⟨q3, 1, none⟩ (.string (TK ++ nthT L k))) 1 (some ⟨g, q, none⟩) NN (pxF (nthT L))) := N6.out.offSet (fun y e => (HNM.out y e).1)
            clear R6 RB6 A6 N6 HJ
            skip
            go_region
            clear c1 k0 k1 f0 f1 z0 z1
            have X8 := X6.out.ofBlock (w' := (v7.setCell ⟨q3, 1, none⟩ (.string (TK ++ nthT L k))).drew) rfl
            have Y8 := Y6.out.ofBlock (w' := (v7.setCell ⟨q3, 1, none⟩ (.string (TK ++ nthT L k))).drew) rfl
            have Z8 : Below w.heap.size w (v7.setCell ⟨q3, 1, none⟩ (.string (TK ++ nthT L k))).drew := ⟨Z6.out.os, Z6.out.tape, Z6.out.output, Z6.out.size, Z6.out.block⟩
            have M8 : Els (v7.setCell ⟨q3, 1, none⟩ (.string (TK ++ nthT L k))).drew 1 (some ⟨g, q, none⟩) NN (pxF (nthT L)) := fun i hi => M6.out i hi
            have HX8 : Hid _ := X8
            have HY8 : Hid _ := Y8
            have HZ8 : Hid _ := Z8
            have HM8 : Hid _ := M8
            clear X8 Y8 Z8 M8 X6 Y6 Z6 M6
            generalize (v7.setCell ⟨q3, 1, none⟩ (.string (TK ++ nthT L k))).drew = v9 at *
            go_wp2
            go_roundw
            case rel => exact ⟨k + 1, by omega, by go_num, HX8, HY8, HZ8, HM8⟩
            case measure => simp [intOf]; omega
        · obtain rfl : k = NN := by omega
          have hlt' : ¬ (k : Int) < (k : Int) := by omega
          have HC : Hid (CfP n F ⟨7, xa, xn, xp, xo, xd⟩ n F (joinT L k) cd) := .inr ⟨by dsimp only; omega, .inr ⟨(fun z => z.elim (fun y => y.1 HP.out) (fun y => by have := y.1; dsimp only at this; omega)), .inr (.inr (.inr (.inr (.inr (.inr ⟨rfl, rfl, rfl, L, HL.out, by rw [HNN.out]⟩)))))⟩⟩
          generalize joinT L k = t at *
          have R7 : Hid (Box2 (vrSt wr q2 cd t) q2 29 (.int .i64 cd) (.string t)) := RB6.out.vr _ _
          have B7 : Hid (Below w.heap.size w (vrSt wr q2 cd t)) := vr_below A6.out HG.out.2 _ _
          have k0 := R6.out.c0
          have k1 := R6.out.c1
          have j0 := RB6.out.c0
          have j1 := RB6.out.c1
          have f0 := RB6.out.fr 0
          have f1 := RB6.out.fr 1
          go_wp2_with fail
          go_region
          clear k0 k1 j0 j1 f0 f1 R6 RB6 A6 N6
          change Exit.then _ _ _ _ (vrSt wr q2 cd t).drew
          have R8 : Hid (Box2 (vrSt wr q2 cd t).drew q2 29 (.int .i64 cd) (.string t)) := R7.out.ofBlock rfl
          have B8 : Hid (Below w.heap.size w (vrSt wr q2 cd t).drew) := ⟨B7.out.os, B7.out.tape, B7.out.output, B7.out.size, B7.out.block⟩
          clear R7 B7
          generalize (vrSt wr q2 cd t).drew = v8 at *
          go_wp2
          exact ret_tc (b := q2) (v := .agg #[.int .i64 cd, .string t]) Tryz.results29 rfl rfl R8.out.loadVr ⟨⟨a, n, c, F, t, cd, rfl, H.out.below B8.out, HSQ.out, HC.out⟩, B8.out⟩
    | false =>
      by_cases hz : xp.size = 0
      · obtain rfl : xp = ⟨#[]⟩ := toL_inj (by have h9 := toL_len xp; rw [hz] at h9; rw [List.eq_nil_of_length_eq_zero h9])
        clear hz HY
        have BX : Below v2.heap.size v2 (v2.alloc (.cells #[.int .i64 0, .string ⟨#[]⟩] 29)) := (Below.refl _ _).alloc (Nat.le_refl _) _
        have R3 : Hid (Box2 (v2.alloc (.cells #[.int .i64 0, .string ⟨#[]⟩] 29)) v2.heap.size 29 (.int .i64 0) (.string ⟨#[]⟩)) := Box2.madeAt rfl _ _ _
        have HN3 : Hid (v2.heap.size ≠ q2 ∧ w.heap.size ≤ v2.heap.size) := ⟨by have := RB.out.lt; omega, A1.out.size⟩
        replace XB : Hid (FclB (v2.alloc (.cells #[.int .i64 0, .string ⟨#[]⟩] 29)) q1 ⟨7, xa, xn, ⟨#[]⟩, xo, xd⟩) := XB.out.below BX
        replace RB : Hid (Box2 (v2.alloc (.cells #[.int .i64 0, .string ⟨#[]⟩] 29)) q2 29 (.int .i64 0) (.string ⟨#[]⟩)) := RB.out.below BX
        replace A1 : Hid (Below w.heap.size w (v2.alloc (.cells #[.int .i64 0, .string ⟨#[]⟩] 29))) := A1.out.trans (BX.mono A1.out.size)
        obtain ⟨y0, y1, y2, y3, y4, y5⟩ := XB.out.c
        dsimp only at y0 y1 y2 y3 y4 y5
        clear BX
        go_wp2_with fail
        clear x0 x1 x2 x3 x4 x5
        generalize (v2.alloc (.cells #[.int .i64 0, .string ⟨#[]⟩] 29)) = v4 at *
        obtain ⟨q3, hq3⟩ : ∃ q, q = v2.heap.size := ⟨_, rfl⟩
        rw [← hq3] at R3 HN3 ⊢
        clear hq3 y0 y1 y2 y3 y4 y5
        obtain ⟨x0, x1, x2, x3, x4, x5⟩ := XB.out.c
        dsimp only at x0 x1 x2 x3 x4 x5
        refine (specLs_any a n c F ⟨#[]⟩ (fun i hi => by have := (HF.out.2 i hi).1.1.1; omega) (by omega) (by omega) v4 (H.out.below A1.out)).mono ?_
        rintro e v5 ⟨⟨L, cd, hL, o6, c6, rfl, hN⟩, hb⟩
        have HL : Hid (LsIs n F ⟨#[]⟩ L cd) := hL
        have HN : Hid (Els v5 1 o6 L.length (pxF (nthT L))) := hN.els
        have HNM : Hid (∀ y, o6 = some y → y.block ≠ q3 ∧ y.block ≠ q2) := fun y e => by subst e; have h1 := (hN.ge y.block rfl).1; have h2 := RB.out.lt; have h3 := R3.out.lt; exact ⟨by omega, by omega⟩
        have hll : L.length ≤ 100 := by have h1 := HL.out.len; omega
        have HJZ : Hid (∀ k, (joinT L k).size ≤ 42 * k) := joinT_size L (HL.out.short HF.out)
        have HNZ : Hid (∀ k, (nthT L k).size ≤ 41) := HL.out.short HF.out
        replace R3 : Hid (Box2 v5 q3 29 (.int .i64 0) (.string ⟨#[]⟩)) := R3.out.below hb
        clear hL hN
        replace XB : Hid (FclB v5 q1 ⟨7, xa, xn, ⟨#[]⟩, xo, xd⟩) := XB.out.below hb
        replace RB : Hid (Box2 v5 q2 29 (.int .i64 0) (.string ⟨#[]⟩)) := RB.out.below hb
        replace A1 : Hid (Below w.heap.size w v5) := A1.out.trans (hb.mono A1.out.size)
        clear x0 x1 x2 x3 x4 x5 hb
        obtain ⟨x0, x1, x2, x3, x4, x5⟩ := XB.out.c
        dsimp only at x0 x1 x2 x3 x4 x5
        have k0 := R3.out.c0
        have k1 := R3.out.c1
        have f0 := R3.out.fr 0
        have f1 := R3.out.fr 1
        obtain ⟨NN, hNN⟩ : ∃ NN, NN = L.length := ⟨_, rfl⟩
        have HNN : Hid (NN = L.length) := hNN
        rw [← hNN] at hll HN ⊢
        clear hNN
        go_wp2_with fail
        clear k0 k1 f0 f1 x0 x1 x2 x3 x4 x5
        have R6 : Hid (Box2 (v5.setCell ⟨q3, 0, none⟩ (.int .i64 cd)) q3 29 (.int .i64 cd) (.string (joinT L 0))) := R3.out.set0 _
        have RB6 : Hid (Box2 (v5.setCell ⟨q3, 0, none⟩ (.int .i64 cd)) q2 29 (.int .i64 0) (.string ⟨#[]⟩)) := RB.out.ofBlock (Below.heap_setCell v5 ⟨q3, 0, none⟩ _ q2 (Ne.symm HN3.out.1))
        have A6 : Hid (Below w.heap.size w (v5.setCell ⟨q3, 0, none⟩ (.int .i64 cd))) := A1.out.setCell HN3.out.2 _
        have N6 : Hid (Els (v5.setCell ⟨q3, 0, none⟩ (.int .i64 cd)) 1 o6 NN (pxF (nthT L))) := HN.out.offSet (fun y e => (HNM.out y e).1)
        clear R3 RB A1 XB HN
        generalize (v5.setCell ⟨q3, 0, none⟩ (.int .i64 cd)) = v6 at *
        go_loopw [10] (fun i wr => ∃ k : Nat, k ≤ NN ∧ i = .int .i64 k ∧ Box2 wr q3 29 (.int .i64 cd) (.string (joinT L k)) ∧ Box2 wr q2 29 (.int .i64 0) (.string ⟨#[]⟩) ∧ Below w.heap.size w wr ∧ Els wr 1 o6 NN (pxF (nthT L))) (fun i _ => NN - (intOf i).toNat)
        case atStart => exact ⟨0, by omega, rfl, R6.out, RB6.out, A6.out, N6.out⟩
        case round =>
          clear R6 RB6 A6 N6
          obtain ⟨k, hk, rfl, hR, hB, hA, hN⟩ := hrel
          have R6 : Hid (Box2 wr q3 29 (.int .i64 cd) (.string (joinT L k))) := hR
          have RB6 : Hid (Box2 wr q2 29 (.int .i64 0) (.string ⟨#[]⟩)) := hB
          have A6 : Hid (Below w.heap.size w wr) := hA
          have N6 : Hid (Els wr 1 o6 NN (pxF (nthT L))) := hN
          clear hR hB hA hN
          by_cases hlt : k < NN
          · have hlt' : (k : Int) < (NN : Int) := by omega
            obtain ⟨g, q, rfl, hc⟩ := N6.out.opened (by omega)
            have c1 : wr.cell? ⟨g, q + k, none⟩ = some (.string (nthT L k)) := by
              have := hc k hlt 0 (by omega)
              rw [Nat.mul_one, Nat.add_zero] at this
              exact this
            have hgq : g ≠ q3 := (HNM.out _ rfl).1
            clear hc
            have k0 := R6.out.c0
            have k1 := R6.out.c1
            have f0 := R6.out.fr 0
            have f1 := R6.out.fr 1
            by_cases hz : k = 0
            · subst hz
              have c2 : wr.cell? ⟨g, q, none⟩ = some (.string (nthT L 0)) := by simpa using c1
              have HJ : Hid (joinT L 0 ++ nthT L 0 = joinT L 1) := rfl
              have z0 := HJZ.out 0
              have z1 := HNZ.out 0
              have X6 : Hid (Box2 (wr.setCell ⟨q3, 1, none⟩ (.string (joinT L 0 ++ nthT L 0))) q3 29 (.int .i64 cd) (.string (joinT L (0 + 1)))) := by have := R6.out.set1 (.string ((joinT L 0 ++ nthT L 0))); rw [HJ.out] at this ⊢; exact this
              have Y6 : Hid (Box2 (wr.setCell ⟨q3, 1, none⟩ (.string (joinT L 0 ++ nthT L 0))) q2 29 (.int .i64 0) (.string ⟨#[]⟩)) := RB6.out.ofBlock (Below.heap_setCell wr ⟨q3, 1, none⟩ _ q2 (Ne.symm HN3.out.1))
              have Z6 : Hid (Below w.heap.size w (wr.setCell ⟨q3, 1, none⟩ (.string (joinT L 0 ++ nthT L 0)))) := A6.out.setCell HN3.out.2 _
              have M6 : Hid (Els (wr.setCell ⟨q3, 1, none⟩ (.string (joinT L 0 ++ nthT L 0))) 1 (some ⟨g, q, none⟩) NN (pxF (nthT L))) := N6.out.offSet (fun y e => (HNM.out y e).1)
              clear R6 RB6 A6 N6 HJ
              generalize hT0 : joinT L 0 = T0 at *
              clear hT0
              go_wp2_with fail
              go_region
              clear c1 k0 k1 f0 f1 z0 z1
              have X8 := X6.out.ofBlock (w' := (wr.setCell ⟨q3, 1, none⟩ (.string (T0 ++ nthT L 0))).drew) rfl
              have Y8 := Y6.out.ofBlock (w' := (wr.setCell ⟨q3, 1, none⟩ (.string (T0 ++ nthT L 0))).drew) rfl
              have Z8 : Below w.heap.size w (wr.setCell ⟨q3, 1, none⟩ (.string (T0 ++ nthT L 0))).drew := ⟨Z6.out.os, Z6.out.tape, Z6.out.output, Z6.out.size, Z6.out.block⟩
              have M8 : Els (wr.setCell ⟨q3, 1, none⟩ (.string (T0 ++ nthT L 0))).drew 1 (some ⟨g, q, none⟩) NN (pxF (nthT L)) := fun i hi => M6.out i hi
              have HX8 : Hid _ := X8
              have HY8 : Hid _ := Y8
              have HZ8 : Hid _ := Z8
              have HM8 : Hid _ := M8
              clear X8 Y8 Z8 M8 X6 Y6 Z6 M6
              generalize (wr.setCell ⟨q3, 1, none⟩ (.string (T0 ++ nthT L 0))).drew = v9 at *
              go_wp2
              go_roundw
              case rel => exact ⟨0 + 1, by omega, by go_num, HX8, HY8, HZ8, HM8⟩
              case measure => simp [intOf]; omega
            · have hz2 : (0 : Int) < (k : Int) := by omega
              have HJ : Hid (joinT L k ++ ⟨#[32]⟩ ++ nthT L k = joinT L (k + 1)) := by show _ = (if k = 0 then joinT L k ++ nthT L k else joinT L k ++ ⟨#[32]⟩ ++ nthT L k); rw [if_neg hz]
              have z0 := HJZ.out k
              have z1 := HNZ.out k
              have R7 : Hid (Box2 (wr.setCell ⟨q3, 1, none⟩ (.string (joinT L k ++ ⟨#[32]⟩))) q3 29 (.int .i64 cd) (.string (joinT L k ++ ⟨#[32]⟩))) := R6.out.set1 _
              have RB7 : Hid (Box2 (wr.setCell ⟨q3, 1, none⟩ (.string (joinT L k ++ ⟨#[32]⟩))) q2 29 (.int .i64 0) (.string ⟨#[]⟩)) := RB6.out.ofBlock (Below.heap_setCell wr ⟨q3, 1, none⟩ _ q2 (Ne.symm HN3.out.1))
              have A7 : Hid (Below w.heap.size w (wr.setCell ⟨q3, 1, none⟩ (.string (joinT L k ++ ⟨#[32]⟩)))) := A6.out.setCell HN3.out.2 _
              have N7 : Hid (Els (wr.setCell ⟨q3, 1, none⟩ (.string (joinT L k ++ ⟨#[32]⟩))) 1 (some ⟨g, q, none⟩) NN (pxF (nthT L))) := N6.out.offSet (fun y e => (HNM.out y e).1)
              clear R6 RB6 A6 N6
              go_wp2_with fail
              clear c1 k0 k1 f0 f1
              obtain ⟨TK, hTK⟩ : ∃ TK, TK = joinT L k ++ ⟨#[32]⟩ := ⟨_, rfl⟩
              have zk : TK.size ≤ 42 * k + 1 := by rw [hTK, ByteArray.size_append]; have : (⟨#[32]⟩ : ByteArray).size = 1 := rfl; omega
              rw [← hTK] at R7 RB7 A7 N7 HJ ⊢
              clear hTK
              generalize (wr.setCell ⟨q3, 1, none⟩ (.string TK)) = v7 at *
              have R6 : Hid (Box2 v7 q3 29 (.int .i64 cd) (.string TK)) := R7.out
              have RB6 : Hid (Box2 v7 q2 29 (.int .i64 0) (.string ⟨#[]⟩)) := RB7.out
              have A6 : Hid (Below w.heap.size w v7) := A7.out
              have N6 : Hid (Els v7 1 (some ⟨g, q, none⟩) NN (pxF (nthT L))) := N7.out
              clear R7 RB7 A7 N7
              have c1 : v7.cell? ⟨g, q + k, none⟩ = some (.string (nthT L k)) := by
                obtain ⟨g5, q5, e5, hc⟩ := N6.out.opened (by omega)
                cases e5
                have := hc k hlt 0 (by omega)
                rw [Nat.mul_one, Nat.add_zero] at this
                exact this
              have k0 := R6.out.c0
              have k1 := R6.out.c1
              have f0 := R6.out.fr 0
              have f1 := R6.out.fr 1
              have X6 : Hid (Box2 (v7.setCell ⟨q3, 1, none⟩ (.string (TK ++ nthT L k))) q3 29 (.int .i64 cd) (.string (joinT L (k + 1)))) := by have := R6.out.set1 (.string ((TK ++ nthT L k))); rw [HJ.out] at this ⊢; exact this
              have Y6 : Hid (Box2 (v7.setCell ⟨q3, 1, none⟩ (.string (TK ++ nthT L k))) q2 29 (.int .i64 0) (.string ⟨#[]⟩)) := RB6.out.ofBlock (Below.heap_setCell v7 ⟨q3, 1, none⟩ _ q2 (Ne.symm HN3.out.1))
              have Z6 : Hid (Below w.heap.size w (v7.setCell ⟨q3, 1, none⟩ (.string (TK ++ nthT L k)))) := A6.out.setCell HN3.out.2 _
              have M6 : Hid (Els (v7.setCell ⟨q3, 1, none⟩ (.string (TK ++ nthT L k))) 1 (some ⟨g, q, none⟩) NN (pxF (nthT L))) := N6.out.offSet (fun y e => (HNM.out y e).1)
              clear R6 RB6 A6 N6 HJ
              skip
              go_region
              clear c1 k0 k1 f0 f1 z0 z1
              have X8 := X6.out.ofBlock (w' := (v7.setCell ⟨q3, 1, none⟩ (.string (TK ++ nthT L k))).drew) rfl
              have Y8 := Y6.out.ofBlock (w' := (v7.setCell ⟨q3, 1, none⟩ (.string (TK ++ nthT L k))).drew) rfl
              have Z8 : Below w.heap.size w (v7.setCell ⟨q3, 1, none⟩ (.string (TK ++ nthT L k))).drew := ⟨Z6.out.os, Z6.out.tape, Z6.out.output, Z6.out.size, Z6.out.block⟩
              have M8 : Els (v7.setCell ⟨q3, 1, none⟩ (.string (TK ++ nthT L k))).drew 1 (some ⟨g, q, none⟩) NN (pxF (nthT L)) := fun i hi => M6.out i hi
              have HX8 : Hid _ := X8
              have HY8 : Hid _ := Y8
              have HZ8 : Hid _ := Z8
              have HM8 : Hid _ := M8
              clear X8 Y8 Z8 M8 X6 Y6 Z6 M6
              generalize (v7.setCell ⟨q3, 1, none⟩ (.string (TK ++ nthT L k))).drew = v9 at *
              go_wp2
              go_roundw
              case rel => exact ⟨k + 1, by omega, by go_num, HX8, HY8, HZ8, HM8⟩
              case measure => simp [intOf]; omega
          · obtain rfl : k = NN := by omega
            have hlt' : ¬ (k : Int) < (k : Int) := by omega
            have HC : Hid (CfP n F ⟨7, xa, xn, ⟨#[]⟩, xo, xd⟩ n F (joinT L k) cd) := .inr ⟨by dsimp only; omega, .inr ⟨(fun z => z.elim (fun y => y.2 ⟨rfl, rfl⟩) (fun y => by have := y.1; dsimp only at this; omega)), .inr (.inr (.inr (.inr (.inr (.inr ⟨rfl, rfl, rfl, L, HL.out, by rw [HNN.out]⟩)))))⟩⟩
            generalize joinT L k = t at *
            have R7 : Hid (Box2 (vrSt wr q2 cd t) q2 29 (.int .i64 cd) (.string t)) := RB6.out.vr _ _
            have B7 : Hid (Below w.heap.size w (vrSt wr q2 cd t)) := vr_below A6.out HG.out.2 _ _
            have k0 := R6.out.c0
            have k1 := R6.out.c1
            have j0 := RB6.out.c0
            have j1 := RB6.out.c1
            have f0 := RB6.out.fr 0
            have f1 := RB6.out.fr 1
            go_wp2_with fail
            go_region
            clear k0 k1 j0 j1 f0 f1 R6 RB6 A6 N6
            change Exit.then _ _ _ _ (vrSt wr q2 cd t).drew
            have R8 : Hid (Box2 (vrSt wr q2 cd t).drew q2 29 (.int .i64 cd) (.string t)) := R7.out.ofBlock rfl
            have B8 : Hid (Below w.heap.size w (vrSt wr q2 cd t).drew) := ⟨B7.out.os, B7.out.tape, B7.out.output, B7.out.size, B7.out.block⟩
            clear R7 B7
            generalize (vrSt wr q2 cd t).drew = v8 at *
            go_wp2
            exact ret_tc (b := q2) (v := .agg #[.int .i64 cd, .string t]) Tryz.results29 rfl rfl R8.out.loadVr ⟨⟨a, n, c, F, t, cd, rfl, H.out.below B8.out, HSQ.out, HC.out⟩, B8.out⟩
      · have hpe : (xp.toList == []) = false := textEmpty (Nat.pos_of_ne_zero hz)
        have hpe2 : xp.toList.isEmpty = false := textEmpty2 (Nat.pos_of_ne_zero hz)
        have HZ : Hid (¬ xp.size = 0) := hz
        clear hz
        have RB2 : Hid (Box2 (vrSt v2 q2 16 ⟨#[]⟩) q2 29 (.int .i64 16) (.string ⟨#[]⟩)) := RB.out.vr _ _
        have B2 : Hid (Below w.heap.size w (vrSt v2 q2 16 ⟨#[]⟩)) := vr_below A1.out HG.out.2 _ _
        have HC : Hid (CfP n F ⟨7, xa, xn, xp, xo, xd⟩ n F ⟨#[]⟩ 16) := .inr ⟨by dsimp only; omega, .inl ⟨.inl ⟨(fun z => by have := HY.out.2 z; cases this), (fun z => HZ.out z.2)⟩, rfl, rfl, rfl, rfl⟩⟩
        have k0 := RB.out.c0
        have k1 := RB.out.c1
        have f0 := RB.out.fr 0
        have f1 := RB.out.fr 1
        clear A1 RB XB
        go_wp2
        exact ret_tc (b := q2) (v := .agg #[.int .i64 16, .string ⟨#[]⟩]) Tryz.results29 rfl rfl RB2.out.loadVr ⟨⟨a, n, c, F, ⟨#[]⟩, 16, rfl, H.out.below B2.out, HSQ.out, HC.out⟩, B2.out⟩
  · have HK : Hid (¬ (1 ≤ xk ∧ xk ≤ 7)) := e
    clear e
    have W1 : Below w.heap.size w ((w.alloc (.cells #[.int .i64 xk, .int .i64 xa, .int .i64 xn, .string xp, .string xo, .string xd] 26)).alloc (.cells #[.int .i64 0, .string ⟨#[]⟩] 29)) := ((Below.refl _ _).alloc (Nat.le_refl _) _).alloc (by simp) _
    have XB : Hid (FclB ((w.alloc (.cells #[.int .i64 xk, .int .i64 xa, .int .i64 xn, .string xp, .string xo, .string xd] 26)).alloc (.cells #[.int .i64 0, .string ⟨#[]⟩] 29)) w.heap.size ⟨xk, xa, xn, xp, xo, xd⟩) := (FclB.madeOf (x := ⟨xk, xa, xn, xp, xo, xd⟩) rfl).ofBlock (((Below.refl _ (w.alloc (.cells #[.int .i64 xk, .int .i64 xa, .int .i64 xn, .string xp, .string xo, .string xd] 26))).alloc (Nat.le_refl _) _).block _ (by simp))
    have RB : Hid (Box2 ((w.alloc (.cells #[.int .i64 xk, .int .i64 xa, .int .i64 xn, .string xp, .string xo, .string xd] 26)).alloc (.cells #[.int .i64 0, .string ⟨#[]⟩] 29)) (w.heap.size + 1) 29 (.int .i64 0) (.string ⟨#[]⟩)) := Box2.madeAt (by simp) _ _ _
    have A1 : Hid (Below w.heap.size w ((w.alloc (.cells #[.int .i64 xk, .int .i64 xa, .int .i64 xn, .string xp, .string xo, .string xd] 26)).alloc (.cells #[.int .i64 0, .string ⟨#[]⟩] 29))) := W1
    clear h hF hsl hQ hlt W1
    go_enter Tryz.func29, Tryz.ntmps29
    go_wp2_with fail
    generalize ((w.alloc (.cells #[.int .i64 xk, .int .i64 xa, .int .i64 xn, .string xp, .string xo, .string xd] 26)).alloc (.cells #[.int .i64 0, .string ⟨#[]⟩] 29)) = v1 at *
    obtain ⟨q1, hq1⟩ : ∃ q, q = w.heap.size := ⟨_, rfl⟩
    obtain ⟨q2, hq2⟩ : ∃ q, q = w.heap.size + 1 := ⟨_, rfl⟩
    have HG : Hid (w.heap.size ≤ q1 ∧ w.heap.size ≤ q2) := ⟨by omega, by omega⟩
    rw [← hq2] at RB ⊢
    rw [← hq1] at XB ⊢
    clear hq1 hq2
    obtain ⟨x0, x1, x2, x3, x4, x5⟩ := XB.out.c
    dsimp only at x0 x1 x2 x3 x4 x5
    refine (in_any xk 1 7 false (by have := HK.out; simp; omega) v1).mono ?_
    rintro e _ ⟨rfl, rfl⟩
    have RB2 : Hid (Box2 (vrSt v1 q2 3 ⟨#[]⟩) q2 29 (.int .i64 3) (.string ⟨#[]⟩)) := RB.out.vr _ _
    have B2 : Hid (Below w.heap.size w (vrSt v1 q2 3 ⟨#[]⟩)) := vr_below A1.out HG.out.2 _ _
    have HC : Hid (CfP n F ⟨xk, xa, xn, xp, xo, xd⟩ n F ⟨#[]⟩ 3) := .inl ⟨HK.out, rfl, rfl, rfl, rfl⟩
    have k0 := RB.out.c0
    have k1 := RB.out.c1
    have f0 := RB.out.fr 0
    have f1 := RB.out.fr 1
    clear A1 RB XB
    go_wp2
    exact ret_tc (b := q2) (v := .agg #[.int .i64 3, .string ⟨#[]⟩]) Tryz.results29 rfl rfl RB2.out.loadVr ⟨⟨a, n, c, F, ⟨#[]⟩, 3, rfl, H.out.below B2.out, HSQ.out, HC.out⟩, B2.out⟩
end Go.Proofs.YtgcdoabcopihlaaGreat

/-
  CallFiles of the model.
-/
namespace Go.Proofs.YtgcdoabcopihlaaGreat
open Go.ChangeShapes Go.WideShapes Go.ChangeAt Go.RowKit
set_option linter.unusedVariables false
theorem ret_tctS {P : Program} {fn : Func} {p u u2 : Tmp} {ty : TypeId} {tmps : Array Value} {w : World} {b : Nat} {v x y : Value} {Post : Ending → World → Prop} (h : fn.results = #[.tmp u, .cell p ty, .tmp u2]) (hp : tmps.getD p undef = .pointer (some ⟨b, 0, none⟩)) (hu : tmps.getD u undef = x) (hu2 : tmps.getD u2 undef = y) (hl : (loadVar ty ⟨b, 0, none⟩).run P w = .ok v w) (hq : Post (.returned (.tuple #[x, v, y])) w) : bodyPost P fn Post .ret { tmps := tmps, defers := [] } w := by
  refine bodyPost_ret (v := .tuple #[x, v, y]) ?_ rfl hq
  simp only [Array.getD_eq_getD_getElem?] at hp hu hu2
  unfold results
  rw [h]
  simp [hp, hu, hu2, asAddr, hl, Result.andThen]
theorem EO.notBoxD {w : World} {B : Nat} {e : TypeId} {s : Nat} {v : Value} {n : Nat} {F : Nat → Nat → Value} (h : EO w B e s v n F) {p : Nat} {t : TypeId} {x y : Value} (hp : Box2 w p t x y) (ht : t ≠ e) : v.ownBlock ≠ some p := fun hg => by
  obtain ⟨hl, ⟨h1, _⟩ | ⟨g', cap, cur, hv, _, hh, _⟩⟩ := h
  · rw [h1] at hg; cases hg
  · rw [hv] at hg
    have q2 : g' = p := Option.some.inj hg
    obtain ⟨c, hc, _⟩ := hp
    rw [q2, hc] at hh
    cases hh
    exact ht rfl
set_option maxRecDepth 100000 in
set_option maxHeartbeats 2000000 in
theorem l14Long_any (x : Fcl) (w : World) :
    Calls Tryz.prog 27 #[.agg #[.int .i64 x.k, .int .i64 x.a, .int .i64 x.n, .string x.p, .string x.o, .string x.d]] w fun e w' => Says e (65536 < x.p.size ∨ 65536 < x.o.size ∨ 65536 < x.d.size) ∧ Below w.heap.size w w' := by
  obtain ⟨xk, xa, xn, xp, xo, xd⟩ := x
  dsimp only
  have A1 : Hid (Below w.heap.size w (w.alloc (.cells #[.int .i64 xk, .int .i64 xa, .int .i64 xn, .string xp, .string xo, .string xd] 26))) := (Below.refl _ _).alloc (Nat.le_refl _) _
  by_cases h1 : 65536 < xp.size
  · have HR : Hid (65536 < xp.size ∨ 65536 < xo.size ∨ 65536 < xd.size) := .inl h1
    have g1 : (65536 : Int) < (xp.size : Int) := by omega
    clear h1
    go_enter Tryz.func27, Tryz.ntmps27
    go_wp2
    go_ret
    exact ⟨⟨true, rfl, by simpa using HR.out⟩, A1.out⟩
  · have g1 : ¬ (65536 : Int) < (xp.size : Int) := by omega
    by_cases h2 : 65536 < xo.size
    · have HR : Hid (65536 < xp.size ∨ 65536 < xo.size ∨ 65536 < xd.size) := .inr (.inl h2)
      have g2 : (65536 : Int) < (xo.size : Int) := by omega
      go_enter Tryz.func27, Tryz.ntmps27
      go_wp2
      go_ret
      exact ⟨⟨true, rfl, by simp⟩, A1.out⟩
    · have g2 : ¬ (65536 : Int) < (xo.size : Int) := by omega
      by_cases h3 : 65536 < xd.size
      · have HR : Hid (65536 < xp.size ∨ 65536 < xo.size ∨ 65536 < xd.size) := .inr (.inr h3)
        have g3 : (65536 : Int) < (xd.size : Int) := by omega
        go_enter Tryz.func27, Tryz.ntmps27
        go_wp2
        go_ret
        exact ⟨⟨true, rfl, by simp⟩, A1.out⟩
      · have HR : Hid (¬ (65536 < xp.size ∨ 65536 < xo.size ∨ 65536 < xd.size)) := fun q => q.elim h1 (fun q => q.elim h2 h3)
        have g3 : ¬ (65536 : Int) < (xd.size : Int) := by omega
        go_enter Tryz.func27, Tryz.ntmps27
        go_wp2
        go_ret
        exact ⟨⟨false, rfl, by simp⟩, A1.out⟩
theorem lit0D (w : World) : EO (w.alloc (.cells #[] 51)) w.heap.size 51 3 (.slice (some ⟨w.heap.size, 0, none⟩) 0 0) 0 (fiF (fun _ => fiZ)) := EO.lit w w.heap.size _ 3 (Nat.le_refl _) _
set_option maxRecDepth 100000 in
set_option maxHeartbeats 8000000 in
theorem specCf_any (a : Option Addr) (n c : Nat) (F : Nat → Fi) (x : Fcl) (hsz : ∀ i, i < n → (F i).p.size ≤ 1048576) (hnn : n ≤ 1048576) (hsl : SlP a n c) (w : World) (hlt : ∀ y, a = some y → y.block < w.heap.size) (h : Els w 3 a n (fiF F)) :
    Calls Tryz.prog 8 #[.slice a n c, .agg #[.int .i64 x.k, .int .i64 x.a, .int .i64 x.n, .string x.p, .string x.o, .string x.d]] w fun e w' => RetCf n F x w.heap.size e w' ∧ Below w.heap.size w w' := by
  have HS : Hid (SlP a n c) := hsl
  have HSZ : Hid (∀ i, i < n → (F i).p.size ≤ 1048576) := hsz
  have HLT : Hid (∀ y, a = some y → y.block < w.heap.size) := hlt
  have LC : Hid (∀ u : World, Calls Tryz.prog 27 #[.agg #[.int .i64 x.k, .int .i64 x.a, .int .i64 x.n, .string x.p, .string x.o, .string x.d]] u fun e w' => Says e (65536 < x.p.size ∨ 65536 < x.o.size ∨ 65536 < x.d.size) ∧ Below u.heap.size u w') := fun u => l14Long_any x u
  obtain ⟨V1, hV1⟩ : ∃ V, V = ((w.alloc (.cells #[.int .i64 x.k, .int .i64 x.a, .int .i64 x.n, .string x.p, .string x.o, .string x.d] 26)).alloc (.cells #[.int .i64 0, .string ⟨#[]⟩] 29)) := ⟨_, rfl⟩
  have W1 : Below w.heap.size w V1 := by rw [hV1]; exact ((Below.refl _ _).alloc (Nat.le_refl _) _).alloc (by simp) _
  have XB : Hid (FclB V1 w.heap.size x) := by
    show FclB _ _ _
    rw [hV1]
    exact (FclB.madeOf (x := x) rfl).ofBlock (((Below.refl _ (w.alloc (.cells #[.int .i64 x.k, .int .i64 x.a, .int .i64 x.n, .string x.p, .string x.o, .string x.d] 26))).alloc (Nat.le_refl _) _).block _ (by simp))
  have RB : Hid (Box2 V1 (w.heap.size + 1) 29 (.int .i64 0) (.string ⟨#[]⟩)) := by
    show Box2 _ _ _ _ _
    rw [hV1]
    exact Box2.madeAt (by simp) _ _ _
  have A1 : Hid (Below w.heap.size w V1) := W1
  have H : Hid (Els V1 3 a n (fiF F)) := h.below W1
  have HV : Hid (((w.alloc (.cells #[.int .i64 x.k, .int .i64 x.a, .int .i64 x.n, .string x.p, .string x.o, .string x.d] 26)).alloc (.cells #[.int .i64 0, .string ⟨#[]⟩] 29)) = V1) := hV1.symm
  clear h hsz hsl W1 hV1 hlt
  go_enter Tryz.func8, Tryz.ntmps8
  go_upto_region 1 with fail
  rw [HV.out]
  obtain ⟨q1, hq1⟩ : ∃ q, q = w.heap.size := ⟨_, rfl⟩
  obtain ⟨q2, hq2⟩ : ∃ q, q = w.heap.size + 1 := ⟨_, rfl⟩
  have HG : Hid (w.heap.size ≤ q1 ∧ w.heap.size ≤ q2) := ⟨by omega, by omega⟩
  rw [← hq2] at RB ⊢
  rw [← hq1] at XB ⊢
  clear hq1 hq2 HV
  have BAD : Hid (∀ (v u : World) (dd : Int), Below w.heap.size w v → Box2 v q2 29 (.int .i64 0) (.string ⟨#[]⟩) → v = u.alloc (.cells #[] 51) → w.heap.size ≤ u.heap.size → (∀ G, CfIs n F x 0 G ⟨#[]⟩ 0 dd) → RetCf n F x w.heap.size (.returned (.tuple #[.slice (some ⟨u.heap.size, 0, none⟩) 0 0, .agg #[.int .i64 0, .string ⟨#[]⟩], .int .i64 dd])) (vrSt v q2 0 ⟨#[]⟩) ∧ Below w.heap.size w (vrSt v q2 0 ⟨#[]⟩)) := fun v u dd hb hbx hv hu hC => by
    refine ⟨⟨_, 0, 0, fun _ => fiZ, ⟨#[]⟩, 0, dd, hC _, rfl, ?_⟩, vr_below hb HG.out.2 _ _⟩
    have hE : EO v w.heap.size 51 3 (.slice (some ⟨u.heap.size, 0, none⟩) 0 0) 0 (fiF (fun _ => fiZ)) := by rw [hv]; exact (lit0D u).mono hu
    refine hE.keep (fun g e => ?_)
    have hg : g ≠ q2 := fun e2 => hE.notBoxD hbx (by decide) (e2 ▸ e)
    unfold vrSt
    rw [Below.heap_setCell _ ⟨q2, 1, none⟩ _ g hg, Below.heap_setCell _ ⟨q2, 0, none⟩ _ g hg]
  have LONG : Hid (CfLong n x → ∀ G, CfIs n F x 0 G ⟨#[]⟩ 0 2) := fun q G => .inl ⟨q, rfl, rfl, rfl, rfl⟩
  by_cases h4 : 4096 < n
  · have g4 : (4096 : Int) < (n : Int) := by omega
    have HL : Hid (∀ G, CfIs n F x 0 G ⟨#[]⟩ 0 2) := LONG.out (.inl h4)
    have BX : Below V1.heap.size V1 (V1.alloc (.cells #[] 51)) := (Below.refl _ _).alloc (Nat.le_refl _) _
    have RX : Hid (Box2 (V1.alloc (.cells #[] 51)) q2 29 (.int .i64 0) (.string ⟨#[]⟩)) := RB.out.below BX
    have AX : Hid (Below w.heap.size w (V1.alloc (.cells #[] 51))) := A1.out.trans (BX.mono A1.out.size)
    have SX : Hid (w.heap.size ≤ V1.heap.size) := A1.out.size
    have k0 := RX.out.c0
    have k1 := RX.out.c1
    have f0 := RX.out.fr 0
    have f1 := RX.out.fr 1
    have FIN := BAD.out _ V1 2 AX.out RX.out rfl SX.out HL.out
    have HFIN : Hid (RetCf n F x w.heap.size (.returned (.tuple #[.slice (some ⟨V1.heap.size, 0, none⟩) 0 0, .agg #[.int .i64 0, .string ⟨#[]⟩], .int .i64 2])) (vrSt (V1.alloc (.cells #[] 51)) q2 0 ⟨#[]⟩) ∧ Below w.heap.size w (vrSt (V1.alloc (.cells #[] 51)) q2 0 ⟨#[]⟩)) := FIN
    clear h4 LONG XB H BX FIN BAD HL A1 RB
    go_wp2
    exact ret_tctS (b := q2) (v := .agg #[.int .i64 0, .string ⟨#[]⟩]) Tryz.results8 rfl rfl rfl (RX.out.vr 0 ⟨#[]⟩).loadVr HFIN.out
  · have g4 : ¬ (4096 : Int) < (n : Int) := by omega
    obtain ⟨x0, x1, x2, x3, x4, x5⟩ := XB.out.c
    go_wp2_with fail
    refine (Calls.mono (LC.out V1)) ?_
    rintro e v2 ⟨⟨y, rfl, hy⟩, hb⟩
    have HY : Hid (y = true ↔ (65536 < x.p.size ∨ 65536 < x.o.size ∨ 65536 < x.d.size)) := hy
    clear x0 x1 x2 x3 x4 x5 hy LC
    replace XB : Hid (FclB v2 q1 x) := XB.out.below hb
    replace RB : Hid (Box2 v2 q2 29 (.int .i64 0) (.string ⟨#[]⟩)) := RB.out.below hb
    replace H : Hid (Els v2 3 a n (fiF F)) := H.out.below hb
    replace A1 : Hid (Below w.heap.size w v2) := A1.out.trans (hb.mono A1.out.size)
    clear hb
    cases y with
    | true =>
      have HL : Hid (∀ G, CfIs n F x 0 G ⟨#[]⟩ 0 2) := LONG.out (.inr (HY.out.1 rfl))
      have BX : Below v2.heap.size v2 (v2.alloc (.cells #[] 51)) := (Below.refl _ _).alloc (Nat.le_refl _) _
      have RX : Hid (Box2 (v2.alloc (.cells #[] 51)) q2 29 (.int .i64 0) (.string ⟨#[]⟩)) := RB.out.below BX
      have k0 := RX.out.c0
      have k1 := RX.out.c1
      have f0 := RX.out.fr 0
      have f1 := RX.out.fr 1
      have HFIN : Hid (RetCf n F x w.heap.size (.returned (.tuple #[.slice (some ⟨v2.heap.size, 0, none⟩) 0 0, .agg #[.int .i64 0, .string ⟨#[]⟩], .int .i64 2])) (vrSt (v2.alloc (.cells #[] 51)) q2 0 ⟨#[]⟩) ∧ Below w.heap.size w (vrSt (v2.alloc (.cells #[] 51)) q2 0 ⟨#[]⟩)) := BAD.out _ v2 2 (A1.out.trans (BX.mono A1.out.size)) RX.out rfl A1.out.size HL.out
      clear h4 LONG XB H BX BAD HL A1 RB HY
      go_wp2
      exact ret_tctS (b := q2) (v := .agg #[.int .i64 0, .string ⟨#[]⟩]) Tryz.results8 rfl rfl rfl (RX.out.vr 0 ⟨#[]⟩).loadVr HFIN.out
    | false =>
      have NL : Hid (¬ CfLong n x) := fun q => q.elim (fun z => h4 z) (fun z => by have := HY.out.2 z; cases this)
      have HZ : Hid (x.p.size ≤ 65536 ∧ x.o.size ≤ 65536 ∧ x.d.size ≤ 65536) := by
        have h := NL.out
        unfold CfLong at h
        refine ⟨?_, ?_, ?_⟩ <;> omega
      clear HY LONG
      go_wp2_with fail
      refine (Calls.mono (specFilesOK_any a n c F HSZ.out hnn v2 H.out)) ?_
      rintro e v3 ⟨⟨y, rfl, hy⟩, hb⟩
      have HY : Hid (y = true ↔ FsOk n F) := hy
      replace XB : Hid (FclB v3 q1 x) := XB.out.below hb
      replace RB : Hid (Box2 v3 q2 29 (.int .i64 0) (.string ⟨#[]⟩)) := RB.out.below hb
      replace H : Hid (Els v3 3 a n (fiF F)) := H.out.below hb
      replace A1 : Hid (Below w.heap.size w v3) := A1.out.trans (hb.mono A1.out.size)
      clear hb hy
      cases y with
      | false =>
        have HL : Hid (∀ G, CfIs n F x 0 G ⟨#[]⟩ 0 1) := fun G => .inr ⟨NL.out, .inl ⟨(fun q => by have := HY.out.2 q; cases this), rfl, rfl, rfl, rfl⟩⟩
        have BX : Below v3.heap.size v3 (v3.alloc (.cells #[] 51)) := (Below.refl _ _).alloc (Nat.le_refl _) _
        have RX : Hid (Box2 (v3.alloc (.cells #[] 51)) q2 29 (.int .i64 0) (.string ⟨#[]⟩)) := RB.out.below BX
        have k0 := RX.out.c0
        have k1 := RX.out.c1
        have f0 := RX.out.fr 0
        have f1 := RX.out.fr 1
        have HFIN : Hid (RetCf n F x w.heap.size (.returned (.tuple #[.slice (some ⟨v3.heap.size, 0, none⟩) 0 0, .agg #[.int .i64 0, .string ⟨#[]⟩], .int .i64 1])) (vrSt (v3.alloc (.cells #[] 51)) q2 0 ⟨#[]⟩) ∧ Below w.heap.size w (vrSt (v3.alloc (.cells #[] 51)) q2 0 ⟨#[]⟩)) := BAD.out _ v3 1 (A1.out.trans (BX.mono A1.out.size)) RX.out rfl A1.out.size HL.out
        clear h4 XB H BX BAD HL A1 RB HY
        go_wp2
        exact ret_tctS (b := q2) (v := .agg #[.int .i64 0, .string ⟨#[]⟩]) Tryz.results8 rfl rfl rfl (RX.out.vr 0 ⟨#[]⟩).loadVr HFIN.out
      | true =>
        have HF : Hid (FsOk n F) := HY.out.1 rfl
        clear HY BAD
        obtain ⟨x0, x1, x2, x3, x4, x5⟩ := XB.out.c
        go_wp2_with fail
        refine (Calls.mono (l14Call_any a n c F x HF.out HZ.out.1 HZ.out.2.1 HZ.out.2.2 HS.out (fun g => g < w.heap.size) HLT.out v3 (fun y e => by have := HLT.out y e; have := A1.out.size; omega) H.out)) ?_
        rintro e v4 ⟨⟨a5, m, c5, G, t, cd, rfl, hE, hS, hC⟩, hb⟩
        have HC : Hid (CfP n F x m G t cd) := hC
        have HE : Hid (Els v4 3 a5 m (fiF G)) := hE
        have HS5 : Hid (SlP a5 m c5) := hS.1
        have HB5 : Hid (∀ y, a5 = some y → y.block < v4.heap.size ∨ m = 0) := fun y e => by
          by_cases hm : m = 0
          · exact .inr hm
          · obtain ⟨b, off, e2, hc⟩ := hE.opened (by omega)
            subst e
            cases e2
            exact .inl (strBlock (hc 0 (by omega) 0 (by omega)))
        replace RB : Hid (Box2 v4 q2 29 (.int .i64 0) (.string ⟨#[]⟩)) := RB.out.below hb
        replace A1 : Hid (Below w.heap.size w v4) := A1.out.trans (hb.mono A1.out.size)
        have hm12 : m ≤ 12 := (hC.keeps HF.out).1
        clear hb hC hE hS H x0 x1 x2 x3 x4 x5 XB
        obtain ⟨V5, hV5⟩ : ∃ V, V = v4.alloc (.cells #[.int .i64 cd, .string t] 29) := ⟨_, rfl⟩
        have HV : Hid (v4.alloc (.cells #[.int .i64 cd, .string t] 29) = V5) := hV5.symm
        have BX : Below v4.heap.size v4 V5 := by rw [hV5]; exact (Below.refl _ _).alloc (Nat.le_refl _) _
        have R5 : Hid (Box2 V5 v4.heap.size 29 (.int .i64 cd) (.string t)) := by show Box2 _ _ _ _ _; rw [hV5]; exact Box2.madeAt (by simp) _ _ _
        have HN5 : Hid (q2 ≠ v4.heap.size ∧ w.heap.size ≤ v4.heap.size) := ⟨by have := RB.out.lt; omega, A1.out.size⟩
        replace HE : Hid (Els V5 3 a5 m (fiF G)) := HE.out.below BX
        replace RB : Hid (Box2 V5 q2 29 (.int .i64 0) (.string ⟨#[]⟩)) := RB.out.below BX
        replace A1 : Hid (Below w.heap.size w V5) := A1.out.trans (BX.mono A1.out.size)
        clear BX hV5
        go_upto_region 6 with fail
        rw [HV.out]
        obtain ⟨q3, hq3⟩ : ∃ q, q = v4.heap.size := ⟨_, rfl⟩
        rw [← hq3] at R5 HN5 ⊢
        clear hq3 HV HB5
        have HCF : Hid (CfIs n F x m G t cd 0) := .inr ⟨NL.out, .inr ⟨HF.out, rfl, HC.out⟩⟩
        clear HC NL
        -- region 6
        have H : Box2 V5.drew q3 29 (.int .i64 cd) (.string t) := R5.out.below (Below.refl _ _).drew
        refine wp_region_noPanic ?_
        refine wp_region_held_drew (S := fun w' => Box2 w' q3 29 (.int .i64 cd) (.string t)) (by kernel_rfl) H (fun _ => ?_)
        have Y0 : Hid (Below V5.heap.size V5 V5.drew) := (Below.refl _ _).drew
        generalize V5.drew = y0 at *
        refine wpAnyH_take (i := 1) (v := .slice a5 m c5) rfl (by kernel_rfl) (by kernel_rfl) (by kernel_rfl) (fun _ _ _ h => h) (Or.inl ⟨by rfl, ?_⟩) H ?_
        · intro w' hSw; clear hSw; go_simp
        change wpAnyH _ _ _ _ _ _ _ { tmps := #[_, _, _, _, _, _, _, _, _, _, _, _, _, _, _, _, _, _, _, _, _, _, _, _, _, _, _, _, _, _, _, _, _], defers := _ } _
        refine wpAnyH_take (i := 3) (v := .agg #[.int .i64 cd, .string t]) rfl (by kernel_rfl) (by kernel_rfl) (by kernel_rfl) (fun _ _ _ h => h) (Or.inl ⟨by rfl, ?_⟩) H ?_
        · intro w' hSw; have t0 := hSw.c0; have t1 := hSw.c1; clear hSw; go_simp
        change wpAnyH _ _ _ _ _ _ _ { tmps := #[_, _, _, _, _, _, _, _, _, _, _, _, _, _, _, _, _, _, _, _, _, _, _, _, _, _, _, _, _, _, _, _, _], defers := _ } _
        refine wpAnyH_ready (rs := [0]) (by kernel_rfl) (by simp) ?_
        refine (AllReadyH.cons rfl (fun KK hK => ?_) AllReadyH.nil)
        go_simp
        have hb : Below y0.heap.size y0 (y0.alloc (.cells #[] 51)) := (Below.refl _ _).alloc (Nat.le_refl _) _
        have YB : Hid (Below V5.heap.size V5 (y0.alloc (.cells #[] 51))) := Y0.out.trans (hb.mono Y0.out.size)
        replace H : Box2 (y0.alloc (.cells #[] 51)) q3 29 (.int .i64 cd) (.string t) := H.below hb
        clear hb
        obtain ⟨y1, hnw⟩ : ∃ u, u = (y0.alloc (.cells #[] 51)) := ⟨_, rfl⟩
        rw [← hnw] at H YB ⊢
        have HNW : Hid (y1 = (y0.alloc (.cells #[] 51))) := hnw
        clear hnw
        refine hK.out _ _ H (fun _ => ?_)
        clear hK KK
        change wpAnyH _ _ _ _ _ _ _ { tmps := #[_, _, _, _, _, _, _, _, _, _, _, _, _, _, _, _, _, _, _, _, _, _, _, _, _, _, _, _, _, _, _, _, _], defers := _ } _
        refine wpAnyH_ready (rs := [2]) (by kernel_rfl) (by simp) ?_
        refine (AllReadyH.cons rfl (fun KK hK => ?_) AllReadyH.nil)
        obtain ⟨a6, c6, y2, hr, ho6, hb6⟩ := ownAll (w := y0) (a := a5) (m := m) (c := c5) (G := G) (by omega) (HE.out.below Y0.out) HS5.out.z
        rw [← HNW.out] at hr
        have YC : Hid (Below V5.heap.size V5 y2) := Y0.out.trans (hb6.mono Y0.out.size)
        replace H : Box2 y2 q3 29 (.int .i64 cd) (.string t) := R5.out.below YC.out
        have O6 : Hid (EO y2 w.heap.size 51 3 (.slice a6 m c6) m (fiF G)) := ho6.mono (Nat.le_trans A1.out.size Y0.out.size)
        clear ho6 hb6 HNW
        rw [if_pos (by rfl)]
        refine Lib.wp_append_run _ (.tmp 29) (.tmp 30) 23 23 rfl (.slice (some ⟨y0.heap.size, 0, none⟩) 0 0) (.slice a5 m c5) rfl rfl _ _ (hr _) ?_
        refine hK.out _ _ H (fun _ => ?_)
        clear hK KK
        change wpAnyH _ _ _ _ _ _ _ { tmps := #[_, _, _, _, _, _, _, _, _, _, _, _, _, _, _, _, _, _, _, _, _, _, _, _, _, _, _, _, _, _, _, _, _], defers := _ } _
        refine wpAnyH_take (i := 4) (v := .slice a6 m c6) rfl (by kernel_rfl) (by kernel_rfl) (by kernel_rfl) (fun _ _ _ h => h) (Or.inl ⟨by rfl, ?_⟩) H ?_
        · intro w' hSw; clear hSw; go_simp
        change wpAnyH _ _ _ _ _ _ _ { tmps := #[_, _, _, _, _, _, _, _, _, _, _, _, _, _, _, _, _, _, _, _, _, _, _, _, _, _, _, _, _, _, _, _, _], defers := _ } _
        refine wpAnyH_ready (rs := [5]) (by kernel_rfl) (by simp) ?_
        refine (AllReadyH.cons rfl (fun KK hK => ?_) AllReadyH.nil)
        have K6 : Box2 y2 q2 29 (.int .i64 0) (.string ⟨#[]⟩) := RB.out.below YC.out
        have k0 := K6.c0
        have k1 := K6.c1
        have f0 := K6.fr 0
        have f1 := K6.fr 1
        go_simp
        have K9 : Hid (Box2 ((y2.setCell ⟨q2, 0, none⟩ (.int .i64 cd)).setCell ⟨q2, 1, none⟩ (.string t)) q2 29 (.int .i64 cd) (.string t)) := K6.vr cd t
        have A9 : Hid (Below w.heap.size w ((y2.setCell ⟨q2, 0, none⟩ (.int .i64 cd)).setCell ⟨q2, 1, none⟩ (.string t))) := vr_below (A1.out.trans (YC.out.mono A1.out.size)) HG.out.2 cd t
        have E9 : Hid (EO ((y2.setCell ⟨q2, 0, none⟩ (.int .i64 cd)).setCell ⟨q2, 1, none⟩ (.string t)) w.heap.size 51 3 (.slice a6 m c6) m (fiF G)) := by
          refine O6.out.keep (fun g e => ?_)
          have hg : g ≠ q2 := fun e2 => O6.out.notBoxD K6 (by decide) (e2 ▸ e)
          rw [Below.heap_setCell _ ⟨q2, 1, none⟩ _ g hg, Below.heap_setCell _ ⟨q2, 0, none⟩ _ g hg]
        replace H : Box2 ((y2.setCell ⟨q2, 0, none⟩ (.int .i64 cd)).setCell ⟨q2, 1, none⟩ (.string t)) q3 29 (.int .i64 cd) (.string t) := (H.other (a := ⟨q2, 0, none⟩) (Ne.symm HN5.out.1) _).other (a := ⟨q2, 1, none⟩) (Ne.symm HN5.out.1) _
        clear k0 k1 f0 f1 K6 O6
        generalize ((y2.setCell ⟨q2, 0, none⟩ (.int .i64 cd)).setCell ⟨q2, 1, none⟩ (.string t)) = y3 at *
        refine hK.out _ _ H (fun _ => ?_)
        clear hK KK
        change wpAnyH _ _ _ _ _ _ _ { tmps := #[_, _, _, _, _, _, _, _, _, _, _, _, _, _, _, _, _, _, _, _, _, _, _, _, _, _, _, _, _, _, _, _, _], defers := _ } _
        refine wpAnyH_take (i := 6) (v := .int .i64 0) rfl (by kernel_rfl) (by kernel_rfl) (by kernel_rfl) (fun _ _ _ h => h) (Or.inl ⟨by rfl, ?_⟩) H ?_
        · intro w' hSw; clear hSw; go_simp
        change wpAnyH _ _ _ _ _ _ _ { tmps := #[_, _, _, _, _, _, _, _, _, _, _, _, _, _, _, _, _, _, _, _, _, _, _, _, _, _, _, _, _, _, _, _, _], defers := _ } _
        refine wpAnyH_done (by kernel_rfl) ?_ _
        refine NoPanic.normal ?_
        clear H
        change Exit.then _ _ _ { tmps := #[_, _, _, _, _, _, _, _, _, _, _, _, _, _, _, _, _, _, _, _, _, _, _, _, _, _, _, _, _, _, _, _, _], defers := _ } _
        go_wp2
        exact ret_tctS (b := q2) (v := .agg #[.int .i64 cd, .string t]) Tryz.results8 rfl rfl rfl K9.out.loadVr ⟨⟨a6, m, c6, G, t, cd, 0, HCF.out, rfl, E9.out⟩, A9.out⟩
        -- end of region 6
end Go.Proofs.YtgcdoabcopihlaaGreat

/-
  What a call does has one answer.
-/
namespace Go.Proofs.YtgcdoabcopihlaaGreat
open Go.ChangeShapes Go.WideShapes Go.ChangeAt Go.RowKit
set_option linter.unusedVariables false
theorem MkP.uniqC {n : Nat} {F : Nat → Fi} {p : ByteArray} {m m' : Nat} {G G' : Nat → Fi} {c c' : Int} (hs : Srt n F) (q : MkP n F p m G c) (q' : MkP n F p m' G' c') : m = m' ∧ c = c' ∧ ∀ i, i < m → G i = G' i := by
  rcases q with ⟨e, rfl, rfl, rfl⟩ | ⟨e, ⟨e1, e2, rfl, rfl⟩ | ⟨e1, rfl, e2⟩⟩ <;> rcases q' with ⟨f, rfl, rfl, rfl⟩ | ⟨f, ⟨f1, f2, rfl, rfl⟩ | ⟨f1, rfl, f2⟩⟩
  · exact ⟨rfl, rfl, fun _ _ => rfl⟩
  · exact absurd e f
  · exact absurd e f
  · exact absurd f e
  · exact ⟨rfl, e1.uniq hs f1, fun _ _ => rfl⟩
  · exact absurd (e1.uniq hs f1) e2
  · exact absurd f e
  · exact absurd (f1.uniq hs e1) f2
  · have := e2.uniq hs f2
    exact ⟨this.1, rfl, this.2⟩
theorem RmP.uniqC {n : Nat} {F : Nat → Fi} {p : ByteArray} {m m' : Nat} {G G' : Nat → Fi} {c c' : Int} (hs : Srt n F) (q : RmP n F p m G c) (q' : RmP n F p m' G' c') : m = m' ∧ c = c' ∧ ∀ i, i < m → G i = G' i := by
  rcases q with ⟨e, rfl, rfl, rfl⟩ | ⟨j, hj, ej, ⟨u, rfl, rfl, rfl⟩ | ⟨u, rfl, rfl, hG⟩⟩ <;> rcases q' with ⟨f, rfl, rfl, rfl⟩ | ⟨j', hj', ej', ⟨u', rfl, rfl, rfl⟩ | ⟨u', rfl, rfl, hG'⟩⟩
  · exact ⟨rfl, rfl, fun _ _ => rfl⟩
  · exact absurd ej' (e j' hj')
  · exact absurd ej' (e j' hj')
  · exact absurd ej (f j hj)
  · exact ⟨rfl, rfl, fun _ _ => rfl⟩
  · exact absurd u u'
  · exact absurd ej (f j hj)
  · exact absurd u' u
  · obtain rfl := hs.uniq hj hj' (ej.trans ej'.symm)
    exact ⟨rfl, rfl, fun i hi => (hG i hi).trans (hG' i hi).symm⟩
theorem MvP.uniqC {n : Nat} {F : Nat → Fi} {fr tp : ByteArray} {m m' : Nat} {G G' : Nat → Fi} {c c' : Int} (hs : Srt n F) (q : MvP n F fr tp m G c) (q' : MvP n F fr tp m' G' c') : m = m' ∧ c = c' ∧ ∀ i, i < m → G i = G' i := by
  rcases q with ⟨e, rfl, rfl, rfl⟩ | ⟨k, hk, ek, q⟩ <;> rcases q' with ⟨e', rfl, rfl, rfl⟩ | ⟨k', hk', ek', q'⟩
  · exact ⟨rfl, rfl, fun _ _ => rfl⟩
  · exact absurd ek' (e k' hk')
  · exact absurd ek (e' k hk)
  · obtain rfl := hs.uniq hk hk' (ek.trans ek'.symm)
    rcases q with ⟨e, rfl, rfl, rfl⟩ | ⟨e, q⟩ <;> rcases q' with ⟨e', rfl, rfl, rfl⟩ | ⟨e', q'⟩
    · exact ⟨rfl, rfl, fun _ _ => rfl⟩
    · exact absurd e e'
    · exact absurd e' e
    · rcases q with ⟨u, rfl, rfl, rfl⟩ | ⟨u, q⟩ <;> rcases q' with ⟨u', rfl, rfl, rfl⟩ | ⟨u', q'⟩
      · exact ⟨rfl, rfl, fun _ _ => rfl⟩
      · exact absurd u u'
      · exact absurd u' u
      · rcases q with ⟨d, d0, rfl, rfl⟩ | ⟨d, q⟩ <;> rcases q' with ⟨d', d0', rfl, rfl⟩ | ⟨d', q'⟩
        · exact ⟨rfl, DirIs.uniq hs d d', fun _ _ => rfl⟩
        · exact absurd (DirIs.uniq hs d d') d0
        · exact absurd (DirIs.uniq hs d' d) d0'
        · rcases q with ⟨t, rfl, rfl, rfl⟩ | ⟨t, q⟩ <;> rcases q' with ⟨t', rfl, rfl, rfl⟩ | ⟨t', q'⟩
          · exact ⟨rfl, rfl, fun _ _ => rfl⟩
          · exact absurd t t'
          · exact absurd t' t
          · rcases q with ⟨g, rfl, rfl, rfl⟩ | ⟨g, rfl, r⟩ <;> rcases q' with ⟨g', rfl, rfl, rfl⟩ | ⟨g', rfl, r'⟩
            · exact ⟨rfl, rfl, fun _ _ => rfl⟩
            · exact absurd g g'
            · exact absurd g' g
            · obtain ⟨h1, h2⟩ := r.uniq r'
              exact ⟨h1, rfl, h2⟩
theorem CfIs.one {n : Nat} {F : Nat → Fi} {x : Fcl} {m m' : Nat} {G G' : Nat → Fi} {t t' : ByteArray} {c c' d d' : Int} (h : CfIs n F x m G t c d) (h' : CfIs n F x m' G' t' c' d') : m = m' ∧ t = t' ∧ c = c' ∧ d = d' ∧ ∀ i, i < m → G i = G' i :=
  CfIs.uniq (fun hF {_ _ _ _ _ _} a b => MkP.uniqC hF.srt a b) (fun hF {_ _ _ _ _ _} a b => RmP.uniqC hF.srt a b) (fun hF {_ _ _ _ _ _} a b => MvP.uniqC hF.srt a b) h h'
end Go.Proofs.YtgcdoabcopihlaaGreat
