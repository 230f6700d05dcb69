/-
  Texts of the proof, joined: QuR, QuH.
-/
import Derived.Test.YtdoacpnjggdojaaR37
import Derived.Test.YtdoacpnjggdojaaR38
import Derived.Deep.Cut
import Derived.Test.YtdoacpnjggdojaaR30
import Derived.Test.YtdoacpnjggdojaaR39
namespace Go.Proofs.Ytdoacpnjggdojaa
open Go.ChangeShapes Go.WideShapes Go.ChangeAt Go.RowKit
set_option linter.unusedVariables false
theorem ret_cTTq {P : Program} {fn : Func} {p u u2 : Tmp} {ty : TypeId} {tmps : Array Value} {w : World} {b : Nat} {v x x2 : Value} {Post : Ending → World → Prop} (h : fn.results = #[.cell p ty, .tmp u, .tmp u2]) (hp : tmps.getD p undef = .pointer (some ⟨b, 0, none⟩)) (hu : tmps.getD u undef = x) (hu2 : tmps.getD u2 undef = x2) (hl : (loadVar ty ⟨b, 0, none⟩).run P w = .ok v w) (hq : Post (.returned (.tuple #[v, x, x2])) w) : bodyPost P fn Post .ret { tmps := tmps, defers := [] } w := by
 refine bodyPost_ret (v := .tuple #[v, x, x2]) ?_ rfl hq
 simp only [Array.getD_eq_getD_getElem?] at hp hu hu2
 unfold results
 rw [h]
 simp [hp, hu, hu2, asAddr, hl, Result.andThen]
def NC (v : Value) (g : Nat) : Prop := v.ownBlock ≠ some g
theorem SvO.onlyB {w w' : World} {B q : Nat} {s : Sv} {vr vw vq : Value} {VR VW VQ : Nat → Value} (h : SvO w B s vr vw vq VR VW VQ) (ho : OnlyB q w w') (hq : q < B) : SvO w' B s vr vw vq VR VW VQ :=
 ⟨h.r.onlyB ho hq, h.x.onlyB ho hq, h.q.onlyB ho hq, fun i hi => EO.onlyB (h.e i hi) ho hq, fun i hi => EO.onlyB (h.a i hi) ho hq, fun i hi => EO.onlyB (h.f i hi) ho hq⟩
def RetRn (B n m : Nat) (A : Nat → Qa) (e : Ending) (w : World) : Prop := ∃ (s : Sv) (C : Nat → Int) (vr vw vq : Value) (VR VW VQ : Nat → Value) (ca : Option Addr) (cc sb : Nat), e = .returned (.tuple #[.agg #[vr, .int .i64 s.t, vw, vq], .slice ca m cc, .int .i64 0]) ∧ RunQ A (sNew n) C m s ∧ SvO w B s vr vw vq VR VW VQ ∧ SvD s VR VW VQ ∧ IE w B (.slice ca m cc) m C ∧ NbS (NC (.slice ca m cc)) w sb s vr vw vq VR VW VQ
set_option maxRecDepth 100000 in
set_option maxHeartbeats 8000000 in
theorem implRun_q (n : Nat) (aa : Option Addr) (m ac : Nat) (A : Nat → Qa) (hn : 1 ≤ n ∧ n ≤ 7) (hm : m ≤ 200) (w : World) (h : Els w 3 aa m (quF A)) :
  Calls Try.prog 10 #[.int .i64 (n : Int), .slice aa m ac] w fun e w' => RetRn w.heap.size n m A e w' ∧ Below w.heap.size w w' := by
 have NS : Hid (∀ w : World, Calls Try.prog 36 #[.int .i64 (n : Int)] w fun e w' => RetNo n w.heap.size e w' ∧ Below w.heap.size w w') := fun w => implNs_own n hn w
 have m1 : ¬ (4096 : Int) < (m : Int) := by omega
 have m2 : ¬ (200 : Int) < (m : Int) := by omega
 have HM : Hid (m ≤ 200) := hm
 have HN : Hid (1 ≤ n ∧ n ≤ 7) := hn
 have R0 : Hid (Box4 (w.alloc (.cells #[.slice none 0 0, .int .i64 0, .slice none 0 0, .slice none 0 0] 30)) w.heap.size 30 (.slice none 0 0) (.int .i64 0) (.slice none 0 0) (.slice none 0 0)) := Box4.madeAt rfl _ _ _ _ _
 have B0 : Hid (Below w.heap.size w (w.alloc (.cells #[.slice none 0 0, .int .i64 0, .slice none 0 0, .slice none 0 0] 30))) := (Below.refl _ _).alloc (Nat.le_refl _) _
 have HA : Hid (Els w 3 aa m (quF A)) := h
 clear h hn hm
 go_enter Try.func10, Try.ntmps10
 go_wp2_with fail
 generalize (w.alloc (.cells #[.slice none 0 0, .int .i64 0, .slice none 0 0, .slice none 0 0] 30)) = v at *
 refine (NS.out _).mono ?_
 rintro e v1 ⟨⟨g, rfl, hE⟩, hb⟩
 have mk := mkInE m (by have := HM.out; omega) (v1.alloc (.cells #[.slice (some ⟨g, 0, none⟩) n n, .int .i64 0, .slice none 0 0, .slice none 0 0] 30))
 have b2 : Below v1.heap.size v1 (v1.alloc (.cells #[.slice (some ⟨g, 0, none⟩) n n, .int .i64 0, .slice none 0 0, .slice none 0 0] 30)) := (Below.refl _ _).alloc (Nat.le_refl _) _
 have b3 : Below (v1.alloc (.cells #[.slice (some ⟨g, 0, none⟩) n n, .int .i64 0, .slice none 0 0, .slice none 0 0] 30)).heap.size (v1.alloc (.cells #[.slice (some ⟨g, 0, none⟩) n n, .int .i64 0, .slice none 0 0, .slice none 0 0] 30)) ((v1.alloc (.cells #[.slice (some ⟨g, 0, none⟩) n n, .int .i64 0, .slice none 0 0, .slice none 0 0] 30)).alloc (.cells (madeCells #[.int .i64 0] m) 3)) := (Below.refl _ _).alloc (Nat.le_refl _) _
 have z2 : (v1.alloc (.cells #[.slice (some ⟨g, 0, none⟩) n n, .int .i64 0, .slice none 0 0, .slice none 0 0] 30)).heap.size = v1.heap.size + 1 := by simp
 have z3 : ((v1.alloc (.cells #[.slice (some ⟨g, 0, none⟩) n n, .int .i64 0, .slice none 0 0, .slice none 0 0] 30)).alloc (.cells (madeCells #[.int .i64 0] m) 3)).heap.size = v1.heap.size + 1 + 1 := by simp
 obtain ⟨cg, hcg⟩ : ∃ x, x = v1.heap.size + 1 := ⟨_, rfl⟩
 obtain ⟨sb, hsb⟩ : ∃ x, x = v1.heap.size := ⟨_, rfl⟩
 have gE := hE.ge g rfl
 have S3 : Hid (SvX (NC (.slice (some ⟨cg, 0, none⟩) m m)) ((v1.alloc (.cells #[.slice (some ⟨g, 0, none⟩) n n, .int .i64 0, .slice none 0 0, .slice none 0 0] 30)).alloc (.cells (madeCells #[.int .i64 0] m) 3)) v.heap.size sb (sNew n)) := by
  refine ⟨.slice (some ⟨g, 0, none⟩) n n, .slice none 0 0, .slice none 0 0, fun _ => .slice none 0 0, fun _ => .slice none 0 0, fun _ => .slice none 0 0, by rw [hsb]; exact hb.size, (Box4.madeAt hsb.symm _ _ _ _ _).alloc _, ⟨(hE.below b2).below b3, EO.nil _ _ _ _ _, EO.nil _ _ _ _ _, fun i hi => EO.nil _ _ _ _ _, fun i hi => EO.nil _ _ _ _ _, fun i hi => EO.nil _ _ _ _ _⟩, ⟨fun i j q _ _ e => (by cases e), fun i j q _ _ e => (by cases e), fun i j q _ _ e => (by cases e), fun i j q _ _ e => (by cases e), fun i j q _ _ e => (by cases e), fun i j q _ _ e => (by cases e)⟩, ⟨fun q hq e => ?_, fun e => ?_, fun q e1 e => ?_, fun q e => (by cases e), fun q e => (by cases e), fun i q _ e => (by cases e), fun i q _ e => (by cases e), fun i q _ e => (by cases e)⟩⟩
  ·have e' : cg = q := Option.some.inj e
   omega
  ·have e' : cg = sb := Option.some.inj e
   omega
  ·have e' : cg = q := Option.some.inj e
   have e2 : g = q := Option.some.inj e1
   omega
 have I3 : Hid (IE ((v1.alloc (.cells #[.slice (some ⟨g, 0, none⟩) n n, .int .i64 0, .slice none 0 0, .slice none 0 0] 30)).alloc (.cells (madeCells #[.int .i64 0] m) 3)) v.heap.size (.slice (some ⟨cg, 0, none⟩) m m) m (fun _ => 0)) := by
  have := IE.made (v1.alloc (.cells #[.slice (some ⟨g, 0, none⟩) n n, .int .i64 0, .slice none 0 0, .slice none 0 0] 30)) v.heap.size m (Nat.le_trans hb.size b2.size) (by have := HM.out; omega)
  rw [z2, ← hcg] at this
  exact this
 have BB : Hid (Below v.heap.size v ((v1.alloc (.cells #[.slice (some ⟨g, 0, none⟩) n n, .int .i64 0, .slice none 0 0, .slice none 0 0] 30)).alloc (.cells (madeCells #[.int .i64 0] m) 3))) := (hb.trans (b2.mono hb.size)).trans (b3.mono (Nat.le_trans hb.size b2.size))
 rw [z2, ← hcg] at mk
 have HC : Hid (cg = v1.heap.size + 1 ∧ sb = v1.heap.size) := ⟨hcg, hsb⟩
 clear hE gE b2 b3 NS hb
 go_wp2
 rw [← hsb, show sb + 1 = cg by omega]
 generalize ((v1.alloc (.cells #[.slice (some ⟨g, 0, none⟩) n n, .int .i64 0, .slice none 0 0, .slice none 0 0] 30)).alloc (.cells (madeCells #[.int .i64 0] m) 3)) = v3 at *
 clear z2 z3 hcg hsb HC mk
 go_loopw [34] (fun i wr => ∃ (q : Nat) (s : Sv) (C : Nat → Int), q ≤ m ∧ i = .int .i64 (q : Int) ∧ SvX (NC (.slice (some ⟨cg, 0, none⟩) m m)) wr v.heap.size sb s ∧ RunQ A (sNew n) C q s ∧ IE wr v.heap.size (.slice (some ⟨cg, 0, none⟩) m m) m C ∧ Below v.heap.size v wr) (fun i _ => m - (intOf i).toNat)
 case atStart => exact ⟨0, sNew n, fun _ => 0, by omega, rfl, S3.out, rfl, I3.out, BB.out⟩
 case round =>
  clear S3 I3 BB v3
  obtain ⟨q, s, C, hq, rfl, hsv, hrun, hie, hbw⟩ := hrel
  have BW : Hid (Below v.heap.size v wr) := hbw
  have RU : Hid (RunQ A (sNew n) C q s) := hrun
  have IC : Hid (IE wr v.heap.size (.slice (some ⟨cg, 0, none⟩) m m) m C) := hie
  have SX : Hid (SvX (NC (.slice (some ⟨cg, 0, none⟩) m m)) wr v.heap.size sb s) := hsv
  by_cases hlt : q < m
  ·have hlt' : (q : Int) < (m : Int) := by omega
   obtain ⟨ab, off, rfl, hc⟩ := Els.opened (HA.out.below (B0.out.trans (hbw.mono B0.out.size))) (by omega)
   have d0 : wr.cell? ⟨ab, off + q * 3, none⟩ = some (.int .i64 (A q).k) := hc q hlt 0 (by omega)
   have d1 : wr.cell? ⟨ab, off + q * 3 + 1, none⟩ = some (.int .i64 (A q).r) := hc q hlt 1 (by omega)
   have d2 : wr.cell? ⟨ab, off + q * 3 + 2, none⟩ = some (.int .i64 (A q).n) := hc q hlt 2 (by omega)
   have hbA : Below wr.heap.size wr (wr.alloc (.cells #[.int .i64 (A q).k, .int .i64 (A q).r, .int .i64 (A q).n] 54)) := (Below.refl _ _).alloc (Nat.le_refl _) _
   have HD : Hid (Calls Try.prog 37 #[.pointer (some ⟨sb, 0, none⟩), .agg #[.int .i64 (A q).k, .int .i64 (A q).r, .int .i64 (A q).n]] (wr.alloc (.cells #[.int .i64 (A q).k, .int .i64 (A q).r, .int .i64 (A q).n] 54)) fun e w' => RetSp (NC (.slice (some ⟨cg, 0, none⟩) m m)) v.heap.size sb s ⟨(A q).k, (A q).r, (A q).n⟩ e w' ∧ Blw (NC (.slice (some ⟨cg, 0, none⟩) m m)) v.heap.size (wr.alloc (.cells #[.int .i64 (A q).k, .int .i64 (A q).r, .int .i64 (A q).n] 54)) w') := do_v v.heap.size sb s (A q).k (A q).r (A q).n (RunQ.ok (sNew_ok HN.out) hrun) (wr.alloc (.cells #[.int .i64 (A q).k, .int .i64 (A q).r, .int .i64 (A q).n] 54)) (Nat.le_trans hbw.size hbA.size) (hsv.below hbA)
   have IA : Hid (IE (wr.alloc (.cells #[.int .i64 (A q).k, .int .i64 (A q).r, .int .i64 (A q).n] 54)) v.heap.size (.slice (some ⟨cg, 0, none⟩) m m) m C) := EO.below hie hbA
   have BA : Hid (Below v.heap.size v (wr.alloc (.cells #[.int .i64 (A q).k, .int .i64 (A q).r, .int .i64 (A q).n] 54))) := hbw.trans (hbA.mono hbw.size)
   have HLT : Hid (q < m) := hlt
   clear hc hbA hbw hrun hie hsv IC SX BW
   go_wp2_with fail
   generalize (wr.alloc (.cells #[.int .i64 (A q).k, .int .i64 (A q).r, .int .i64 (A q).n] 54)) = wa at *
   refine HD.out.mono ?_
   rintro e w2 ⟨⟨s', c, hst, rfl, hsv⟩, hbl⟩
   have gI := EO.ge IA.out cg rfl
   have I2 : Hid (IE w2 v.heap.size (.slice (some ⟨cg, 0, none⟩) m m) m C) := EO.keep IA.out (fun u e => by cases e; exact hbl.2.block cg gI.2 (fun z => z rfl))
   have t0 := (IE.cell I2.out q HLT.out).1
   have f0 := (IE.cell I2.out q HLT.out).2
   have I4 : Hid (IE (w2.setCell ⟨cg, q, none⟩ (.int .i64 c)) v.heap.size (.slice (some ⟨cg, 0, none⟩) m m) m (updE C q c)) := IE.set I2.out HLT.out c
   have S4 : Hid (SvX (NC (.slice (some ⟨cg, 0, none⟩) m m)) (w2.setCell ⟨cg, q, none⟩ (.int .i64 c)) v.heap.size sb s') := hsv.setOther (fun z => z rfl) (EO.ge I2.out cg rfl).2 _ _
   have R4 : Hid (RunQ A (sNew n) (updE C q c) (q + 1) s') := ⟨s, RU.out.congr (fun i hi => by rw [updE_ne _ _ (by omega)]), by rw [updE_eq]; exact hst⟩
   have B4 : Hid (Below v.heap.size v (w2.setCell ⟨cg, q, none⟩ (.int .i64 c))) := (BA.out.trans hbl.1).setCell gI.1 _
   clear hst hsv hbl gI HD IA I2 BA RU d0 d1 d2
   go_wp2
   go_roundw
   case rel => exact ⟨q + 1, s', updE C q c, by have := HLT.out; omega, by go_num, S4.out, R4.out, I4.out, B4.out⟩
   case measure => have := HLT.out; simp [intOf]; omega
  ·obtain rfl : m = q := by omega
   have hlt' : ¬ (m : Int) < (m : Int) := by omega
   obtain ⟨vr, vw, vq, VR, VW, VQ, P⟩ := hsv.p
   obtain ⟨r1, r2, rfl⟩ := P.o.r.form
   obtain ⟨x1, x2, rfl⟩ := P.o.x.form
   obtain ⟨q1, q2, rfl⟩ := P.o.q.form
   have c0 := P.x.c0
   have c1 := P.x.c1
   have c2 := P.x.c2
   have c3 := P.x.c3
   have RX : Box4 wr w.heap.size 30 (.slice none 0 0) (.int .i64 0) (.slice none 0 0) (.slice none 0 0) := R0.out.below hbw
   have k0 := RX.c0
   have k1 := RX.c1
   have k2 := RX.c2
   have k3 := RX.c3
   have f0 := RX.fr 0
   have f1 := RX.fr 1
   have f2 := RX.fr 2
   have f3 := RX.fr 3
   have lv : w.heap.size < v.heap.size := R0.out.lt
   have O5 : OnlyB w.heap.size wr ((((wr.setCell ⟨w.heap.size, 0, none⟩ (.slice r1 s.n r2)).setCell ⟨w.heap.size, 1, none⟩ (.int .i64 s.t)).setCell ⟨w.heap.size, 2, none⟩ (.slice x1 s.m x2)).setCell ⟨w.heap.size, 3, none⟩ (.slice q1 s.l q2)) := ((((OnlyB.refl _ wr).setCell 0 _).setCell 1 _).setCell 2 _).setCell 3 _
   have X5 : Hid (Box4 ((((wr.setCell ⟨w.heap.size, 0, none⟩ (.slice r1 s.n r2)).setCell ⟨w.heap.size, 1, none⟩ (.int .i64 s.t)).setCell ⟨w.heap.size, 2, none⟩ (.slice x1 s.m x2)).setCell ⟨w.heap.size, 3, none⟩ (.slice q1 s.l q2)) w.heap.size 30 (.slice r1 s.n r2) (.int .i64 s.t) (.slice x1 s.m x2) (.slice q1 s.l q2)) := (((RX.set0 _).set1 _).set2 _).set3 _
   have Q5 : Hid (RetRn w.heap.size n m A (.returned (.tuple #[.agg #[.slice r1 s.n r2, .int .i64 s.t, .slice x1 s.m x2, .slice q1 s.l q2], (.slice (some ⟨cg, 0, none⟩) m m), .int .i64 0])) ((((wr.setCell ⟨w.heap.size, 0, none⟩ (.slice r1 s.n r2)).setCell ⟨w.heap.size, 1, none⟩ (.int .i64 s.t)).setCell ⟨w.heap.size, 2, none⟩ (.slice x1 s.m x2)).setCell ⟨w.heap.size, 3, none⟩ (.slice q1 s.l q2))) := ⟨s, C, _, _, _, VR, VW, VQ, some ⟨cg, 0, none⟩, m, sb, rfl, RU.out, (P.o.onlyB O5 lv).mono B0.out.size, P.d, EO.mono (EO.onlyB hie O5 lv) B0.out.size, P.n.up O5.size⟩
   have B5 : Hid (Below w.heap.size w ((((wr.setCell ⟨w.heap.size, 0, none⟩ (.slice r1 s.n r2)).setCell ⟨w.heap.size, 1, none⟩ (.int .i64 s.t)).setCell ⟨w.heap.size, 2, none⟩ (.slice x1 s.m x2)).setCell ⟨w.heap.size, 3, none⟩ (.slice q1 s.l q2))) := (B0.out.trans (hbw.mono B0.out.size)).trans (O5.toBelow (Nat.le_refl _) (B0.out.trans (hbw.mono B0.out.size)).size)
   clear P RX hsv hrun hie hbw BW RU IC SX O5 lv HA R0 B0
   go_wp2
   exact ret_cTTq (b := w.heap.size) Try.results10 rfl rfl rfl (Box4.loadsv X5.out) ⟨Q5.out, B5.out⟩
end Go.Proofs.Ytdoacpnjggdojaa
namespace Go.Proofs.Ytdoacpnjggdojaa
open Go.ChangeShapes Go.WideShapes Go.ChangeAt Go.RowKit
set_option linter.unusedVariables false
def slA : Value → Option Addr
 | .slice a _ _ => a
 | _ => none
def slX : Value → Nat
 | .slice _ _ c => c
 | _ => 0
theorem SvO.v {w : World} {B : Nat} {s : Sv} {vr vw vq : Value} {VR VW VQ : Nat → Value} (h : SvO w B s vr vw vq VR VW VQ) : ∃ p : Sa, vr = .slice p.a s.n p.ca ∧ vw = .slice p.b s.m p.cb ∧ vq = .slice p.d s.l p.cd ∧ SvV w s p := by
 obtain ⟨ra, rc, rfl⟩ := h.r.form
 obtain ⟨wa, wc, rfl⟩ := h.x.form
 obtain ⟨qa, qc, rfl⟩ := h.q.form
 have fe : ∀ i, i < s.n → VR i = .slice (slA (VR i)) (s.R i).ne (slX (VR i)) := fun i hi => by
  obtain ⟨a, c, e⟩ := EO.form (h.e i hi)
  rw [e]
  rfl
 have fa : ∀ i, i < s.m → VW i = .slice (slA (VW i)) (s.W i).ne (slX (VW i)) := fun i hi => by
  obtain ⟨a, c, e⟩ := EO.form (h.a i hi)
  rw [e]
  rfl
 have ff : ∀ i, i < s.l → VQ i = .slice (slA (VQ i)) (s.Q i).ne (slX (VQ i)) := fun i hi => by
  obtain ⟨a, c, e⟩ := EO.form (h.f i hi)
  rw [e]
  rfl
 refine ⟨⟨ra, wa, qa, fun i => slA (VR i), fun i => slA (VW i), fun i => slA (VQ i), fun i => slX (VR i), fun i => slX (VW i), fun i => slX (VQ i), rc, wc, qc⟩, rfl, rfl, rfl, ⟨h.r.els.congr (fun i hi j hj => ?_), fun i hi => ?_⟩, ⟨h.x.els.congr (fun i hi j hj => ?_), fun i hi => ?_⟩, ⟨h.q.els.congr (fun i hi j hj => ?_), fun i hi => ?_⟩⟩
 ·unfold rpF
  exact congrArg (fun v => rpV _ v j) (fe i hi)
 ·have := h.e i hi
  rw [fe i hi] at this
  exact IE.num this
 ·unfold woF
  exact congrArg (fun v => woV _ v j) (fa i hi)
 ·have := h.a i hi
  rw [fa i hi] at this
  exact IE.num this
 ·unfold roF
  exact congrArg (fun v => roV _ v j) (ff i hi)
 ·have := h.f i hi
  rw [ff i hi] at this
  exact IE.num this
theorem Sv.Ok.mx {s : Sv} (h : s.Ok) : s.max 1048576 := by
 have n7 := h.1.1.2
 refine ⟨⟨by omega, fun i hi => ?_⟩, ⟨by have := h.1.2.2.1; omega, fun i hi => ?_⟩, by have := h.1.2.2.2; omega, fun i hi => ?_⟩
 ·have := ids_le (h.2.2.1 i hi).2.1; omega
 ·have := ids_le (h.2.1 i hi).2.2.2.1; omega
 ·have := ids_le (h.2.2.2 i hi).2.1; omega
def SomeQ (n : Nat) (e : Ending) : Prop := ∃ r : Nat, r < n ∧ e = .returned (.int .i64 (r : Int))
theorem at_q (a : Option Addr) (len cap : Nat) (zs : List Int) (w : World) (hr : IsRow .u8 w a len cap zs) (i n : Nat) (hi' : i ≤ 100000) (hn : 1 ≤ n) (hn' : n ≤ 100000) :
  Calls Try.prog 8 #[.slice a len cap, .int .i64 (i : Int), .int .i64 (n : Int)] w fun e w' => SomeQ n e ∧ Below w.heap.size w w' := by
 by_cases h1 : n = 1
 ·subst h1
  clear hr
  go_enter Try.func8, Try.ntmps8
  go_wp2
  go_ret
  exact ⟨⟨0, by omega, rfl⟩, Below.refl _ _⟩
 ·exact (at_is a len cap zs w hr i n hi' (by omega) hn').mono fun e w' h => ⟨⟨_, atN_lt len zs i n (by omega), h.1⟩, by obtain ⟨q, rfl⟩ := h.2; exact below_dN w q⟩
end Go.Proofs.Ytdoacpnjggdojaa
