/-
  Texts of the proof, joined: LawFnRevived.
-/
import Derived.Test.YtedncfcmhaaobaaV43
import Derived.Test.YtedncfcmhaaobaaV48
import Derived.Test.YtedncfcmhaaobaaV50
import Derived.Test.YtedncfcmhaaobaaV10
import Derived.Test.YtedncfcmhaaobaaV51
import Derived.Test.YtedncfcmhaaobaaV53
import Derived.Deep.DeepCutAuto
namespace Go.Proofs.Ytedncfcmhaaobaa
open Go.ChangeShapes Go.WideShapes Go.ChangeAt Go.RowKit
set_option linter.unusedVariables false
theorem isRow_belowQ {w w' : World} {a : Option Addr} {len cap : Nat} {zs : List Int} (h : IsRow .u8 w a len cap zs) (hb : Below w.heap.size w w') : IsRow .u8 w' a len cap zs := by
 rcases h with h | ⟨x, rfl, hl, hm, hz, hcell, hwz⟩
 ·exact .inl h
 ·exact .inr ⟨x, rfl, hl, hm, hz, fun i hi => by
   have := hcell i hi
   rw [hb.cell (strBlock this)]; exact this, hwz⟩
set_option maxRecDepth 100000 in
set_option maxHeartbeats 8000000 in
theorem law_fnRevived (a0 a1 : Option Addr) (n0 c0 n1 c1 : Nat) (z0 z1 : List Int) (w : World) (h0 : IsRow .u8 w a0 n0 c0 z0) (h1 : IsRow .u8 w a1 n1 c1 z1) (m0 : n0 ≤ maxLen) (m1 : n1 ≤ maxLen) :
  Calls Try.prog 3 #[.slice a0 n0 c0, .slice a1 n1 c1] w fun e w' => e = .returned (.bool true) ∧ Below w.heap.size w w' := by
 obtain ⟨zz, hzz, hcode⟩ := code8_of_row h0
 have AT : Hid (∀ (i n : Nat) (u : World), i ≤ 2 → 1 ≤ n → n ≤ 7 → Below w.heap.size w u → Calls Try.prog 6 #[.slice a1 n1 c1, .int .i64 (i : Int), .int .i64 (n : Int)] u fun e u' => SomeQ n e ∧ Below u.heap.size u u') := fun i n u hi hn hn' hb => at_q _ _ _ _ _ (isRow_belowQ h1 hb) i n (by omega) hn (by omega)
 have QA : Hid (∀ (n : Nat) (u : World), 1 ≤ n → n ≤ 7 → Below w.heap.size w u → Calls Try.prog 8 #[.slice a0 n0 c0, .int .i64 (n : Int)] u fun e w' => RetQs e w' ∧ Below u.heap.size u w') := fun n u h1 h2 hb => quActsOf_q n ⟨h1, h2⟩ a0 n0 c0 zz hzz m0 u (hcode.below hb)
 have AT1 : Hid (Calls Try.prog 6 #[.slice a1 n1 c1, .int .i64 0, .int .i64 5] w fun e u' => SomeQ 5 e ∧ Below w.heap.size w u') := AT.out 0 5 w (by omega) (by omega) (by omega) (Below.refl _ _)
 clear h0 h1 hzz hcode
 unfold maxLen at m0 m1
 by_cases g0 : 1048576 < n0
 ·have g0' : decide (1048576 < (n0 : Int)) = true := by simp; omega
  go_enter Try.func3, Try.ntmps3
  go_wp2
  go_ret
  exact ⟨rfl, Below.refl _ _⟩
 have g0' : decide (1048576 < (n0 : Int)) = false := by simp; omega
 by_cases g1 : 1048576 < n1
 ·have g1' : decide (1048576 < (n1 : Int)) = true := by simp; omega
  go_enter Try.func3, Try.ntmps3
  go_wp2
  go_ret
  exact ⟨rfl, Below.refl _ _⟩
 have g1' : decide (1048576 < (n1 : Int)) = false := by simp; omega
 go_enter Try.func3, Try.ntmps3
 go_wp2_with fail
 clear g0 g1 g0' g1' m0 m1
 refine AT1.out.mono ?_
 rintro e u1 ⟨⟨r, hr, rfl⟩, hb1⟩
 obtain ⟨n, hn⟩ : ∃ n : Nat, n = 1 + r := ⟨_, rfl⟩
 have e1 : 1 + (r : Int) = (n : Int) := by omega
 have e1w : IntKind.i64.wrap (n : Int) = (n : Int) := IntWalk.i64_in _ (by omega)
 have HN : Hid (1 ≤ n ∧ n ≤ 7) := ⟨by omega, by omega⟩
 have BB : Hid (Below w.heap.size w u1) := hb1
 clear AT1 hb1 hr hn
 go_wp2_with fail
 refine (QA.out n _ HN.out.1 HN.out.2 BB.out).mono ?_
 rintro e u2 ⟨⟨m, R, aa, ac, hm, rfl, hsl, he⟩, hb⟩
 replace BB : Hid (Below w.heap.size w u2) := BB.out.trans (hb.mono BB.out.size)
 have RN : Hid (Calls Try.prog 7 #[.int .i64 (n : Int), .slice aa m ac] u2 fun e w' => RetRn u2.heap.size n m R e w' ∧ Below u2.heap.size u2 w') := implRun_q n aa m ac R HN.out hm u2 he
 clear hb hsl he hm QA
 go_wp2_with fail
 refine RN.out.mono ?_
 rintro e u3 ⟨⟨s, C, vr, vw, vq, VR, VW, VQ, ca0, cc0, sb, rfl, hrun, ho, hd, hie, hnb⟩, hb⟩
 replace ho := ho.mono BB.out.size
 obtain ⟨p, rfl, rfl, rfl, hv, hz, hzo⟩ := ho.vzo
 have OK : Hid (RunOk s) := RunQ.ok (sNew_ok HN.out) hrun
 have IV : Hid (SInv s) := RunQ.inv (sNew_ok HN.out) (SInv.zero (s := sNew n) rfl rfl) hrun
 have SN : Hid (s.n = n) := RunQ.n hrun
 replace BB : Hid (Below w.heap.size w u3) := BB.out.trans (hb.mono BB.out.size)
 have bA : Below u3.heap.size u3 (u3.alloc (.cells #[.slice p.a s.n p.ca, .int .i64 s.t, .slice p.b s.m p.cb, .slice p.d s.l p.cd] 28)) := (Below.refl _ _).alloc (Nat.le_refl _) _
 have XS : Hid (XIs (u3.alloc (.cells #[.slice p.a s.n p.ca, .int .i64 s.t, .slice p.b s.m p.cb, .slice p.d s.l p.cd] 28)) w.heap.size u3.heap.size s p) := XIs.made ho rfl rfl rfl hv hz hzo BB.out.size
 replace BB : Hid (Below w.heap.size w (u3.alloc (.cells #[.slice p.a s.n p.ca, .int .i64 s.t, .slice p.b s.m p.cb, .slice p.d s.l p.cd] 28))) := BB.out.trans (bA.mono BB.out.size)
 clear hb hrun ho hd hie hnb hv hz hzo bA RN
 go_upto_if 40 with fail
 obtain ⟨sb0, hsb0⟩ : ∃ x, x = u3.heap.size := ⟨_, rfl⟩
 generalize (u3.alloc (.cells #[.slice p.a s.n p.ca, .int .i64 s.t, .slice p.b s.m p.cb, .slice p.d s.l p.cd] 28)) = u4 at *
 rw [← hsb0] at XS ⊢
 clear hsb0
 have t0 : 0 ≤ s.t := OK.out.1.1.2.1.1
 have t200 : s.t ≤ 200 := OK.out.1.1.2.1.2
 have n7 : (n : Int) ≤ 7 := by have := HN.out.2; omega
 have n1 : (1 : Int) ≤ n := by have := HN.out.1; omega
 have x1 := XS.out.x.c1
 by_cases hT : 200 < s.t + n + 2
 ·go_wp2
  go_ret
  exact ⟨rfl, BB.out⟩
 have TT : Hid (s.t < 200) := by show _ < _; omega
 have x2 := XS.out.x.c2
 go_wp2
 clear x1 x2 t0 t200 n7 n1 hT
 go_loopw [9, 10] (fun lv i wr => ∃ (q : Nat) (L : Int), q ≤ s.m ∧ i = .int .i64 (q : Int) ∧ lv = .int .i64 L ∧ LastOf s L ∧ wr = u4) (fun _ i _ => s.m - (intOf i).toNat)
 case atStart => exact ⟨0, 0, by omega, rfl, rfl, .inl rfl, rfl⟩
 case round =>
  obtain ⟨q, L, hq, rfl, rfl, hL, rfl⟩ := hrel
  have LA : Hid (LastOf s L) := hL
  clear hL
  have x2 := XS.out.x.c2
  by_cases hlt : q < s.m
  ·have hlt' : (q : Int) < (s.m : Int) := by omega
   have hq0 : (0 : Int) ≤ (q : Int) := by omega
   have HLT : Hid (q < s.m) := hlt
   have sv := XS.out.v.2.1
   obtain ⟨pa, pb, pd, PA, PB, PD, PX, PY, PZ, ca, cb, cd⟩ := p
   dsimp only at *
   obtain ⟨rg, roff, hra, hc⟩ := sv.at hlt
   subst hra
   have d0 : wr.cell? ⟨rg, roff + q * 5, none⟩ = some (.int .i64 (s.W q).mc) := hc 0 (by omega)
   have d4 : wr.cell? ⟨rg, roff + q * 5 + 4, none⟩ = some (.int .i64 (s.W q).en) := hc 4 (by omega)
   have m200 : (s.m : Int) ≤ 200 := by have := OK.out.1.1.2.2.1; omega
   clear hc sv hlt hq
   by_cases he : 0 ≤ (s.W q).en
   ·have LB : Hid (LastOf s (s.W q).mc) := .inr ⟨q, HLT.out, by omega, rfl⟩
    go_wp2
    go_roundw
    case rel => exact ⟨q + 1, _, by have := HLT.out; omega, by go_num, rfl, LB.out, trivial⟩
    case measure => have := HLT.out; simp [intOf]; omega
   ·go_wp2
    go_roundw
    case rel => exact ⟨q + 1, _, by have := HLT.out; omega, by go_num, rfl, LA.out, trivial⟩
    case measure => have := HLT.out; simp [intOf]; omega
  ·obtain rfl : q = s.m := by omega
   have hlt' : ¬ (s.m : Int) < (s.m : Int) := by omega
   go_wp2_with fail
   clear x2 hlt hlt' hq
   refine (AT.out 1 n _ (by omega) HN.out.1 HN.out.2 BB.out).mono ?_
   rintro e v1 ⟨⟨k, hk, rfl⟩, hb⟩
   have HK : Hid (k < n) := hk
   replace XS : Hid (XIs v1 w.heap.size sb0 s p) := XS.out.below hb
   replace BB : Hid (Below w.heap.size w v1) := BB.out.trans (hb.mono BB.out.size)
   clear hb hk
   go_wp2_with fail
   go_cut [12, 13] (fun xv dv wx => ∃ (xb : Nat) (sx : Sv) (px : Sa), xv = .pointer (some ⟨xb, 0, none⟩) ∧ dv = .int .i64 0 ∧ XIs wx w.heap.size xb sx px ∧ RvI sx n k L ∧ (sx.R k).mute = true ∧ Below w.heap.size w wx)
   case first =>
    have XV : Hid (XIs v1 w.heap.size sb0 s p) := XS.out
    have BV : Hid (Below w.heap.size w v1) := BB.out
    have XV0 : Hid (XIs v1 w.heap.size sb0 s p) := XS.out
    replace XV : Hid (XIs v1.drew w.heap.size sb0 s p) := XV.out.below ((Below.refl _ _).drew)
    have H : Below v1.heap.size v1 v1.drew := (Below.refl _ _).drew
    refine wp_region_noPanic ?_
    refine wp_region_held_drew (S := fun w' => Below v1.heap.size v1 w') (by kernel_rfl) H (fun _ => ?_)
    generalize v1.drew = y0 at *
    refine wpAnyH_take (i := 0) (v := .agg #[.slice p.a s.n p.ca, .int .i64 s.t, .slice p.b s.m p.cb, .slice p.d s.l p.cd]) rfl (by kernel_rfl) (by kernel_rfl) (by kernel_rfl) (fun _ _ _ h => h) (Or.inl ⟨by rfl, ?_⟩) H ?_
    ·intro w' hSw; have h9 := (XV0.out.below hSw).x; have c0 := h9.c0; have c1 := h9.c1; have c2 := h9.c2; have c3 := h9.c3; clear h9 hSw; go_simp
    change wpAnyH _ _ _ _ _ _ _ { tmps := #[_,_,_,_,_,_,_,_,_,_,_,_,_,_,_,_,_,_,_,_,_,_,_,_,_,_,_,_,_,_,_,_,_,_,_,_,_,_,_,_,_,_,_,_,_,_,_,_,_,_,_,_,_,_,_,_,_,_,_,_,_,_,_,_,_,_,_,_,_,_,_,_,_,_,_,_,_,_,_,_,_,_,_,_,_,_,_,_,_,_,_,_,_,_,_,_,_,_,_,_,_,_,_,_,_,_,_,_,_,_,_,_,_,_,_,_,_,_,_,_,_,_,_,_,_,_,_,_,_,_,_,_,_,_,_,_,_,_,_,_,_,_,_,_,_,_,_,_,_,_,_,_,_,_,_,_,_,_,_,_,_,_,_,_,_,_,_,_,_,_,_,_,_,_,_,_,_], defers := _ } _
    refine wpAnyH_take (i := 1) (v := .int .i64 (k : Int)) rfl (by kernel_rfl) (by kernel_rfl) (by kernel_rfl) (fun _ _ _ h => h) (Or.inl ⟨by rfl, ?_⟩) H ?_
    ·intro w' hSw; clear hSw; go_simp
    change wpAnyH _ _ _ _ _ _ _ { tmps := #[_,_,_,_,_,_,_,_,_,_,_,_,_,_,_,_,_,_,_,_,_,_,_,_,_,_,_,_,_,_,_,_,_,_,_,_,_,_,_,_,_,_,_,_,_,_,_,_,_,_,_,_,_,_,_,_,_,_,_,_,_,_,_,_,_,_,_,_,_,_,_,_,_,_,_,_,_,_,_,_,_,_,_,_,_,_,_,_,_,_,_,_,_,_,_,_,_,_,_,_,_,_,_,_,_,_,_,_,_,_,_,_,_,_,_,_,_,_,_,_,_,_,_,_,_,_,_,_,_,_,_,_,_,_,_,_,_,_,_,_,_,_,_,_,_,_,_,_,_,_,_,_,_,_,_,_,_,_,_,_,_,_,_,_,_,_,_,_,_,_,_,_,_,_,_,_,_], defers := _ } _
    refine wpAnyH_take (i := 2) (v := .slice a1 n1 c1) rfl (by kernel_rfl) (by kernel_rfl) (by kernel_rfl) (fun _ _ _ h => h) (Or.inl ⟨by rfl, ?_⟩) H ?_
    ·intro w' hSw; clear hSw; go_simp
    change wpAnyH _ _ _ _ _ _ _ { tmps := #[_,_,_,_,_,_,_,_,_,_,_,_,_,_,_,_,_,_,_,_,_,_,_,_,_,_,_,_,_,_,_,_,_,_,_,_,_,_,_,_,_,_,_,_,_,_,_,_,_,_,_,_,_,_,_,_,_,_,_,_,_,_,_,_,_,_,_,_,_,_,_,_,_,_,_,_,_,_,_,_,_,_,_,_,_,_,_,_,_,_,_,_,_,_,_,_,_,_,_,_,_,_,_,_,_,_,_,_,_,_,_,_,_,_,_,_,_,_,_,_,_,_,_,_,_,_,_,_,_,_,_,_,_,_,_,_,_,_,_,_,_,_,_,_,_,_,_,_,_,_,_,_,_,_,_,_,_,_,_,_,_,_,_,_,_,_,_,_,_,_,_,_,_,_,_,_,_], defers := _ } _
    refine wpAnyH_ready (rs := [3, 9]) (by kernel_rfl) (by simp) ?_
    refine (AllReadyH.cons rfl (fun KK hK => ?_) (AllReadyH.cons rfl (fun KK hK => ?_) AllReadyH.nil))
    ·skip
     go_simp
     refine (AT.out 2 2 y0 (by omega) (by omega) (by omega) (BV.out.trans ((H).mono BV.out.size))).mono ?_
     rintro e y1 ⟨⟨z, hz, rfl⟩, hb⟩
     replace XV : Hid (XIs y1 w.heap.size sb0 s p) := XV.out.below hb
     replace H : Below v1.heap.size v1 y1 := H.trans (hb.mono H.size)
     clear hz
     clear hb
     refine hK.out _ _ H (fun _ => ?_)
     clear hK KK
     change wpAnyH _ _ _ _ _ _ _ { tmps := #[_,_,_,_,_,_,_,_,_,_,_,_,_,_,_,_,_,_,_,_,_,_,_,_,_,_,_,_,_,_,_,_,_,_,_,_,_,_,_,_,_,_,_,_,_,_,_,_,_,_,_,_,_,_,_,_,_,_,_,_,_,_,_,_,_,_,_,_,_,_,_,_,_,_,_,_,_,_,_,_,_,_,_,_,_,_,_,_,_,_,_,_,_,_,_,_,_,_,_,_,_,_,_,_,_,_,_,_,_,_,_,_,_,_,_,_,_,_,_,_,_,_,_,_,_,_,_,_,_,_,_,_,_,_,_,_,_,_,_,_,_,_,_,_,_,_,_,_,_,_,_,_,_,_,_,_,_,_,_,_,_,_,_,_,_,_,_,_,_,_,_,_,_,_,_,_,_], defers := _ } _
     refine wpAnyH_take (i := 4) (v := .agg #[.int .i64 6, .int .i64 (k : Int), .int .i64 (z : Int)]) rfl (by kernel_rfl) (by kernel_rfl) (by kernel_rfl) (fun _ _ _ h => h) (Or.inl ⟨by rfl, ?_⟩) H ?_
     ·intro w' hSw; clear hSw; go_simp
     change wpAnyH _ _ _ _ _ _ _ { tmps := #[_,_,_,_,_,_,_,_,_,_,_,_,_,_,_,_,_,_,_,_,_,_,_,_,_,_,_,_,_,_,_,_,_,_,_,_,_,_,_,_,_,_,_,_,_,_,_,_,_,_,_,_,_,_,_,_,_,_,_,_,_,_,_,_,_,_,_,_,_,_,_,_,_,_,_,_,_,_,_,_,_,_,_,_,_,_,_,_,_,_,_,_,_,_,_,_,_,_,_,_,_,_,_,_,_,_,_,_,_,_,_,_,_,_,_,_,_,_,_,_,_,_,_,_,_,_,_,_,_,_,_,_,_,_,_,_,_,_,_,_,_,_,_,_,_,_,_,_,_,_,_,_,_,_,_,_,_,_,_,_,_,_,_,_,_,_,_,_,_,_,_,_,_,_,_,_,_], defers := _ } _
     refine wpAnyH_ready (rs := [5, 9]) (by kernel_rfl) (by simp) ?_
     refine (AllReadyH.cons rfl (fun KK hK => ?_) (AllReadyH.cons rfl (fun KK hK => ?_) AllReadyH.nil))
     ·skip
      go_simp
      refine (implStep_v s p 6 k z (mxUp (ok_mx OK.out.1) (by omega)) y1 XV.out.v XV.out.z XV.out.o).mono ?_
      rintro e y2 ⟨h9, hb⟩
      obtain ⟨sx, c9, px, rfl, hst, hzx, hzo, hr⟩ := h9.x OK.out.1 (B0 := w.heap.size) (Nat.le_trans BV.out.size H.size)
      have RX : Hid (XrS y2 w.heap.size sx px) := hr
      have ZX : Hid (SzP sx px ∧ SzO px) := ⟨hzx, hzo⟩
      have TB := SInv.told IV.out LA.out hst TT.out (by rw [SN.out]; exact HK.out)
      obtain ⟨-, hmu, rfl⟩ : True ∧ (sx.R k).mute = true ∧ c9 = 0 := ⟨trivial, StepS.booted hst TT.out (by rw [SN.out]; exact HK.out)⟩
      have HM : Hid ((sx.R k).mute = true) := hmu
      have RVX : Hid (RvI sx n k L) := ⟨hst.ok OK.out, hst.nn.trans SN.out, HK.out, TB⟩
      replace XV : Hid (XIs y2 w.heap.size sb0 s p) := XV.out.below hb
      replace H : Below v1.heap.size v1 y2 := H.trans (hb.mono H.size)
      clear hb hst hzx hzo hr h9 TB hmu
      refine hK.out _ _ H (fun _ => ?_)
      clear hK KK
      change wpAnyH _ _ _ _ _ _ _ { tmps := #[_,_,_,_,_,_,_,_,_,_,_,_,_,_,_,_,_,_,_,_,_,_,_,_,_,_,_,_,_,_,_,_,_,_,_,_,_,_,_,_,_,_,_,_,_,_,_,_,_,_,_,_,_,_,_,_,_,_,_,_,_,_,_,_,_,_,_,_,_,_,_,_,_,_,_,_,_,_,_,_,_,_,_,_,_,_,_,_,_,_,_,_,_,_,_,_,_,_,_,_,_,_,_,_,_,_,_,_,_,_,_,_,_,_,_,_,_,_,_,_,_,_,_,_,_,_,_,_,_,_,_,_,_,_,_,_,_,_,_,_,_,_,_,_,_,_,_,_,_,_,_,_,_,_,_,_,_,_,_,_,_,_,_,_,_,_,_,_,_,_,_,_,_,_,_,_,_], defers := _ } _
      refine wpAnyH_take (i := 6) (v := .tuple #[.agg #[.slice px.a sx.n px.ca, .int .i64 sx.t, .slice px.b sx.m px.cb, .slice px.d sx.l px.cd], .int .i64 0]) rfl (by kernel_rfl) (by kernel_rfl) (by kernel_rfl) (fun _ _ _ h => h) (Or.inl ⟨by rfl, ?_⟩) H ?_
      ·intro w' hSw; clear hSw; go_simp
      change wpAnyH _ _ _ _ _ _ _ { tmps := #[_,_,_,_,_,_,_,_,_,_,_,_,_,_,_,_,_,_,_,_,_,_,_,_,_,_,_,_,_,_,_,_,_,_,_,_,_,_,_,_,_,_,_,_,_,_,_,_,_,_,_,_,_,_,_,_,_,_,_,_,_,_,_,_,_,_,_,_,_,_,_,_,_,_,_,_,_,_,_,_,_,_,_,_,_,_,_,_,_,_,_,_,_,_,_,_,_,_,_,_,_,_,_,_,_,_,_,_,_,_,_,_,_,_,_,_,_,_,_,_,_,_,_,_,_,_,_,_,_,_,_,_,_,_,_,_,_,_,_,_,_,_,_,_,_,_,_,_,_,_,_,_,_,_,_,_,_,_,_,_,_,_,_,_,_,_,_,_,_,_,_,_,_,_,_,_,_], defers := _ } _
      refine wpAnyH_take (i := 7) (v := .agg #[.slice px.a sx.n px.ca, .int .i64 sx.t, .slice px.b sx.m px.cb, .slice px.d sx.l px.cd]) rfl (by kernel_rfl) (by kernel_rfl) (by kernel_rfl) (fun _ _ _ h => h) (Or.inl ⟨by rfl, ?_⟩) H ?_
      ·intro w' hSw; clear hSw; go_simp
      change wpAnyH _ _ _ _ _ _ _ { tmps := #[_,_,_,_,_,_,_,_,_,_,_,_,_,_,_,_,_,_,_,_,_,_,_,_,_,_,_,_,_,_,_,_,_,_,_,_,_,_,_,_,_,_,_,_,_,_,_,_,_,_,_,_,_,_,_,_,_,_,_,_,_,_,_,_,_,_,_,_,_,_,_,_,_,_,_,_,_,_,_,_,_,_,_,_,_,_,_,_,_,_,_,_,_,_,_,_,_,_,_,_,_,_,_,_,_,_,_,_,_,_,_,_,_,_,_,_,_,_,_,_,_,_,_,_,_,_,_,_,_,_,_,_,_,_,_,_,_,_,_,_,_,_,_,_,_,_,_,_,_,_,_,_,_,_,_,_,_,_,_,_,_,_,_,_,_,_,_,_,_,_,_,_,_,_,_,_,_], defers := _ } _
      refine wpAnyH_take (i := 8) (v := .int .i64 0) rfl (by kernel_rfl) (by kernel_rfl) (by kernel_rfl) (fun _ _ _ h => h) (Or.inl ⟨by rfl, ?_⟩) H ?_
      ·intro w' hSw; clear hSw; go_simp
      change wpAnyH _ _ _ _ _ _ _ { tmps := #[_,_,_,_,_,_,_,_,_,_,_,_,_,_,_,_,_,_,_,_,_,_,_,_,_,_,_,_,_,_,_,_,_,_,_,_,_,_,_,_,_,_,_,_,_,_,_,_,_,_,_,_,_,_,_,_,_,_,_,_,_,_,_,_,_,_,_,_,_,_,_,_,_,_,_,_,_,_,_,_,_,_,_,_,_,_,_,_,_,_,_,_,_,_,_,_,_,_,_,_,_,_,_,_,_,_,_,_,_,_,_,_,_,_,_,_,_,_,_,_,_,_,_,_,_,_,_,_,_,_,_,_,_,_,_,_,_,_,_,_,_,_,_,_,_,_,_,_,_,_,_,_,_,_,_,_,_,_,_,_,_,_,_,_,_,_,_,_,_,_,_,_,_,_,_,_,_], defers := _ } _
      refine wpAnyH_ready (rs := [9]) (by kernel_rfl) (by simp) ?_
      refine (AllReadyH.cons rfl (fun KK hK => ?_) AllReadyH.nil)
      go_simp
      have hb : Below y2.heap.size y2 (y2.alloc (.cells #[.slice none 0 0, .int .i64 0, .slice none 0 0, .slice none 0 0] 28)) := (Below.refl _ _).alloc (Nat.le_refl _) _
      have PX9 : Hid (Box4 (y2.alloc (.cells #[.slice none 0 0, .int .i64 0, .slice none 0 0, .slice none 0 0] 28)) y2.heap.size 28 (.slice none 0 0) (.int .i64 0) (.slice none 0 0) (.slice none 0 0)) := Box4.madeAt rfl _ _ _ _ _
      have Lxb : Hid (v1.heap.size ≤ y2.heap.size) := H.size
      replace XV : Hid (XIs (y2.alloc (.cells #[.slice none 0 0, .int .i64 0, .slice none 0 0, .slice none 0 0] 28)) w.heap.size sb0 s p) := XV.out.below hb
      replace RX : Hid (XrS (y2.alloc (.cells #[.slice none 0 0, .int .i64 0, .slice none 0 0, .slice none 0 0] 28)) w.heap.size sx px) := RX.out.below hb
      replace H : Below v1.heap.size v1 (y2.alloc (.cells #[.slice none 0 0, .int .i64 0, .slice none 0 0, .slice none 0 0] 28)) := H.trans (hb.mono H.size)
      clear hb
      refine hK.out _ _ H (fun _ => ?_)
      clear hK KK
      generalize (y2.alloc (.cells #[.slice none 0 0, .int .i64 0, .slice none 0 0, .slice none 0 0] 28)) = y3 at *
      generalize y2.heap.size = xb at *
      change wpAnyH _ _ _ _ _ _ _ { tmps := #[_,_,_,_,_,_,_,_,_,_,_,_,_,_,_,_,_,_,_,_,_,_,_,_,_,_,_,_,_,_,_,_,_,_,_,_,_,_,_,_,_,_,_,_,_,_,_,_,_,_,_,_,_,_,_,_,_,_,_,_,_,_,_,_,_,_,_,_,_,_,_,_,_,_,_,_,_,_,_,_,_,_,_,_,_,_,_,_,_,_,_,_,_,_,_,_,_,_,_,_,_,_,_,_,_,_,_,_,_,_,_,_,_,_,_,_,_,_,_,_,_,_,_,_,_,_,_,_,_,_,_,_,_,_,_,_,_,_,_,_,_,_,_,_,_,_,_,_,_,_,_,_,_,_,_,_,_,_,_,_,_,_,_,_,_,_,_,_,_,_,_,_,_,_,_,_,_], defers := _ } _
      refine wpAnyH_ready (rs := [10]) (by kernel_rfl) (by simp) ?_
      refine (AllReadyH.cons rfl (fun KK hK => ?_) AllReadyH.nil)
      have k0 := PX9.out.c0
      have k1 := PX9.out.c1
      have k2 := PX9.out.c2
      have k3 := PX9.out.c3
      have f0 := PX9.out.fr 0
      have f1 := PX9.out.fr 1
      have f2 := PX9.out.fr 2
      have f3 := PX9.out.fr 3
      go_simp
      have X9 : Hid (XIs ((((y3.setCell ⟨xb, 0, none⟩ (.slice px.a sx.n px.ca)).setCell ⟨xb, 1, none⟩ (.int .i64 sx.t)).setCell ⟨xb, 2, none⟩ (.slice px.b sx.m px.cb)).setCell ⟨xb, 3, none⟩ (.slice px.d sx.l px.cd)) w.heap.size xb sx px) := RX.out.put ZX.out.1 ZX.out.2 (Nat.le_trans BV.out.size Lxb.out) PX9.out
      replace H : Below v1.heap.size v1 ((((y3.setCell ⟨xb, 0, none⟩ (.slice px.a sx.n px.ca)).setCell ⟨xb, 1, none⟩ (.int .i64 sx.t)).setCell ⟨xb, 2, none⟩ (.slice px.b sx.m px.cb)).setCell ⟨xb, 3, none⟩ (.slice px.d sx.l px.cd)) := below_res H Lxb.out _ _ _ _
      clear k0 k1 k2 k3 f0 f1 f2 f3 PX9 RX
      generalize ((((y3.setCell ⟨xb, 0, none⟩ (.slice px.a sx.n px.ca)).setCell ⟨xb, 1, none⟩ (.int .i64 sx.t)).setCell ⟨xb, 2, none⟩ (.slice px.b sx.m px.cb)).setCell ⟨xb, 3, none⟩ (.slice px.d sx.l px.cd)) = y4 at *
      refine hK.out _ _ H (fun _ => ?_)
      clear hK KK
      change wpAnyH _ _ _ _ _ _ _ { tmps := #[_,_,_,_,_,_,_,_,_,_,_,_,_,_,_,_,_,_,_,_,_,_,_,_,_,_,_,_,_,_,_,_,_,_,_,_,_,_,_,_,_,_,_,_,_,_,_,_,_,_,_,_,_,_,_,_,_,_,_,_,_,_,_,_,_,_,_,_,_,_,_,_,_,_,_,_,_,_,_,_,_,_,_,_,_,_,_,_,_,_,_,_,_,_,_,_,_,_,_,_,_,_,_,_,_,_,_,_,_,_,_,_,_,_,_,_,_,_,_,_,_,_,_,_,_,_,_,_,_,_,_,_,_,_,_,_,_,_,_,_,_,_,_,_,_,_,_,_,_,_,_,_,_,_,_,_,_,_,_,_,_,_,_,_,_,_,_,_,_,_,_,_,_,_,_,_,_], defers := _ } _
      refine wpAnyH_take (i := 11) (v := .int .i64 0) rfl (by kernel_rfl) (by kernel_rfl) (by kernel_rfl) (fun _ _ _ h => h) (Or.inl ⟨by rfl, ?_⟩) H ?_
      ·intro w' hSw; clear hSw; go_simp
      change wpAnyH _ _ _ _ _ _ _ { tmps := #[_,_,_,_,_,_,_,_,_,_,_,_,_,_,_,_,_,_,_,_,_,_,_,_,_,_,_,_,_,_,_,_,_,_,_,_,_,_,_,_,_,_,_,_,_,_,_,_,_,_,_,_,_,_,_,_,_,_,_,_,_,_,_,_,_,_,_,_,_,_,_,_,_,_,_,_,_,_,_,_,_,_,_,_,_,_,_,_,_,_,_,_,_,_,_,_,_,_,_,_,_,_,_,_,_,_,_,_,_,_,_,_,_,_,_,_,_,_,_,_,_,_,_,_,_,_,_,_,_,_,_,_,_,_,_,_,_,_,_,_,_,_,_,_,_,_,_,_,_,_,_,_,_,_,_,_,_,_,_,_,_,_,_,_,_,_,_,_,_,_,_,_,_,_,_,_,_], defers := _ } _
      refine wpAnyH_done (by kernel_rfl) ?_ _
      refine NoPanic.normal ?_
      change Exit.then _ _ Exit.normal { tmps := #[_, _, _, _, _, _, _, _, _, _, _, _, _, _, _, _, _, _, _, _, _, _, _, _, _, _, _, _, _, _, _, _, _, _, _, _, _, _, _, _, _, _, _, _, _, _, _, _, _, _, _, _, _, _, _, _, _, _, _, _, _, _, _, _, _, _, _, _, _, _, _, _, _, _, _, _, _, _, _, _, _, _, _, _, _, _, _, _, _, _, _, _, _, _, _, _, _, _, _, _, _, _, _, _, _, _, _, _, _, _, _, _, _, _, _, _, _, _, _, _, _, _, _, _, _, _, _, _, _, _, _, _, _, _, _, _, _, _, _, _, _, _, _, _, _, _, _, _, _, _, _, _, _, _, _, _, _, _, _, _, _, _, _, _, _, _, _, _, _, _, _, _, _, _, _, _, _], defers := _ } _
      go_wp2_with fail
      go_meet
      exact ⟨xb, sx, px, rfl, rfl, X9.out, RVX.out, HM.out, BV.out.trans (H.mono BV.out.size)⟩
     ·skip
      go_simp
      have hb : Below y1.heap.size y1 (y1.alloc (.cells #[.slice none 0 0, .int .i64 0, .slice none 0 0, .slice none 0 0] 28)) := (Below.refl _ _).alloc (Nat.le_refl _) _
      have PX9 : Hid (Box4 (y1.alloc (.cells #[.slice none 0 0, .int .i64 0, .slice none 0 0, .slice none 0 0] 28)) y1.heap.size 28 (.slice none 0 0) (.int .i64 0) (.slice none 0 0) (.slice none 0 0)) := Box4.madeAt rfl _ _ _ _ _
      have Lxb : Hid (v1.heap.size ≤ y1.heap.size) := H.size
      replace XV : Hid (XIs (y1.alloc (.cells #[.slice none 0 0, .int .i64 0, .slice none 0 0, .slice none 0 0] 28)) w.heap.size sb0 s p) := XV.out.below hb
      replace H : Below v1.heap.size v1 (y1.alloc (.cells #[.slice none 0 0, .int .i64 0, .slice none 0 0, .slice none 0 0] 28)) := H.trans (hb.mono H.size)
      clear hb
      refine hK.out _ _ H (fun _ => ?_)
      clear hK KK
      generalize (y1.alloc (.cells #[.slice none 0 0, .int .i64 0, .slice none 0 0, .slice none 0 0] 28)) = y2 at *
      generalize y1.heap.size = xb at *
      change wpAnyH _ _ _ _ _ _ _ { tmps := #[_,_,_,_,_,_,_,_,_,_,_,_,_,_,_,_,_,_,_,_,_,_,_,_,_,_,_,_,_,_,_,_,_,_,_,_,_,_,_,_,_,_,_,_,_,_,_,_,_,_,_,_,_,_,_,_,_,_,_,_,_,_,_,_,_,_,_,_,_,_,_,_,_,_,_,_,_,_,_,_,_,_,_,_,_,_,_,_,_,_,_,_,_,_,_,_,_,_,_,_,_,_,_,_,_,_,_,_,_,_,_,_,_,_,_,_,_,_,_,_,_,_,_,_,_,_,_,_,_,_,_,_,_,_,_,_,_,_,_,_,_,_,_,_,_,_,_,_,_,_,_,_,_,_,_,_,_,_,_,_,_,_,_,_,_,_,_,_,_,_,_,_,_,_,_,_,_], defers := _ } _
      refine wpAnyH_ready (rs := [5]) (by kernel_rfl) (by simp) ?_
      refine (AllReadyH.cons rfl (fun KK hK => ?_) AllReadyH.nil)
      go_simp
      refine (implStep_v s p 6 k z (mxUp (ok_mx OK.out.1) (by omega)) y2 XV.out.v XV.out.z XV.out.o).mono ?_
      rintro e y3 ⟨h9, hb⟩
      obtain ⟨sx, c9, px, rfl, hst, hzx, hzo, hr⟩ := h9.x OK.out.1 (B0 := w.heap.size) (Nat.le_trans BV.out.size H.size)
      have RX : Hid (XrS y3 w.heap.size sx px) := hr
      have ZX : Hid (SzP sx px ∧ SzO px) := ⟨hzx, hzo⟩
      have TB := SInv.told IV.out LA.out hst TT.out (by rw [SN.out]; exact HK.out)
      obtain ⟨-, hmu, rfl⟩ : True ∧ (sx.R k).mute = true ∧ c9 = 0 := ⟨trivial, StepS.booted hst TT.out (by rw [SN.out]; exact HK.out)⟩
      have HM : Hid ((sx.R k).mute = true) := hmu
      have RVX : Hid (RvI sx n k L) := ⟨hst.ok OK.out, hst.nn.trans SN.out, HK.out, TB⟩
      replace XV : Hid (XIs y3 w.heap.size sb0 s p) := XV.out.below hb
      replace PX9 : Hid (Box4 y3 xb 28 (.slice none 0 0) (.int .i64 0) (.slice none 0 0) (.slice none 0 0)) := PX9.out.below hb
      replace H : Below v1.heap.size v1 y3 := H.trans (hb.mono H.size)
      clear hb hst hzx hzo hr h9 TB hmu
      refine hK.out _ _ H (fun _ => ?_)
      clear hK KK
      change wpAnyH _ _ _ _ _ _ _ { tmps := #[_,_,_,_,_,_,_,_,_,_,_,_,_,_,_,_,_,_,_,_,_,_,_,_,_,_,_,_,_,_,_,_,_,_,_,_,_,_,_,_,_,_,_,_,_,_,_,_,_,_,_,_,_,_,_,_,_,_,_,_,_,_,_,_,_,_,_,_,_,_,_,_,_,_,_,_,_,_,_,_,_,_,_,_,_,_,_,_,_,_,_,_,_,_,_,_,_,_,_,_,_,_,_,_,_,_,_,_,_,_,_,_,_,_,_,_,_,_,_,_,_,_,_,_,_,_,_,_,_,_,_,_,_,_,_,_,_,_,_,_,_,_,_,_,_,_,_,_,_,_,_,_,_,_,_,_,_,_,_,_,_,_,_,_,_,_,_,_,_,_,_,_,_,_,_,_,_], defers := _ } _
      refine wpAnyH_take (i := 6) (v := .tuple #[.agg #[.slice px.a sx.n px.ca, .int .i64 sx.t, .slice px.b sx.m px.cb, .slice px.d sx.l px.cd], .int .i64 0]) rfl (by kernel_rfl) (by kernel_rfl) (by kernel_rfl) (fun _ _ _ h => h) (Or.inl ⟨by rfl, ?_⟩) H ?_
      ·intro w' hSw; clear hSw; go_simp
      change wpAnyH _ _ _ _ _ _ _ { tmps := #[_,_,_,_,_,_,_,_,_,_,_,_,_,_,_,_,_,_,_,_,_,_,_,_,_,_,_,_,_,_,_,_,_,_,_,_,_,_,_,_,_,_,_,_,_,_,_,_,_,_,_,_,_,_,_,_,_,_,_,_,_,_,_,_,_,_,_,_,_,_,_,_,_,_,_,_,_,_,_,_,_,_,_,_,_,_,_,_,_,_,_,_,_,_,_,_,_,_,_,_,_,_,_,_,_,_,_,_,_,_,_,_,_,_,_,_,_,_,_,_,_,_,_,_,_,_,_,_,_,_,_,_,_,_,_,_,_,_,_,_,_,_,_,_,_,_,_,_,_,_,_,_,_,_,_,_,_,_,_,_,_,_,_,_,_,_,_,_,_,_,_,_,_,_,_,_,_], defers := _ } _
      refine wpAnyH_take (i := 7) (v := .agg #[.slice px.a sx.n px.ca, .int .i64 sx.t, .slice px.b sx.m px.cb, .slice px.d sx.l px.cd]) rfl (by kernel_rfl) (by kernel_rfl) (by kernel_rfl) (fun _ _ _ h => h) (Or.inl ⟨by rfl, ?_⟩) H ?_
      ·intro w' hSw; clear hSw; go_simp
      change wpAnyH _ _ _ _ _ _ _ { tmps := #[_,_,_,_,_,_,_,_,_,_,_,_,_,_,_,_,_,_,_,_,_,_,_,_,_,_,_,_,_,_,_,_,_,_,_,_,_,_,_,_,_,_,_,_,_,_,_,_,_,_,_,_,_,_,_,_,_,_,_,_,_,_,_,_,_,_,_,_,_,_,_,_,_,_,_,_,_,_,_,_,_,_,_,_,_,_,_,_,_,_,_,_,_,_,_,_,_,_,_,_,_,_,_,_,_,_,_,_,_,_,_,_,_,_,_,_,_,_,_,_,_,_,_,_,_,_,_,_,_,_,_,_,_,_,_,_,_,_,_,_,_,_,_,_,_,_,_,_,_,_,_,_,_,_,_,_,_,_,_,_,_,_,_,_,_,_,_,_,_,_,_,_,_,_,_,_,_], defers := _ } _
      refine wpAnyH_take (i := 8) (v := .int .i64 0) rfl (by kernel_rfl) (by kernel_rfl) (by kernel_rfl) (fun _ _ _ h => h) (Or.inl ⟨by rfl, ?_⟩) H ?_
      ·intro w' hSw; clear hSw; go_simp
      change wpAnyH _ _ _ _ _ _ _ { tmps := #[_,_,_,_,_,_,_,_,_,_,_,_,_,_,_,_,_,_,_,_,_,_,_,_,_,_,_,_,_,_,_,_,_,_,_,_,_,_,_,_,_,_,_,_,_,_,_,_,_,_,_,_,_,_,_,_,_,_,_,_,_,_,_,_,_,_,_,_,_,_,_,_,_,_,_,_,_,_,_,_,_,_,_,_,_,_,_,_,_,_,_,_,_,_,_,_,_,_,_,_,_,_,_,_,_,_,_,_,_,_,_,_,_,_,_,_,_,_,_,_,_,_,_,_,_,_,_,_,_,_,_,_,_,_,_,_,_,_,_,_,_,_,_,_,_,_,_,_,_,_,_,_,_,_,_,_,_,_,_,_,_,_,_,_,_,_,_,_,_,_,_,_,_,_,_,_,_], defers := _ } _
      refine wpAnyH_ready (rs := [10]) (by kernel_rfl) (by simp) ?_
      refine (AllReadyH.cons rfl (fun KK hK => ?_) AllReadyH.nil)
      have k0 := PX9.out.c0
      have k1 := PX9.out.c1
      have k2 := PX9.out.c2
      have k3 := PX9.out.c3
      have f0 := PX9.out.fr 0
      have f1 := PX9.out.fr 1
      have f2 := PX9.out.fr 2
      have f3 := PX9.out.fr 3
      go_simp
      have X9 : Hid (XIs ((((y3.setCell ⟨xb, 0, none⟩ (.slice px.a sx.n px.ca)).setCell ⟨xb, 1, none⟩ (.int .i64 sx.t)).setCell ⟨xb, 2, none⟩ (.slice px.b sx.m px.cb)).setCell ⟨xb, 3, none⟩ (.slice px.d sx.l px.cd)) w.heap.size xb sx px) := RX.out.put ZX.out.1 ZX.out.2 (Nat.le_trans BV.out.size Lxb.out) PX9.out
      replace H : Below v1.heap.size v1 ((((y3.setCell ⟨xb, 0, none⟩ (.slice px.a sx.n px.ca)).setCell ⟨xb, 1, none⟩ (.int .i64 sx.t)).setCell ⟨xb, 2, none⟩ (.slice px.b sx.m px.cb)).setCell ⟨xb, 3, none⟩ (.slice px.d sx.l px.cd)) := below_res H Lxb.out _ _ _ _
      clear k0 k1 k2 k3 f0 f1 f2 f3 PX9 RX
      generalize ((((y3.setCell ⟨xb, 0, none⟩ (.slice px.a sx.n px.ca)).setCell ⟨xb, 1, none⟩ (.int .i64 sx.t)).setCell ⟨xb, 2, none⟩ (.slice px.b sx.m px.cb)).setCell ⟨xb, 3, none⟩ (.slice px.d sx.l px.cd)) = y4 at *
      refine hK.out _ _ H (fun _ => ?_)
      clear hK KK
      change wpAnyH _ _ _ _ _ _ _ { tmps := #[_,_,_,_,_,_,_,_,_,_,_,_,_,_,_,_,_,_,_,_,_,_,_,_,_,_,_,_,_,_,_,_,_,_,_,_,_,_,_,_,_,_,_,_,_,_,_,_,_,_,_,_,_,_,_,_,_,_,_,_,_,_,_,_,_,_,_,_,_,_,_,_,_,_,_,_,_,_,_,_,_,_,_,_,_,_,_,_,_,_,_,_,_,_,_,_,_,_,_,_,_,_,_,_,_,_,_,_,_,_,_,_,_,_,_,_,_,_,_,_,_,_,_,_,_,_,_,_,_,_,_,_,_,_,_,_,_,_,_,_,_,_,_,_,_,_,_,_,_,_,_,_,_,_,_,_,_,_,_,_,_,_,_,_,_,_,_,_,_,_,_,_,_,_,_,_,_], defers := _ } _
      refine wpAnyH_take (i := 11) (v := .int .i64 0) rfl (by kernel_rfl) (by kernel_rfl) (by kernel_rfl) (fun _ _ _ h => h) (Or.inl ⟨by rfl, ?_⟩) H ?_
      ·intro w' hSw; clear hSw; go_simp
      change wpAnyH _ _ _ _ _ _ _ { tmps := #[_,_,_,_,_,_,_,_,_,_,_,_,_,_,_,_,_,_,_,_,_,_,_,_,_,_,_,_,_,_,_,_,_,_,_,_,_,_,_,_,_,_,_,_,_,_,_,_,_,_,_,_,_,_,_,_,_,_,_,_,_,_,_,_,_,_,_,_,_,_,_,_,_,_,_,_,_,_,_,_,_,_,_,_,_,_,_,_,_,_,_,_,_,_,_,_,_,_,_,_,_,_,_,_,_,_,_,_,_,_,_,_,_,_,_,_,_,_,_,_,_,_,_,_,_,_,_,_,_,_,_,_,_,_,_,_,_,_,_,_,_,_,_,_,_,_,_,_,_,_,_,_,_,_,_,_,_,_,_,_,_,_,_,_,_,_,_,_,_,_,_,_,_,_,_,_,_], defers := _ } _
      refine wpAnyH_done (by kernel_rfl) ?_ _
      refine NoPanic.normal ?_
      change Exit.then _ _ Exit.normal { tmps := #[_, _, _, _, _, _, _, _, _, _, _, _, _, _, _, _, _, _, _, _, _, _, _, _, _, _, _, _, _, _, _, _, _, _, _, _, _, _, _, _, _, _, _, _, _, _, _, _, _, _, _, _, _, _, _, _, _, _, _, _, _, _, _, _, _, _, _, _, _, _, _, _, _, _, _, _, _, _, _, _, _, _, _, _, _, _, _, _, _, _, _, _, _, _, _, _, _, _, _, _, _, _, _, _, _, _, _, _, _, _, _, _, _, _, _, _, _, _, _, _, _, _, _, _, _, _, _, _, _, _, _, _, _, _, _, _, _, _, _, _, _, _, _, _, _, _, _, _, _, _, _, _, _, _, _, _, _, _, _, _, _, _, _, _, _, _, _, _, _, _, _, _, _, _, _, _, _], defers := _ } _
      go_wp2_with fail
      go_meet
      exact ⟨xb, sx, px, rfl, rfl, X9.out, RVX.out, HM.out, BV.out.trans (H.mono BV.out.size)⟩
    ·skip
     go_simp
     have hb : Below y0.heap.size y0 (y0.alloc (.cells #[.slice none 0 0, .int .i64 0, .slice none 0 0, .slice none 0 0] 28)) := (Below.refl _ _).alloc (Nat.le_refl _) _
     have PX9 : Hid (Box4 (y0.alloc (.cells #[.slice none 0 0, .int .i64 0, .slice none 0 0, .slice none 0 0] 28)) y0.heap.size 28 (.slice none 0 0) (.int .i64 0) (.slice none 0 0) (.slice none 0 0)) := Box4.madeAt rfl _ _ _ _ _
     have Lxb : Hid (v1.heap.size ≤ y0.heap.size) := H.size
     replace XV : Hid (XIs (y0.alloc (.cells #[.slice none 0 0, .int .i64 0, .slice none 0 0, .slice none 0 0] 28)) w.heap.size sb0 s p) := XV.out.below hb
     replace H : Below v1.heap.size v1 (y0.alloc (.cells #[.slice none 0 0, .int .i64 0, .slice none 0 0, .slice none 0 0] 28)) := H.trans (hb.mono H.size)
     clear hb
     refine hK.out _ _ H (fun _ => ?_)
     clear hK KK
     generalize (y0.alloc (.cells #[.slice none 0 0, .int .i64 0, .slice none 0 0, .slice none 0 0] 28)) = y1 at *
     generalize y0.heap.size = xb at *
     change wpAnyH _ _ _ _ _ _ _ { tmps := #[_,_,_,_,_,_,_,_,_,_,_,_,_,_,_,_,_,_,_,_,_,_,_,_,_,_,_,_,_,_,_,_,_,_,_,_,_,_,_,_,_,_,_,_,_,_,_,_,_,_,_,_,_,_,_,_,_,_,_,_,_,_,_,_,_,_,_,_,_,_,_,_,_,_,_,_,_,_,_,_,_,_,_,_,_,_,_,_,_,_,_,_,_,_,_,_,_,_,_,_,_,_,_,_,_,_,_,_,_,_,_,_,_,_,_,_,_,_,_,_,_,_,_,_,_,_,_,_,_,_,_,_,_,_,_,_,_,_,_,_,_,_,_,_,_,_,_,_,_,_,_,_,_,_,_,_,_,_,_,_,_,_,_,_,_,_,_,_,_,_,_,_,_,_,_,_,_], defers := _ } _
     refine wpAnyH_ready (rs := [3]) (by kernel_rfl) (by simp) ?_
     refine (AllReadyH.cons rfl (fun KK hK => ?_) AllReadyH.nil)
     go_simp
     refine (AT.out 2 2 y1 (by omega) (by omega) (by omega) (BV.out.trans ((H).mono BV.out.size))).mono ?_
     rintro e y2 ⟨⟨z, hz, rfl⟩, hb⟩
     replace XV : Hid (XIs y2 w.heap.size sb0 s p) := XV.out.below hb
     replace PX9 : Hid (Box4 y2 xb 28 (.slice none 0 0) (.int .i64 0) (.slice none 0 0) (.slice none 0 0)) := PX9.out.below hb
     replace H : Below v1.heap.size v1 y2 := H.trans (hb.mono H.size)
     clear hz
     clear hb
     refine hK.out _ _ H (fun _ => ?_)
     clear hK KK
     change wpAnyH _ _ _ _ _ _ _ { tmps := #[_,_,_,_,_,_,_,_,_,_,_,_,_,_,_,_,_,_,_,_,_,_,_,_,_,_,_,_,_,_,_,_,_,_,_,_,_,_,_,_,_,_,_,_,_,_,_,_,_,_,_,_,_,_,_,_,_,_,_,_,_,_,_,_,_,_,_,_,_,_,_,_,_,_,_,_,_,_,_,_,_,_,_,_,_,_,_,_,_,_,_,_,_,_,_,_,_,_,_,_,_,_,_,_,_,_,_,_,_,_,_,_,_,_,_,_,_,_,_,_,_,_,_,_,_,_,_,_,_,_,_,_,_,_,_,_,_,_,_,_,_,_,_,_,_,_,_,_,_,_,_,_,_,_,_,_,_,_,_,_,_,_,_,_,_,_,_,_,_,_,_,_,_,_,_,_,_], defers := _ } _
     refine wpAnyH_take (i := 4) (v := .agg #[.int .i64 6, .int .i64 (k : Int), .int .i64 (z : Int)]) rfl (by kernel_rfl) (by kernel_rfl) (by kernel_rfl) (fun _ _ _ h => h) (Or.inl ⟨by rfl, ?_⟩) H ?_
     ·intro w' hSw; clear hSw; go_simp
     change wpAnyH _ _ _ _ _ _ _ { tmps := #[_,_,_,_,_,_,_,_,_,_,_,_,_,_,_,_,_,_,_,_,_,_,_,_,_,_,_,_,_,_,_,_,_,_,_,_,_,_,_,_,_,_,_,_,_,_,_,_,_,_,_,_,_,_,_,_,_,_,_,_,_,_,_,_,_,_,_,_,_,_,_,_,_,_,_,_,_,_,_,_,_,_,_,_,_,_,_,_,_,_,_,_,_,_,_,_,_,_,_,_,_,_,_,_,_,_,_,_,_,_,_,_,_,_,_,_,_,_,_,_,_,_,_,_,_,_,_,_,_,_,_,_,_,_,_,_,_,_,_,_,_,_,_,_,_,_,_,_,_,_,_,_,_,_,_,_,_,_,_,_,_,_,_,_,_,_,_,_,_,_,_,_,_,_,_,_,_], defers := _ } _
     refine wpAnyH_ready (rs := [5]) (by kernel_rfl) (by simp) ?_
     refine (AllReadyH.cons rfl (fun KK hK => ?_) AllReadyH.nil)
     go_simp
     refine (implStep_v s p 6 k z (mxUp (ok_mx OK.out.1) (by omega)) y2 XV.out.v XV.out.z XV.out.o).mono ?_
     rintro e y3 ⟨h9, hb⟩
     obtain ⟨sx, c9, px, rfl, hst, hzx, hzo, hr⟩ := h9.x OK.out.1 (B0 := w.heap.size) (Nat.le_trans BV.out.size H.size)
     have RX : Hid (XrS y3 w.heap.size sx px) := hr
     have ZX : Hid (SzP sx px ∧ SzO px) := ⟨hzx, hzo⟩
     have TB := SInv.told IV.out LA.out hst TT.out (by rw [SN.out]; exact HK.out)
     obtain ⟨-, hmu, rfl⟩ : True ∧ (sx.R k).mute = true ∧ c9 = 0 := ⟨trivial, StepS.booted hst TT.out (by rw [SN.out]; exact HK.out)⟩
     have HM : Hid ((sx.R k).mute = true) := hmu
     have RVX : Hid (RvI sx n k L) := ⟨hst.ok OK.out, hst.nn.trans SN.out, HK.out, TB⟩
     replace XV : Hid (XIs y3 w.heap.size sb0 s p) := XV.out.below hb
     replace PX9 : Hid (Box4 y3 xb 28 (.slice none 0 0) (.int .i64 0) (.slice none 0 0) (.slice none 0 0)) := PX9.out.below hb
     replace H : Below v1.heap.size v1 y3 := H.trans (hb.mono H.size)
     clear hb hst hzx hzo hr h9 TB hmu
     refine hK.out _ _ H (fun _ => ?_)
     clear hK KK
     change wpAnyH _ _ _ _ _ _ _ { tmps := #[_,_,_,_,_,_,_,_,_,_,_,_,_,_,_,_,_,_,_,_,_,_,_,_,_,_,_,_,_,_,_,_,_,_,_,_,_,_,_,_,_,_,_,_,_,_,_,_,_,_,_,_,_,_,_,_,_,_,_,_,_,_,_,_,_,_,_,_,_,_,_,_,_,_,_,_,_,_,_,_,_,_,_,_,_,_,_,_,_,_,_,_,_,_,_,_,_,_,_,_,_,_,_,_,_,_,_,_,_,_,_,_,_,_,_,_,_,_,_,_,_,_,_,_,_,_,_,_,_,_,_,_,_,_,_,_,_,_,_,_,_,_,_,_,_,_,_,_,_,_,_,_,_,_,_,_,_,_,_,_,_,_,_,_,_,_,_,_,_,_,_,_,_,_,_,_,_], defers := _ } _
     refine wpAnyH_take (i := 6) (v := .tuple #[.agg #[.slice px.a sx.n px.ca, .int .i64 sx.t, .slice px.b sx.m px.cb, .slice px.d sx.l px.cd], .int .i64 0]) rfl (by kernel_rfl) (by kernel_rfl) (by kernel_rfl) (fun _ _ _ h => h) (Or.inl ⟨by rfl, ?_⟩) H ?_
     ·intro w' hSw; clear hSw; go_simp
     change wpAnyH _ _ _ _ _ _ _ { tmps := #[_,_,_,_,_,_,_,_,_,_,_,_,_,_,_,_,_,_,_,_,_,_,_,_,_,_,_,_,_,_,_,_,_,_,_,_,_,_,_,_,_,_,_,_,_,_,_,_,_,_,_,_,_,_,_,_,_,_,_,_,_,_,_,_,_,_,_,_,_,_,_,_,_,_,_,_,_,_,_,_,_,_,_,_,_,_,_,_,_,_,_,_,_,_,_,_,_,_,_,_,_,_,_,_,_,_,_,_,_,_,_,_,_,_,_,_,_,_,_,_,_,_,_,_,_,_,_,_,_,_,_,_,_,_,_,_,_,_,_,_,_,_,_,_,_,_,_,_,_,_,_,_,_,_,_,_,_,_,_,_,_,_,_,_,_,_,_,_,_,_,_,_,_,_,_,_,_], defers := _ } _
     refine wpAnyH_take (i := 7) (v := .agg #[.slice px.a sx.n px.ca, .int .i64 sx.t, .slice px.b sx.m px.cb, .slice px.d sx.l px.cd]) rfl (by kernel_rfl) (by kernel_rfl) (by kernel_rfl) (fun _ _ _ h => h) (Or.inl ⟨by rfl, ?_⟩) H ?_
     ·intro w' hSw; clear hSw; go_simp
     change wpAnyH _ _ _ _ _ _ _ { tmps := #[_,_,_,_,_,_,_,_,_,_,_,_,_,_,_,_,_,_,_,_,_,_,_,_,_,_,_,_,_,_,_,_,_,_,_,_,_,_,_,_,_,_,_,_,_,_,_,_,_,_,_,_,_,_,_,_,_,_,_,_,_,_,_,_,_,_,_,_,_,_,_,_,_,_,_,_,_,_,_,_,_,_,_,_,_,_,_,_,_,_,_,_,_,_,_,_,_,_,_,_,_,_,_,_,_,_,_,_,_,_,_,_,_,_,_,_,_,_,_,_,_,_,_,_,_,_,_,_,_,_,_,_,_,_,_,_,_,_,_,_,_,_,_,_,_,_,_,_,_,_,_,_,_,_,_,_,_,_,_,_,_,_,_,_,_,_,_,_,_,_,_,_,_,_,_,_,_], defers := _ } _
     refine wpAnyH_take (i := 8) (v := .int .i64 0) rfl (by kernel_rfl) (by kernel_rfl) (by kernel_rfl) (fun _ _ _ h => h) (Or.inl ⟨by rfl, ?_⟩) H ?_
     ·intro w' hSw; clear hSw; go_simp
     change wpAnyH _ _ _ _ _ _ _ { tmps := #[_,_,_,_,_,_,_,_,_,_,_,_,_,_,_,_,_,_,_,_,_,_,_,_,_,_,_,_,_,_,_,_,_,_,_,_,_,_,_,_,_,_,_,_,_,_,_,_,_,_,_,_,_,_,_,_,_,_,_,_,_,_,_,_,_,_,_,_,_,_,_,_,_,_,_,_,_,_,_,_,_,_,_,_,_,_,_,_,_,_,_,_,_,_,_,_,_,_,_,_,_,_,_,_,_,_,_,_,_,_,_,_,_,_,_,_,_,_,_,_,_,_,_,_,_,_,_,_,_,_,_,_,_,_,_,_,_,_,_,_,_,_,_,_,_,_,_,_,_,_,_,_,_,_,_,_,_,_,_,_,_,_,_,_,_,_,_,_,_,_,_,_,_,_,_,_,_], defers := _ } _
     refine wpAnyH_ready (rs := [10]) (by kernel_rfl) (by simp) ?_
     refine (AllReadyH.cons rfl (fun KK hK => ?_) AllReadyH.nil)
     have k0 := PX9.out.c0
     have k1 := PX9.out.c1
     have k2 := PX9.out.c2
     have k3 := PX9.out.c3
     have f0 := PX9.out.fr 0
     have f1 := PX9.out.fr 1
     have f2 := PX9.out.fr 2
     have f3 := PX9.out.fr 3
     go_simp
     have X9 : Hid (XIs ((((y3.setCell ⟨xb, 0, none⟩ (.slice px.a sx.n px.ca)).setCell ⟨xb, 1, none⟩ (.int .i64 sx.t)).setCell ⟨xb, 2, none⟩ (.slice px.b sx.m px.cb)).setCell ⟨xb, 3, none⟩ (.slice px.d sx.l px.cd)) w.heap.size xb sx px) := RX.out.put ZX.out.1 ZX.out.2 (Nat.le_trans BV.out.size Lxb.out) PX9.out
     replace H : Below v1.heap.size v1 ((((y3.setCell ⟨xb, 0, none⟩ (.slice px.a sx.n px.ca)).setCell ⟨xb, 1, none⟩ (.int .i64 sx.t)).setCell ⟨xb, 2, none⟩ (.slice px.b sx.m px.cb)).setCell ⟨xb, 3, none⟩ (.slice px.d sx.l px.cd)) := below_res H Lxb.out _ _ _ _
     clear k0 k1 k2 k3 f0 f1 f2 f3 PX9 RX
     generalize ((((y3.setCell ⟨xb, 0, none⟩ (.slice px.a sx.n px.ca)).setCell ⟨xb, 1, none⟩ (.int .i64 sx.t)).setCell ⟨xb, 2, none⟩ (.slice px.b sx.m px.cb)).setCell ⟨xb, 3, none⟩ (.slice px.d sx.l px.cd)) = y4 at *
     refine hK.out _ _ H (fun _ => ?_)
     clear hK KK
     change wpAnyH _ _ _ _ _ _ _ { tmps := #[_,_,_,_,_,_,_,_,_,_,_,_,_,_,_,_,_,_,_,_,_,_,_,_,_,_,_,_,_,_,_,_,_,_,_,_,_,_,_,_,_,_,_,_,_,_,_,_,_,_,_,_,_,_,_,_,_,_,_,_,_,_,_,_,_,_,_,_,_,_,_,_,_,_,_,_,_,_,_,_,_,_,_,_,_,_,_,_,_,_,_,_,_,_,_,_,_,_,_,_,_,_,_,_,_,_,_,_,_,_,_,_,_,_,_,_,_,_,_,_,_,_,_,_,_,_,_,_,_,_,_,_,_,_,_,_,_,_,_,_,_,_,_,_,_,_,_,_,_,_,_,_,_,_,_,_,_,_,_,_,_,_,_,_,_,_,_,_,_,_,_,_,_,_,_,_,_], defers := _ } _
     refine wpAnyH_take (i := 11) (v := .int .i64 0) rfl (by kernel_rfl) (by kernel_rfl) (by kernel_rfl) (fun _ _ _ h => h) (Or.inl ⟨by rfl, ?_⟩) H ?_
     ·intro w' hSw; clear hSw; go_simp
     change wpAnyH _ _ _ _ _ _ _ { tmps := #[_,_,_,_,_,_,_,_,_,_,_,_,_,_,_,_,_,_,_,_,_,_,_,_,_,_,_,_,_,_,_,_,_,_,_,_,_,_,_,_,_,_,_,_,_,_,_,_,_,_,_,_,_,_,_,_,_,_,_,_,_,_,_,_,_,_,_,_,_,_,_,_,_,_,_,_,_,_,_,_,_,_,_,_,_,_,_,_,_,_,_,_,_,_,_,_,_,_,_,_,_,_,_,_,_,_,_,_,_,_,_,_,_,_,_,_,_,_,_,_,_,_,_,_,_,_,_,_,_,_,_,_,_,_,_,_,_,_,_,_,_,_,_,_,_,_,_,_,_,_,_,_,_,_,_,_,_,_,_,_,_,_,_,_,_,_,_,_,_,_,_,_,_,_,_,_,_], defers := _ } _
     refine wpAnyH_done (by kernel_rfl) ?_ _
     refine NoPanic.normal ?_
     change Exit.then _ _ Exit.normal { tmps := #[_, _, _, _, _, _, _, _, _, _, _, _, _, _, _, _, _, _, _, _, _, _, _, _, _, _, _, _, _, _, _, _, _, _, _, _, _, _, _, _, _, _, _, _, _, _, _, _, _, _, _, _, _, _, _, _, _, _, _, _, _, _, _, _, _, _, _, _, _, _, _, _, _, _, _, _, _, _, _, _, _, _, _, _, _, _, _, _, _, _, _, _, _, _, _, _, _, _, _, _, _, _, _, _, _, _, _, _, _, _, _, _, _, _, _, _, _, _, _, _, _, _, _, _, _, _, _, _, _, _, _, _, _, _, _, _, _, _, _, _, _, _, _, _, _, _, _, _, _, _, _, _, _, _, _, _, _, _, _, _, _, _, _, _, _, _, _, _, _, _, _, _, _, _, _, _, _], defers := _ } _
     go_wp2_with fail
     go_meet
     exact ⟨xb, sx, px, rfl, rfl, X9.out, RVX.out, HM.out, BV.out.trans (H.mono BV.out.size)⟩
   case rest =>
    obtain ⟨xb, sx, px, rfl, rfl, hx, hrv, hmu, hbx⟩ := hcut
    replace BB : Hid (Below w.heap.size w wc) := hbx
    replace XS : Hid (XIs wc w.heap.size xb sx px) := hx
    have RV : Hid (RvI sx n k L) := hrv
    clear hx hrv hbx LA IV TT SN OK
    have x0 := XS.out.x.c0
    have kn : (k : Int) < (n : Int) := by have := HK.out; omega
    have kn0 : (0 : Int) ≤ (k : Int) := by omega
    have ll : ((sx.n : Int) != (n : Int)) = false := by rw [RV.out.e]; simp
    have kx : (k : Int) < (sx.n : Int) := by rw [RV.out.e]; exact kn
    have sv := XS.out.v.1
    obtain ⟨pa, pb, pd, PA, PB, PD, PX, PY, PZ, ca, cb, cd⟩ := px
    dsimp only at *
    obtain ⟨rg, roff, hra, hc⟩ := sv.at (show k < sx.n by omega)
    subst hra
    have d0 : wc.cell? ⟨rg, roff + k * 8, none⟩ = some (.bool true) := (hc 0 (by omega)).trans (by rw [show rpV (sx.R k) _ 0 = .bool (sx.R k).mute from rfl, hmu])
    clear hc sv hmu
    go_wp2
    clear x0 d0 ll kx
    generalize hpx : (⟨some ⟨rg, roff, none⟩, pb, pd, PA, PB, PD, PX, PY, PZ, ca, cb, cd⟩ : Sa) = px at *
    clear hpx
    go_loopw [14] (fun i wr => ∃ (q : Nat) (sx : Sv) (px : Sa), q ≤ n ∧ i = .int .i64 (q : Int) ∧ XIs wr w.heap.size xb sx px ∧ RvI sx n k L ∧ Below w.heap.size w wr) (fun i _ => n - (intOf i).toNat)
    case atStart => exact ⟨0, sx, px, by omega, rfl, XS.out, RV.out, BB.out⟩
    case round =>
     clear XS RV BB
     obtain ⟨q, sx, px, hq, rfl, hX, hR, hB⟩ := hrel
     have XS : Hid (XIs wr w.heap.size xb sx px) := hX
     have RV : Hid (RvI sx n k L) := hR
     have BB : Hid (Below w.heap.size w wr) := hB
     clear hX hR hB
     by_cases hlt : q < n
     ·have hlt' : (q : Int) < (n : Int) := by omega
      have hq0 : (0 : Int) ≤ (q : Int) := by omega
      have HLT : Hid (q < n) := hlt
      have n7 : (n : Int) ≤ 7 := by have := HN.out.2; omega
      have IS : Hid (∀ u : World, Below w.heap.size w u → SvV u sx px → Calls Try.prog 9 #[.agg #[.slice px.a sx.n px.ca, .int .i64 sx.t, .slice px.b sx.m px.cb, .slice px.d sx.l px.cd], .agg #[.int .i64 7, .int .i64 (k : Int), .int .i64 (q : Int)]] u fun e w' => RetSx w.heap.size sx ⟨7, k, q⟩ e w' ∧ Below u.heap.size u w') := fun u hu hv => (implStep_v sx px 7 k q (mxUp (ok_mx RV.out.ok.1) (by omega)) u hv XS.out.z XS.out.o).mono fun e w' h => ⟨h.1.x RV.out.ok.1 hu.size, h.2⟩
      have SS : Hid (∀ u : World, Below w.heap.size w u → SvV u sx px → Calls Try.prog 10 #[.agg #[.slice px.a sx.n px.ca, .int .i64 sx.t, .slice px.b sx.m px.cb, .slice px.d sx.l px.cd], .agg #[.int .i64 7, .int .i64 (k : Int), .int .i64 (q : Int)]] u fun e w' => RetSx w.heap.size sx ⟨7, k, q⟩ e w' ∧ Below u.heap.size u w') := fun u hu hv => (specStep_v sx px 7 k q (mxUp (ok_mx RV.out.ok.1) (by omega)) u hv XS.out.z XS.out.o).mono fun e w' h => ⟨h.1.x RV.out.ok.1 hu.size, h.2⟩
      clear hlt hq
      have x0 := XS.out.x.c0
      have x1 := XS.out.x.c1
      have x2 := XS.out.x.c2
      have x3 := XS.out.x.c3
      go_wp2_with fail
      clear x0 x1 x2 x3
      refine (IS.out _ BB.out XS.out.v).mono ?_
      rintro e v2 ⟨⟨sy, c, py, rfl, hst, hz, hzo, hr⟩, hb⟩
      have ST : Hid (StepS sx ⟨7, k, q⟩ sy c) := hst
      replace BB : Hid (Below w.heap.size w v2) := BB.out.trans (hb.mono BB.out.size)
      have hbA : Below v2.heap.size v2 (v2.alloc (.cells #[.slice py.a sy.n py.ca, .int .i64 sy.t, .slice py.b sy.m py.cb, .slice py.d sy.l py.cd] 28)) := (Below.refl _ _).alloc (Nat.le_refl _) _
      have YS : Hid (XIs (v2.alloc (.cells #[.slice py.a sy.n py.ca, .int .i64 sy.t, .slice py.b sy.m py.cb, .slice py.d sy.l py.cd] 28)) w.heap.size v2.heap.size sy py) := RetSx.made hz hzo hr BB.out.size
      replace XS : Hid (XIs (v2.alloc (.cells #[.slice py.a sy.n py.ca, .int .i64 sy.t, .slice py.b sy.m py.cb, .slice py.d sy.l py.cd] 28)) w.heap.size xb sx px) := (XS.out.below hb).below hbA
      replace BB : Hid (Below w.heap.size w (v2.alloc (.cells #[.slice py.a sy.n py.ca, .int .i64 sy.t, .slice py.b sy.m py.cb, .slice py.d sy.l py.cd] 28))) := BB.out.trans (hbA.mono BB.out.size)
      clear hst hz hzo hr hb hbA IS
      have x0 := XS.out.x.c0
      have x1 := XS.out.x.c1
      have x2 := XS.out.x.c2
      have x3 := XS.out.x.c3
      go_wp2_with fail
      clear x0 x1 x2 x3
      obtain ⟨yb, hyb⟩ : ∃ x, x = v2.heap.size := ⟨_, rfl⟩
      generalize (v2.alloc (.cells #[.slice py.a sy.n py.ca, .int .i64 sy.t, .slice py.b sy.m py.cb, .slice py.d sy.l py.cd] 28)) = v3 at *
      rw [← hyb] at YS ⊢
      clear hyb
      refine (SS.out _ BB.out XS.out.v).mono ?_
      rintro e v4 ⟨⟨sz, c2, pz, rfl, hst, hz, hzo, hr⟩, hb⟩
      obtain ⟨es, ec⟩ := ST.out.uniq hst
      subst es ec
      replace BB : Hid (Below w.heap.size w v4) := BB.out.trans (hb.mono BB.out.size)
      have hbA : Below v4.heap.size v4 (v4.alloc (.cells #[.slice pz.a sy.n pz.ca, .int .i64 sy.t, .slice pz.b sy.m pz.cb, .slice pz.d sy.l pz.cd] 28)) := (Below.refl _ _).alloc (Nat.le_refl _) _
      have ZS : Hid (XIs (v4.alloc (.cells #[.slice pz.a sy.n pz.ca, .int .i64 sy.t, .slice pz.b sy.m pz.cb, .slice pz.d sy.l pz.cd] 28)) w.heap.size v4.heap.size sy pz) := RetSx.made hz hzo hr BB.out.size
      replace XS : Hid (XIs (v4.alloc (.cells #[.slice pz.a sy.n pz.ca, .int .i64 sy.t, .slice pz.b sy.m pz.cb, .slice pz.d sy.l pz.cd] 28)) w.heap.size xb sx px) := (XS.out.below hb).below hbA
      replace YS : Hid (XIs (v4.alloc (.cells #[.slice pz.a sy.n pz.ca, .int .i64 sy.t, .slice pz.b sy.m pz.cb, .slice pz.d sy.l pz.cd] 28)) w.heap.size yb sy py) := (YS.out.below hb).below hbA
      replace BB : Hid (Below w.heap.size w (v4.alloc (.cells #[.slice pz.a sy.n pz.ca, .int .i64 sy.t, .slice pz.b sy.m pz.cb, .slice pz.d sy.l pz.cd] 28))) := BB.out.trans (hbA.mono BB.out.size)
      have RY : Hid (RvI sy n k L) := RV.out.step ST.out
      clear hst hz hzo hr hb hbA SS ST RV
      go_upto_region 24 with fail
      obtain ⟨zb, hzb⟩ : ∃ x, x = v4.heap.size := ⟨_, rfl⟩
      generalize (v4.alloc (.cells #[.slice pz.a sy.n pz.ca, .int .i64 sy.t, .slice pz.b sy.m pz.cb, .slice pz.d sy.l pz.cd] 28)) = v5 at *
      rw [← hzb] at ZS ⊢
      clear hzb
      have kn2 : (k : Int) < (sy.n : Int) := by rw [RY.out.e]; exact kn
      have ks : k < sy.n := by omega
      have cc : (c != c) = false := by simp
      have ll : ((sy.n : Int) != (n : Int)) = false := by rw [RY.out.e]; simp
      have yv := YS.out.v.1
      have zv := ZS.out.v.1
      have y0 := YS.out.x.c0
      have z0 := ZS.out.x.c0
      have YK : Hid (XIs v5 w.heap.size yb sy py) := YS.out
      clear YS ZS
      obtain ⟨ya, yb1, yd, YA, YB, YD, YX, YY, YZ, yca, ycb, ycd⟩ := py
      obtain ⟨za, zb1, zd, ZA, ZB, ZD, ZX, ZY, ZZ, zca, zcb, zcd⟩ := pz
      dsimp only at yv zv y0 z0
      obtain ⟨yg, yo, hya, yc⟩ := yv.at ks
      obtain ⟨zg, zo, hza, zc⟩ := zv.at ks
      rw [hya] at y0
      subst hza
      have e0 : v5.cell? ⟨yg, yo + k * 8, none⟩ = some (.bool (sy.R k).mute) := yc 0 (by omega)
      have e1 : v5.cell? ⟨yg, yo + k * 8 + 1, none⟩ = some (.int .i64 (sy.R k).nc) := yc 1 (by omega)
      have e2 : v5.cell? ⟨yg, yo + k * 8 + 2, none⟩ = some (.int .i64 (sy.R k).nt) := yc 2 (by omega)
      have f0 : v5.cell? ⟨zg, zo + k * 8, none⟩ = some (.bool (sy.R k).mute) := zc 0 (by omega)
      have f1 : v5.cell? ⟨zg, zo + k * 8 + 1, none⟩ = some (.int .i64 (sy.R k).nc) := zc 1 (by omega)
      have f2 : v5.cell? ⟨zg, zo + k * 8 + 2, none⟩ = some (.int .i64 (sy.R k).nt) := zc 2 (by omega)
      have hmm : ((sy.R k).mute != (sy.R k).mute) = false := by simp
      have hcc : ((sy.R k).nc != (sy.R k).nc) = false := by simp
      clear yv zv yc zc ks
      go_quiet (fail)
      have hbD : Below v5.heap.size v5 (v5.drewN nq) := below_dN _ _
      clear y0 z0 hya e0 e1 e2 f0 f1 f2 cc ll kn2 hmm hcc
      generalize hpy : (⟨ya, yb1, yd, YA, YB, YD, YX, YY, YZ, yca, ycb, ycd⟩ : Sa) = py at *
      clear hpy
      replace YK : Hid (XIs (v5.drewN nq) w.heap.size yb sy py) := YK.out.below hbD
      replace XS : Hid (XIs (v5.drewN nq) w.heap.size xb sx px) := XS.out.below hbD
      replace BB : Hid (Below w.heap.size w (v5.drewN nq)) := BB.out.trans (hbD.mono BB.out.size)
      clear hbD
      generalize v5.drewN nq = v6 at *
      have y0 := YK.out.x.c0
      have y1 := YK.out.x.c1
      have y2 := YK.out.x.c2
      have y3 := YK.out.x.c3
      have x0 := XS.out.x.c0
      have x1 := XS.out.x.c1
      have x2 := XS.out.x.c2
      have x3 := XS.out.x.c3
      have g0 := XS.out.x.fr 0
      have g1 := XS.out.x.fr 1
      have g2 := XS.out.x.fr 2
      have g3 := XS.out.x.fr 3
      have X9 : Hid (XIs ((((v6.setCell ⟨xb, 0, none⟩ (.slice py.a sy.n py.ca)).setCell ⟨xb, 1, none⟩ (.int .i64 sy.t)).setCell ⟨xb, 2, none⟩ (.slice py.b sy.m py.cb)).setCell ⟨xb, 3, none⟩ (.slice py.d sy.l py.cd)) w.heap.size xb sy py) := YK.out.move XS.out.h XS.out.x
      have B9 : Hid (Below w.heap.size w ((((v6.setCell ⟨xb, 0, none⟩ (.slice py.a sy.n py.ca)).setCell ⟨xb, 1, none⟩ (.int .i64 sy.t)).setCell ⟨xb, 2, none⟩ (.slice py.b sy.m py.cb)).setCell ⟨xb, 3, none⟩ (.slice py.d sy.l py.cd))) := below_res BB.out XS.out.h _ _ _ _
      clear XS YK BB
      go_wp2
      go_roundw
      case rel => exact ⟨q + 1, sy, py, by have := HLT.out; omega, by go_num, X9.out, RY.out, B9.out⟩
      case measure => have := HLT.out; simp [intOf]; omega
     ·obtain rfl : q = n := by omega
      have hlt' : ¬ (q : Int) < (q : Int) := by omega
      have x0 := XS.out.x.c0
      have kx : (k : Int) < (sx.n : Int) := by rw [RV.out.e]; exact kn
      have sv := XS.out.v.1
      have hh := RV.out.has
      obtain ⟨pa, pb, pd, PA, PB, PD, PX, PY, PZ, ca, cb, cd⟩ := px
      dsimp only at sv x0
      obtain ⟨rg, roff, hra, hc⟩ := sv.at (show k < sx.n by omega)
      subst hra
      have d0 : wr.cell? ⟨rg, roff + k * 8, none⟩ = some (.bool (sx.R k).mute) := hc 0 (by omega)
      have d1 : wr.cell? ⟨rg, roff + k * 8 + 1, none⟩ = some (.int .i64 (sx.R k).nc) := hc 1 (by omega)
      clear hc sv XS RV hlt hq
      cases hmu : (sx.R k).mute with
      | true =>
       rw [hmu] at d0
       go_wp2
       go_ret
       exact ⟨rfl, BB.out⟩
      | false =>
       rw [hmu] at d0
       have hL : L ≤ (sx.R k).nc := by
        rcases hh with z | z
        ·rw [hmu] at z; cases z
        ·exact z
       go_wp2
       go_ret
       exact ⟨rfl, BB.out⟩
end Go.Proofs.Ytedncfcmhaaobaa
