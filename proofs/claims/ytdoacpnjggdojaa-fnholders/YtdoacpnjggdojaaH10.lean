/-
  The quorum: what the laws need of a run's answer: it reads as a service; how many hold.
-/
import Derived.Test.YtdoacpnjggdojaaH08
import Derived.Test.YtdoacpnjggdojaaQuJ
import Derived.Test.YtdoacpnjggdojaaSvcTs
import Derived.Test.YtdoacpnjggdojaaAtIs
import Derived.Test.YtdoacpnjggdojaaH09
import Derived.Test.YtdoacpnjggdojaaIntK
import Derived.Deep.Cut
namespace Go.Proofs.Ytdoacpnjggdojaa
open Go.ChangeShapes Go.WideShapes Go.ChangeAt Go.RowKit
set_option linter.unusedVariables false
def slA : Value → Option Addr
  | .slice a _ _ => a
  | _ => none
def slX : Value → Nat
  | .slice _ _ c => c
  | _ => 0
theorem SvO.v {w : World} {B : Nat} {s : Sv} {vr vw vq : Value} {VR VW VQ : Nat → Value} (h : SvO w B s vr vw vq VR VW VQ) : ∃ p : Sa, vr = .slice p.a s.n p.ca ∧ vw = .slice p.b s.m p.cb ∧ vq = .slice p.d s.l p.cd ∧ SvV w s p := by
  obtain ⟨ra, rc, rfl⟩ := h.r.form
  obtain ⟨wa, wc, rfl⟩ := h.x.form
  obtain ⟨qa, qc, rfl⟩ := h.q.form
  have fe : ∀ i, i < s.n → VR i = .slice (slA (VR i)) (s.R i).ne (slX (VR i)) := fun i hi => by
    obtain ⟨a, c, e⟩ := EO.form (h.e i hi)
    rw [e]
    rfl
  have fa : ∀ i, i < s.m → VW i = .slice (slA (VW i)) (s.W i).ne (slX (VW i)) := fun i hi => by
    obtain ⟨a, c, e⟩ := EO.form (h.a i hi)
    rw [e]
    rfl
  have ff : ∀ i, i < s.l → VQ i = .slice (slA (VQ i)) (s.Q i).ne (slX (VQ i)) := fun i hi => by
    obtain ⟨a, c, e⟩ := EO.form (h.f i hi)
    rw [e]
    rfl
  refine ⟨⟨ra, wa, qa, fun i => slA (VR i), fun i => slA (VW i), fun i => slA (VQ i), fun i => slX (VR i), fun i => slX (VW i), fun i => slX (VQ i), rc, wc, qc⟩, rfl, rfl, rfl, ⟨h.r.els.congr (fun i hi j hj => ?_), fun i hi => ?_⟩, ⟨h.x.els.congr (fun i hi j hj => ?_), fun i hi => ?_⟩, ⟨h.q.els.congr (fun i hi j hj => ?_), fun i hi => ?_⟩⟩
  · unfold rpF
    exact congrArg (fun v => rpV _ v j) (fe i hi)
  · have := h.e i hi
    rw [fe i hi] at this
    exact IE.num this
  · unfold woF
    exact congrArg (fun v => woV _ v j) (fa i hi)
  · have := h.a i hi
    rw [fa i hi] at this
    exact IE.num this
  · unfold roF
    exact congrArg (fun v => roV _ v j) (ff i hi)
  · have := h.f i hi
    rw [ff i hi] at this
    exact IE.num this
theorem Sv.Ok.mx {s : Sv} (h : s.Ok) : s.max 1048576 := by
  have n7 := h.1.1.2
  refine ⟨⟨by omega, fun i hi => ?_⟩, ⟨by have := h.1.2.2.1; omega, fun i hi => ?_⟩, by have := h.1.2.2.2; omega, fun i hi => ?_⟩
  · have := ids_le (h.2.2.1 i hi).2.1; omega
  · have := ids_le (h.2.1 i hi).2.2.2.1; omega
  · have := ids_le (h.2.2.2 i hi).2.1; omega
theorem HoIs.cnt {s : Sv} {c : Int} {q n : Nat} {C : Nat → Int} (h : HoIs s c q n C) : n = cnt (Hold s c) q := by
  induction h with
  | zero => rfl
  | yes h1 h2 ih =>
    show _ = Go.Proofs.Ytdoacpnjggdojaa.cnt _ _ + _
    rw [if_pos h2, ← ih]
  | no h1 h2 ih =>
    show _ = Go.Proofs.Ytdoacpnjggdojaa.cnt _ _ + _
    rw [if_neg h2, ← ih]; rfl
theorem cnt_le (p : Nat → Prop) : ∀ q, cnt p q ≤ q
  | 0 => Nat.le_refl _
  | q + 1 => by
    have := cnt_le p q
    unfold cnt
    split <;> omega
/-- Some number below n is handed back. -/
def SomeQ (n : Nat) (e : Ending) : Prop := ∃ r : Nat, r < n ∧ e = .returned (.int .i64 (r : Int))
theorem at_q (a : Option Addr) (len cap : Nat) (zs : List Int) (w : World) (hr : IsRow .u8 w a len cap zs) (i n : Nat) (hi' : i ≤ 100000) (hn : 1 ≤ n) (hn' : n ≤ 100000) :
    Calls Try.prog 8 #[.slice a len cap, .int .i64 (i : Int), .int .i64 (n : Int)] w fun e w' => SomeQ n e ∧ Below w.heap.size w w' := by
  by_cases h1 : n = 1
  · subst h1
    clear hr
    go_enter Try.func8, Try.ntmps8
    go_wp2
    go_ret
    exact ⟨⟨0, by omega, rfl⟩, Below.refl _ _⟩
  · exact (at_is a len cap zs w hr i n hi' (by omega) hn').mono fun e w' h => ⟨⟨_, atN_lt len zs i n (by omega), h.1⟩, by obtain ⟨q, rfl⟩ := h.2; exact below_dN w q⟩
/-- What was acknowledged last of the first q writes. -/
def LastQ (s : Sv) (q : Nat) (x : Int) : Prop := x = 0 ∨ ∃ i, i < q ∧ (s.W i).en ≠ -1 ∧ (s.W i).mc = x
theorem LastQ.yes {s : Sv} {q : Nat} (h : (s.W q).en ≠ -1) : LastQ s (q + 1) (s.W q).mc := .inr ⟨q, by omega, h, rfl⟩
theorem LastQ.no {s : Sv} {q : Nat} {x : Int} (h : LastQ s q x) : LastQ s (q + 1) x := by
  rcases h with h | ⟨i, hi, h1, h2⟩
  · exact .inl h
  · exact .inr ⟨i, by omega, h1, h2⟩
end Go.Proofs.Ytdoacpnjggdojaa

/-
  The law FnHolders.
-/
namespace Go.Proofs.Ytdoacpnjggdojaa
open Go.ChangeShapes Go.WideShapes Go.ChangeAt Go.RowKit
set_option linter.unusedVariables false

set_option maxRecDepth 100000 in
set_option maxHeartbeats 8000000 in
theorem law_fnHolders (a0 a1 : Option Addr) (n0 c0 n1 c1 : Nat) (z0 z1 : List Int) (w : World) (h0 : IsRow .u8 w a0 n0 c0 z0) (h1 : IsRow .u8 w a1 n1 c1 z1) (m0 : n0 ≤ maxLen) (m1 : n1 ≤ maxLen) :
    Calls Try.prog 4 #[.slice a0 n0 c0, .slice a1 n1 c1] w fun e w' => e = .returned (.bool true) ∧ Below w.heap.size w w' := by
  obtain ⟨zz, hzz, hcode⟩ := code8_of_row h0
  have AT1 : Hid (Calls Try.prog 8 #[.slice a1 n1 c1, .int .i64 0, .int .i64 5] w fun e u' => SomeQ 5 e ∧ Below w.heap.size w u') := at_q _ _ _ _ _ h1 0 5 (by omega) (by omega) (by omega)
  have QA : Hid (∀ (n : Nat) (u : World), 1 ≤ n → n ≤ 7 → Below w.heap.size w u → Calls Try.prog 9 #[.slice a0 n0 c0, .int .i64 (n : Int)] u fun e w' => RetQs e w' ∧ Below u.heap.size u w') := fun n u h1 h2 hb => quActsOf_q n ⟨h1, h2⟩ a0 n0 c0 zz hzz m0 u (hcode.below hb)
  clear h0 h1 hzz hcode
  unfold maxLen at m0 m1
  by_cases g0 : 1048576 < n0
  · have g0' : decide (1048576 < (n0 : Int)) = true := by simp; omega
    go_enter Try.func4, Try.ntmps4
    go_wp2
    go_ret
    exact ⟨rfl, Below.refl _ _⟩
  have g0' : decide (1048576 < (n0 : Int)) = false := by simp; omega
  by_cases g1 : 1048576 < n1
  · have g1' : decide (1048576 < (n1 : Int)) = true := by simp; omega
    go_enter Try.func4, Try.ntmps4
    go_wp2
    go_ret
    exact ⟨rfl, Below.refl _ _⟩
  have g1' : decide (1048576 < (n1 : Int)) = false := by simp; omega
  go_enter Try.func4, Try.ntmps4
  go_wp2_with fail
  clear g0 g1 g0' g1' m0 m1
  refine AT1.out.mono ?_
  rintro e u1 ⟨⟨r, hr, rfl⟩, hb1⟩
  obtain ⟨n, hn⟩ : ∃ n : Nat, n = 1 + r := ⟨_, rfl⟩
  have e1 : 1 + (r : Int) = (n : Int) := by omega
  have e1w : IntKind.i64.wrap (n : Int) = (n : Int) := IntWalk.i64_in _ (by omega)
  have HN : Hid (1 ≤ n ∧ n ≤ 7) := ⟨by omega, by omega⟩
  have B1 : Hid (Below w.heap.size w u1) := hb1
  clear AT1 hb1 hr hn
  go_wp2_with fail
  refine (QA.out n _ HN.out.1 HN.out.2 B1.out).mono ?_
  rintro e u2 ⟨⟨m, R, aa, ac, hm, rfl, hsl, he⟩, hb⟩
  have B2 : Hid (Below w.heap.size w u2) := B1.out.trans (hb.mono B1.out.size)
  have RN : Hid (Calls Try.prog 10 #[.int .i64 (n : Int), .slice aa m ac] u2 fun e w' => RetRn u2.heap.size n m R e w' ∧ Below u2.heap.size u2 w') := implRun_q n aa m ac R HN.out hm u2 he
  clear hb hsl he hm B1 QA
  go_wp2_with fail
  refine RN.out.mono ?_
  rintro e u3 ⟨⟨s, C, vr, vw, vq, VR, VW, VQ, ca0, cc0, sb, rfl, hrun, ho, hd, hie, hnb⟩, hb⟩
  obtain ⟨⟨pa, pb, pd, PA, PB, PD, PX, PY, PZ, ca, cb, cd⟩, rfl, rfl, rfl, hv⟩ := ho.v
  dsimp only at hv ⊢
  have B3 : Hid (Below w.heap.size w u3) := B2.out.trans (hb.mono B2.out.size)
  have ok := (RunQ.ok (sNew_ok HN.out) hrun)
  have inv := RunQ.inv (sNew_ok HN.out) (SInv.zero (s := sNew n) rfl rfl) hrun
  have hsn : s.n = n := RunQ.n hrun
  have OK : Hid s.Ok := ok.1
  have IV : Hid (SInv s) := inv
  have HSN : Hid (s.n = n) := hsn
  have bA : Below u3.heap.size u3 (u3.alloc (.cells #[.slice pa s.n ca, .int .i64 s.t, .slice pb s.m cb, .slice pd s.l cd] 30)) := (Below.refl _ _).alloc (Nat.le_refl _) _
  have SV : Hid (SvV (u3.alloc (.cells #[.slice pa s.n ca, .int .i64 s.t, .slice pb s.m cb, .slice pd s.l cd] 30)) s ⟨pa, pb, pd, PA, PB, PD, PX, PY, PZ, ca, cb, cd⟩) := hv.below bA
  have XS : Hid (Box4 (u3.alloc (.cells #[.slice pa s.n ca, .int .i64 s.t, .slice pb s.m cb, .slice pd s.l cd] 30)) u3.heap.size 30 (.slice pa s.n ca) (.int .i64 s.t) (.slice pb s.m cb) (.slice pd s.l cd)) := Box4.madeAt rfl _ _ _ _ _
  have B4 : Hid (Below w.heap.size w (u3.alloc (.cells #[.slice pa s.n ca, .int .i64 s.t, .slice pb s.m cb, .slice pd s.l cd] 30))) := B3.out.trans (bA.mono B3.out.size)
  have QS : Hid (∀ w : World, Calls Try.prog 16 #[.int .i64 (n : Int)] w fun e w' => e = .returned (.tuple #[.int .i64 ((majN n : Nat) : Int), .int .i64 0]) ∧ w = w') := fun w => by
    have h := implQs_yes (n : Int) (by have := HN.out; omega) w
    rwa [show (n : Int) / 2 + 1 = ((majN n : Nat) : Int) by unfold majN; omega] at h
  have MJ : Hid (majN n ≤ 4 ∧ n < 2 * majN n ∧ majN n ≤ n) := by have := HN.out; unfold majN; exact ⟨by omega, by omega, by omega⟩
  obtain ⟨mj, hmj⟩ : ∃ x, x = majN n := ⟨_, rfl⟩
  have HMJ : Hid (mj = majN n) := hmj
  rw [← hmj] at QS MJ
  clear hb hrun ho hd hie hnb hv ok inv bA RN B2 B3 hsn hmj
  go_wp2_with fail
  generalize (u3.alloc (.cells #[.slice pa s.n ca, .int .i64 s.t, .slice pb s.m cb, .slice pd s.l cd] 30)) = u4 at *
  refine (QS.out _).mono ?_
  rintro e _ ⟨rfl, rfl⟩
  obtain ⟨sb0, hsb0⟩ : ∃ x, x = u3.heap.size := ⟨_, rfl⟩
  rw [← hsb0] at XS ⊢
  clear hsb0 QS
  have x0 := XS.out.c0
  have x2 := XS.out.c2
  have enn : ((s.n : Int) != (n : Int)) = false := by rw [HSN.out]; simp
  have m200 : s.m ≤ 200 := OK.out.1.2.2.1
  go_wp2
  go_loopw [11, 12] (fun l i wr => ∃ (q : Nat) (x : Int), q ≤ s.m ∧ i = .int .i64 (q : Int) ∧ l = .int .i64 x ∧ LastQ s q x ∧ wr = u4) (fun _ i _ => s.m - (intOf i).toNat)
  case atStart => exact ⟨0, 0, by omega, rfl, rfl, .inl rfl, rfl⟩
  case round =>
    obtain ⟨q, x, hq, rfl, rfl, hl, rfl⟩ := hrel
    by_cases hlt : q < s.m
    · have hlt' : (q : Int) < (s.m : Int) := by omega
      obtain ⟨wb, woff, hwa, hc⟩ := SV.out.2.1.at hlt
      dsimp only at hwa
      subst hwa
      have d0 : wr.cell? ⟨wb, woff + q * 5, none⟩ = some (.int .i64 (s.W q).mc) := hc 0 (by omega)
      have d4 : wr.cell? ⟨wb, woff + q * 5 + 4, none⟩ = some (.int .i64 (s.W q).en) := hc 4 (by omega)
      have tm := (OK.out.2.1 q hlt).2.2.2.2
      have HL : Hid (LastQ s q x ∧ q < s.m) := ⟨hl, hlt⟩
      clear hc hl hlt hq
      by_cases hen : 0 ≤ (s.W q).en
      · have HY : Hid (LastQ s (q + 1) (s.W q).mc) := LastQ.yes (by omega)
        clear tm
        go_wp2
        go_roundw
        case rel => exact ⟨q + 1, _, by have := HL.out; omega, by go_num, rfl, HY.out, trivial⟩
        case measure => have := HL.out; simp [intOf]; omega
      · clear tm
        go_wp2
        go_roundw
        case rel => exact ⟨q + 1, _, by have := HL.out; omega, by go_num, rfl, HL.out.1.no, trivial⟩
        case measure => have := HL.out; simp [intOf]; omega
    · obtain rfl : s.m = q := by omega
      have hlt' : ¬ (s.m : Int) < (s.m : Int) := by omega
      have x1 := XS.out.c1
      have x3 := XS.out.c3
      have HL : Hid (LastQ s s.m x) := hl
      have HI : Hid (∀ u : World, SvV u s ⟨pa, pb, pd, PA, PB, PD, PX, PY, PZ, ca, cb, cd⟩ → Calls Try.prog 17 #[.agg #[.slice pa s.n ca, .int .i64 s.t, .slice pb s.m cb, .slice pd s.l cd], .int .i64 x] u fun e w' => RetHc s x u.heap.size e w' ∧ Below u.heap.size u w') := fun u hu => implHo_v s ⟨pa, pb, pd, PA, PB, PD, PX, PY, PZ, ca, cb, cd⟩ x OK.out.mx u hu
      have HS : Hid (∀ u : World, SvV u s ⟨pa, pb, pd, PA, PB, PD, PX, PY, PZ, ca, cb, cd⟩ → Calls Try.prog 18 #[.agg #[.slice pa s.n ca, .int .i64 s.t, .slice pb s.m cb, .slice pd s.l cd], .int .i64 x] u fun e w' => RetHc s x u.heap.size e w' ∧ Below u.heap.size u w') := fun u hu => specHo_v s ⟨pa, pb, pd, PA, PB, PD, PX, PY, PZ, ca, cb, cd⟩ x OK.out.mx u hu
      clear hl hlt hq
      go_wp2_with fail
      refine (HI.out _ SV.out).mono ?_
      rintro e u5 ⟨⟨ha, hn, hk, HC, code, rfl, hcase, hie⟩, hb5⟩
      have B5 : Hid (Below w.heap.size w u5) := B4.out.trans (hb5.mono B4.out.size)
      have S5 : Hid (SvV u5 s ⟨pa, pb, pd, PA, PB, PD, PX, PY, PZ, ca, cb, cd⟩) := SV.out.below hb5
      have X5 : Hid (Box4 u5 sb0 30 (.slice pa s.n ca) (.int .i64 s.t) (.slice pb s.m cb) (.slice pd s.l cd)) := XS.out.below hb5
      have CS : Hid (HoCase s x hn HC code) := hcase
      have I5 : Hid (Num u5 ha hn HC) := IE.num hie
      clear hb5 hcase hie HI SV XS B4 x0 x1 x2 x3
      have x0 := X5.out.c0
      have x1 := X5.out.c1
      have x2 := X5.out.c2
      have x3 := X5.out.c3
      go_wp2_with fail
      refine (HS.out _ S5.out).mono ?_
      rintro e u6 ⟨⟨ga, gn, gk, GC, code2, rfl, hcase, hie⟩, hb6⟩
      have B6 : Hid (Below w.heap.size w u6) := B5.out.trans (hb6.mono B5.out.size)
      have S6 : Hid (SvV u6 s ⟨pa, pb, pd, PA, PB, PD, PX, PY, PZ, ca, cb, cd⟩) := S5.out.below hb6
      have X6 : Hid (Box4 u6 sb0 30 (.slice pa s.n ca) (.int .i64 s.t) (.slice pb s.m cb) (.slice pd s.l cd)) := X5.out.below hb6
      have I6 : Hid (Num u6 ha hn HC) := I5.out.below hb6
      obtain ⟨u1, u2, u3, u4⟩ := HoCase.uniq CS.out hcase
      subst u1
      subst u2
      have SI : Hid (Calls Try.prog 14 #[.slice ha hn hk, .slice ga hn gk] u6 fun e w' => e = .returned (.bool true) ∧ ∃ q, w' = u6.drewN q) := sameInts_yes ha ga hn hk gk HC GC u6 I6.out.ints (IE.num hie).ints u4 (by omega)
      have CN : Hid (code = 0 ∧ hn = cnt (Hold s x) s.n ∧ hn ≤ 7) := by
        rcases CS.out with ⟨z, _⟩ | ⟨_, h7, hc, hh⟩
        · exact absurd OK.out z
        · exact ⟨hc, hh.cnt, h7⟩
      have FIN : Hid (cnt (fun i => (s.R i).mute = false) s.n + mj ≤ hn + s.n) := by
        have h9 := SInv.holders IV.out OK.out (x := x) HL.out
        rw [← CN.out.2.1, HSN.out, ← HMJ.out] at h9
        rw [HSN.out]
        exact h9
      obtain rfl := CN.out.1
      clear hb6 hcase hie HS S5 X5 B5 x0 x1 x2 x3 I5 u3 u4 CS HL
      have x0 := X6.out.c0
      go_wp2
      go_loopw [17, 18] (fun sp i wr => ∃ q : Nat, q ≤ n ∧ i = .int .i64 (q : Int) ∧ sp = .int .i64 ((cnt (fun i => (s.R i).mute = false) q : Nat) : Int) ∧ wr = u6) (fun _ i _ => n - (intOf i).toNat)
      case atStart => exact ⟨0, by omega, rfl, rfl, rfl⟩
      case round =>
        obtain ⟨q, hq, rfl, rfl, rfl⟩ := hrel
        have n7 : n ≤ 7 := HN.out.2
        obtain ⟨sp, hsp⟩ : ∃ sp, sp = cnt (fun i => (s.R i).mute = false) q := ⟨_, rfl⟩
        rw [← hsp]
        have spq : sp ≤ q := by rw [hsp]; exact cnt_le _ q
        by_cases hlt : q < n
        · have hlt' : (q : Int) < (n : Int) := by omega
          obtain ⟨wb, woff, hwa, hc⟩ := S6.out.1.at (k := q) (by rw [HSN.out]; exact hlt)
          dsimp only at hwa
          subst hwa
          have d0 : wr.cell? ⟨wb, woff + q * 8, none⟩ = some (.bool (s.R q).mute) := hc 0 (by omega)
          have hqn : (q : Int) < (s.n : Int) := by rw [HSN.out]; omega
          have HL : Hid (q < n ∧ sp = cnt (fun i => (s.R i).mute = false) q) := ⟨hlt, hsp⟩
          clear hc hlt hq hsp
          cases hu : (s.R q).mute with
          | true =>
            rw [hu] at d0
            have HE : Hid (sp = cnt (fun i => (s.R i).mute = false) (q + 1)) := by
              show sp = cnt _ q + _
              rw [if_neg (by show ¬ (s.R q).mute = false; rw [hu]; simp), ← HL.out.2]; rfl
            clear hu
            go_wp2
            go_roundw
            case rel => exact ⟨q + 1, by have := HL.out; omega, by go_num, by rw [HE.out], trivial⟩
            case measure => have := HL.out; simp [intOf]; omega
          | false =>
            rw [hu] at d0
            have HE : Hid (sp + 1 = cnt (fun i => (s.R i).mute = false) (q + 1)) := by
              show sp + 1 = cnt _ q + _
              rw [if_pos hu, ← HL.out.2]
            have es : (sp : Int) ≤ 7 := by have := HL.out.1; omega
            clear hu
            go_wp2
            go_roundw
            case rel => exact ⟨q + 1, by have := HL.out; omega, by go_num, by rw [← HE.out]; go_num, trivial⟩
            case measure => have := HL.out; simp [intOf]; omega
        · obtain rfl : n = q := by omega
          have hlt' : ¬ (n : Int) < (n : Int) := by omega
          have F := FIN.out
          rw [HSN.out, ← hsp] at F
          have MM := MJ.out
          have hn7 := CN.out.2.2
          obtain ⟨df, hdf⟩ : ∃ df : Int, df = (sp : Int) - (hn : Int) := ⟨_, rfl⟩
          obtain ⟨dg, hdg⟩ : ∃ dg : Int, dg = (n : Int) - (mj : Int) := ⟨_, rfl⟩
          have f1 : (sp : Int) - (hn : Int) = df := hdf.symm
          have f2 : IntKind.i64.wrap df = df := IntWalk.i64_in _ (by omega)
          have f3 : (n : Int) - (mj : Int) = dg := hdg.symm
          have f4 : IntKind.i64.wrap dg = dg := IntWalk.i64_in _ (by omega)
          have f5 : df < (mj : Int) := by omega
          have f6 : df ≤ dg := by omega
          clear F MM hn7 hdf hdg hsp spq n7 hlt hq
          go_wp2_with fail
          refine SI.out.mono ?_
          rintro e u7 ⟨rfl, qq, hu7⟩
          have B7 : Hid (Below w.heap.size w u7) := by rw [hu7]; exact B6.out.trans ((below_dN _ _).mono B6.out.size)
          clear hu7 SI
          go_wp2
          go_ret
          exact ⟨rfl, B7.out⟩
end Go.Proofs.Ytdoacpnjggdojaa
