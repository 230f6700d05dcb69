/-
  Texts of the proof, joined: LawFnFreshReads.
-/
import Derived.Test.YtdoacpnjggdojaaR40
import Derived.Test.YtdoacpnjggdojaaR42
import Derived.Test.YtdoacpnjggdojaaR10
import Derived.Test.YtdoacpnjggdojaaR52
import Derived.Test.YtdoacpnjggdojaaR53
import Derived.Deep.DeepCutAuto
namespace Go.Proofs.Ytdoacpnjggdojaa
open Go.ChangeShapes Go.WideShapes Go.ChangeAt Go.RowKit
set_option linter.unusedVariables false
set_option maxRecDepth 100000 in
set_option maxHeartbeats 8000000 in
theorem law_fnFreshReads (a0 a1 : Option Addr) (n0 c0 n1 c1 : Nat) (z0 z1 : List Int) (w : World) (h0 : IsRow .u8 w a0 n0 c0 z0) (h1 : IsRow .u8 w a1 n1 c1 z1) (m0 : n0 ≤ maxLen) (m1 : n1 ≤ maxLen) :
  Calls Try.prog 3 #[.slice a0 n0 c0, .slice a1 n1 c1] w fun e w' => e = .returned (.bool true) ∧ Below w.heap.size w w' := by
 obtain ⟨zz, hzz, hcode⟩ := code8_of_row h0
 have AT1 : Hid (Calls Try.prog 8 #[.slice a1 n1 c1, .int .i64 0, .int .i64 5] w fun e u' => SomeQ 5 e ∧ Below w.heap.size w u') := at_q _ _ _ _ _ h1 0 5 (by omega) (by omega) (by omega)
 have QA : Hid (∀ (n : Nat) (u : World), 1 ≤ n → n ≤ 7 → Below w.heap.size w u → Calls Try.prog 9 #[.slice a0 n0 c0, .int .i64 (n : Int)] u fun e w' => RetQs e w' ∧ Below u.heap.size u w') := fun n u h1 h2 hb => quActsOf_q n ⟨h1, h2⟩ a0 n0 c0 zz hzz m0 u (hcode.below hb)
 clear h0 h1 hzz hcode
 unfold maxLen at m0 m1
 by_cases g0 : 1048576 < n0
 ·have g0' : decide (1048576 < (n0 : Int)) = true := by simp; omega
  go_enter Try.func3, Try.ntmps3
  go_wp2
  go_ret
  exact ⟨rfl, Below.refl _ _⟩
 have g0' : decide (1048576 < (n0 : Int)) = false := by simp; omega
 by_cases g1 : 1048576 < n1
 ·have g1' : decide (1048576 < (n1 : Int)) = true := by simp; omega
  go_enter Try.func3, Try.ntmps3
  go_wp2
  go_ret
  exact ⟨rfl, Below.refl _ _⟩
 have g1' : decide (1048576 < (n1 : Int)) = false := by simp; omega
 go_enter Try.func3, Try.ntmps3
 go_wp2_with fail
 clear g0 g1 g0' g1' m0 m1
 refine AT1.out.mono ?_
 rintro e u1 ⟨⟨r, hr, rfl⟩, hb1⟩
 obtain ⟨n, hn⟩ : ∃ n : Nat, n = 1 + r := ⟨_, rfl⟩
 have e1 : 1 + (r : Int) = (n : Int) := by omega
 have e1w : IntKind.i64.wrap (n : Int) = (n : Int) := IntWalk.i64_in _ (by omega)
 have HN : Hid (1 ≤ n ∧ n ≤ 7) := ⟨by omega, by omega⟩
 have BB : Hid (Below w.heap.size w u1) := hb1
 clear AT1 hb1 hr hn
 go_wp2_with fail
 refine (QA.out n _ HN.out.1 HN.out.2 BB.out).mono ?_
 rintro e u2 ⟨⟨m, R, aa, ac, hm, rfl, hsl, he⟩, hb⟩
 replace BB : Hid (Below w.heap.size w u2) := BB.out.trans (hb.mono BB.out.size)
 have RN : Hid (Calls Try.prog 10 #[.int .i64 (n : Int), .slice aa m ac] u2 fun e w' => RetRn u2.heap.size n m R e w' ∧ Below u2.heap.size u2 w') := implRun_q n aa m ac R HN.out hm u2 he
 have SN : Hid (∀ u : World, Below u2.heap.size u2 u → Calls Try.prog 11 #[.int .i64 (n : Int), .slice aa m ac] u fun e w' => RetRn u.heap.size n m R e w' ∧ Below u.heap.size u w') := fun u hu => specRun_q n aa m ac R HN.out hm u (he.below hu)
 have M2 : Hid (m ≤ 200) := hm
 clear hb hsl he hm QA
 go_wp2_with fail
 refine RN.out.mono ?_
 rintro e u3 ⟨⟨s, C, vr, vw, vq, VR, VW, VQ, ca0, cc0, sb, rfl, hrun, ho, hd, hie, hnb⟩, hb⟩
 obtain ⟨⟨pa, pb, pd, PA, PB, PD, PX, PY, PZ, ca, cb, cd⟩, rfl, rfl, rfl, hv⟩ := ho.v
 dsimp only at hv ⊢
 have ok := (RunQ.ok (sNew_ok HN.out) hrun)
 have inv := RunQ.inv (sNew_ok HN.out) (SInv.zero (s := sNew n) rfl rfl) hrun
 have OK : Hid s.Ok := ok.1
 have IV : Hid (SInv s) := inv
 have RU : Hid (RunQ R (sNew n) C m s) := hrun
 have bA : Below u3.heap.size u3 (u3.alloc (.cells #[.slice pa s.n ca, .int .i64 s.t, .slice pb s.m cb, .slice pd s.l cd] 30)) := (Below.refl _ _).alloc (Nat.le_refl _) _
 have BU : Hid (Below u2.heap.size u2 (u3.alloc (.cells #[.slice pa s.n ca, .int .i64 s.t, .slice pb s.m cb, .slice pd s.l cd] 30))) := hb.trans (bA.mono hb.size)
 have SV : Hid (SvV (u3.alloc (.cells #[.slice pa s.n ca, .int .i64 s.t, .slice pb s.m cb, .slice pd s.l cd] 30)) s ⟨pa, pb, pd, PA, PB, PD, PX, PY, PZ, ca, cb, cd⟩) := hv.below bA
 have XS : Hid (Box4 (u3.alloc (.cells #[.slice pa s.n ca, .int .i64 s.t, .slice pb s.m cb, .slice pd s.l cd] 30)) u3.heap.size 30 (.slice pa s.n ca) (.int .i64 s.t) (.slice pb s.m cb) (.slice pd s.l cd)) := Box4.madeAt rfl _ _ _ _ _
 have IC : Hid (Num (u3.alloc (.cells #[.slice pa s.n ca, .int .i64 s.t, .slice pb s.m cb, .slice pd s.l cd] 30)) ca0 m C) := (IE.num hie).below bA
 replace BB : Hid (Below w.heap.size w (u3.alloc (.cells #[.slice pa s.n ca, .int .i64 s.t, .slice pb s.m cb, .slice pd s.l cd] 30))) := BB.out.trans (BU.out.mono BB.out.size)
 clear hb hrun ho hd hie hnb hv ok inv bA RN
 go_wp2_with fail
 obtain ⟨sb0, hsb0⟩ : ∃ x, x = u3.heap.size := ⟨_, rfl⟩
 generalize (u3.alloc (.cells #[.slice pa s.n ca, .int .i64 s.t, .slice pb s.m cb, .slice pd s.l cd] 30)) = u4 at *
 rw [← hsb0] at XS ⊢
 clear hsb0
 refine (SN.out _ BU.out).mono ?_
 rintro e u5 ⟨⟨s', D, vr', vw', vq', VR', VW', VQ', da, dc, sb', rfl, hrun', ho', hd', hie', hnb'⟩, hb5⟩
 obtain ⟨es, ec⟩ := RunQ.uniq RU.out hrun' (fun _ _ => rfl)
 subst es
 obtain ⟨⟨qa, qb, qd, EA, EB, ED, EX, EY, EZ, ka, kb, kd⟩, rfl, rfl, rfl, hv'⟩ := ho'.v
 dsimp only at hv' ⊢
 have bB : Below u5.heap.size u5 (u5.alloc (.cells #[.slice qa s.n ka, .int .i64 s.t, .slice qb s.m kb, .slice qd s.l kd] 30)) := (Below.refl _ _).alloc (Nat.le_refl _) _
 have hb6 : Below u4.heap.size u4 (u5.alloc (.cells #[.slice qa s.n ka, .int .i64 s.t, .slice qb s.m kb, .slice qd s.l kd] 30)) := hb5.trans (bB.mono hb5.size)
 have SW : Hid (SvV (u5.alloc (.cells #[.slice qa s.n ka, .int .i64 s.t, .slice qb s.m kb, .slice qd s.l kd] 30)) s ⟨qa, qb, qd, EA, EB, ED, EX, EY, EZ, ka, kb, kd⟩) := hv'.below bB
 have XW : Hid (Box4 (u5.alloc (.cells #[.slice qa s.n ka, .int .i64 s.t, .slice qb s.m kb, .slice qd s.l kd] 30)) u5.heap.size 30 (.slice qa s.n ka) (.int .i64 s.t) (.slice qb s.m kb) (.slice qd s.l kd)) := Box4.madeAt rfl _ _ _ _ _
 have ID : Hid (Num (u5.alloc (.cells #[.slice qa s.n ka, .int .i64 s.t, .slice qb s.m kb, .slice qd s.l kd] 30)) da m D) := (IE.num hie').below bB
 replace SV : Hid (SvV (u5.alloc (.cells #[.slice qa s.n ka, .int .i64 s.t, .slice qb s.m kb, .slice qd s.l kd] 30)) s ⟨pa, pb, pd, PA, PB, PD, PX, PY, PZ, ca, cb, cd⟩) := SV.out.below hb6
 replace XS : Hid (Box4 (u5.alloc (.cells #[.slice qa s.n ka, .int .i64 s.t, .slice qb s.m kb, .slice qd s.l kd] 30)) sb0 30 (.slice pa s.n ca) (.int .i64 s.t) (.slice pb s.m cb) (.slice pd s.l cd)) := XS.out.below hb6
 replace IC : Hid (Num (u5.alloc (.cells #[.slice qa s.n ka, .int .i64 s.t, .slice qb s.m kb, .slice qd s.l kd] 30)) ca0 m C) := IC.out.below hb6
 replace BB : Hid (Below w.heap.size w (u5.alloc (.cells #[.slice qa s.n ka, .int .i64 s.t, .slice qb s.m kb, .slice qd s.l kd] 30))) := BB.out.trans (hb6.mono BB.out.size)
 have DE : Hid (∀ i, i < m → C i = D i) := ec
 clear hb5 hrun' ho' hd' hie' hnb' hv' ec bB hb6 SN BU RU
 have x0 := XS.out.c0
 have x1 := XS.out.c1
 have x2 := XS.out.c2
 have x3 := XS.out.c3
 go_wp2_with fail
 obtain ⟨sb1, hsb1⟩ : ∃ x, x = u5.heap.size := ⟨_, rfl⟩
 generalize (u5.alloc (.cells #[.slice qa s.n ka, .int .i64 s.t, .slice qb s.m kb, .slice qd s.l kd] 30)) = u6 at *
 rw [← hsb1] at XW ⊢
 clear hsb1 x0 x1 x2 x3
 have FI : Hid (∀ u : World, SvV u s ⟨pa, pb, pd, PA, PB, PD, PX, PY, PZ, ca, cb, cd⟩ → Calls Try.prog 12 #[.agg #[.slice pa s.n ca, .int .i64 s.t, .slice pb s.m cb, .slice pd s.l cd]] u fun e w' => e = .returned (.tuple #[.bool true, .int .i64 0]) ∧ Below u.heap.size u w') := fun u hu => implFr_v s ⟨pa, pb, pd, PA, PB, PD, PX, PY, PZ, ca, cb, cd⟩ OK.out.mx true 0 (.inr ⟨OK.out, (sB_yes (IV.out.notStale OK.out)).symm, rfl⟩) u hu
 have FS : Hid (∀ u : World, SvV u s ⟨qa, qb, qd, EA, EB, ED, EX, EY, EZ, ka, kb, kd⟩ → Calls Try.prog 13 #[.agg #[.slice qa s.n ka, .int .i64 s.t, .slice qb s.m kb, .slice qd s.l kd]] u fun e w' => e = .returned (.tuple #[.bool true, .int .i64 0]) ∧ Below u.heap.size u w') := fun u hu => specFr_v s ⟨qa, qb, qd, EA, EB, ED, EX, EY, EZ, ka, kb, kd⟩ OK.out.mx true 0 (.inr ⟨OK.out, (sB_yes (IV.out.notStale OK.out)).symm, rfl⟩) u hu
 have IO : Hid (∀ u : World, SvV u s ⟨pa, pb, pd, PA, PB, PD, PX, PY, PZ, ca, cb, cd⟩ → Calls Try.prog 15 #[.agg #[.slice pa s.n ca, .int .i64 s.t, .slice pb s.m cb, .slice pd s.l cd]] u fun e w' => e = .returned (.bool true) ∧ Below u.heap.size u w') := fun u hu => implSvOK_v s ⟨pa, pb, pd, PA, PB, PD, PX, PY, PZ, ca, cb, cd⟩ OK.out.mx true (sB_yes OK.out).symm u hu
 refine (FI.out _ SV.out).mono ?_
 rintro e u7 ⟨rfl, hb7⟩
 replace SV : Hid (SvV u7 s ⟨pa, pb, pd, PA, PB, PD, PX, PY, PZ, ca, cb, cd⟩) := SV.out.below hb7
 replace SW : Hid (SvV u7 s ⟨qa, qb, qd, EA, EB, ED, EX, EY, EZ, ka, kb, kd⟩) := SW.out.below hb7
 replace XS : Hid (Box4 u7 sb0 30 (.slice pa s.n ca) (.int .i64 s.t) (.slice pb s.m cb) (.slice pd s.l cd)) := XS.out.below hb7
 replace XW : Hid (Box4 u7 sb1 30 (.slice qa s.n ka) (.int .i64 s.t) (.slice qb s.m kb) (.slice qd s.l kd)) := XW.out.below hb7
 replace IC : Hid (Num u7 ca0 m C) := IC.out.below hb7
 replace ID : Hid (Num u7 da m D) := ID.out.below hb7
 replace BB : Hid (Below w.heap.size w u7) := BB.out.trans (hb7.mono BB.out.size)
 clear hb7 FI
 have x0 := XW.out.c0
 have x1 := XW.out.c1
 have x2 := XW.out.c2
 have x3 := XW.out.c3
 go_wp2_with fail
 clear x0 x1 x2 x3
 refine (FS.out _ SW.out).mono ?_
 rintro e u8 ⟨rfl, hb8⟩
 replace SV : Hid (SvV u8 s ⟨pa, pb, pd, PA, PB, PD, PX, PY, PZ, ca, cb, cd⟩) := SV.out.below hb8
 replace SW : Hid (SvV u8 s ⟨qa, qb, qd, EA, EB, ED, EX, EY, EZ, ka, kb, kd⟩) := SW.out.below hb8
 replace XS : Hid (Box4 u8 sb0 30 (.slice pa s.n ca) (.int .i64 s.t) (.slice pb s.m cb) (.slice pd s.l cd)) := XS.out.below hb8
 replace XW : Hid (Box4 u8 sb1 30 (.slice qa s.n ka) (.int .i64 s.t) (.slice qb s.m kb) (.slice qd s.l kd)) := XW.out.below hb8
 replace IC : Hid (Num u8 ca0 m C) := IC.out.below hb8
 replace ID : Hid (Num u8 da m D) := ID.out.below hb8
 replace BB : Hid (Below w.heap.size w u8) := BB.out.trans (hb8.mono BB.out.size)
 clear hb8 FS
 have x0 := XS.out.c0
 have x1 := XS.out.c1
 have x2 := XS.out.c2
 have x3 := XS.out.c3
 go_wp2_with fail
 clear x0 x1 x2 x3
 have SI : Hid (Calls Try.prog 14 #[.slice ca0 m cc0, .slice da m dc] u8 fun e w' => e = .returned (.bool true) ∧ ∃ q, w' = u8.drewN q) := sameInts_yes ca0 da m cc0 dc C D u8 IC.out.ints ID.out.ints DE.out (by have := M2.out; omega)
 refine SI.out.mono ?_
 rintro e u9 ⟨rfl, qq, hu9⟩
 have hb9 : Below u8.heap.size u8 u9 := by rw [hu9]; exact below_dN _ _
 replace SV : Hid (SvV u9 s ⟨pa, pb, pd, PA, PB, PD, PX, PY, PZ, ca, cb, cd⟩) := SV.out.below hb9
 replace SW : Hid (SvV u9 s ⟨qa, qb, qd, EA, EB, ED, EX, EY, EZ, ka, kb, kd⟩) := SW.out.below hb9
 replace XS : Hid (Box4 u9 sb0 30 (.slice pa s.n ca) (.int .i64 s.t) (.slice pb s.m cb) (.slice pd s.l cd)) := XS.out.below hb9
 replace XW : Hid (Box4 u9 sb1 30 (.slice qa s.n ka) (.int .i64 s.t) (.slice qb s.m kb) (.slice qd s.l kd)) := XW.out.below hb9
 replace IC : Hid (Num u9 ca0 m C) := IC.out.below hb9
 replace ID : Hid (Num u9 da m D) := ID.out.below hb9
 replace BB : Hid (Below w.heap.size w u9) := BB.out.trans (hb9.mono BB.out.size)
 clear hb9 hu9 SI IC ID DE
 have x0 := XS.out.c0
 have x1 := XS.out.c1
 have x2 := XS.out.c2
 have x3 := XS.out.c3
 go_wp2_with fail
 clear x0 x1 x2 x3
 refine (IO.out _ SV.out).mono ?_
 rintro e ua ⟨rfl, hba⟩
 replace SV : Hid (SvV ua s ⟨pa, pb, pd, PA, PB, PD, PX, PY, PZ, ca, cb, cd⟩) := SV.out.below hba
 replace SW : Hid (SvV ua s ⟨qa, qb, qd, EA, EB, ED, EX, EY, EZ, ka, kb, kd⟩) := SW.out.below hba
 replace XS : Hid (Box4 ua sb0 30 (.slice pa s.n ca) (.int .i64 s.t) (.slice pb s.m cb) (.slice pd s.l cd)) := XS.out.below hba
 replace XW : Hid (Box4 ua sb1 30 (.slice qa s.n ka) (.int .i64 s.t) (.slice qb s.m kb) (.slice qd s.l kd)) := XW.out.below hba
 replace BB : Hid (Below w.heap.size w ua) := BB.out.trans (hba.mono BB.out.size)
 clear hba IO M2
 have x3 := XS.out.c3
 have w3 := XW.out.c3
 have ll : ((s.l : Int) != (s.l : Int)) = false := by simp
 go_wp2
 clear x3 w3 ll
 go_loopw [17] (fun i wr => ∃ q : Nat, q ≤ s.l ∧ i = .int .i64 (q : Int) ∧ Below ua.heap.size ua wr) (fun i _ => s.l - (intOf i).toNat)
 case atStart => exact ⟨0, by omega, rfl, Below.refl _ _⟩
 case round =>
  obtain ⟨q, hq, rfl, hbr⟩ := hrel
  replace SV : Hid (SvV wr s ⟨pa, pb, pd, PA, PB, PD, PX, PY, PZ, ca, cb, cd⟩) := SV.out.below hbr
  replace SW : Hid (SvV wr s ⟨qa, qb, qd, EA, EB, ED, EX, EY, EZ, ka, kb, kd⟩) := SW.out.below hbr
  replace XS : Hid (Box4 wr sb0 30 (.slice pa s.n ca) (.int .i64 s.t) (.slice pb s.m cb) (.slice pd s.l cd)) := XS.out.below hbr
  replace XW : Hid (Box4 wr sb1 30 (.slice qa s.n ka) (.int .i64 s.t) (.slice qb s.m kb) (.slice qd s.l kd)) := XW.out.below hbr
  replace BB : Hid (Below w.heap.size w wr) := BB.out.trans (hbr.mono BB.out.size)
  have BR : Hid (Below ua.heap.size ua wr) := hbr
  clear hbr
  have x3 := XS.out.c3
  have l200 : s.l ≤ 200 := OK.out.1.2.2.2
  by_cases hlt : q < s.l
  ·have hlt' : (q : Int) < (s.l : Int) := by omega
   have hq0 : (0 : Int) ≤ (q : Int) := by omega
   obtain ⟨rg, roff, hra, hc⟩ := SV.out.2.2.at hlt
   dsimp only at hra
   obtain ⟨mg, moff, hma, mc⟩ := SW.out.2.2.at hlt
   dsimp only at hma
   subst hra hma
   have d0 : wr.cell? ⟨rg, roff + q * 5, none⟩ = some (.slice (PD q) (s.Q q).ne (PZ q)) := hc 0 (by omega)
   have d1 : wr.cell? ⟨rg, roff + q * 5 + 1, none⟩ = some (.int .i64 (s.Q q).bc) := hc 1 (by omega)
   have d2 : wr.cell? ⟨rg, roff + q * 5 + 2, none⟩ = some (.int .i64 (s.Q q).bt) := hc 2 (by omega)
   have d3 : wr.cell? ⟨rg, roff + q * 5 + 3, none⟩ = some (.int .i64 (s.Q q).bg) := hc 3 (by omega)
   have d4 : wr.cell? ⟨rg, roff + q * 5 + 4, none⟩ = some (.int .i64 (s.Q q).en) := hc 4 (by omega)
   have hbY : Below wr.heap.size wr (wr.alloc (.cells #[.slice (PD q) (s.Q q).ne (PZ q), .int .i64 (s.Q q).bc, .int .i64 (s.Q q).bt, .int .i64 (s.Q q).bg, .int .i64 (s.Q q).en] 41)) := (Below.refl _ _).alloc (Nat.le_refl _) _
   obtain ⟨rb, hrb⟩ : ∃ x, x = wr.heap.size := ⟨_, rfl⟩
   have MF : Hid ((wr.alloc (.cells #[.slice (PD q) (s.Q q).ne (PZ q), .int .i64 (s.Q q).bc, .int .i64 (s.Q q).bt, .int .i64 (s.Q q).bg, .int .i64 (s.Q q).en] 41)).cell? ⟨mg, moff + q * 5 + 1, none⟩ = some (.int .i64 (s.Q q).bc) ∧ (wr.alloc (.cells #[.slice (PD q) (s.Q q).ne (PZ q), .int .i64 (s.Q q).bc, .int .i64 (s.Q q).bt, .int .i64 (s.Q q).bg, .int .i64 (s.Q q).en] 41)).cell? ⟨mg, moff + q * 5 + 2, none⟩ = some (.int .i64 (s.Q q).bt) ∧ (wr.alloc (.cells #[.slice (PD q) (s.Q q).ne (PZ q), .int .i64 (s.Q q).bc, .int .i64 (s.Q q).bt, .int .i64 (s.Q q).bg, .int .i64 (s.Q q).en] 41)).cell? ⟨mg, moff + q * 5 + 4, none⟩ = some (.int .i64 (s.Q q).en)) := by
    have k : ∀ {p : Nat} {x : Value}, wr.cell? ⟨mg, p, none⟩ = some x → (wr.alloc (.cells #[.slice (PD q) (s.Q q).ne (PZ q), .int .i64 (s.Q q).bc, .int .i64 (s.Q q).bt, .int .i64 (s.Q q).bg, .int .i64 (s.Q q).en] 41)).cell? ⟨mg, p, none⟩ = some x := fun e => (hbY.cell (strBlock e)).trans e
    exact ⟨k (mc 1 (by omega)), k (mc 2 (by omega)), k (mc 4 (by omega))⟩
   have RC : Hid (∀ u : World, Below (wr.alloc (.cells #[.slice (PD q) (s.Q q).ne (PZ q), .int .i64 (s.Q q).bc, .int .i64 (s.Q q).bt, .int .i64 (s.Q q).bg, .int .i64 (s.Q q).en] 41)).heap.size (wr.alloc (.cells #[.slice (PD q) (s.Q q).ne (PZ q), .int .i64 (s.Q q).bc, .int .i64 (s.Q q).bt, .int .i64 (s.Q q).bg, .int .i64 (s.Q q).en] 41)) u → u.cell? ⟨rb, 1, none⟩ = some (.int .i64 (s.Q q).bc) ∧ u.cell? ⟨rb, 2, none⟩ = some (.int .i64 (s.Q q).bt) ∧ u.cell? ⟨rb, 3, none⟩ = some (.int .i64 (s.Q q).bg) ∧ u.cell? ⟨rb, 4, none⟩ = some (.int .i64 (s.Q q).en)) := fun u hu => by
    have k : ∀ {p : Nat} {x : Value}, (wr.alloc (.cells #[.slice (PD q) (s.Q q).ne (PZ q), .int .i64 (s.Q q).bc, .int .i64 (s.Q q).bt, .int .i64 (s.Q q).bg, .int .i64 (s.Q q).en] 41)).cell? ⟨rb, p, none⟩ = some x → u.cell? ⟨rb, p, none⟩ = some x := fun e => (hu.cell (strBlock e)).trans e
    exact ⟨k ((World.cell?_alloc_at (w := wr) _ _ rb 1 hrb).trans rfl), k ((World.cell?_alloc_at (w := wr) _ _ rb 2 hrb).trans rfl), k ((World.cell?_alloc_at (w := wr) _ _ rb 3 hrb).trans rfl), k ((World.cell?_alloc_at (w := wr) _ _ rb 4 hrb).trans rfl)⟩
   replace SV : Hid (SvV (wr.alloc (.cells #[.slice (PD q) (s.Q q).ne (PZ q), .int .i64 (s.Q q).bc, .int .i64 (s.Q q).bt, .int .i64 (s.Q q).bg, .int .i64 (s.Q q).en] 41)) s ⟨pa, pb, some ⟨rg, roff, none⟩, PA, PB, PD, PX, PY, PZ, ca, cb, cd⟩) := SV.out.below hbY
   replace SW : Hid (SvV (wr.alloc (.cells #[.slice (PD q) (s.Q q).ne (PZ q), .int .i64 (s.Q q).bc, .int .i64 (s.Q q).bt, .int .i64 (s.Q q).bg, .int .i64 (s.Q q).en] 41)) s ⟨qa, qb, some ⟨mg, moff, none⟩, EA, EB, ED, EX, EY, EZ, ka, kb, kd⟩) := SW.out.below hbY
   replace XS : Hid (Box4 (wr.alloc (.cells #[.slice (PD q) (s.Q q).ne (PZ q), .int .i64 (s.Q q).bc, .int .i64 (s.Q q).bt, .int .i64 (s.Q q).bg, .int .i64 (s.Q q).en] 41)) sb0 30 (.slice pa s.n ca) (.int .i64 s.t) (.slice pb s.m cb) (.slice (some ⟨rg, roff, none⟩) s.l cd)) := XS.out.below hbY
   replace XW : Hid (Box4 (wr.alloc (.cells #[.slice (PD q) (s.Q q).ne (PZ q), .int .i64 (s.Q q).bc, .int .i64 (s.Q q).bt, .int .i64 (s.Q q).bg, .int .i64 (s.Q q).en] 41)) sb1 30 (.slice qa s.n ka) (.int .i64 s.t) (.slice qb s.m kb) (.slice (some ⟨mg, moff, none⟩) s.l kd)) := XW.out.below hbY
   replace BB : Hid (Below w.heap.size w (wr.alloc (.cells #[.slice (PD q) (s.Q q).ne (PZ q), .int .i64 (s.Q q).bc, .int .i64 (s.Q q).bt, .int .i64 (s.Q q).bg, .int .i64 (s.Q q).en] 41))) := BB.out.trans (hbY.mono BB.out.size)
   replace BR : Hid (Below ua.heap.size ua (wr.alloc (.cells #[.slice (PD q) (s.Q q).ne (PZ q), .int .i64 (s.Q q).bc, .int .i64 (s.Q q).bt, .int .i64 (s.Q q).bg, .int .i64 (s.Q q).en] 41))) := BR.out.trans (hbY.mono BR.out.size)
   have HL : Hid (q < s.l) := hlt
   clear hc mc hbY hlt hq
   go_upto_region 15 with fail
   clear x3 d0 d1 d2 d3 d4
   generalize (wr.alloc (.cells #[.slice (PD q) (s.Q q).ne (PZ q), .int .i64 (s.Q q).bc, .int .i64 (s.Q q).bt, .int .i64 (s.Q q).bg, .int .i64 (s.Q q).en] 41)) = y at *
   rw [← hrb]
   clear hrb
   have w3 := XW.out.c3
   have f1 := MF.out.1
   have f2 := MF.out.2.1
   have f4 := MF.out.2.2
   have r1 := (RC.out _ (Below.refl _ _)).1
   have r2 := (RC.out _ (Below.refl _ _)).2.1
   have r4 := (RC.out _ (Below.refl _ _)).2.2.2
   have en1 : ((s.Q q).en != (s.Q q).en) = false := by simp
   go_quiet (fail)
   have hbZ : Below y.heap.size y (y.drewN nq) := below_dN _ _
   clear w3 f1 f2 f4 r1 r2 r4 en1 MF
   replace RC : Hid (∀ u : World, Below (y.drewN nq).heap.size (y.drewN nq) u → u.cell? ⟨rb, 1, none⟩ = some (.int .i64 (s.Q q).bc) ∧ u.cell? ⟨rb, 2, none⟩ = some (.int .i64 (s.Q q).bt) ∧ u.cell? ⟨rb, 3, none⟩ = some (.int .i64 (s.Q q).bg) ∧ u.cell? ⟨rb, 4, none⟩ = some (.int .i64 (s.Q q).en)) := fun u hu => RC.out u (hbZ.trans (hu.mono hbZ.size))
   replace SV : Hid (SvV (y.drewN nq) s ⟨pa, pb, some ⟨rg, roff, none⟩, PA, PB, PD, PX, PY, PZ, ca, cb, cd⟩) := SV.out.below hbZ
   replace SW : Hid (SvV (y.drewN nq) s ⟨qa, qb, some ⟨mg, moff, none⟩, EA, EB, ED, EX, EY, EZ, ka, kb, kd⟩) := SW.out.below hbZ
   replace XS : Hid (Box4 (y.drewN nq) sb0 30 (.slice pa s.n ca) (.int .i64 s.t) (.slice pb s.m cb) (.slice (some ⟨rg, roff, none⟩) s.l cd)) := XS.out.below hbZ
   replace XW : Hid (Box4 (y.drewN nq) sb1 30 (.slice qa s.n ka) (.int .i64 s.t) (.slice qb s.m kb) (.slice (some ⟨mg, moff, none⟩) s.l kd)) := XW.out.below hbZ
   replace BB : Hid (Below w.heap.size w (y.drewN nq)) := BB.out.trans (hbZ.mono BB.out.size)
   replace BR : Hid (Below ua.heap.size ua (y.drewN nq)) := BR.out.trans (hbZ.mono BR.out.size)
   clear hbZ
   generalize y.drewN nq = z at *
   go_upto_region 18 with fail
   go_loopw [19] (fun i wr => ∃ j : Nat, j ≤ s.m ∧ i = .int .i64 (j : Int) ∧ Below z.heap.size z wr) (fun i _ => s.m - (intOf i).toNat)
   case atStart => exact ⟨0, by omega, rfl, Below.refl _ _⟩
   case round =>
    obtain ⟨j, hj, rfl, hbr⟩ := hrel
    have S9 : Hid (SvV wr s ⟨pa, pb, some ⟨rg, roff, none⟩, PA, PB, PD, PX, PY, PZ, ca, cb, cd⟩) := SV.out.below hbr
    have X9 : Hid (Box4 wr sb0 30 (.slice pa s.n ca) (.int .i64 s.t) (.slice pb s.m cb) (.slice (some ⟨rg, roff, none⟩) s.l cd)) := XS.out.below hbr
    have R9 := RC.out _ hbr
    have B9 : Hid (Below ua.heap.size ua wr) := BR.out.trans (hbr.mono BR.out.size)
    have BZ : Hid (Below z.heap.size z wr) := hbr
    have x2 := X9.out.c2
    have r1 := R9.1
    have r3 := R9.2.2.1
    have r4 := R9.2.2.2
    have m200 : s.m ≤ 200 := OK.out.1.2.2.1
    clear hbr R9
    by_cases hj' : j < s.m
    ·have hlt2 : (j : Int) < (s.m : Int) := by omega
     have hj0 : (0 : Int) ≤ (j : Int) := by omega
     by_cases hen : 0 ≤ (s.Q q).en
     ·obtain ⟨wg, woff, hwa, hc⟩ := S9.out.2.1.at hj'
      dsimp only at hwa
      subst hwa
      have d0 : wr.cell? ⟨wg, woff + j * 5, none⟩ = some (.int .i64 (s.W j).mc) := hc 0 (by omega)
      have d1 : wr.cell? ⟨wg, woff + j * 5 + 1, none⟩ = some (.int .i64 (s.W j).mt) := hc 1 (by omega)
      have d2 : wr.cell? ⟨wg, woff + j * 5 + 2, none⟩ = some (.slice (PB j) (s.W j).ne (PY j)) := hc 2 (by omega)
      have d3 : wr.cell? ⟨wg, woff + j * 5 + 3, none⟩ = some (.int .i64 (s.W j).bg) := hc 3 (by omega)
      have d4 : wr.cell? ⟨wg, woff + j * 5 + 4, none⟩ = some (.int .i64 (s.W j).en) := hc 4 (by omega)
      have hbW : Below wr.heap.size wr (wr.alloc (.cells #[.int .i64 (s.W j).mc, .int .i64 (s.W j).mt, .slice (PB j) (s.W j).ne (PY j), .int .i64 (s.W j).bg, .int .i64 (s.W j).en] 43)) := (Below.refl _ _).alloc (Nat.le_refl _) _
      obtain ⟨wb, hwb⟩ : ∃ x, x = wr.heap.size := ⟨_, rfl⟩
      have v0 : (wr.alloc (.cells #[.int .i64 (s.W j).mc, .int .i64 (s.W j).mt, .slice (PB j) (s.W j).ne (PY j), .int .i64 (s.W j).bg, .int .i64 (s.W j).en] 43)).cell? ⟨wb, 0, none⟩ = some (.int .i64 (s.W j).mc) := (World.cell?_alloc_at (w := wr) _ _ wb 0 hwb).trans rfl
      have v4 : (wr.alloc (.cells #[.int .i64 (s.W j).mc, .int .i64 (s.W j).mt, .slice (PB j) (s.W j).ne (PY j), .int .i64 (s.W j).bg, .int .i64 (s.W j).en] 43)).cell? ⟨wb, 4, none⟩ = some (.int .i64 (s.W j).en) := (World.cell?_alloc_at (w := wr) _ _ wb 4 hwb).trans rfl
      have k : ∀ {p : Nat} {x : Value}, wr.cell? ⟨rb, p, none⟩ = some x → (wr.alloc (.cells #[.int .i64 (s.W j).mc, .int .i64 (s.W j).mt, .slice (PB j) (s.W j).ne (PY j), .int .i64 (s.W j).bg, .int .i64 (s.W j).en] 43)).cell? ⟨rb, p, none⟩ = some x := fun e => (hbW.cell (strBlock e)).trans e
      have t1 := k r1
      have t3 := k r3
      have BW : Hid (Below z.heap.size z (wr.alloc (.cells #[.int .i64 (s.W j).mc, .int .i64 (s.W j).mt, .slice (PB j) (s.W j).ne (PY j), .int .i64 (s.W j).bg, .int .i64 (s.W j).en] 43))) := BZ.out.trans (hbW.mono BZ.out.size)
      have HJ : Hid (j < s.m) := hj'
      have FRE : Hid ((s.W j).en ≠ -1 → (s.W j).en < (s.Q q).bg → (s.W j).mc ≤ (s.Q q).bc) := fun g1 g2 => IV.out.fresh OK.out q j HL.out (by omega) hj' g1 g2
      clear hc hbW k hj hj'
      go_upto_region 21 with fail
      clear d0 d1 d2 d3 d4 x2 r1 r3 r4
      generalize (wr.alloc (.cells #[.int .i64 (s.W j).mc, .int .i64 (s.W j).mt, .slice (PB j) (s.W j).ne (PY j), .int .i64 (s.W j).bg, .int .i64 (s.W j).en] 43)) = zz2 at *
      rw [← hwb]
      clear hwb
      by_cases g1 : 0 ≤ (s.W j).en
      ·by_cases g2 : (s.W j).en < (s.Q q).bg
       ·have g3 : ¬ (s.Q q).bc < (s.W j).mc := by have := FRE.out (by omega) g2; omega
        clear FRE
        go_wp2
        go_roundw
        case rel => exact ⟨j + 1, by have := HJ.out; omega, by go_num, BW.out⟩
        case measure => have := HJ.out; simp [intOf]; omega
       ·clear FRE
        go_wp2
        go_roundw
        case rel => exact ⟨j + 1, by have := HJ.out; omega, by go_num, BW.out⟩
        case measure => have := HJ.out; simp [intOf]; omega
      ·clear FRE
       go_wp2
       go_roundw
       case rel => exact ⟨j + 1, by have := HJ.out; omega, by go_num, BW.out⟩
       case measure => have := HJ.out; simp [intOf]; omega
     ·go_wp2
      go_roundw
      case rel => exact ⟨q + 1, by have := HL.out; omega, by go_num, B9.out⟩
      case measure => have := HL.out; simp [intOf]; omega
    ·obtain rfl : s.m = j := by omega
     have hlt2 : ¬ (s.m : Int) < (s.m : Int) := by omega
     go_wp2
     go_roundw
     case rel => exact ⟨q + 1, by have := HL.out; omega, by go_num, B9.out⟩
     case measure => have := HL.out; simp [intOf]; omega
  ·obtain rfl : s.l = q := by omega
   have hlt' : ¬ (s.l : Int) < (s.l : Int) := by omega
   have BE : Hid (Below w.heap.size w wr) := BB.out
   clear BB BR SV SW XS XW OK IV
   go_wp2
   go_ret
   exact ⟨rfl, BE.out⟩
end Go.Proofs.Ytdoacpnjggdojaa
