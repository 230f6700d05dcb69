/-
  The exact law of ReadSuper (written by tools/mkrsl.py).
-/
import Derived.Test.YtonccbgolbcjfabRdSupB
import Derived.Test.YtonccbgolbcjfabSupTo
import Derived.Test.YtonccbgolbcjfabByteS
import Derived.Test.YtonccbgolbcjfabEls
namespace Go.Proofs.Ytonccbgolbcjfab
open Go.ChangeShapes Go.WideShapes Go.ChangeAt Go.RowKit
set_option linter.unusedVariables false
set_option maxRecDepth 100000 in
set_option maxHeartbeats 4000000 in
theorem lawc_readSuper (a : Option Addr) (T : ByteArray) (c : Nat) (hm : T.size ≤ maxLen) (w : World) (h : Code8 w a T.size (strB T)) :
    Calls Try.prog 5 #[.slice a T.size c] w fun e w' => e = .returned (.bool true) ∧ Below w.heap.size w w' := by
  unfold maxLen at hm
  by_cases hl : 1048576 < T.size
  · have hl' : (1048576 : Int) < (T.size : Int) := by omega
    go_enter Try.func5, Try.ntmps5
    go_wp2
    go_ret
    exact ⟨rfl, Below.refl _ _⟩
  · have hl' : ¬ (1048576 : Int) < (T.size : Int) := by omega
    have hn : T.size ≤ 1048576 := by omega
    obtain ⟨z, n, P, r, cd, hd0, hS, hI⟩ := rs_some T
    have SO : Hid (∀ (b o c : Nat) (w : World), Code8 w (some ⟨b, o, none⟩) T.size (strB T) → Calls Try.prog 18 #[.slice (some ⟨b, o, none⟩) T.size c] w fun e w' => (∃ a x g, e = .returned (.tuple #[.agg #[.int .i64 z, .slice a n x, .string r], .int .i64 cd]) ∧ RowE w' 2 a g n (pcF P) ∧ (0 < n → w.heap.size ≤ g ∧ g < w'.heap.size)) ∧ Below w.heap.size w w') := hS
    have IY : Hid (∀ (b o c : Nat) (w : World), T.size ≤ c → Code8 w (some ⟨b, o, none⟩) T.size (strB T) → Calls Try.prog 20 #[.slice (some ⟨b, o, none⟩) T.size c] w fun e w' => (∃ a x g, e = .returned (.tuple #[.agg #[.int .i64 z, .slice a n x, .string r], .int .i64 cd]) ∧ RowE w' 2 a g n (pcF P) ∧ (0 < n → w.heap.size ≤ g ∧ g < w'.heap.size)) ∧ Below w.heap.size w w') := hI
    have TO : Hid (∀ w : World, Code8 w a T.size (strB T) → Calls Try.prog 19 #[.slice a T.size c] w fun e w' => (e = .returned (.slice (some ⟨w.heap.size, 0, none⟩) T.size T.size) ∧ Own8 w' w.heap.size T.size (strB T)) ∧ Below w.heap.size w w') := fun w h => (toByteS_any a T.size c (strB T) w h hn).mono fun _ _ q => ⟨⟨q.1, q.2.1⟩, q.2.2⟩
    have EB : Hid (∀ (a b : Option Addr) (x y : Nat) (w : World), Code8 w a T.size (strB T) → Code8 w b T.size (strB T) → Calls Try.prog 14 #[.slice a T.size x, .slice b T.size y] w fun e w' => e = .returned (.bool true) ∧ Below w.heap.size w w') := fun a b x y w h h' => (eqByteS_yes a b T.size x y (strB T) w h h' hn).mono fun _ _ q => ⟨q.1, by obtain ⟨k, rfl⟩ := q.2; exact below_drewN8 (Below.refl _ _) k⟩
    have MB : Hid (∀ (b x : Nat) (w : World), Own8 w b T.size (strB T) → Calls Try.prog 16 #[.slice (some ⟨b, 0, none⟩) T.size x, .int .i64 1] w fun e w' => e = .returned (.int .i64 ((T.size + 1 : Nat) : Int)) ∧ OnlyB b w w') := fun b x w h => (markOwn b T.size x (strB T) w h hn).mono fun _ _ q => ⟨q.1, q.2.2⟩
    have EQ : Hid (∀ (b e : Option Addr) (x y : Nat) (w : World), Els w 2 b n (pcF P) → Els w 2 e n (pcF P) → Calls Try.prog 11 #[.agg #[.int .i64 z, .slice b n x, .string r], .agg #[.int .i64 z, .slice e n y, .string r]] w fun e w' => e = .returned (.bool true) ∧ Below w.heap.size w w') := fun b e x y w h h' => eqSuper_yes z b e n x y P r (by omega) w h h'
    have MK : Hid (∀ (b : Option Addr) (g x : Nat) (w : World), RowE w 2 b g n (pcF P) → Calls Try.prog 15 #[.agg #[.int .i64 z, .slice b n x, .string r], .int .i64 1] w fun e w' => (e = .returned (.int .i64 ((1 + 2 * n : Nat) : Int)) ∧ RowE w' 2 b g n (pcF (pcM 1))) ∧ TurnedE g n w w') := fun b g x w h => markSuper_any z b g n x 1 P r (by omega) (by omega) w h
    have HH : Hid (∀ (b : Option Addr) (x : Nat) (w : World), Els w 2 b n (pcF (pcM 1)) → Calls Try.prog 21 #[.agg #[.int .i64 z, .slice b n x, .string r], .int .i64 1] w fun e w' => e = .returned (.int .i64 ((1 + 2 * n : Nat) : Int)) ∧ Below w.heap.size w w') := fun b x w h => heldSuper_yes z b n x 1 r (by omega) (by omega) w h
    have rr : (cd != cd) = false := by simp
    have kz : ¬ ((1 + 2 * n : Nat) : Int) < 0 := by omega
    have ke : (((1 + 2 * n : Nat) : Int) != ((1 + 2 * n : Nat) : Int)) = false := by simp
    have nz : ¬ ((T.size + 1 : Nat) : Int) < 0 := by omega
    clear hS hI hn hl hd0 hm
    generalize ((1 + 2 * n : Nat) : Int) = K1 at *
    generalize ((T.size + 1 : Nat) : Int) = N1 at *
    have HC : Hid (Code8 w a T.size (strB T)) := h
    have A1 : Hid (Below w.heap.size w w) := Below.refl _ _
    clear h
    go_enter Try.func5, Try.ntmps5
    go_wp2_with fail
    refine (TO.out _ (HC.out.below A1.out)).mono ?_
    rintro e v1 ⟨⟨rfl, hx⟩, hb⟩
    replace A1 : Hid (Below w.heap.size w v1) := A1.out.trans (hb.mono A1.out.size)
    have XA : Hid (Code8 v1 (some ⟨w.heap.size, 0, none⟩) T.size (strB T)) := hx.code
    clear hb hx
    go_wp2_with fail
    refine (SO.out _ _ _ _ XA.out).mono ?_
    rintro e v2 ⟨⟨wa, wx, wg, rfl, hr, hl0⟩, hb⟩
    replace A1 : Hid (Below w.heap.size w v2) := A1.out.trans (hb.mono A1.out.size)
    have W0 : Hid (Els v2 2 wa n (pcF P)) := hr.els
    clear hb hr hl0 SO XA
    have hb : Below v2.heap.size v2 (v2.alloc (.cells #[.int .i64 z, .slice wa n wx, .string r] 29)) := (Below.refl _ _).alloc (Nat.le_refl _) _
    have PW : Hid (Box3 (v2.alloc (.cells #[.int .i64 z, .slice wa n wx, .string r] 29)) v2.heap.size 29 (.int .i64 z) (.slice wa n wx) (.string r)) := Box3.madeAt rfl _ _ _ _
    go_wp2_with fail
    generalize (v2.alloc (.cells #[.int .i64 z, .slice wa n wx, .string r] 29)) = v3 at *
    replace A1 : Hid (Below w.heap.size w v3) := A1.out.trans (hb.mono A1.out.size)
    replace W0 : Hid (Els v3 2 wa n (pcF P)) := W0.out.below hb
    clear hb
    obtain ⟨pw, hpw⟩ : ∃ bx, bx = v2.heap.size := ⟨_, rfl⟩
    rw [← hpw] at PW ⊢
    clear hpw
    refine (TO.out _ (HC.out.below A1.out)).mono ?_
    rintro e v4 ⟨⟨rfl, hx⟩, hb⟩
    have AX : Hid (Below w.heap.size w v3) := A1.out
    have KX : Hid (Below v3.heap.size v3 v4) := hb
    obtain ⟨gX, hgX⟩ : ∃ gX, gX = v3.heap.size := ⟨_, rfl⟩
    rw [← hgX] at hx ⊢
    have GX : Hid (gX = v3.heap.size) := hgX
    have XO : Hid (Own8 v4 gX T.size (strB T)) := hx
    have LX : Hid (gX < v4.heap.size) := hx.lt
    clear hx hb hgX A1
    have VI : Hid (gX < v4.heap.size ∧ v3.heap.size ≤ v4.heap.size) := ⟨LX.out, KX.out.size⟩
    clear LX
    go_wp2_with fail
    refine (IY.out _ _ _ _ (Nat.le_refl _) XO.out.code).mono ?_
    rintro e v5 ⟨⟨ga, gx, gg, rfl, hr, hl0⟩, hb⟩
    replace KX : Hid (Below v3.heap.size v3 v5) := (KX.out).trans (hb.mono KX.out.size)
    replace XO : Hid (Own8 v5 gX T.size (strB T)) := XO.out.below hb
    have GG : Hid (RowE v5 2 ga gg n (pcF P)) := hr
    have GL : Hid (0 < n → v4.heap.size ≤ gg ∧ gg < v5.heap.size) := hl0
    have VJ : Hid (v4.heap.size ≤ v5.heap.size) := hb.size
    clear hb hr hl0
    have hb : Below v5.heap.size v5 (v5.alloc (.cells #[.int .i64 z, .slice ga n gx, .string r] 29)) := (Below.refl _ _).alloc (Nat.le_refl _) _
    have PG : Hid (Box3 (v5.alloc (.cells #[.int .i64 z, .slice ga n gx, .string r] 29)) v5.heap.size 29 (.int .i64 z) (.slice ga n gx) (.string r)) := Box3.madeAt rfl _ _ _ _
    have VK : Hid (v4.heap.size ≤ v5.heap.size) := VJ.out
    have w0a := (PW.out.below (KX.out.trans (hb.mono KX.out.size))).c0
    have w0b := (PW.out.below (KX.out.trans (hb.mono KX.out.size))).c1
    have w0c := (PW.out.below (KX.out.trans (hb.mono KX.out.size))).c2
    go_wp2_with fail
    generalize (v5.alloc (.cells #[.int .i64 z, .slice ga n gx, .string r] 29)) = v6 at *
    replace KX : Hid (Below v3.heap.size v3 v6) := (KX.out).trans (hb.mono KX.out.size)
    replace XO : Hid (Own8 v6 gX T.size (strB T)) := XO.out.below hb
    replace GG : Hid (RowE v6 2 ga gg n (pcF P)) := GG.out.below (by omega) hb
    replace VJ : Hid (v4.heap.size ≤ v6.heap.size) := Nat.le_trans VJ.out hb.size
    clear hb w0a w0b w0c
    obtain ⟨pg, hpg⟩ : ∃ bx, bx = v5.heap.size := ⟨_, rfl⟩
    rw [← hpg] at PG GL ⊢
    have VP : Hid (v4.heap.size ≤ pg) := by rw [hpg]; exact VK.out
    clear hpg VK
    refine (EQ.out _ _ _ _ _ GG.out.els (W0.out.below KX.out)).mono ?_
    rintro e v7 ⟨rfl, hb⟩
    replace KX : Hid (Below v3.heap.size v3 v7) := (KX.out).trans (hb.mono KX.out.size)
    replace XO : Hid (Own8 v7 gX T.size (strB T)) := XO.out.below hb
    replace GG : Hid (RowE v7 2 ga gg n (pcF P)) := GG.out.below (by omega) hb
    replace VJ : Hid (v4.heap.size ≤ v7.heap.size) := Nat.le_trans VJ.out hb.size
    replace PG : Hid (Box3 v7 pg 29 (.int .i64 z) (.slice ga n gx) (.string r)) := PG.out.below hb
    clear hb 
    go_wp2_with fail
    refine (TO.out _ (HC.out.below (AX.out.trans (KX.out.mono AX.out.size)))).mono ?_
    rintro e v8 ⟨⟨rfl, hx⟩, hb⟩
    replace KX : Hid (Below v3.heap.size v3 v8) := (KX.out).trans (hb.mono KX.out.size)
    replace XO : Hid (Own8 v8 gX T.size (strB T)) := XO.out.below hb
    replace GG : Hid (RowE v8 2 ga gg n (pcF P)) := GG.out.below (by omega) hb
    replace VJ : Hid (v4.heap.size ≤ v8.heap.size) := Nat.le_trans VJ.out hb.size
    replace PG : Hid (Box3 v8 pg 29 (.int .i64 z) (.slice ga n gx) (.string r)) := PG.out.below hb
    have XC : Hid (Code8 v8 (some ⟨v7.heap.size, 0, none⟩) T.size (strB T)) := hx.code
    clear hb hx
    go_wp2_with fail
    refine (EB.out _ _ _ _ _ XO.out.code XC.out).mono ?_
    rintro e v9 ⟨rfl, hb⟩
    replace KX : Hid (Below v3.heap.size v3 v9) := (KX.out).trans (hb.mono KX.out.size)
    replace XO : Hid (Own8 v9 gX T.size (strB T)) := XO.out.below hb
    replace GG : Hid (RowE v9 2 ga gg n (pcF P)) := GG.out.below (by omega) hb
    replace VJ : Hid (v4.heap.size ≤ v9.heap.size) := Nat.le_trans VJ.out hb.size
    replace PG : Hid (Box3 v9 pg 29 (.int .i64 z) (.slice ga n gx) (.string r)) := PG.out.below hb
    clear hb XC
    go_wp2_with fail
    refine (MB.out _ _ _ XO.out).mono ?_
    rintro e v10 ⟨rfl, ho⟩
    replace GG : Hid (RowE v10 2 ga gg n (pcF P)) := GG.out.onlyB (by omega) ho (fun q => by have q1 := GL.out q; have q2 := VI.out; omega)
    replace PG : Hid (Box3 v10 pg 29 (.int .i64 z) (.slice ga n gx) (.string r)) := PG.out.ofBlock (ho.block _ PG.out.lt (by have q1 := VP.out; have q2 := VI.out; omega))
    replace KX : Hid (Below v3.heap.size v3 v10) := KX.out.trans (ho.toBelow (by rw [GX.out]; exact Nat.le_refl _) KX.out.size)
    replace VJ : Hid (v4.heap.size ≤ v10.heap.size) := Nat.le_trans VJ.out ho.size
    clear ho XO MB
    have w0a := (PW.out.below KX.out).c0
    have w0b := (PW.out.below KX.out).c1
    have w0c := (PW.out.below KX.out).c2
    have g0a := PG.out.c0
    have g0b := PG.out.c1
    have g0c := PG.out.c2
    go_wp2_with fail
    clear w0a w0b w0c g0a g0b g0c
    refine (EQ.out _ _ _ _ _ GG.out.els (W0.out.below KX.out)).mono ?_
    rintro e v11 ⟨rfl, hb⟩
    replace KX : Hid (Below v3.heap.size v3 v11) := (KX.out).trans (hb.mono KX.out.size)
    replace GG : Hid (RowE v11 2 ga gg n (pcF P)) := GG.out.below (by omega) hb
    replace VJ : Hid (v4.heap.size ≤ v11.heap.size) := Nat.le_trans VJ.out hb.size
    replace PG : Hid (Box3 v11 pg 29 (.int .i64 z) (.slice ga n gx) (.string r)) := PG.out.below hb
    clear hb 
    have g0a := PG.out.c0
    have g0b := PG.out.c1
    have g0c := PG.out.c2
    go_wp2_with fail
    clear g0a g0b g0c
    refine (MK.out _ gg _ _ GG.out).mono ?_
    rintro e v12 ⟨⟨rfl, hr⟩, ht⟩
    replace GG : Hid (Els v12 2 ga n (pcF (pcM 1))) := hr.els
    replace PG : Hid (Box3 v12 pg 29 (.int .i64 z) (.slice ga n gx) (.string r)) := PG.out.ofBlock (ht.block PG.out.lt (fun q => by have q1 := GL.out q; omega))
    replace KX : Hid (Below v3.heap.size v3 v12) := KX.out.trans ((ht.toBelow (B := v4.heap.size) (fun q => (GL.out q).1) VJ.out).mono VI.out.2)
    clear hr ht MK VJ GL VP
    have g0a := PG.out.c0
    have g0b := PG.out.c1
    have g0c := PG.out.c2
    go_wp2_with fail
    clear g0a g0b g0c
    refine (HH.out _ _ _ GG.out).mono ?_
    rintro e v13 ⟨rfl, hb⟩
    replace KX : Hid (Below v3.heap.size v3 v13) := (KX.out).trans (hb.mono KX.out.size)
    replace PG : Hid (Box3 v13 pg 29 (.int .i64 z) (.slice ga n gx) (.string r)) := PG.out.below hb
    replace GG : Hid (Els v13 2 ga n (pcF (pcM 1))) := GG.out.below hb
    clear hb 
    go_wp2_with fail
    refine (TO.out _ (HC.out.below (AX.out.trans (KX.out.mono AX.out.size)))).mono ?_
    rintro e v14 ⟨⟨rfl, hx⟩, hb⟩
    replace KX : Hid (Below v3.heap.size v3 v14) := (KX.out).trans (hb.mono KX.out.size)
    replace PG : Hid (Box3 v14 pg 29 (.int .i64 z) (.slice ga n gx) (.string r)) := PG.out.below hb
    replace GG : Hid (Els v14 2 ga n (pcF (pcM 1))) := GG.out.below hb
    have XC : Hid (Code8 v14 (some ⟨v13.heap.size, 0, none⟩) T.size (strB T)) := hx.code
    clear hb hx TO
    go_wp2_with fail
    refine (IY.out _ _ _ _ (Nat.le_refl _) XC.out).mono ?_
    rintro e v15 ⟨⟨ha, hx, hg, rfl, hr, hl0⟩, hb⟩
    replace KX : Hid (Below v3.heap.size v3 v15) := (KX.out).trans (hb.mono KX.out.size)
    replace PG : Hid (Box3 v15 pg 29 (.int .i64 z) (.slice ga n gx) (.string r)) := PG.out.below hb
    replace GG : Hid (Els v15 2 ga n (pcF (pcM 1))) := GG.out.below hb
    have H0 : Hid (Els v15 2 ha n (pcF P)) := hr.els
    clear hb hr hl0 XC IY
    have hb : Below v15.heap.size v15 (v15.alloc (.cells #[.int .i64 z, .slice ha n hx, .string r] 29)) := (Below.refl _ _).alloc (Nat.le_refl _) _
    have w0a := (PW.out.below (KX.out.trans (hb.mono KX.out.size))).c0
    have w0b := (PW.out.below (KX.out.trans (hb.mono KX.out.size))).c1
    have w0c := (PW.out.below (KX.out.trans (hb.mono KX.out.size))).c2
    go_wp2_with fail
    generalize (v15.alloc (.cells #[.int .i64 z, .slice ha n hx, .string r] 29)) = v16 at *
    replace KX : Hid (Below v3.heap.size v3 v16) := (KX.out).trans (hb.mono KX.out.size)
    replace PG : Hid (Box3 v16 pg 29 (.int .i64 z) (.slice ga n gx) (.string r)) := PG.out.below hb
    replace GG : Hid (Els v16 2 ga n (pcF (pcM 1))) := GG.out.below hb
    replace H0 : Hid (Els v16 2 ha n (pcF P)) := H0.out.below hb
    clear hb w0a w0b w0c
    refine (EQ.out _ _ _ _ _ H0.out (W0.out.below KX.out)).mono ?_
    rintro e v17 ⟨rfl, hb⟩
    replace KX : Hid (Below v3.heap.size v3 v17) := (KX.out).trans (hb.mono KX.out.size)
    replace PG : Hid (Box3 v17 pg 29 (.int .i64 z) (.slice ga n gx) (.string r)) := PG.out.below hb
    replace GG : Hid (Els v17 2 ga n (pcF (pcM 1))) := GG.out.below hb
    replace H0 : Hid (Els v17 2 ha n (pcF P)) := H0.out.below hb
    clear hb EQ
    clear H0
    have g0a := PG.out.c0
    have g0b := PG.out.c1
    have g0c := PG.out.c2
    go_wp2_with fail
    clear g0a g0b g0c
    refine (HH.out _ _ _ GG.out).mono ?_
    rintro e v18 ⟨rfl, hb⟩
    replace KX : Hid (Below v3.heap.size v3 v18) := (KX.out).trans (hb.mono KX.out.size)
    replace PG : Hid (Box3 v18 pg 29 (.int .i64 z) (.slice ga n gx) (.string r)) := PG.out.below hb
    replace GG : Hid (Els v18 2 ga n (pcF (pcM 1))) := GG.out.below hb
    clear hb HH
    have FB : Hid (Below w.heap.size w v18) := AX.out.trans (KX.out.mono AX.out.size)
    clear HC W0 PW KX PG GG AX GX VI EB
    go_wp2
    go_ret
    exact ⟨rfl, FB.out⟩
theorem law_readSuper (a : Option Addr) (len cap : Nat) (z : Nat → Nat) (hz : ∀ i, z i < 256) (hm : len ≤ maxLen) (w : World) (hc : Code8 w a len z) :
    Calls Try.prog 5 #[.slice a len cap] w fun e w' => e = .returned (.bool true) ∧ Below w.heap.size w w' := by
  have hs := kstr_size z 0 len
  have key := lawc_readSuper a (kstr z 0 len) cap (by rw [hs]; exact hm) w (by
    rw [hs]
    exact hc.congr (fun i hi => by rw [strB_kstr z 0 len i (by rw [Nat.zero_add]; exact hz i) hi, Nat.zero_add]))
  rwa [hs] at key
end Go.Proofs.Ytonccbgolbcjfab
