/-
  The exact law of BankRun (written by tools/mklbr.py).
-/
import Derived.Test.YtfhjenohgafjlabRunBs
import Derived.Test.YtfhjenohgafjlabIntK
namespace Go.Proofs.Ytfhjenohgafjlab
open Go.ChangeShapes Go.WideShapes Go.ChangeAt Go.RowKit
set_option linter.unusedVariables false
theorem EO.apart {w : World} {B B' : Nat} {t t' : TypeId} {s s' : Nat} {v v' : Value} {n n' : Nat} {F F' : Nat → Nat → Value} (h : EO w B t s v n F) (h' : EO w B' t' s' v' n' F') (ht : t ≠ t') (g : Nat) (e : v.ownBlock = some g) : v'.ownBlock ≠ some g := fun e' => by
  obtain ⟨_, ⟨h1, _⟩ | ⟨g1, cap, cur, hv, _, hh, _⟩⟩ := h
  · rw [h1] at e; cases e
  obtain ⟨_, ⟨k1, _⟩ | ⟨g2, cap', cur', kv, _, kh, _⟩⟩ := h'
  · rw [k1] at e'; cases e'
  rw [hv] at e
  rw [kv] at e'
  have q1 : g1 = g := Option.some.inj e
  have q2 : g2 = g := Option.some.inj e'
  rw [q1] at hh
  rw [q2] at kh
  rw [hh] at kh
  cases kh
  exact ht rfl
/-- A run's answer, its rows told. -/
theorem RunA.rows {b : Bk} {m : Nat} {C : Nat → Int} {cd : Int} {B : Nat} {e : Ending} {w : World} (h : RunA b m C cd B e w) : ∃ a0 x0 a1 x1 ac cc g0 g1 gc, e = .returned (.tuple #[.agg #[.slice a0 b.nr x0, .slice a1 b.ns x1], .slice ac m cc, .int .i64 cd]) ∧ RowB w b a0 a1 g0 g1 ∧ RowE w 1 ac gc m (inF C) ∧ ((0 < b.nr → B ≤ g0 ∧ g0 < w.heap.size) ∧ (0 < b.ns → B ≤ g1 ∧ g1 < w.heap.size) ∧ (0 < m → B ≤ gc ∧ gc < w.heap.size)) ∧ ((0 < b.nr → 0 < m → gc ≠ g0) ∧ (0 < b.ns → 0 < m → gc ≠ g1)) := by
  obtain ⟨a0, c0, a1, c1, ac, cc, he, hB, hI⟩ := h
  obtain ⟨g0, r0, b0⟩ := hB.e0.rowE
  obtain ⟨g1, r1, b1⟩ := hB.e1.rowE
  obtain ⟨gc, rc, bc⟩ := EO.rowE hI
  refine ⟨a0, c0, a1, c1, ac, cc, g0, g1, gc, he, ⟨r0, r1, fun q0 q1 e => ?_⟩, rc, ⟨fun q => ⟨b0 q, r0.lt (by omega) q⟩, fun q => ⟨b1 q, r1.lt (by omega) q⟩, fun q => ⟨bc q, rc.lt (by omega) q⟩⟩, ⟨fun q0 qm e => ?_, fun q1 qm e => ?_⟩⟩
  · have e0 := r0.a q0
    have e1 := r1.a q1
    subst e0
    subst e1
    exact hB.n01 g0 rfl (by rw [e]; rfl)
  · have e0 := r0.a q0
    have e1 := rc.a qm
    subst e0
    subst e1
    exact EO.apart hI hB.e0 (by decide) gc rfl (by rw [e]; rfl)
  · have e0 := r1.a q1
    have e1 := rc.a qm
    subst e0
    subst e1
    exact EO.apart hI hB.e1 (by decide) gc rfl (by rw [e]; rfl)
theorem RowB.keep {w w' : World} {b : Bk} {a0 a1 : Option Addr} {g0 g1 : Nat} (h : RowB w b a0 a1 g0 g1) (e0 : 0 < b.nr → w'.heap[g0]? = w.heap[g0]?) (e1 : 0 < b.ns → w'.heap[g1]? = w.heap[g1]?) : RowB w' b a0 a1 g0 g1 := ⟨h.s0.ofBlock e0, h.s1.ofBlock e1, h.ne⟩
set_option maxRecDepth 100000 in
set_option maxHeartbeats 8000000 in
theorem law_bankRun (a : Option Addr) (n c : Nat) (RQ : Nat → Rqst) (hm : n ≤ maxLen) (hf : ∀ i, i < n → (RQ i).r.size ≤ maxLen) (w : World) (h : Els w 5 a n (rqF RQ)) :
    Calls Try.prog 3 #[.slice a n c] w fun e w' => e = .returned (.bool true) ∧ Below w.heap.size w w' := by
  obtain ⟨d, m, C, cd, hD⟩ := runD_some RQ n
  obtain ⟨hdk, hm120⟩ := hD.small
  have hd0 := hdk.1.1
  have hd1 := hdk.2.1
  have HE : Hid (Els w 5 a n (rqF RQ)) := h
  have SZ : Hid (∀ w : World, Els w 5 a n (rqF RQ) → Calls Try.prog 6 #[.slice a n c, .int .i64 1048576] w fun e w' => (∃ y : Int, e = .returned (.int .i64 y) ∧ y ≤ 1048576 ∧ (0 ≤ y → n ≤ 1048576)) ∧ Below w.heap.size w w') := fun w h => szRequestS_any a n c RQ 1048576 w h (by omega) (by omega) hm hf
  have A1 : Hid (Below w.heap.size w w) := Below.refl _ _
  have HM : Hid (n ≤ maxLen) := hm
  clear h hf hm
  go_enter Try.func3, Try.ntmps3
  go_wp2_with fail
  refine (SZ.out _ HE.out).mono ?_
  rintro e v0 ⟨⟨y, rfl, hy, hyn⟩, hb⟩
  replace A1 : Hid (Below w.heap.size w v0) := hb
  clear hb SZ
  by_cases hy0 : y < 0
  · clear hyn
    go_wp2
    go_ret
    exact ⟨rfl, A1.out⟩
  · have hn : n ≤ 1048576 := hyn (by omega)
    have TO : Hid (∀ w : World, Els w 5 a n (rqF RQ) → Calls Try.prog 8 #[.slice a n c] w fun e w' => (e = .returned (.slice (some ⟨w.heap.size, 0, none⟩) n n) ∧ RowE w' 5 (some ⟨w.heap.size, 0, none⟩) w.heap.size n (rqF RQ) ∧ w.heap.size < w'.heap.size) ∧ Below w.heap.size w w') := fun w h => (toRequestS_any a n c RQ w h hn).mono fun _ _ q => ⟨⟨q.1, q.2.1, q.2.2.1⟩, q.2.2.2⟩
    have SO : Hid (∀ (b : Option Addr) (x : Nat) (w : World), Els w 5 b n (rqF RQ) → Calls Try.prog 7 #[.slice b n x] w fun e w' => RunA d m C cd w.heap.size e w' ∧ Below w.heap.size w w') := fun b x w h => specRunB_any b n x RQ d m C cd hD HM.out w h
    have IY : Hid (∀ (b : Option Addr) (x : Nat) (w : World), Els w 5 b n (rqF RQ) → Calls Try.prog 9 #[.slice b n x] w fun e w' => RunA d m C cd w.heap.size e w' ∧ Below w.heap.size w w') := fun b x w h => implRunB_any b n x RQ d m C cd hD HM.out w h
    have EQ : Hid (∀ (b0 b1 e0 e1 : Option Addr) (x0 x1 y0 y1 : Nat) (w : World), BankV w d b0 b1 → BankV w d e0 e1 → Calls Try.prog 10 #[.agg #[.slice b0 d.nr x0, .slice b1 d.ns x1], .agg #[.slice e0 d.nr y0, .slice e1 d.ns y1]] w fun e w' => e = .returned (.bool true) ∧ Below w.heap.size w w') := fun b0 b1 e0 e1 x0 x1 y0 y1 w h h' => eqBank_yes d b0 b1 e0 e1 x0 x1 y0 y1 w h h' (by omega) (by omega)
    have EI : Hid (∀ (b e : Option Addr) (x y : Nat) (w : World), Num w b m C → Num w e m C → Calls Try.prog 11 #[.slice b m x, .slice e m y] w fun e w' => e = .returned (.bool true) ∧ Below w.heap.size w w') := fun b e x y w h h' => eqNum_yes b e m x y C w h h' (by omega)
    have ER : Hid (∀ (b e : Option Addr) (x y : Nat) (w : World), Els w 5 b n (rqF RQ) → Els w 5 e n (rqF RQ) → Calls Try.prog 12 #[.slice b n x, .slice e n y] w fun e w' => e = .returned (.bool true) ∧ Below w.heap.size w w') := fun b e x y w h h' => eqRequestS_yes b e n x y RQ w h h' hn
    have MR : Hid (∀ (b : Option Addr) (g x : Nat) (w : World), RowE w 5 b g n (rqF RQ) → Calls Try.prog 13 #[.slice b n x, .int .i64 1] w fun e w' => e = .returned (.int .i64 ((1 + 5 * n : Nat) : Int)) ∧ TurnedE g n w w') := fun b g x w h => (markRequestK b g n x 1 RQ (by omega) (by omega) w h).mono fun _ _ q => ⟨q.1, q.2.2⟩
    have MK : Hid (∀ (B : Nat) (b0 b1 : Option Addr) (x0 x1 g0 g1 : Nat) (w : World), (0 < d.nr → B ≤ g0) ∧ (0 < d.ns → B ≤ g1) → B ≤ w.heap.size → RowB w d b0 b1 g0 g1 → Calls Try.prog 14 #[.agg #[.slice b0 d.nr x0, .slice b1 d.ns x1], .int .i64 1] w fun e w' => e = .returned (.int .i64 ((1 + 3 * d.nr + 4 * d.ns : Nat) : Int)) ∧ RowB w' (d.marked 1) b0 b1 g0 g1 ∧ KeepB w w' d g0 g1 ∧ Below B w w') := fun B b0 b1 x0 x1 g0 g1 w hB hw h => markBank_any B d b0 b1 x0 x1 g0 g1 1 (by omega) (by omega) hB w hw h
    have HH : Hid (∀ (b0 b1 : Option Addr) (x0 x1 : Nat) (w : World), BankV w (d.marked 1) b0 b1 → Calls Try.prog 16 #[.agg #[.slice b0 d.nr x0, .slice b1 d.ns x1], .int .i64 1] w fun e w' => e = .returned (.int .i64 ((1 + 3 * d.nr + 4 * d.ns : Nat) : Int)) ∧ Below w.heap.size w w') := fun b0 b1 x0 x1 w h => heldBank_yes d b0 b1 x0 x1 1 (by omega) (by omega) w h
    have hK : 1 + 3 * d.nr + 4 * d.ns ≤ 1000 := by omega
    have NZ : ¬ ((1 + 5 * n : Nat) : Int) < 0 := by omega
    generalize 1 + 3 * d.nr + 4 * d.ns = K at *
    have MI : Hid (∀ (b : Option Addr) (g x : Nat) (w : World), RowE w 1 b g m (inF C) → Calls Try.prog 15 #[.slice b m x, .int .i64 (K : Int)] w fun e w' => e = .returned (.int .i64 ((K + m : Nat) : Int)) ∧ RowE w' 1 b g m (inF (mkC K)) ∧ TurnedE g m w w') := fun b g x w h => markIntK b g m x K C (by omega) w h
    have HI : Hid (∀ (b : Option Addr) (x : Nat) (w : World), Num w b m (mkC K) → Calls Try.prog 17 #[.slice b m x, .int .i64 (K : Int)] w fun e w' => e = .returned (.int .i64 ((K + m : Nat) : Int)) ∧ Below w.heap.size w w') := fun b x w h => heldIntK b m x K (by omega) w h
    have kz : ¬ (K : Int) < 0 := by omega
    have kz2 : ¬ ((K + m : Nat) : Int) < 0 := by omega
    have ke : (((K + m : Nat) : Int) != ((K + m : Nat) : Int)) = false := by simp
    have rr : (cd != cd) = false := by simp
    generalize ((K + m : Nat) : Int) = K2 at *
    generalize ((1 + 5 * n : Nat) : Int) = N1 at *
    generalize (K : Int) = K1 at *
    clear hyn hdk hm120 hd0 hd1 hD hn hK hy
    go_wp2_with fail
    refine (TO.out _ (HE.out.below A1.out)).mono ?_
    rintro e v1 ⟨⟨rfl, hx, hlt⟩, hb⟩
    replace A1 : Hid (Below w.heap.size w v1) := A1.out.trans (hb.mono A1.out.size)
    have XA : Hid (Els v1 5 (some ⟨v0.heap.size, 0, none⟩) n (rqF RQ)) := hx.els
    clear hb hx hlt
    go_wp2_with fail
    refine (SO.out _ _ _ XA.out).mono ?_
    rintro e v2 ⟨hr, hb⟩
    obtain ⟨wa0, wx0, wa1, wx1, wac, wcc, wg0, wg1, wgc, rfl, hR, hC, -, -⟩ := hr.rows
    replace A1 : Hid (Below w.heap.size w v2) := A1.out.trans (hb.mono A1.out.size)
    have W0 : Hid (BankV v2 d wa0 wa1) := hR.bankV
    have WI : Hid (Num v2 wac m C) := hC.els
    clear hb hr hR hC SO XA
    have hb : Below v2.heap.size v2 (v2.alloc (.cells #[.slice wa0 d.nr wx0, .slice wa1 d.ns wx1] 27)) := (Below.refl _ _).alloc (Nat.le_refl _) _
    have PW : Hid (Box2 (v2.alloc (.cells #[.slice wa0 d.nr wx0, .slice wa1 d.ns wx1] 27)) v2.heap.size 27 (.slice wa0 d.nr wx0) (.slice wa1 d.ns wx1)) := Box2.made _ _ _ _
    replace A1 : Hid (Below w.heap.size w (v2.alloc (.cells #[.slice wa0 d.nr wx0, .slice wa1 d.ns wx1] 27))) := A1.out.trans (hb.mono A1.out.size)
    replace W0 : Hid (BankV (v2.alloc (.cells #[.slice wa0 d.nr wx0, .slice wa1 d.ns wx1] 27)) d wa0 wa1) := W0.out.below hb
    replace WI : Hid (Num (v2.alloc (.cells #[.slice wa0 d.nr wx0, .slice wa1 d.ns wx1] 27)) wac m C) := WI.out.below hb
    clear hb
    go_wp2_with fail
    generalize (v2.alloc (.cells #[.slice wa0 d.nr wx0, .slice wa1 d.ns wx1] 27)) = v3 at *
    generalize v2.heap.size = pw at *
    refine (TO.out _ (HE.out.below A1.out)).mono ?_
    rintro e v4 ⟨⟨rfl, hx, hlt⟩, hb⟩
    have AX : Hid (Below w.heap.size w v3) := A1.out
    have KX : Hid (Below v3.heap.size v3 v4) := hb
    obtain ⟨gX, hgX⟩ : ∃ gX, gX = v3.heap.size := ⟨_, rfl⟩
    rw [← hgX] at hx hlt ⊢
    have GX : Hid (gX = v3.heap.size) := hgX
    have XO : Hid (RowE v4 5 (some ⟨gX, 0, none⟩) gX n (rqF RQ)) := hx
    have LX : Hid (gX < v4.heap.size) := hlt
    clear hx hlt hb hgX A1
    go_wp2_with fail
    refine (IY.out _ _ _ XO.out.els).mono ?_
    rintro e v5 ⟨hr, hb⟩
    obtain ⟨ga0, gx0, ga1, gx1, gac, gcc, gg0, gg1, ggc, rfl, hR, hC, hl, hne⟩ := hr.rows
    replace KX : Hid (Below v3.heap.size v3 v5) := KX.out.trans (hb.mono KX.out.size)
    replace XO : Hid (RowE v5 5 (some ⟨gX, 0, none⟩) gX n (rqF RQ)) := XO.out.below (by omega) hb
    have GG : Hid (RowB v5 d ga0 ga1 gg0 gg1) := hR
    have GI : Hid (RowE v5 1 gac ggc m (inF C)) := hC
    have GL : Hid ((0 < d.nr → v4.heap.size ≤ gg0 ∧ gg0 < v5.heap.size) ∧ (0 < d.ns → v4.heap.size ≤ gg1 ∧ gg1 < v5.heap.size) ∧ (0 < m → v4.heap.size ≤ ggc ∧ ggc < v5.heap.size)) := hl
    have GN : Hid ((0 < d.nr → 0 < m → ggc ≠ gg0) ∧ (0 < d.ns → 0 < m → ggc ≠ gg1)) := hne
    have LV : Hid (v4.heap.size ≤ v5.heap.size) := hb.size
    clear hb hr hR hC hl hne
    have hb : Below v5.heap.size v5 (v5.alloc (.cells #[.slice ga0 d.nr gx0, .slice ga1 d.ns gx1] 27)) := (Below.refl _ _).alloc (Nat.le_refl _) _
    have PG : Hid (Box2 (v5.alloc (.cells #[.slice ga0 d.nr gx0, .slice ga1 d.ns gx1] 27)) v5.heap.size 27 (.slice ga0 d.nr gx0) (.slice ga1 d.ns gx1)) := Box2.made _ _ _ _
    replace KX : Hid (Below v3.heap.size v3 (v5.alloc (.cells #[.slice ga0 d.nr gx0, .slice ga1 d.ns gx1] 27))) := KX.out.trans (hb.mono KX.out.size)
    replace XO : Hid (RowE (v5.alloc (.cells #[.slice ga0 d.nr gx0, .slice ga1 d.ns gx1] 27)) 5 (some ⟨gX, 0, none⟩) gX n (rqF RQ)) := XO.out.below (by omega) hb
    replace GG : Hid (RowB (v5.alloc (.cells #[.slice ga0 d.nr gx0, .slice ga1 d.ns gx1] 27)) d ga0 ga1 gg0 gg1) := GG.out.below hb
    replace GI : Hid (RowE (v5.alloc (.cells #[.slice ga0 d.nr gx0, .slice ga1 d.ns gx1] 27)) 1 gac ggc m (inF C)) := GI.out.below (by omega) hb
    clear hb
    have pg0 := PG.out.c0
    have pg1 := PG.out.c1
    have pw0 := (PW.out.below KX.out).c0
    have pw1 := (PW.out.below KX.out).c1
    go_upto_region 8 with fail
    generalize (v5.alloc (.cells #[.slice ga0 d.nr gx0, .slice ga1 d.ns gx1] 27)) = v6 at *
    generalize hpg : v5.heap.size = pg at *
    clear hpg
    go_wp2_with fail
    refine (EQ.out _ _ _ _ _ _ _ _ _ GG.out.bankV (W0.out.below KX.out)).mono ?_
    rintro e v7 ⟨rfl, hb⟩
    replace KX : Hid (Below v3.heap.size v3 v7) := KX.out.trans (hb.mono KX.out.size)
    replace XO : Hid (RowE v7 5 (some ⟨gX, 0, none⟩) gX n (rqF RQ)) := XO.out.below (by omega) hb
    replace PG : Hid (Box2 v7 pg 27 (.slice ga0 d.nr gx0) (.slice ga1 d.ns gx1)) := PG.out.below hb
    replace GG : Hid (RowB v7 d ga0 ga1 gg0 gg1) := GG.out.below hb
    replace GI : Hid (RowE v7 1 gac ggc m (inF C)) := GI.out.below (by omega) hb
    clear hb
    clear pg0 pg1 pw0 pw1
    go_wp2_with fail
    refine (EI.out _ _ _ _ _ GI.out.els (WI.out.below KX.out)).mono ?_
    rintro e v8 ⟨rfl, hb⟩
    replace KX : Hid (Below v3.heap.size v3 v8) := KX.out.trans (hb.mono KX.out.size)
    replace XO : Hid (RowE v8 5 (some ⟨gX, 0, none⟩) gX n (rqF RQ)) := XO.out.below (by omega) hb
    replace PG : Hid (Box2 v8 pg 27 (.slice ga0 d.nr gx0) (.slice ga1 d.ns gx1)) := PG.out.below hb
    replace GG : Hid (RowB v8 d ga0 ga1 gg0 gg1) := GG.out.below hb
    replace GI : Hid (RowE v8 1 gac ggc m (inF C)) := GI.out.below (by omega) hb
    clear hb
    go_wp2_with fail
    refine (TO.out _ (HE.out.below (AX.out.trans (KX.out.mono AX.out.size)))).mono ?_
    rintro e v9 ⟨⟨rfl, hx, hlt⟩, hb⟩
    replace KX : Hid (Below v3.heap.size v3 v9) := KX.out.trans (hb.mono KX.out.size)
    replace XO : Hid (RowE v9 5 (some ⟨gX, 0, none⟩) gX n (rqF RQ)) := XO.out.below (by omega) hb
    replace PG : Hid (Box2 v9 pg 27 (.slice ga0 d.nr gx0) (.slice ga1 d.ns gx1)) := PG.out.below hb
    replace GG : Hid (RowB v9 d ga0 ga1 gg0 gg1) := GG.out.below hb
    replace GI : Hid (RowE v9 1 gac ggc m (inF C)) := GI.out.below (by omega) hb
    have XB := hx.els
    clear hb hx hlt
    go_wp2_with fail
    refine (ER.out _ _ _ _ _ XO.out.els XB).mono ?_
    rintro e v10 ⟨rfl, hb⟩
    replace KX : Hid (Below v3.heap.size v3 v10) := KX.out.trans (hb.mono KX.out.size)
    replace XO : Hid (RowE v10 5 (some ⟨gX, 0, none⟩) gX n (rqF RQ)) := XO.out.below (by omega) hb
    replace PG : Hid (Box2 v10 pg 27 (.slice ga0 d.nr gx0) (.slice ga1 d.ns gx1)) := PG.out.below hb
    replace GG : Hid (RowB v10 d ga0 ga1 gg0 gg1) := GG.out.below hb
    replace GI : Hid (RowE v10 1 gac ggc m (inF C)) := GI.out.below (by omega) hb
    clear hb XB
    go_wp2_with fail
    refine (MR.out _ _ _ _ XO.out).mono ?_
    rintro e v11 ⟨rfl, ht⟩
    have hgx := GX.out
    have hlx := LX.out
    have hk1 := KX.out.size
    have hbk : Below v3.heap.size v10 v11 := ht.toBelow (fun _ => by omega) (by omega)
    have kp : ∀ g, g < v10.heap.size → g ≠ gX → v11.heap[g]? = v10.heap[g]? := fun g h1 h2 => ht.block h1 (fun _ => h2)
    replace GG : Hid (RowB v11 d ga0 ga1 gg0 gg1) := GG.out.keep (fun q => kp _ (GG.out.s0.lt (by omega) q) (by have := GL.out.1 q; omega)) (fun q => kp _ (GG.out.s1.lt (by omega) q) (by have := GL.out.2.1 q; omega))
    replace GI : Hid (RowE v11 1 gac ggc m (inF C)) := GI.out.ofBlock (fun q => kp _ (GI.out.lt (by omega) q) (by have := GL.out.2.2 q; omega))
    replace PG : Hid (Box2 v11 pg 27 (.slice ga0 d.nr gx0) (.slice ga1 d.ns gx1)) := PG.out.ofBlock (kp _ PG.out.lt (by have := LV.out; omega))
    replace KX : Hid (Below v3.heap.size v3 v11) := KX.out.trans hbk
    clear ht hbk kp hgx hlx hk1 XO
    have pg0 := PG.out.c0
    have pg1 := PG.out.c1
    have pw0 := (PW.out.below KX.out).c0
    have pw1 := (PW.out.below KX.out).c1
    go_wp2_with fail
    refine (EQ.out _ _ _ _ _ _ _ _ _ GG.out.bankV (W0.out.below KX.out)).mono ?_
    rintro e v12 ⟨rfl, hb⟩
    replace KX : Hid (Below v3.heap.size v3 v12) := KX.out.trans (hb.mono KX.out.size)
    replace PG : Hid (Box2 v12 pg 27 (.slice ga0 d.nr gx0) (.slice ga1 d.ns gx1)) := PG.out.below hb
    replace GG : Hid (RowB v12 d ga0 ga1 gg0 gg1) := GG.out.below hb
    replace GI : Hid (RowE v12 1 gac ggc m (inF C)) := GI.out.below (by omega) hb
    clear hb
    clear pg0 pg1 pw0 pw1
    go_wp2_with fail
    refine (EI.out _ _ _ _ _ GI.out.els (WI.out.below KX.out)).mono ?_
    rintro e v13 ⟨rfl, hb⟩
    replace KX : Hid (Below v3.heap.size v3 v13) := KX.out.trans (hb.mono KX.out.size)
    replace PG : Hid (Box2 v13 pg 27 (.slice ga0 d.nr gx0) (.slice ga1 d.ns gx1)) := PG.out.below hb
    replace GG : Hid (RowB v13 d ga0 ga1 gg0 gg1) := GG.out.below hb
    replace GI : Hid (RowE v13 1 gac ggc m (inF C)) := GI.out.below (by omega) hb
    clear hb
    have pg0 := PG.out.c0
    have pg1 := PG.out.c1
    have pw0 := (PW.out.below KX.out).c0
    have pw1 := (PW.out.below KX.out).c1
    go_wp2_with fail
    have hgx := GX.out
    have hlx := LX.out
    refine (MK.out v3.heap.size _ _ _ _ _ _ _ ⟨fun q => by have := GL.out.1 q; omega, fun q => by have := GL.out.2.1 q; omega⟩ KX.out.size GG.out).mono ?_
    rintro e v14 ⟨rfl, hr, hkp, hbk⟩
    have kp : ∀ g, g < v13.heap.size → (0 < d.nr → g ≠ gg0) → (0 < d.ns → g ≠ gg1) → v14.heap[g]? = v13.heap[g]? := hkp.2
    have GM : Hid (RowB v14 (d.marked 1) ga0 ga1 gg0 gg1) := hr
    replace GI : Hid (RowE v14 1 gac ggc m (inF C)) := GI.out.ofBlock (fun q => kp _ (GI.out.lt (by omega) q) (fun h => GN.out.1 h q) (fun h => GN.out.2 h q))
    replace PG : Hid (Box2 v14 pg 27 (.slice ga0 d.nr gx0) (.slice ga1 d.ns gx1)) := PG.out.ofBlock (kp _ PG.out.lt (fun h => by have := GL.out.1 h; omega) (fun h => by have := GL.out.2.1 h; omega))
    replace KX : Hid (Below v3.heap.size v3 v14) := KX.out.trans hbk
    clear hkp hbk kp hr GG hgx hlx
    clear pg0 pg1 pw0 pw1
    go_wp2_with fail
    refine (MI.out _ _ _ _ GI.out).mono ?_
    rintro e v15 ⟨rfl, hr, ht⟩
    have hgx := GX.out
    have hlx := LX.out
    have hk1 := KX.out.size
    have hbk : Below v3.heap.size v14 v15 := ht.toBelow (fun q => by have := GL.out.2.2 q; omega) (by omega)
    have kp : ∀ g, g < v14.heap.size → (0 < m → g ≠ ggc) → v15.heap[g]? = v14.heap[g]? := fun g h1 h2 => ht.block h1 h2
    replace GM : Hid (RowB v15 (d.marked 1) ga0 ga1 gg0 gg1) := GM.out.keep (fun q => kp _ (GM.out.s0.lt (by omega) q) (fun h e => GN.out.1 q h e.symm)) (fun q => kp _ (GM.out.s1.lt (by omega) q) (fun h e => GN.out.2 q h e.symm))
    have GJ : Hid (RowE v15 1 gac ggc m (inF (mkC K))) := hr
    replace PG : Hid (Box2 v15 pg 27 (.slice ga0 d.nr gx0) (.slice ga1 d.ns gx1)) := PG.out.ofBlock (kp _ PG.out.lt (fun h => by have := GL.out.2.2 h; omega))
    replace KX : Hid (Below v3.heap.size v3 v15) := KX.out.trans hbk
    clear ht hbk kp hgx hlx hk1 hr GI GL GN
    have pg0 := PG.out.c0
    have pg1 := PG.out.c1
    have pw0 := (PW.out.below KX.out).c0
    have pw1 := (PW.out.below KX.out).c1
    go_wp2_with fail
    refine (HH.out _ _ _ _ _ GM.out.bankV).mono ?_
    rintro e v16 ⟨rfl, hb⟩
    replace KX : Hid (Below v3.heap.size v3 v16) := KX.out.trans (hb.mono KX.out.size)
    replace PG : Hid (Box2 v16 pg 27 (.slice ga0 d.nr gx0) (.slice ga1 d.ns gx1)) := PG.out.below hb
    replace GM : Hid (RowB v16 (d.marked 1) ga0 ga1 gg0 gg1) := GM.out.below hb
    replace GJ : Hid (RowE v16 1 gac ggc m (inF (mkC K))) := GJ.out.below (by omega) hb
    clear hb
    clear pg0 pg1 pw0 pw1
    go_wp2_with fail
    refine (HI.out _ _ _ GJ.out.els).mono ?_
    rintro e v17 ⟨rfl, hb⟩
    replace KX : Hid (Below v3.heap.size v3 v17) := KX.out.trans (hb.mono KX.out.size)
    replace PG : Hid (Box2 v17 pg 27 (.slice ga0 d.nr gx0) (.slice ga1 d.ns gx1)) := PG.out.below hb
    replace GM : Hid (RowB v17 (d.marked 1) ga0 ga1 gg0 gg1) := GM.out.below hb
    replace GJ : Hid (RowE v17 1 gac ggc m (inF (mkC K))) := GJ.out.below (by omega) hb
    clear hb
    go_wp2_with fail
    refine (TO.out _ (HE.out.below (AX.out.trans (KX.out.mono AX.out.size)))).mono ?_
    rintro e v18 ⟨⟨rfl, hx, hlt⟩, hb⟩
    replace KX : Hid (Below v3.heap.size v3 v18) := KX.out.trans (hb.mono KX.out.size)
    replace PG : Hid (Box2 v18 pg 27 (.slice ga0 d.nr gx0) (.slice ga1 d.ns gx1)) := PG.out.below hb
    replace GM : Hid (RowB v18 (d.marked 1) ga0 ga1 gg0 gg1) := GM.out.below hb
    replace GJ : Hid (RowE v18 1 gac ggc m (inF (mkC K))) := GJ.out.below (by omega) hb
    have XB := hx.els
    clear hb hx hlt
    go_wp2_with fail
    refine (IY.out _ _ _ XB).mono ?_
    rintro e v19 ⟨hr, hb⟩
    obtain ⟨ha0, hx0, ha1, hx1, hac, hcc, hg0, hg1, hgc, rfl, hR, hC, -, -⟩ := hr.rows
    replace KX : Hid (Below v3.heap.size v3 v19) := KX.out.trans (hb.mono KX.out.size)
    replace PG : Hid (Box2 v19 pg 27 (.slice ga0 d.nr gx0) (.slice ga1 d.ns gx1)) := PG.out.below hb
    replace GM : Hid (RowB v19 (d.marked 1) ga0 ga1 gg0 gg1) := GM.out.below hb
    replace GJ : Hid (RowE v19 1 gac ggc m (inF (mkC K))) := GJ.out.below (by omega) hb
    have HV : Hid (BankV v19 d ha0 ha1) := hR.bankV
    have HN : Hid (Num v19 hac m C) := hC.els
    clear hb hr hR hC XB
    have hb : Below v19.heap.size v19 (v19.alloc (.cells #[.slice ha0 d.nr hx0, .slice ha1 d.ns hx1] 27)) := (Below.refl _ _).alloc (Nat.le_refl _) _
    have PH : Hid (Box2 (v19.alloc (.cells #[.slice ha0 d.nr hx0, .slice ha1 d.ns hx1] 27)) v19.heap.size 27 (.slice ha0 d.nr hx0) (.slice ha1 d.ns hx1)) := Box2.made _ _ _ _
    replace KX : Hid (Below v3.heap.size v3 (v19.alloc (.cells #[.slice ha0 d.nr hx0, .slice ha1 d.ns hx1] 27))) := KX.out.trans (hb.mono KX.out.size)
    replace PG : Hid (Box2 (v19.alloc (.cells #[.slice ha0 d.nr hx0, .slice ha1 d.ns hx1] 27)) pg 27 (.slice ga0 d.nr gx0) (.slice ga1 d.ns gx1)) := PG.out.below hb
    replace GM : Hid (RowB (v19.alloc (.cells #[.slice ha0 d.nr hx0, .slice ha1 d.ns hx1] 27)) (d.marked 1) ga0 ga1 gg0 gg1) := GM.out.below hb
    replace GJ : Hid (RowE (v19.alloc (.cells #[.slice ha0 d.nr hx0, .slice ha1 d.ns hx1] 27)) 1 gac ggc m (inF (mkC K))) := GJ.out.below (by omega) hb
    replace HV : Hid (BankV (v19.alloc (.cells #[.slice ha0 d.nr hx0, .slice ha1 d.ns hx1] 27)) d ha0 ha1) := HV.out.below hb
    replace HN : Hid (Num (v19.alloc (.cells #[.slice ha0 d.nr hx0, .slice ha1 d.ns hx1] 27)) hac m C) := HN.out.below hb
    clear hb
    have ph0 := PH.out.c0
    have ph1 := PH.out.c1
    have pw0 := (PW.out.below KX.out).c0
    have pw1 := (PW.out.below KX.out).c1
    go_upto_region 29 with fail
    generalize (v19.alloc (.cells #[.slice ha0 d.nr hx0, .slice ha1 d.ns hx1] 27)) = vh at *
    generalize v19.heap.size = ph at *
    go_wp2_with fail
    refine (EQ.out _ _ _ _ _ _ _ _ _ HV.out (W0.out.below KX.out)).mono ?_
    rintro e v20 ⟨rfl, hb⟩
    replace KX : Hid (Below v3.heap.size v3 v20) := KX.out.trans (hb.mono KX.out.size)
    replace PG : Hid (Box2 v20 pg 27 (.slice ga0 d.nr gx0) (.slice ga1 d.ns gx1)) := PG.out.below hb
    replace GM : Hid (RowB v20 (d.marked 1) ga0 ga1 gg0 gg1) := GM.out.below hb
    replace GJ : Hid (RowE v20 1 gac ggc m (inF (mkC K))) := GJ.out.below (by omega) hb
    replace HV : Hid (BankV v20 d ha0 ha1) := HV.out.below hb
    replace HN : Hid (Num v20 hac m C) := HN.out.below hb
    clear hb ph0 ph1 pw0 pw1 PH
    go_wp2_with fail
    refine (EI.out _ _ _ _ _ HN.out (WI.out.below KX.out)).mono ?_
    rintro e v21 ⟨rfl, hb⟩
    replace KX : Hid (Below v3.heap.size v3 v21) := KX.out.trans (hb.mono KX.out.size)
    replace PG : Hid (Box2 v21 pg 27 (.slice ga0 d.nr gx0) (.slice ga1 d.ns gx1)) := PG.out.below hb
    replace GM : Hid (RowB v21 (d.marked 1) ga0 ga1 gg0 gg1) := GM.out.below hb
    replace GJ : Hid (RowE v21 1 gac ggc m (inF (mkC K))) := GJ.out.below (by omega) hb
    replace HV : Hid (BankV v21 d ha0 ha1) := HV.out.below hb
    replace HN : Hid (Num v21 hac m C) := HN.out.below hb
    clear hb
    have pg0 := PG.out.c0
    have pg1 := PG.out.c1
    have pw0 := (PW.out.below KX.out).c0
    have pw1 := (PW.out.below KX.out).c1
    go_wp2_with fail
    refine (HH.out _ _ _ _ _ GM.out.bankV).mono ?_
    rintro e v22 ⟨rfl, hb⟩
    replace KX : Hid (Below v3.heap.size v3 v22) := KX.out.trans (hb.mono KX.out.size)
    replace PG : Hid (Box2 v22 pg 27 (.slice ga0 d.nr gx0) (.slice ga1 d.ns gx1)) := PG.out.below hb
    replace GM : Hid (RowB v22 (d.marked 1) ga0 ga1 gg0 gg1) := GM.out.below hb
    replace GJ : Hid (RowE v22 1 gac ggc m (inF (mkC K))) := GJ.out.below (by omega) hb
    replace HV : Hid (BankV v22 d ha0 ha1) := HV.out.below hb
    replace HN : Hid (Num v22 hac m C) := HN.out.below hb
    clear hb
    clear pg0 pg1 pw0 pw1
    go_wp2_with fail
    refine (HI.out _ _ _ GJ.out.els).mono ?_
    rintro e v23 ⟨rfl, hb⟩
    replace KX : Hid (Below v3.heap.size v3 v23) := KX.out.trans (hb.mono KX.out.size)
    replace PG : Hid (Box2 v23 pg 27 (.slice ga0 d.nr gx0) (.slice ga1 d.ns gx1)) := PG.out.below hb
    replace GM : Hid (RowB v23 (d.marked 1) ga0 ga1 gg0 gg1) := GM.out.below hb
    replace GJ : Hid (RowE v23 1 gac ggc m (inF (mkC K))) := GJ.out.below (by omega) hb
    replace HV : Hid (BankV v23 d ha0 ha1) := HV.out.below hb
    replace HN : Hid (Num v23 hac m C) := HN.out.below hb
    clear hb
    have AF : Hid (Below w.heap.size w v23) := AX.out.trans (KX.out.mono AX.out.size)
    clear KX AX PG GM GJ HV HN
    go_wp2
    go_ret
    exact ⟨rfl, AF.out⟩
end Go.Proofs.Ytfhjenohgafjlab
