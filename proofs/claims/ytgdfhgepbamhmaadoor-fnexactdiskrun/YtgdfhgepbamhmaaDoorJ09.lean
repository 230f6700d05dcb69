/-
  The exact law of DiskRun (written by tools/diskrun_law.py).
-/
import Derived.Test.YtgdfhgepbamhmaaDoorJ06
import Derived.Test.YtgdfhgepbamhmaaDoorJ07
import Derived.Test.YtgdfhgepbamhmaaDoorJ08
import Derived.Test.YtgdfhgepbamhmaaDoorMarkD
import Derived.Test.YtgdfhgepbamhmaaDoorJ02
namespace Go.Proofs.YtgdfhgepbamhmaaDoor
open Go.ChangeShapes Go.WideShapes Go.ChangeAt Go.RowKit
set_option linter.unusedVariables false
set_option linter.unusedVariables false
theorem IntR.eo {w : World} {B : Nat} {v : Value} {n : Nat} {C : Nat → Int} (h : IntR w B v n C) : EO w B 3 1 v n (inF C) := by
  unfold EO IntR at *
  have e : elv 1 n (inF C) = (List.range n).map fun i => .int .i64 (C i) := by unfold elv inF; simp
  rw [e]
  exact h
/-- What both sides hand back, codes as a slice. -/
def RunAns (B : Nat) (w' : World) (e : Ending) (k : Dk) (N : Nat) (C : Nat → Int) (cd : Int) : Prop := ∃ (a0 a1 a2 : Option Addr) (c0 c1 c2 g0 g1 g2 : Nat) (ia : Option Addr) (ic ig : Nat), e = .returned (.tuple #[.agg #[.slice a0 k.nb c0, .slice a1 k.nc c1, .slice a2 k.ns c2], .slice ia N ic, .int .i64 cd]) ∧ RowD w' k a0 a1 a2 g0 g1 g2 ∧ GeD k g0 g1 g2 B ∧ RowE w' 1 ia ig N (inF C) ∧ (0 < N → B ≤ ig)
def RunAnsS (B : Nat) (w' : World) (e : Ending) (k : Dk) (N : Nat) (C : Nat → Int) (cd : Int) : Prop := ∃ (a0 a1 a2 : Option Addr) (c0 c1 c2 g0 g1 g2 : Nat) (ia : Option Addr) (ic ig : Nat), e = .returned (.tuple #[.agg #[.slice a0 k.nb c0, .slice a1 k.nc c1, .slice a2 k.ns c2], .slice ia N ic, .int .i64 cd]) ∧ RowD w' k a0 a1 a2 g0 g1 g2 ∧ GeD k g0 g1 g2 B ∧ RowE w' 1 ia ig N (inF C) ∧ (0 < N → B ≤ ig) ∧ (0 < N → (0 < k.nb → ig ≠ g0) ∧ (0 < k.nc → ig ≠ g1) ∧ (0 < k.ns → ig ≠ g2))
theorem RetRun.ans {B : Nat} {w' : World} {e : Ending} {k : Dk} {N : Nat} {C : Nat → Int} {cd : Int} (h : RetRun B w' e k N C cd) : RunAns B w' e k N C cd := by
  obtain ⟨a0, a1, a2, c0, c1, c2, g0, g1, g2, iv, h1, h2, h3, h4, _⟩ := h
  have he := h4.eo
  obtain ⟨ia, ic, rfl⟩ := he.form
  obtain ⟨ig, hr, hB⟩ := he.rowE
  exact ⟨a0, a1, a2, c0, c1, c2, g0, g1, g2, ia, ic, ig, h1, h2, h3, hr, hB⟩
theorem RetRunS.ans {B : Nat} {w' : World} {e : Ending} {k : Dk} {N : Nat} {C : Nat → Int} {cd : Int} (h : RetRunS B w' e k N C cd) : RunAnsS B w' e k N C cd := by
  obtain ⟨a0, a1, a2, c0, c1, c2, g0, g1, g2, iv, h1, h2, h3, h4, _, _, _, hs⟩ := h
  have he := h4.eo
  obtain ⟨ia, ic, rfl⟩ := he.form
  obtain ⟨ig, hr, hB⟩ := he.rowE
  refine ⟨a0, a1, a2, c0, c1, c2, g0, g1, g2, ia, ic, ig, h1, h2, h3, hr, hB, fun z => ?_⟩
  have ho : (Value.slice ia N ic).ownBlock = some ig := by rw [hr.a z]; rfl
  obtain ⟨s0, s1, s2⟩ := hs ig ho
  refine ⟨fun y e => s0 ?_, fun y e => s1 ?_, fun y e => s2 ?_⟩
  · rw [h2.s0.a y, e]; rfl
  · rw [h2.s1.a y, e]; rfl
  · rw [h2.s2.a y, e]; rfl
theorem run_ex (x : Int) (n : Nat) (A : Nat → Ac) : ∃ (k : Dk) (N : Nat) (C : Nat → Int) (cd : Int), N ≤ 120 ∧ (k.nb ≤ 64 ∧ k.nc ≤ 4096 ∧ k.ns ≤ 64) ∧
    (∀ (ad : Option Addr) (c : Nat) (w : World), Acts w ad n A → Calls Tryd.prog 5 #[.int .i64 x, .slice ad n c] w fun e w' => RunAns w.heap.size w' e k N C cd ∧ Below w.heap.size w w') ∧
    (∀ (ad : Option Addr) (c : Nat) (p0 p1 p2 p3 p4 : Addr) (w : World), Acts w ad n A → Errs w p0 p1 p2 p3 p4 → Calls Tryd.prog 7 #[.int .i64 x, .slice ad n c] w fun e w' => RunAnsS w.heap.size w' e k N C cd ∧ Below w.heap.size w w') := by
  rcases badRun_ex x n A with ⟨code, hc⟩ | ⟨hx, hn, hA⟩
  · refine ⟨newD 0, 0, fun _ => 0, code, by omega, ⟨by decide, by decide, by decide⟩, fun ad c w h => ?_, fun ad c p0 p1 p2 p3 p4 w h hE => ?_⟩
    · by_cases q : n ≤ 120 ∧ (1 ≤ x ∧ x ≤ 64)
      · rcases hc with ⟨h4, _⟩ | ⟨_, ⟨hx, _⟩ | ⟨hx, ⟨h5, _⟩ | ⟨h5, ⟨m, hm, h6, h7⟩, rfl⟩⟩⟩
        · omega
        · exact absurd q.2 hx
        · omega
        · exact (specRun_long x hx n h5 A m hm h6 h7 ad c w h).mono fun e w' r => ⟨r.1.ans, r.2⟩
      · exact (specRun_few x n A code hc q ad c w).mono fun e w' r => ⟨r.1.ans, r.2⟩
    · by_cases q : n ≤ 120 ∧ (1 ≤ x ∧ x ≤ 64)
      · rcases hc with ⟨h4, _⟩ | ⟨_, ⟨hx, _⟩ | ⟨hx, ⟨h5, _⟩ | ⟨h5, ⟨m, hm, h6, h7⟩, rfl⟩⟩⟩
        · omega
        · exact absurd q.2 hx
        · omega
        · exact (implRun_long x hx n h5 A m hm h6 h7 ad c w h).mono fun e w' r => ⟨r.1.ans, r.2⟩
      · exact (implRun_few x n A code hc q ad c w).mono fun e w' r => ⟨r.1.ans, r.2⟩
  · have sm := runD_ok (newD_ok x.toNat (by omega) (by omega)) A n
    exact ⟨runD (newD x.toNat) A n, n, runC (newD x.toNat) A, 0, hn, ⟨sm.nb2, sm.nc, by rcases sm.ns with q | q <;> (have := sm.nb2; omega)⟩, fun ad c w h => (specRun_ok x hx n hn A hA ad c w h).mono fun e w' r => ⟨r.1.ans, r.2⟩,
      fun ad c p0 p1 p2 p3 p4 w h hE => (implRun_own x hx n hn A hA ad c p0 p1 p2 p3 p4 w h hE).mono fun e w' r => ⟨r.1.ans, r.2⟩⟩
theorem sumF_nk (R : Nat → Ac) : ∀ k, sumF (fun j => (R j).nk) k = sumNk R k
  | 0 => rfl
  | k + 1 => by show sumF _ k + _ = sumNk R k + _; rw [sumF_nk R k]
set_option maxRecDepth 100000 in
set_option maxHeartbeats 8000000 in
theorem law_diskRun (x : Int) (a : Option Addr) (n c : Nat) (R : Nat → Ac) (A : Nat → Option Addr) (X : Nat → Nat) (hm : n ≤ maxLen) (hf : ∀ i, i < n → (R i).nk ≤ maxLen ∧ (R i).s.size ≤ maxLen) (p0 p1 p2 p3 p4 : Addr) (w : World) (h : AcV w a n R A X) (hE : Errs w p0 p1 p2 p3 p4) :
    Calls Tryd.prog 3 #[.int .i64 x, .slice a n c] w fun e w' => e = .returned (.bool true) ∧ Below w.heap.size w w' := by
  obtain ⟨k, N, C, cd, hN, ⟨k0, k1, k2⟩, hso, hio⟩ := run_ex x n R
  have SZ : Hid (∀ w : World, AcV w a n R A X → Calls Tryd.prog 4 #[.slice a n c, .int .i64 1048576] w fun e w' => (∃ y : Int, e = .returned (.int .i64 y) ∧ y ≤ 1048576 ∧ (0 ≤ y → n + sumNk R n ≤ 1048576 ∧ ∀ i, i < n → (R i).nk ≤ 1048576 ∧ (R i).s.size ≤ 1048576)) ∧ Below w.heap.size w w') := fun w h => szDiskActS_any a n c R A X 1048576 w h (by omega) (by omega) hm hf
  have A1 : Hid (Below w.heap.size w w) := Below.refl _ _
  have HE : Hid (AcV w a n R A X) := h
  have HR : Hid (Errs w p0 p1 p2 p3 p4) := hE
  have SO : Hid (∀ (ad : Option Addr) (c : Nat) (w : World), Acts w ad n R → Calls Tryd.prog 5 #[.int .i64 x, .slice ad n c] w fun e w' => RunAns w.heap.size w' e k N C cd ∧ Below w.heap.size w w') := hso
  have IY : Hid (∀ (ad : Option Addr) (c : Nat) (w : World), Acts w ad n R → Errs w p0 p1 p2 p3 p4 → Calls Tryd.prog 7 #[.int .i64 x, .slice ad n c] w fun e w' => RunAnsS w.heap.size w' e k N C cd ∧ Below w.heap.size w w') := fun ad c w h he => hio ad c p0 p1 p2 p3 p4 w h he
  clear h hE hm hf hso hio
  go_enter Tryd.func3, Tryd.ntmps3
  go_wp2_with fail
  refine (SZ.out _ HE.out).mono ?_
  rintro e v1 ⟨⟨y, rfl, hy, hy2⟩, hb⟩
  replace A1 : Hid (Below w.heap.size w v1) := A1.out.trans (hb.mono A1.out.size)
  clear hb SZ
  by_cases hy0 : y < 0
  · clear hy2
    go_wp2
    go_ret
    exact ⟨rfl, A1.out⟩
  · obtain ⟨hsum, hsz⟩ := hy2 (by omega)
    clear hy2
    have TO : Hid (∀ w : World, AcV w a n R A X → Calls Tryd.prog 6 #[.slice a n c] w fun e w' => (∃ (g S : Nat) (V : Nat → Nat), e = .returned (.slice (some ⟨g, 0, none⟩) n n) ∧ AcO w' g S n R V ∧ w.heap.size ≤ g ∧ S = w'.heap.size) ∧ Below w.heap.size w w') := fun w h => (toDiskActS_any a n c R A X (by omega) (fun i hi => (hsz i hi).1) w h).mono fun e w' q => by
      obtain ⟨⟨V, he, ho⟩, hb⟩ := q
      exact ⟨⟨_, _, V, he, ho, Nat.le_refl _, rfl⟩, hb⟩
    have EQ : Hid (∀ (b d : Option Addr) (c1 c2 : Nat) (A1 B1 : Nat → Option Addr) (X1 Y1 : Nat → Nat) (w : World), AcV w b n R A1 X1 → AcV w d n R B1 Y1 → Calls Tryd.prog 10 #[.slice b n c1, .slice d n c2] w fun e w' => e = .returned (.bool true) ∧ Below w.heap.size w w') := fun b d c1 c2 A1 B1 X1 Y1 w h h' => eqDiskActS_yes b d n c1 c2 R A1 B1 X1 Y1 (by omega) (fun i hi => (hsz i hi).1) w h h'
    have MR : Hid (∀ (g S : Nat) (V : Nat → Nat) (w : World), AcO w g S n R V → Calls Tryd.prog 11 #[.slice (some ⟨g, 0, none⟩) n n, .int .i64 1] w fun e w' => (∃ q : Nat, e = .returned (.int .i64 (q : Int))) ∧ MidA g S w w') := fun g S V w h => markDiskActS_any g S g n n V (fun j => (R j).nk) _ (by rw [sumF_nk]; omega) ⟨Nat.le_refl _, h.s.1⟩ (fun i hi => ⟨(h.v i hi).1, (h.v i hi).2.1⟩) (fun i hi => rfl) w h.r (fun i hi => ⟨_, (h.v i hi).2.2⟩)
    have ED : Hid (∀ (x0 x1 x2 y0 y1 y2 : Option Addr) (r0 r1 r2 s0 s1 s2 : Nat) (w : World), DiskV w k x0 x1 x2 → DiskV w k y0 y1 y2 → Calls Tryd.prog 8 #[.agg #[.slice x0 k.nb r0, .slice x1 k.nc r1, .slice x2 k.ns r2], .agg #[.slice y0 k.nb s0, .slice y1 k.nc s1, .slice y2 k.ns s2]] w fun e w' => e = .returned (.bool true) ∧ Below w.heap.size w w') := fun x0 x1 x2 y0 y1 y2 r0 r1 r2 s0 s1 s2 w h h' => eqDisk_yes k k x0 x1 x2 y0 y1 y2 _ _ _ _ _ _ w h h' rfl rfl rfl (fun _ _ => rfl) (fun _ _ => ⟨rfl, rfl⟩) (fun _ _ => rfl) (by omega) (by omega) (by omega)
    have EI : Hid (∀ (b d : Option Addr) (c1 c2 : Nat) (w : World), Num w b N C → Num w d N C → Calls Tryd.prog 9 #[.slice b N c1, .slice d N c2] w fun e w' => e = .returned (.bool true) ∧ Below w.heap.size w w') := fun b d c1 c2 w h h' => eqNum_yes b d N c1 c2 C w h h' (by omega)
    obtain ⟨M, hM⟩ : ∃ M, M = 1 + k.nb + 2 * k.nc + k.ns := ⟨_, rfl⟩
    have MK : Hid (∀ (B : Nat) (w : World) (x0 x1 x2 : Option Addr) (r0 r1 r2 g0 g1 g2 : Nat), GeD k g0 g1 g2 B → B ≤ w.heap.size → RowD w k x0 x1 x2 g0 g1 g2 → Calls Tryd.prog 12 #[.agg #[.slice x0 k.nb r0, .slice x1 k.nc r1, .slice x2 k.ns r2], .int .i64 1] w fun e w' => e = .returned (.int .i64 (M : Int)) ∧ RowD w' (markK k 1) x0 x1 x2 g0 g1 g2 ∧ KeepG w w' k g0 g1 g2 ∧ Below B w w') := fun B w x0 x1 x2 r0 r1 r2 g0 g1 g2 hB hw h => by rw [hM]; exact markDisk_any B k x0 x1 x2 r0 r1 r2 g0 g1 g2 1 (by omega) (by omega) hB w hw h
    have MI : Hid (∀ (b : Option Addr) (g c1 : Nat) (w : World), RowE w 1 b g N (inF C) → Calls Tryd.prog 13 #[.slice b N c1, .int .i64 (M : Int)] w fun e w' => (e = .returned (.int .i64 ((M + N : Nat) : Int)) ∧ RowE w' 1 b g N (inF (mkC M))) ∧ TurnedE g N w w') := fun b g c1 w h => (markIntK b g N c1 M C (by omega) w h).mono fun _ _ q => ⟨⟨q.1, q.2.1⟩, q.2.2⟩
    have HK : Hid (∀ (x0 x1 x2 : Option Addr) (r0 r1 r2 : Nat) (w : World), DiskV w (markK k 1) x0 x1 x2 → Calls Tryd.prog 14 #[.agg #[.slice x0 k.nb r0, .slice x1 k.nc r1, .slice x2 k.ns r2], .int .i64 1] w fun e w' => e = .returned (.int .i64 (M : Int)) ∧ Below w.heap.size w w') := fun x0 x1 x2 r0 r1 r2 w h => by rw [hM]; exact heldDisk_yes k x0 x1 x2 r0 r1 r2 1 (by omega) (by omega) w h
    have HI : Hid (∀ (b : Option Addr) (c1 : Nat) (w : World), Num w b N (mkC M) → Calls Tryd.prog 15 #[.slice b N c1, .int .i64 (M : Int)] w fun e w' => e = .returned (.int .i64 ((M + N : Nat) : Int)) ∧ Below w.heap.size w w') := fun b c1 w h => heldIntK b N c1 M (by omega) w h
    have mm0 : ¬ (M : Int) < 0 := by omega
    have mm1 : ¬ ((M + N : Nat) : Int) < 0 := by omega
    have me : (((M + N : Nat) : Int) != ((M + N : Nat) : Int)) = false := by simp
    have er : (cd != cd) = false := by simp
    generalize ((M + N : Nat) : Int) = MN at *
    clear hsz hsum hy hN k0 k1 k2 hM
    go_wp2_with fail
    refine (TO.out _ (HE.out.below A1.out)).mono ?_
    rintro e v2 ⟨⟨ga, Sa, Va, rfl, ho, hga, hSa⟩, hb⟩
    replace A1 : Hid (Below w.heap.size w v2) := A1.out.trans (hb.mono A1.out.size)
    clear hb 
    have Xa : Hid (AcO v2 ga Sa n R Va) := ho
    clear ho
    clear hga hSa
    go_wp2_with fail
    refine (SO.out _ _ _ Xa.out.acV.acts).mono ?_
    rintro e v3 ⟨⟨s0, s1, s2, sc0, sc1, sc2, sg0, sg1, sg2, si, sic, sig, rfl, hd, hg, hi, hig⟩, hb⟩
    replace A1 : Hid (Below w.heap.size w v3) := A1.out.trans (hb.mono A1.out.size)
    replace Xa : Hid (AcO v3 ga Sa n R Va) := Xa.out.below hb
    clear hb 
    have Ds : Hid (RowD v3 k s0 s1 s2 sg0 sg1 sg2) := hd
    have Is : Hid (RowE v3 1 si sig N (inF C)) := hi
    clear hd hi
    clear Xa
    clear SO hg hig
    have hb : Below v3.heap.size v3 (v3.alloc (.cells #[.slice s0 k.nb sc0, .slice s1 k.nc sc1, .slice s2 k.ns sc2] 27)) := (Below.refl _ _).alloc (Nat.le_refl _) _
    have Bs : Hid (Box3 (v3.alloc (.cells #[.slice s0 k.nb sc0, .slice s1 k.nc sc1, .slice s2 k.ns sc2] 27)) v3.heap.size 27 (.slice s0 k.nb sc0) (.slice s1 k.nc sc1) (.slice s2 k.ns sc2)) := Box3.made _ _ _ _ _
    have Qs : Hid (LtD k sg0 sg1 sg2 v3.heap.size ∧ (0 < N → sig < v3.heap.size)) := ⟨Ds.out.ltD, fun z => Is.out.lt (by omega) z⟩
    go_wp2_with fail
    generalize (v3.alloc (.cells #[.slice s0 k.nb sc0, .slice s1 k.nc sc1, .slice s2 k.ns sc2] 27)) = v4 at *
    replace A1 : Hid (Below w.heap.size w v4) := A1.out.trans (hb.mono A1.out.size)
    replace Ds : Hid (RowD v4 k s0 s1 s2 sg0 sg1 sg2) := Ds.out.below hb
    replace Is : Hid (RowE v4 1 si sig N (inF C)) := Is.out.below (by omega) hb
    clear hb
    obtain ⟨bs, hbs⟩ : ∃ q, q = v3.heap.size := ⟨_, rfl⟩
    rw [← hbs] at Bs Qs  ⊢
    clear hbs
    have P1 : Hid (LtD k sg0 sg1 sg2 v4.heap.size ∧ (0 < N → sig < v4.heap.size) ∧ bs < v4.heap.size ∧ w.heap.size ≤ v4.heap.size) := ⟨Ds.out.ltD, fun z => Is.out.lt (by omega) z, Bs.out.lt, A1.out.size⟩
    obtain ⟨B1, hB1⟩ : ∃ q, q = v4.heap.size := ⟨_, rfl⟩
    rw [← hB1] at P1
    refine (TO.out _ (HE.out.below A1.out)).mono ?_
    rintro e v5 ⟨⟨gx, S2, Vx, rfl, ho, hgx, hS2⟩, hb⟩
    replace A1 : Hid (Below w.heap.size w v5) := A1.out.trans (hb.mono A1.out.size)
    replace Ds : Hid (RowD v5 k s0 s1 s2 sg0 sg1 sg2) := Ds.out.below hb
    replace Is : Hid (RowE v5 1 si sig N (inF C)) := Is.out.below (by omega) hb
    replace Bs : Hid (Box3 v5 bs 27 (.slice s0 k.nb sc0) (.slice s1 k.nc sc1) (.slice s2 k.ns sc2)) := Bs.out.below hb
    have hgx2 : Hid (B1 ≤ gx) := by show _ ≤ _; rw [hB1]; exact hgx
    clear hb 
    have Xx : Hid (AcO v5 gx S2 n R Vx) := ho
    clear ho hgx hB1
    have hS3 : Hid (S2 ≤ v5.heap.size) := Nat.le_of_eq hS2
    clear hS2
    go_wp2_with fail
    refine (IY.out _ _ _ Xx.out.acV.acts (HR.out.below A1.out)).mono ?_
    rintro e v6 ⟨⟨i0, i1, i2, ic0, ic1, ic2, ig0, ig1, ig2, ii, iic, iig, rfl, hd, hg, hi, hig, hsp⟩, hb⟩
    replace A1 : Hid (Below w.heap.size w v6) := A1.out.trans (hb.mono A1.out.size)
    replace Ds : Hid (RowD v6 k s0 s1 s2 sg0 sg1 sg2) := Ds.out.below hb
    replace Is : Hid (RowE v6 1 si sig N (inF C)) := Is.out.below (by omega) hb
    replace Bs : Hid (Box3 v6 bs 27 (.slice s0 k.nb sc0) (.slice s1 k.nc sc1) (.slice s2 k.ns sc2)) := Bs.out.below hb
    replace Xx : Hid (AcO v6 gx S2 n R Vx) := Xx.out.below hb
    clear hb 
    have Di : Hid (RowD v6 k i0 i1 i2 ig0 ig1 ig2) := hd
    have Ii : Hid (RowE v6 1 ii iig N (inF C)) := hi
    clear hd hi
    have P6 : Hid (GeD k ig0 ig1 ig2 S2 ∧ (0 < N → S2 ≤ iig)) := ⟨hg.mono hS3.out, fun z => Nat.le_trans hS3.out (hig z)⟩
    have SP : Hid (0 < N → (0 < k.nb → iig ≠ ig0) ∧ (0 < k.nc → iig ≠ ig1) ∧ (0 < k.ns → iig ≠ ig2)) := hsp
    clear hg hig hsp
    have P8 : Hid (w.heap.size ≤ S2 ∧ B1 ≤ gx ∧ gx < S2) := by have h1 := P1.out.2.2.2; have h2 := hgx2.out; have h3 := Xx.out.s.1; exact ⟨by omega, h2, h3⟩
    have hb : Below v6.heap.size v6 (v6.alloc (.cells #[.slice i0 k.nb ic0, .slice i1 k.nc ic1, .slice i2 k.ns ic2] 27)) := (Below.refl _ _).alloc (Nat.le_refl _) _
    have Bi : Hid (Box3 (v6.alloc (.cells #[.slice i0 k.nb ic0, .slice i1 k.nc ic1, .slice i2 k.ns ic2] 27)) v6.heap.size 27 (.slice i0 k.nb ic0) (.slice i1 k.nc ic1) (.slice i2 k.ns ic2)) := Box3.made _ _ _ _ _
    have Qi : Hid (LtD k ig0 ig1 ig2 v6.heap.size ∧ (0 < N → iig < v6.heap.size)) := ⟨Di.out.ltD, fun z => Ii.out.lt (by omega) z⟩
    have P7 : Hid (S2 ≤ v6.heap.size) := Xx.out.s.2
    have vis00 := (Bs.out.below hb).c0
    have vis01 := (Bs.out.below hb).c1
    have vis02 := (Bs.out.below hb).c2
    go_wp2_with fail
    clear vis00 vis01 vis02
    generalize (v6.alloc (.cells #[.slice i0 k.nb ic0, .slice i1 k.nc ic1, .slice i2 k.ns ic2] 27)) = v7 at *
    replace A1 : Hid (Below w.heap.size w v7) := A1.out.trans (hb.mono A1.out.size)
    replace Ds : Hid (RowD v7 k s0 s1 s2 sg0 sg1 sg2) := Ds.out.below hb
    replace Is : Hid (RowE v7 1 si sig N (inF C)) := Is.out.below (by omega) hb
    replace Bs : Hid (Box3 v7 bs 27 (.slice s0 k.nb sc0) (.slice s1 k.nc sc1) (.slice s2 k.ns sc2)) := Bs.out.below hb
    replace Xx : Hid (AcO v7 gx S2 n R Vx) := Xx.out.below hb
    replace Di : Hid (RowD v7 k i0 i1 i2 ig0 ig1 ig2) := Di.out.below hb
    replace Ii : Hid (RowE v7 1 ii iig N (inF C)) := Ii.out.below (by omega) hb
    clear hb
    obtain ⟨bi, hbi⟩ : ∃ q, q = v6.heap.size := ⟨_, rfl⟩
    rw [← hbi] at Bi Qi P7 ⊢
    clear hbi
    refine (ED.out _ _ _ _ _ _ _ _ _ _ _ _ _ Di.out.diskV Ds.out.diskV).mono ?_
    rintro e v8 ⟨rfl, hb⟩
    replace A1 : Hid (Below w.heap.size w v8) := A1.out.trans (hb.mono A1.out.size)
    replace Ds : Hid (RowD v8 k s0 s1 s2 sg0 sg1 sg2) := Ds.out.below hb
    replace Is : Hid (RowE v8 1 si sig N (inF C)) := Is.out.below (by omega) hb
    replace Bs : Hid (Box3 v8 bs 27 (.slice s0 k.nb sc0) (.slice s1 k.nc sc1) (.slice s2 k.ns sc2)) := Bs.out.below hb
    replace Xx : Hid (AcO v8 gx S2 n R Vx) := Xx.out.below hb
    replace Di : Hid (RowD v8 k i0 i1 i2 ig0 ig1 ig2) := Di.out.below hb
    replace Ii : Hid (RowE v8 1 ii iig N (inF C)) := Ii.out.below (by omega) hb
    replace Bi : Hid (Box3 v8 bi 27 (.slice i0 k.nb ic0) (.slice i1 k.nc ic1) (.slice i2 k.ns ic2)) := Bi.out.below hb
    clear hb 
    go_wp2_with fail
    refine (EI.out _ _ _ _ _ Ii.out.els Is.out.els).mono ?_
    rintro e v9 ⟨rfl, hb⟩
    replace A1 : Hid (Below w.heap.size w v9) := A1.out.trans (hb.mono A1.out.size)
    replace Ds : Hid (RowD v9 k s0 s1 s2 sg0 sg1 sg2) := Ds.out.below hb
    replace Is : Hid (RowE v9 1 si sig N (inF C)) := Is.out.below (by omega) hb
    replace Bs : Hid (Box3 v9 bs 27 (.slice s0 k.nb sc0) (.slice s1 k.nc sc1) (.slice s2 k.ns sc2)) := Bs.out.below hb
    replace Xx : Hid (AcO v9 gx S2 n R Vx) := Xx.out.below hb
    replace Di : Hid (RowD v9 k i0 i1 i2 ig0 ig1 ig2) := Di.out.below hb
    replace Ii : Hid (RowE v9 1 ii iig N (inF C)) := Ii.out.below (by omega) hb
    replace Bi : Hid (Box3 v9 bi 27 (.slice i0 k.nb ic0) (.slice i1 k.nc ic1) (.slice i2 k.ns ic2)) := Bi.out.below hb
    clear hb 
    go_wp2_with fail
    refine (TO.out _ (HE.out.below A1.out)).mono ?_
    rintro e v10 ⟨⟨gc, Sc, Vc, rfl, ho, hgc, hSc⟩, hb⟩
    replace A1 : Hid (Below w.heap.size w v10) := A1.out.trans (hb.mono A1.out.size)
    replace Ds : Hid (RowD v10 k s0 s1 s2 sg0 sg1 sg2) := Ds.out.below hb
    replace Is : Hid (RowE v10 1 si sig N (inF C)) := Is.out.below (by omega) hb
    replace Bs : Hid (Box3 v10 bs 27 (.slice s0 k.nb sc0) (.slice s1 k.nc sc1) (.slice s2 k.ns sc2)) := Bs.out.below hb
    replace Xx : Hid (AcO v10 gx S2 n R Vx) := Xx.out.below hb
    replace Di : Hid (RowD v10 k i0 i1 i2 ig0 ig1 ig2) := Di.out.below hb
    replace Ii : Hid (RowE v10 1 ii iig N (inF C)) := Ii.out.below (by omega) hb
    replace Bi : Hid (Box3 v10 bi 27 (.slice i0 k.nb ic0) (.slice i1 k.nc ic1) (.slice i2 k.ns ic2)) := Bi.out.below hb
    clear hb 
    have Xc : Hid (AcO v10 gc Sc n R Vc) := ho
    clear ho
    go_wp2_with fail
    refine (EQ.out _ _ _ _ _ _ _ _ _ Xx.out.acV Xc.out.acV).mono ?_
    rintro e v11 ⟨rfl, hb⟩
    replace A1 : Hid (Below w.heap.size w v11) := A1.out.trans (hb.mono A1.out.size)
    replace Ds : Hid (RowD v11 k s0 s1 s2 sg0 sg1 sg2) := Ds.out.below hb
    replace Is : Hid (RowE v11 1 si sig N (inF C)) := Is.out.below (by omega) hb
    replace Bs : Hid (Box3 v11 bs 27 (.slice s0 k.nb sc0) (.slice s1 k.nc sc1) (.slice s2 k.ns sc2)) := Bs.out.below hb
    replace Xx : Hid (AcO v11 gx S2 n R Vx) := Xx.out.below hb
    replace Di : Hid (RowD v11 k i0 i1 i2 ig0 ig1 ig2) := Di.out.below hb
    replace Ii : Hid (RowE v11 1 ii iig N (inF C)) := Ii.out.below (by omega) hb
    replace Bi : Hid (Box3 v11 bi 27 (.slice i0 k.nb ic0) (.slice i1 k.nc ic1) (.slice i2 k.ns ic2)) := Bi.out.below hb
    replace Xc : Hid (AcO v11 gc Sc n R Vc) := Xc.out.below hb
    clear hb EQ
    clear Xc
    clear hgc hSc
    go_wp2_with fail
    refine (MR.out gx S2 Vx _ Xx.out).mono ?_
    rintro e v12 ⟨⟨q, rfl⟩, hmid⟩
    have hk : KeepR gx S2 v11 v12 := fun b hb z => hmid.block b hb z
    have hxs := Xx.out.s
    replace A1 : Hid (Below w.heap.size w v12) := A1.out.trans ((hmid.toBelow (by omega)).mono (by have := P1.out.2.2.2; have := P8.out; omega))
    replace Ds : Hid (RowD v12 k s0 s1 s2 sg0 sg1 sg2) := Ds.out.keepR hk (.inl (P1.out.1.mono (by have := P8.out; omega)))
    replace Is : Hid (RowE v12 1 si sig N (inF C)) := Is.out.ofBlock (fun z => hk _ (Is.out.lt (by omega) z) (.inl (by have h1 := P1.out.2.1 z; have := P8.out; omega)))
    replace Bs : Hid (Box3 v12 bs 27 (.slice s0 k.nb sc0) (.slice s1 k.nc sc1) (.slice s2 k.ns sc2)) := Bs.out.keepR hk (.inl (by have h1 := P1.out.2.2.1; have := P8.out; omega))
    replace Di : Hid (RowD v12 k i0 i1 i2 ig0 ig1 ig2) := Di.out.keepR hk (.inr P6.out.1)
    replace Ii : Hid (RowE v12 1 ii iig N (inF C)) := Ii.out.ofBlock (fun z => hk _ (Ii.out.lt (by omega) z) (.inr (P6.out.2 z)))
    replace Bi : Hid (Box3 v12 bi 27 (.slice i0 k.nb ic0) (.slice i1 k.nc ic1) (.slice i2 k.ns ic2)) := Bi.out.keepR hk (.inr (by have := P7.out; omega))
    have hq0 : ¬ ((q : Nat) : Int) < 0 := by omega
    clear hk hmid hxs Xx MR hgx2 hS3
    have s00 := Bi.out.c0
    have s01 := Bi.out.c1
    have s02 := Bi.out.c2
    have s10 := Bs.out.c0
    have s11 := Bs.out.c1
    have s12 := Bs.out.c2
    go_wp2_with fail
    refine (ED.out _ _ _ _ _ _ _ _ _ _ _ _ _ Di.out.diskV Ds.out.diskV).mono ?_
    rintro e v13 ⟨rfl, hb⟩
    replace A1 : Hid (Below w.heap.size w v13) := A1.out.trans (hb.mono A1.out.size)
    replace Ds : Hid (RowD v13 k s0 s1 s2 sg0 sg1 sg2) := Ds.out.below hb
    replace Is : Hid (RowE v13 1 si sig N (inF C)) := Is.out.below (by omega) hb
    replace Bs : Hid (Box3 v13 bs 27 (.slice s0 k.nb sc0) (.slice s1 k.nc sc1) (.slice s2 k.ns sc2)) := Bs.out.below hb
    replace Di : Hid (RowD v13 k i0 i1 i2 ig0 ig1 ig2) := Di.out.below hb
    replace Ii : Hid (RowE v13 1 ii iig N (inF C)) := Ii.out.below (by omega) hb
    replace Bi : Hid (Box3 v13 bi 27 (.slice i0 k.nb ic0) (.slice i1 k.nc ic1) (.slice i2 k.ns ic2)) := Bi.out.below hb
    clear hb 
    clear s00 s01 s02 s10 s11 s12
    go_wp2_with fail
    refine (EI.out _ _ _ _ _ Ii.out.els Is.out.els).mono ?_
    rintro e v14 ⟨rfl, hb⟩
    replace A1 : Hid (Below w.heap.size w v14) := A1.out.trans (hb.mono A1.out.size)
    replace Ds : Hid (RowD v14 k s0 s1 s2 sg0 sg1 sg2) := Ds.out.below hb
    replace Is : Hid (RowE v14 1 si sig N (inF C)) := Is.out.below (by omega) hb
    replace Bs : Hid (Box3 v14 bs 27 (.slice s0 k.nb sc0) (.slice s1 k.nc sc1) (.slice s2 k.ns sc2)) := Bs.out.below hb
    replace Di : Hid (RowD v14 k i0 i1 i2 ig0 ig1 ig2) := Di.out.below hb
    replace Ii : Hid (RowE v14 1 ii iig N (inF C)) := Ii.out.below (by omega) hb
    replace Bi : Hid (Box3 v14 bi 27 (.slice i0 k.nb ic0) (.slice i1 k.nc ic1) (.slice i2 k.ns ic2)) := Bi.out.below hb
    clear hb 
    have s00 := Bi.out.c0
    have s01 := Bi.out.c1
    have s02 := Bi.out.c2
    go_wp2_with fail
    clear s00 s01 s02
    refine (MK.out S2 _ _ _ _ _ _ _ _ _ _ P6.out.1 (by have := P7.out; have := Bi.out.lt; omega) Di.out).mono ?_
    rintro e v15 ⟨rfl, rd, hk0, hb⟩
    have hk : KeepR S2 bi v14 v15 := hk0.keepR P6.out.1 Qi.out.1
    replace A1 : Hid (Below w.heap.size w v15) := A1.out.trans (hb.mono P8.out.1)
    replace Ds : Hid (RowD v15 k s0 s1 s2 sg0 sg1 sg2) := Ds.out.keepR hk (.inl (P1.out.1.mono (by have := P8.out; omega)))
    replace Is : Hid (RowE v15 1 si sig N (inF C)) := Is.out.ofBlock (fun z => hk _ (Is.out.lt (by omega) z) (.inl (by have h1 := P1.out.2.1 z; have := P8.out; omega)))
    replace Bs : Hid (Box3 v15 bs 27 (.slice s0 k.nb sc0) (.slice s1 k.nc sc1) (.slice s2 k.ns sc2)) := Bs.out.keepR hk (.inl (by have h1 := P1.out.2.2.1; have := P8.out; omega))
    replace Ii : Hid (RowE v15 1 ii iig N (inF C)) := Ii.out.ofBlock (fun z => hk0 _ (Ii.out.lt (by omega) z) (SP.out z).1 (SP.out z).2.1 (SP.out z).2.2)
    replace Bi : Hid (Box3 v15 bi 27 (.slice i0 k.nb ic0) (.slice i1 k.nc ic1) (.slice i2 k.ns ic2)) := Bi.out.keepR hk (.inr (Nat.le_refl _))
    replace Di : Hid (RowD v15 (markK k 1) i0 i1 i2 ig0 ig1 ig2) := rd
    clear hk hk0 hb rd MK
    go_wp2_with fail
    refine (MI.out _ _ _ _ Ii.out).mono ?_
    rintro e v16 ⟨⟨rfl, hr⟩, hto⟩
    have hk : KeepR S2 bi v15 v16 := fun b hb z => hto.block hb (fun y => by have h1 := P6.out.2 y; have h2 := Qi.out.2 y; omega)
    replace A1 : Hid (Below w.heap.size w v16) := A1.out.trans (hto.toBelow (fun y => by have h1 := P6.out.2 y; have := P8.out; omega) A1.out.size)
    replace Ds : Hid (RowD v16 k s0 s1 s2 sg0 sg1 sg2) := Ds.out.keepR hk (.inl (P1.out.1.mono (by have := P8.out; omega)))
    replace Is : Hid (RowE v16 1 si sig N (inF C)) := Is.out.ofBlock (fun z => hk _ (Is.out.lt (by omega) z) (.inl (by have h1 := P1.out.2.1 z; have := P8.out; omega)))
    replace Bs : Hid (Box3 v16 bs 27 (.slice s0 k.nb sc0) (.slice s1 k.nc sc1) (.slice s2 k.ns sc2)) := Bs.out.keepR hk (.inl (by have h1 := P1.out.2.2.1; have := P8.out; omega))
    replace Bi : Hid (Box3 v16 bi 27 (.slice i0 k.nb ic0) (.slice i1 k.nc ic1) (.slice i2 k.ns ic2)) := Bi.out.keepR hk (.inr (Nat.le_refl _))
    replace Di : Hid (RowD v16 (markK k 1) i0 i1 i2 ig0 ig1 ig2) := Di.out.ofBlocks (fun z => hto.block (Di.out.s0.lt z) (fun y => Ne.symm ((SP.out y).1 z))) (fun z => hto.block (Di.out.s1.lt z) (fun y => Ne.symm ((SP.out y).2.1 z))) (fun z => hto.block (Di.out.s2.lt z) (fun y => Ne.symm ((SP.out y).2.2 z)))
    replace Ii : Hid (RowE v16 1 ii iig N (inF (mkC M))) := hr
    clear hk hto hr MI P1 P6 P7 P8 SP Qi Qs
    have s00 := Bi.out.c0
    have s01 := Bi.out.c1
    have s02 := Bi.out.c2
    go_wp2_with fail
    refine (HK.out _ _ _ _ _ _ _ Di.out.diskV).mono ?_
    rintro e v17 ⟨rfl, hb⟩
    replace A1 : Hid (Below w.heap.size w v17) := A1.out.trans (hb.mono A1.out.size)
    replace Ds : Hid (RowD v17 k s0 s1 s2 sg0 sg1 sg2) := Ds.out.below hb
    replace Is : Hid (RowE v17 1 si sig N (inF C)) := Is.out.below (by omega) hb
    replace Bs : Hid (Box3 v17 bs 27 (.slice s0 k.nb sc0) (.slice s1 k.nc sc1) (.slice s2 k.ns sc2)) := Bs.out.below hb
    replace Bi : Hid (Box3 v17 bi 27 (.slice i0 k.nb ic0) (.slice i1 k.nc ic1) (.slice i2 k.ns ic2)) := Bi.out.below hb
    replace Di : Hid (RowD v17 (markK k 1) i0 i1 i2 ig0 ig1 ig2) := Di.out.below hb
    replace Ii : Hid (RowE v17 1 ii iig N (inF (mkC M))) := Ii.out.below (by omega) hb
    clear hb 
    clear s00 s01 s02
    go_wp2_with fail
    refine (HI.out _ _ _ Ii.out.els).mono ?_
    rintro e v18 ⟨rfl, hb⟩
    replace A1 : Hid (Below w.heap.size w v18) := A1.out.trans (hb.mono A1.out.size)
    replace Ds : Hid (RowD v18 k s0 s1 s2 sg0 sg1 sg2) := Ds.out.below hb
    replace Is : Hid (RowE v18 1 si sig N (inF C)) := Is.out.below (by omega) hb
    replace Bs : Hid (Box3 v18 bs 27 (.slice s0 k.nb sc0) (.slice s1 k.nc sc1) (.slice s2 k.ns sc2)) := Bs.out.below hb
    replace Bi : Hid (Box3 v18 bi 27 (.slice i0 k.nb ic0) (.slice i1 k.nc ic1) (.slice i2 k.ns ic2)) := Bi.out.below hb
    replace Di : Hid (RowD v18 (markK k 1) i0 i1 i2 ig0 ig1 ig2) := Di.out.below hb
    replace Ii : Hid (RowE v18 1 ii iig N (inF (mkC M))) := Ii.out.below (by omega) hb
    clear hb 
    go_wp2_with fail
    refine (TO.out _ (HE.out.below A1.out)).mono ?_
    rintro e v19 ⟨⟨gd, Sd, Vd, rfl, ho, hgd, hSd⟩, hb⟩
    replace A1 : Hid (Below w.heap.size w v19) := A1.out.trans (hb.mono A1.out.size)
    replace Ds : Hid (RowD v19 k s0 s1 s2 sg0 sg1 sg2) := Ds.out.below hb
    replace Is : Hid (RowE v19 1 si sig N (inF C)) := Is.out.below (by omega) hb
    replace Bs : Hid (Box3 v19 bs 27 (.slice s0 k.nb sc0) (.slice s1 k.nc sc1) (.slice s2 k.ns sc2)) := Bs.out.below hb
    replace Bi : Hid (Box3 v19 bi 27 (.slice i0 k.nb ic0) (.slice i1 k.nc ic1) (.slice i2 k.ns ic2)) := Bi.out.below hb
    replace Di : Hid (RowD v19 (markK k 1) i0 i1 i2 ig0 ig1 ig2) := Di.out.below hb
    replace Ii : Hid (RowE v19 1 ii iig N (inF (mkC M))) := Ii.out.below (by omega) hb
    clear hb 
    have Xd : Hid (AcO v19 gd Sd n R Vd) := ho
    clear ho
    clear hgd hSd
    go_wp2_with fail
    refine (IY.out _ _ _ Xd.out.acV.acts (HR.out.below A1.out)).mono ?_
    rintro e v20 ⟨⟨r0, r1, r2, rc0, rc1, rc2, rg0, rg1, rg2, ri, ric, rig, rfl, hd, hg, hi, hig, hsp⟩, hb⟩
    replace A1 : Hid (Below w.heap.size w v20) := A1.out.trans (hb.mono A1.out.size)
    replace Ds : Hid (RowD v20 k s0 s1 s2 sg0 sg1 sg2) := Ds.out.below hb
    replace Is : Hid (RowE v20 1 si sig N (inF C)) := Is.out.below (by omega) hb
    replace Bs : Hid (Box3 v20 bs 27 (.slice s0 k.nb sc0) (.slice s1 k.nc sc1) (.slice s2 k.ns sc2)) := Bs.out.below hb
    replace Bi : Hid (Box3 v20 bi 27 (.slice i0 k.nb ic0) (.slice i1 k.nc ic1) (.slice i2 k.ns ic2)) := Bi.out.below hb
    replace Di : Hid (RowD v20 (markK k 1) i0 i1 i2 ig0 ig1 ig2) := Di.out.below hb
    replace Ii : Hid (RowE v20 1 ii iig N (inF (mkC M))) := Ii.out.below (by omega) hb
    replace Xd : Hid (AcO v20 gd Sd n R Vd) := Xd.out.below hb
    clear hb 
    have Dr : Hid (RowD v20 k r0 r1 r2 rg0 rg1 rg2) := hd
    have Ir : Hid (RowE v20 1 ri rig N (inF C)) := hi
    clear hd hi
    clear Xd
    clear hg hig hsp IY TO HE HR
    have hb : Below v20.heap.size v20 (v20.alloc (.cells #[.slice r0 k.nb rc0, .slice r1 k.nc rc1, .slice r2 k.ns rc2] 27)) := (Below.refl _ _).alloc (Nat.le_refl _) _
    have Br : Hid (Box3 (v20.alloc (.cells #[.slice r0 k.nb rc0, .slice r1 k.nc rc1, .slice r2 k.ns rc2] 27)) v20.heap.size 27 (.slice r0 k.nb rc0) (.slice r1 k.nc rc1) (.slice r2 k.ns rc2)) := Box3.made _ _ _ _ _
    have Qr : Hid (LtD k rg0 rg1 rg2 v20.heap.size ∧ (0 < N → rig < v20.heap.size)) := ⟨Dr.out.ltD, fun z => Ir.out.lt (by omega) z⟩
    have vis00 := (Bs.out.below hb).c0
    have vis01 := (Bs.out.below hb).c1
    have vis02 := (Bs.out.below hb).c2
    go_wp2_with fail
    clear vis00 vis01 vis02
    generalize (v20.alloc (.cells #[.slice r0 k.nb rc0, .slice r1 k.nc rc1, .slice r2 k.ns rc2] 27)) = v21 at *
    replace A1 : Hid (Below w.heap.size w v21) := A1.out.trans (hb.mono A1.out.size)
    replace Ds : Hid (RowD v21 k s0 s1 s2 sg0 sg1 sg2) := Ds.out.below hb
    replace Is : Hid (RowE v21 1 si sig N (inF C)) := Is.out.below (by omega) hb
    replace Bs : Hid (Box3 v21 bs 27 (.slice s0 k.nb sc0) (.slice s1 k.nc sc1) (.slice s2 k.ns sc2)) := Bs.out.below hb
    replace Bi : Hid (Box3 v21 bi 27 (.slice i0 k.nb ic0) (.slice i1 k.nc ic1) (.slice i2 k.ns ic2)) := Bi.out.below hb
    replace Di : Hid (RowD v21 (markK k 1) i0 i1 i2 ig0 ig1 ig2) := Di.out.below hb
    replace Ii : Hid (RowE v21 1 ii iig N (inF (mkC M))) := Ii.out.below (by omega) hb
    replace Dr : Hid (RowD v21 k r0 r1 r2 rg0 rg1 rg2) := Dr.out.below hb
    replace Ir : Hid (RowE v21 1 ri rig N (inF C)) := Ir.out.below (by omega) hb
    clear hb
    obtain ⟨br, hbr⟩ : ∃ q, q = v20.heap.size := ⟨_, rfl⟩
    rw [← hbr] at Br Qr  ⊢
    clear hbr
    refine (ED.out _ _ _ _ _ _ _ _ _ _ _ _ _ Dr.out.diskV Ds.out.diskV).mono ?_
    rintro e v22 ⟨rfl, hb⟩
    replace A1 : Hid (Below w.heap.size w v22) := A1.out.trans (hb.mono A1.out.size)
    replace Ds : Hid (RowD v22 k s0 s1 s2 sg0 sg1 sg2) := Ds.out.below hb
    replace Is : Hid (RowE v22 1 si sig N (inF C)) := Is.out.below (by omega) hb
    replace Bs : Hid (Box3 v22 bs 27 (.slice s0 k.nb sc0) (.slice s1 k.nc sc1) (.slice s2 k.ns sc2)) := Bs.out.below hb
    replace Bi : Hid (Box3 v22 bi 27 (.slice i0 k.nb ic0) (.slice i1 k.nc ic1) (.slice i2 k.ns ic2)) := Bi.out.below hb
    replace Di : Hid (RowD v22 (markK k 1) i0 i1 i2 ig0 ig1 ig2) := Di.out.below hb
    replace Ii : Hid (RowE v22 1 ii iig N (inF (mkC M))) := Ii.out.below (by omega) hb
    replace Dr : Hid (RowD v22 k r0 r1 r2 rg0 rg1 rg2) := Dr.out.below hb
    replace Ir : Hid (RowE v22 1 ri rig N (inF C)) := Ir.out.below (by omega) hb
    replace Br : Hid (Box3 v22 br 27 (.slice r0 k.nb rc0) (.slice r1 k.nc rc1) (.slice r2 k.ns rc2)) := Br.out.below hb
    clear hb ED
    go_wp2_with fail
    refine (EI.out _ _ _ _ _ Ir.out.els Is.out.els).mono ?_
    rintro e v23 ⟨rfl, hb⟩
    replace A1 : Hid (Below w.heap.size w v23) := A1.out.trans (hb.mono A1.out.size)
    replace Ds : Hid (RowD v23 k s0 s1 s2 sg0 sg1 sg2) := Ds.out.below hb
    replace Is : Hid (RowE v23 1 si sig N (inF C)) := Is.out.below (by omega) hb
    replace Bs : Hid (Box3 v23 bs 27 (.slice s0 k.nb sc0) (.slice s1 k.nc sc1) (.slice s2 k.ns sc2)) := Bs.out.below hb
    replace Bi : Hid (Box3 v23 bi 27 (.slice i0 k.nb ic0) (.slice i1 k.nc ic1) (.slice i2 k.ns ic2)) := Bi.out.below hb
    replace Di : Hid (RowD v23 (markK k 1) i0 i1 i2 ig0 ig1 ig2) := Di.out.below hb
    replace Ii : Hid (RowE v23 1 ii iig N (inF (mkC M))) := Ii.out.below (by omega) hb
    replace Dr : Hid (RowD v23 k r0 r1 r2 rg0 rg1 rg2) := Dr.out.below hb
    replace Ir : Hid (RowE v23 1 ri rig N (inF C)) := Ir.out.below (by omega) hb
    replace Br : Hid (Box3 v23 br 27 (.slice r0 k.nb rc0) (.slice r1 k.nc rc1) (.slice r2 k.ns rc2)) := Br.out.below hb
    clear hb EI
    clear Dr Ir Br Ds Is Bs
    have s00 := Bi.out.c0
    have s01 := Bi.out.c1
    have s02 := Bi.out.c2
    go_wp2_with fail
    refine (HK.out _ _ _ _ _ _ _ Di.out.diskV).mono ?_
    rintro e v24 ⟨rfl, hb⟩
    replace A1 : Hid (Below w.heap.size w v24) := A1.out.trans (hb.mono A1.out.size)
    replace Bi : Hid (Box3 v24 bi 27 (.slice i0 k.nb ic0) (.slice i1 k.nc ic1) (.slice i2 k.ns ic2)) := Bi.out.below hb
    replace Di : Hid (RowD v24 (markK k 1) i0 i1 i2 ig0 ig1 ig2) := Di.out.below hb
    replace Ii : Hid (RowE v24 1 ii iig N (inF (mkC M))) := Ii.out.below (by omega) hb
    clear hb HK
    clear s00 s01 s02
    go_wp2_with fail
    refine (HI.out _ _ _ Ii.out.els).mono ?_
    rintro e v25 ⟨rfl, hb⟩
    replace A1 : Hid (Below w.heap.size w v25) := A1.out.trans (hb.mono A1.out.size)
    replace Bi : Hid (Box3 v25 bi 27 (.slice i0 k.nb ic0) (.slice i1 k.nc ic1) (.slice i2 k.ns ic2)) := Bi.out.below hb
    replace Di : Hid (RowD v25 (markK k 1) i0 i1 i2 ig0 ig1 ig2) := Di.out.below hb
    replace Ii : Hid (RowE v25 1 ii iig N (inF (mkC M))) := Ii.out.below (by omega) hb
    clear hb HI
    clear Di Ii Bi
    go_wp2
    go_ret
    exact ⟨rfl, A1.out⟩
end Go.Proofs.YtgdfhgepbamhmaaDoor
