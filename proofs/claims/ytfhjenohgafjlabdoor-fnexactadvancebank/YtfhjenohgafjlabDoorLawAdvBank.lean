/-
  The exact law of AdvanceBank (written by tools/mklab.py).
-/
import Derived.Test.YtfhjenohgafjlabDoorAdvB
import Derived.Test.YtfhjenohgafjlabDoorRequestS
import Derived.Test.YtfhjenohgafjlabDoorBankTo
import Derived.Deep.DeepCutAuto
namespace Go.Proofs.YtfhjenohgafjlabDoor
open Go.ChangeShapes Go.WideShapes Go.ChangeAt Go.RowKit
set_option linter.unusedVariables false
/-- A variable that holds a request, as the law has it. -/
def BoxL (w : World) (p : Nat) (s q v x : Int) (r : ByteArray) : Prop := w.rowIs p 40 5 (fun i => if i = 0 then .int .i64 s else if i = 1 then .int .i64 q else if i = 2 then .int .i64 v else if i = 3 then .int .i64 x else .string r)
theorem BoxL.c {w : World} {p : Nat} {s q v x : Int} {r : ByteArray} (h : BoxL w p s q v x r) : w.cell? ⟨p, 0, none⟩ = some (.int .i64 s) ∧ w.cell? ⟨p, 1, none⟩ = some (.int .i64 q) ∧ w.cell? ⟨p, 2, none⟩ = some (.int .i64 v) ∧ w.cell? ⟨p, 3, none⟩ = some (.int .i64 x) ∧ w.cell? ⟨p, 4, none⟩ = some (.string r) := ⟨World.rowIs.cell h (i := 0) (by omega), World.rowIs.cell h (i := 1) (by omega), World.rowIs.cell h (i := 2) (by omega), World.rowIs.cell h (i := 3) (by omega), World.rowIs.cell h (i := 4) (by omega)⟩
theorem BoxL.below {w w' : World} {p : Nat} {s q v x : Int} {r : ByteArray} (h : BoxL w p s q v x r) (hb : Below w.heap.size w w') : BoxL w' p s q v x r := World.rowIs.of_block h (hb.block p (World.rowIs.lt h))
theorem BoxL.madeAt {w : World} {p : Nat} (hp : w.heap.size = p) (s q v x : Int) (r : ByteArray) : BoxL (w.alloc (.cells #[.int .i64 s, .int .i64 q, .int .i64 v, .int .i64 x, .string r] 40)) p s q v x r := by
  subst hp
  exact World.rowIs_alloc w #[.int .i64 s, .int .i64 q, .int .i64 v, .int .i64 x, .string r] 40 _ (fun i hi => by
    rcases (show i = 0 ∨ i = 1 ∨ i = 2 ∨ i = 3 ∨ i = 4 by simp at hi; omega) with rfl | rfl | rfl | rfl | rfl <;> rfl)
theorem BankE.rows {w : World} {B : Nat} {d : Bk} {a0 a1 : Option Addr} {c0 c1 : Nat} (h : BankE w B d.nr d.ns d (.slice a0 d.nr c0) (.slice a1 d.ns c1)) : ∃ g0 g1, RowB w d a0 a1 g0 g1 ∧ (0 < d.nr → B ≤ g0 ∧ g0 < w.heap.size) ∧ (0 < d.ns → B ≤ g1 ∧ g1 < w.heap.size) := by
  obtain ⟨g0, r0, b0⟩ := h.e0.rowE
  obtain ⟨g1, r1, b1⟩ := h.e1.rowE
  refine ⟨g0, g1, ⟨r0, r1, fun q0 q1 e => ?_⟩, fun q => ⟨b0 q, r0.lt (by omega) q⟩, fun q => ⟨b1 q, r1.lt (by omega) q⟩⟩
  have e0 := r0.a q0
  have e1 := r1.a q1
  subst e0
  subst e1
  exact h.n01 g0 rfl (by rw [e]; rfl)
theorem RowB.keepA {w w' : World} {b : Bk} {a0 a1 : Option Addr} {g0 g1 : Nat} (h : RowB w b a0 a1 g0 g1) (e0 : 0 < b.nr → w'.heap[g0]? = w.heap[g0]?) (e1 : 0 < b.ns → w'.heap[g1]? = w.heap[g1]?) : RowB w' b a0 a1 g0 g1 := ⟨h.s0.ofBlock e0, h.s1.ofBlock e1, h.ne⟩
theorem EO.boxA {w : World} {B : Nat} {e : TypeId} {s : Nat} {v : Value} {n : Nat} {F : Nat → Nat → Value} (h : EO w B e s v n F) {p : Nat} {t : TypeId} {x y : Value} (hp : Box2 w p t x y) (ht : t ≠ e) (z1 z2 : Value) : EO ((w.setCell ⟨p, 0, none⟩ z1).setCell ⟨p, 1, none⟩ z2) B e s v n F := h.keep (fun g e => by rw [heap_setCell_other _ _ _ _ (fun q => h.notBox hp ht (by rw [e, q])), heap_setCell_other _ _ _ _ (fun q => h.notBox hp ht (by rw [e, q]))])
set_option maxRecDepth 100000 in
set_option maxHeartbeats 8000000 in
theorem law_advanceBank (b : Bk) (a0 a1 : Option Addr) (c0 c1 : Nat) (s q v x : Int) (r : ByteArray) (hr : r.size ≤ maxLen) (l0 : b.nr ≤ maxLen) (l1 : b.ns ≤ maxLen) (m0 : ∀ i, i < b.nr → (b.R i).r.size ≤ maxLen) (w : World) (h : BankV w b a0 a1) (hT : TabW w) :
    Calls Tryd.prog 4 #[.agg #[.slice a0 b.nr c0, .slice a1 b.ns c1], .agg #[.int .i64 s, .int .i64 q, .int .i64 v, .int .i64 x, .string r]] w fun e w' => e = .returned (.bool true) ∧ Below w.heap.size w w' := by
  obtain ⟨d, tl, mk, cd, hD, hdk⟩ := advD_some b ⟨s, q, ⟨v, x, r⟩⟩
  have hd0 := hdk.1.1
  have hd1 := hdk.2.1
  have HV : Hid (BankV w b a0 a1) := h
  have TW : Hid (TabW w) := hT
  have A1 : Hid (Below w.heap.size w ((w.alloc (.cells #[.slice a0 b.nr c0, .slice a1 b.ns c1] 25)).alloc (.cells #[.int .i64 s, .int .i64 q, .int .i64 v, .int .i64 x, .string r] 40))) := ((Below.refl _ _).alloc (Nat.le_refl _) _).alloc (by simp) _
  have RA : Hid (Box2 ((w.alloc (.cells #[.slice a0 b.nr c0, .slice a1 b.ns c1] 25)).alloc (.cells #[.int .i64 s, .int .i64 q, .int .i64 v, .int .i64 x, .string r] 40)) w.heap.size 25 (.slice a0 b.nr c0) (.slice a1 b.ns c1)) := (Box2.made _ _ _ _).alloc _
  have RL : Hid (BoxL ((w.alloc (.cells #[.slice a0 b.nr c0, .slice a1 b.ns c1] 25)).alloc (.cells #[.int .i64 s, .int .i64 q, .int .i64 v, .int .i64 x, .string r] 40)) (w.heap.size + 1) s q v x r) := BoxL.madeAt (by simp) s q v x r
  have SB : Hid (∀ w : World, BankV w b a0 a1 → Calls Tryd.prog 5 #[.agg #[.slice a0 b.nr c0, .slice a1 b.ns c1], .int .i64 1048576] w fun e w' => (∃ y : Int, e = .returned (.int .i64 y) ∧ y ≤ 1048576 ∧ (0 ≤ y → b.nr ≤ 1048576 ∧ b.ns ≤ 1048576)) ∧ Below w.heap.size w w') := fun w h => szBank_any b a0 a1 c0 c1 w h l0 l1 m0
  have SR : Hid (∀ (y : Int) (w : World), 0 ≤ y → y ≤ 1048576 → Calls Tryd.prog 11 #[.agg #[.int .i64 s, .int .i64 q, .int .i64 v, .int .i64 x, .string r], .int .i64 y] w fun e w' => (∃ y : Int, e = .returned (.int .i64 y) ∧ -1 ≤ y ∧ y ≤ 1048576) ∧ Below w.heap.size w w') := fun y w h1 h2 => szRequest_any s q v x r y w h1 h2 hr
  clear h hT hr l0 l1 m0
  go_enter Tryd.func4, Tryd.ntmps4
  go_wp2_with fail
  generalize ((w.alloc (.cells #[.slice a0 b.nr c0, .slice a1 b.ns c1] 25)).alloc (.cells #[.int .i64 s, .int .i64 q, .int .i64 v, .int .i64 x, .string r] 40)) = u0 at *
  refine (SB.out _ (HV.out.below A1.out)).mono ?_
  rintro e u1 ⟨⟨y, rfl, hy, hyn⟩, hb⟩
  replace A1 : Hid (Below w.heap.size w u1) := A1.out.trans (hb.mono A1.out.size)
  replace RA : Hid (Box2 u1 w.heap.size 25 (.slice a0 b.nr c0) (.slice a1 b.ns c1)) := RA.out.below hb
  replace RL : Hid (BoxL u1 (w.heap.size + 1) s q v x r) := RL.out.below hb
  clear hb SB
  by_cases hy0 : y < 0
  · clear hyn
    go_wp2
    go_ret
    exact ⟨rfl, A1.out⟩
  obtain ⟨n0, n1⟩ := hyn (by omega)
  obtain ⟨r0, r1, r2, r3, r4⟩ := RL.out.c
  go_wp2_with fail
  refine (SR.out _ _ (by omega) hy).mono ?_
  rintro e v0 ⟨⟨y2, rfl, hy2, hy3⟩, hb⟩
  replace A1 : Hid (Below w.heap.size w v0) := A1.out.trans (hb.mono A1.out.size)
  replace RA : Hid (Box2 v0 w.heap.size 25 (.slice a0 b.nr c0) (.slice a1 b.ns c1)) := RA.out.below hb
  replace RL : Hid (BoxL v0 (w.heap.size + 1) s q v x r) := RL.out.below hb
  clear hb SR r0 r1 r2 r3 r4
  by_cases hy4 : y2 < 0
  · go_wp2
    go_ret
    exact ⟨rfl, A1.out⟩
  have TO : Hid (∀ w : World, BankV w b a0 a1 → Calls Tryd.prog 7 #[.agg #[.slice a0 b.nr c0, .slice a1 b.ns c1]] w fun e w' => (∃ g0 g1, w.heap.size ≤ g0 ∧ g0 < g1 ∧ g1 < w'.heap.size ∧ e = .returned (.agg #[.slice (some ⟨g0, 0, none⟩) b.nr b.nr, .slice (some ⟨g1, 0, none⟩) b.ns b.ns]) ∧ RowB w' b (some ⟨g0, 0, none⟩) (some ⟨g1, 0, none⟩) g0 g1) ∧ Below w.heap.size w w') := fun w h => toBank_any b a0 a1 c0 c1 w h n0 n1
  have TR : Hid (∀ w : World, Calls Tryd.prog 13 #[.agg #[.int .i64 s, .int .i64 q, .int .i64 v, .int .i64 x, .string r]] w fun e w' => e = .returned (.agg #[.int .i64 s, .int .i64 q, .int .i64 v, .int .i64 x, .string r]) ∧ Below w.heap.size w w') := toRequest_any s q v x r
  have SP : Hid (∀ g n, n ≤ 1048576 → SlP (some ⟨g, 0, none⟩) n n) := fun g n hn => ⟨(fun e => by cases e), .inr ⟨_, _, rfl⟩, Nat.le_refl _, by unfold maxLen; omega⟩
  have SO : Hid (∀ (g0 g1 : Nat) (w : World), BankV w b (some ⟨g0, 0, none⟩) (some ⟨g1, 0, none⟩) → Calls Tryd.prog 12 #[.agg #[.slice (some ⟨g0, 0, none⟩) b.nr b.nr, .slice (some ⟨g1, 0, none⟩) b.ns b.ns], .agg #[.int .i64 s, .int .i64 q, .int .i64 v, .int .i64 x, .string r]] w fun e w' => RetA d tl mk cd w.heap.size e w' ∧ Below w.heap.size w w') := fun g0 g1 w h => specAdv_any b d ⟨s, q, ⟨v, x, r⟩⟩ tl mk cd hD _ _ _ _ (SP.out _ _ n0) (SP.out _ _ n1) w h
  have IY : Hid (∀ (g0 g1 : Nat) (w : World), BankV w b (some ⟨g0, 0, none⟩) (some ⟨g1, 0, none⟩) → TabW w → Calls Tryd.prog 14 #[.agg #[.slice (some ⟨g0, 0, none⟩) b.nr b.nr, .slice (some ⟨g1, 0, none⟩) b.ns b.ns], .agg #[.int .i64 s, .int .i64 q, .int .i64 v, .int .i64 x, .string r]] w fun e w' => RetA d tl mk cd w.heap.size e w' ∧ Below w.heap.size w w') := fun g0 g1 w h hT => implAdv_any b d ⟨s, q, ⟨v, x, r⟩⟩ tl mk cd hD _ _ _ _ (fun e => by cases e) (fun e => by cases e) w h hT
  have EQ : Hid (∀ (b0 b1 e0 e1 : Option Addr) (x0 x1 y0 y1 : Nat) (w : World), BankV w d b0 b1 → BankV w d e0 e1 → Calls Tryd.prog 10 #[.agg #[.slice b0 d.nr x0, .slice b1 d.ns x1], .agg #[.slice e0 d.nr y0, .slice e1 d.ns y1]] w fun e w' => e = .returned (.bool true) ∧ Below w.heap.size w w') := fun b0 b1 e0 e1 x0 x1 y0 y1 w h h' => eqBank_yes d b0 b1 e0 e1 x0 x1 y0 y1 w h h' (by omega) (by omega)
  have EB : Hid (∀ (b0 b1 e0 e1 : Option Addr) (x0 x1 y0 y1 : Nat) (w : World), BankV w b b0 b1 → BankV w b e0 e1 → Calls Tryd.prog 10 #[.agg #[.slice b0 b.nr x0, .slice b1 b.ns x1], .agg #[.slice e0 b.nr y0, .slice e1 b.ns y1]] w fun e w' => e = .returned (.bool true) ∧ Below w.heap.size w w') := fun b0 b1 e0 e1 x0 x1 y0 y1 w h h' => eqBank_yes b b0 b1 e0 e1 x0 x1 y0 y1 w h h' n0 n1
  have MX : Hid (∀ (B : Nat) (b0 b1 : Option Addr) (x0 x1 g0 g1 : Nat) (w : World), (0 < b.nr → B ≤ g0) ∧ (0 < b.ns → B ≤ g1) → B ≤ w.heap.size → RowB w b b0 b1 g0 g1 → Calls Tryd.prog 15 #[.agg #[.slice b0 b.nr x0, .slice b1 b.ns x1], .int .i64 1] w fun e w' => e = .returned (.int .i64 ((1 + 3 * b.nr + 4 * b.ns : Nat) : Int)) ∧ RowB w' (b.marked 1) b0 b1 g0 g1 ∧ KeepB w w' b g0 g1 ∧ Below B w w') := fun B b0 b1 x0 x1 g0 g1 w hB hw h => markBank_any B b b0 b1 x0 x1 g0 g1 1 (by omega) (by omega) hB w hw h
  have MK : Hid (∀ (B : Nat) (b0 b1 : Option Addr) (x0 x1 g0 g1 : Nat) (w : World), (0 < d.nr → B ≤ g0) ∧ (0 < d.ns → B ≤ g1) → B ≤ w.heap.size → RowB w d b0 b1 g0 g1 → Calls Tryd.prog 15 #[.agg #[.slice b0 d.nr x0, .slice b1 d.ns x1], .int .i64 1] w fun e w' => e = .returned (.int .i64 ((1 + 3 * d.nr + 4 * d.ns : Nat) : Int)) ∧ RowB w' (d.marked 1) b0 b1 g0 g1 ∧ KeepB w w' d g0 g1 ∧ Below B w w') := fun B b0 b1 x0 x1 g0 g1 w hB hw h => markBank_any B d b0 b1 x0 x1 g0 g1 1 (by omega) (by omega) hB w hw h
  have HH : Hid (∀ (b0 b1 : Option Addr) (x0 x1 : Nat) (w : World), BankV w (d.marked 1) b0 b1 → Calls Tryd.prog 16 #[.agg #[.slice b0 d.nr x0, .slice b1 d.ns x1], .int .i64 1] w fun e w' => e = .returned (.int .i64 ((1 + 3 * d.nr + 4 * d.ns : Nat) : Int)) ∧ Below w.heap.size w w') := fun b0 b1 x0 x1 w h => heldBank_yes d b0 b1 x0 x1 1 (by omega) (by omega) w h
  have kz : ¬ ((1 + 3 * d.nr + 4 * d.ns : Nat) : Int) < 0 := by omega
  have xz : ¬ ((1 + 3 * b.nr + 4 * b.ns : Nat) : Int) < 0 := by omega
  have ke : (((1 + 3 * d.nr + 4 * d.ns : Nat) : Int) != ((1 + 3 * d.nr + 4 * d.ns : Nat) : Int)) = false := by simp
  have rr : (cd != cd) = false := by simp
  have rr1 : (tl != tl) = false := by simp
  have rr2 : (mk != mk) = false := by simp
  generalize ((1 + 3 * d.nr + 4 * d.ns : Nat) : Int) = K1 at *
  generalize ((1 + 3 * b.nr + 4 * b.ns : Nat) : Int) = N1 at *
  clear hyn hdk hd0 hd1 hD hy hy2 hy3
  have nb : ¬ y2 < 0 := hy4
  go_wp2_with fail
  go_cut [6, 7, 8, 9] (fun pv tv mv cv wx => ∃ (pb : Nat) (wa0 wa1 : Option Addr) (wx0 wx1 : Nat), pv = .pointer (some ⟨pb, 0, none⟩) ∧ tv = .int .i64 tl ∧ mv = .int .i64 mk ∧ cv = .int .i64 cd ∧ Box2 wx pb 34 (.slice wa0 d.nr wx0) (.slice wa1 d.ns wx1) ∧ BankE wx v0.heap.size d.nr d.ns d (.slice wa0 d.nr wx0) (.slice wa1 d.ns wx1) ∧ Below v0.heap.size v0 wx ∧ v0.heap.size ≤ pb)
  case first =>
    have H : Below v0.heap.size v0 v0.drew := (Below.refl _ _).drew
    refine wp_region_noPanic ?_
    refine wp_region_held_drew (S := fun w' => Below v0.heap.size v0 w') (by kernel_rfl) H (fun _ => ?_)
    generalize v0.drew = y0 at *
    refine wpAnyH_take (i := 0) (v := .agg #[.slice a0 b.nr c0, .slice a1 b.ns c1]) rfl (by kernel_rfl) (by kernel_rfl) (by kernel_rfl) (fun _ _ _ h => h) (Or.inl ⟨by rfl, ?_⟩) H ?_
    · intro w' hSw; have t0 := (RA.out.below hSw).c0; have t1 := (RA.out.below hSw).c1; clear hSw; go_simp
    change wpAnyH _ _ _ _ _ _ _ { tmps := #[_, _, _, _, _, _, _, _, _, _, _, _, _, _, _, _, _, _, _, _, _, _, _, _, _, _, _, _, _, _, _, _, _, _, _, _, _, _, _, _, _, _, _, _, _, _, _, _, _, _, _, _, _, _, _, _, _, _, _, _, _, _, _, _, _, _, _, _, _, _, _, _, _, _, _, _, _, _, _, _, _, _, _, _, _, _, _, _, _, _, _, _, _, _, _, _, _, _, _, _, _, _, _, _, _, _, _, _, _, _, _, _, _, _, _, _, _, _, _, _, _, _, _, _, _, _, _, _, _, _, _, _, _, _, _, _, _, _, _, _, _, _, _, _, _, _, _, _, _, _, _], defers := _ } _
    refine wpAnyH_take (i := 2) (v := .agg #[.int .i64 s, .int .i64 q, .int .i64 v, .int .i64 x, .string r]) rfl (by kernel_rfl) (by kernel_rfl) (by kernel_rfl) (fun _ _ _ h => h) (Or.inl ⟨by rfl, ?_⟩) H ?_
    · intro w' hSw; obtain ⟨r0, r1, r2, r3, r4⟩ := (RL.out.below hSw).c; clear hSw; go_simp
    change wpAnyH _ _ _ _ _ _ _ { tmps := #[_, _, _, _, _, _, _, _, _, _, _, _, _, _, _, _, _, _, _, _, _, _, _, _, _, _, _, _, _, _, _, _, _, _, _, _, _, _, _, _, _, _, _, _, _, _, _, _, _, _, _, _, _, _, _, _, _, _, _, _, _, _, _, _, _, _, _, _, _, _, _, _, _, _, _, _, _, _, _, _, _, _, _, _, _, _, _, _, _, _, _, _, _, _, _, _, _, _, _, _, _, _, _, _, _, _, _, _, _, _, _, _, _, _, _, _, _, _, _, _, _, _, _, _, _, _, _, _, _, _, _, _, _, _, _, _, _, _, _, _, _, _, _, _, _, _, _, _, _, _, _], defers := _ } _
    refine wpAnyH_ready (rs := [1, 10]) (by kernel_rfl) (by simp) ?_
    refine (AllReadyH.cons rfl (fun KK hK => ?_) (AllReadyH.cons rfl (fun KK hK => ?_) AllReadyH.nil))
    · skip
      go_simp
      refine (TO.out _ (HV.out.below (A1.out.trans (H.mono A1.out.size)))).mono ?_
      rintro e y1 ⟨⟨tg0, tg1, -, -, -, rfl, tr⟩, hb⟩
      replace H : Below v0.heap.size v0 y1 := H.trans (hb.mono H.size)
      have TB : Hid (BankV y1 b (some ⟨tg0, 0, none⟩) (some ⟨tg1, 0, none⟩)) := tr.bankV
      clear hb tr
      refine hK.out _ _ H (fun _ => ?_)
      clear hK KK
      change wpAnyH _ _ _ _ _ _ _ { tmps := #[_, _, _, _, _, _, _, _, _, _, _, _, _, _, _, _, _, _, _, _, _, _, _, _, _, _, _, _, _, _, _, _, _, _, _, _, _, _, _, _, _, _, _, _, _, _, _, _, _, _, _, _, _, _, _, _, _, _, _, _, _, _, _, _, _, _, _, _, _, _, _, _, _, _, _, _, _, _, _, _, _, _, _, _, _, _, _, _, _, _, _, _, _, _, _, _, _, _, _, _, _, _, _, _, _, _, _, _, _, _, _, _, _, _, _, _, _, _, _, _, _, _, _, _, _, _, _, _, _, _, _, _, _, _, _, _, _, _, _, _, _, _, _, _, _, _, _, _, _, _, _], defers := _ } _
      refine wpAnyH_ready (rs := [3, 10]) (by kernel_rfl) (by simp) ?_
      refine (AllReadyH.cons rfl (fun KK hK => ?_) (AllReadyH.cons rfl (fun KK hK => ?_) AllReadyH.nil))
      · skip
        go_simp
        refine (TR.out _).mono ?_
        rintro e y2 ⟨rfl, hb⟩
        replace TB : Hid (BankV y2 b (some ⟨tg0, 0, none⟩) (some ⟨tg1, 0, none⟩)) := TB.out.below hb
        replace H : Below v0.heap.size v0 y2 := H.trans (hb.mono H.size)
        clear hb
        refine hK.out _ _ H (fun _ => ?_)
        clear hK KK
        change wpAnyH _ _ _ _ _ _ _ { tmps := #[_, _, _, _, _, _, _, _, _, _, _, _, _, _, _, _, _, _, _, _, _, _, _, _, _, _, _, _, _, _, _, _, _, _, _, _, _, _, _, _, _, _, _, _, _, _, _, _, _, _, _, _, _, _, _, _, _, _, _, _, _, _, _, _, _, _, _, _, _, _, _, _, _, _, _, _, _, _, _, _, _, _, _, _, _, _, _, _, _, _, _, _, _, _, _, _, _, _, _, _, _, _, _, _, _, _, _, _, _, _, _, _, _, _, _, _, _, _, _, _, _, _, _, _, _, _, _, _, _, _, _, _, _, _, _, _, _, _, _, _, _, _, _, _, _, _, _, _, _, _, _], defers := _ } _
        refine wpAnyH_ready (rs := [4, 10]) (by kernel_rfl) (by simp) ?_
        refine (AllReadyH.cons rfl (fun KK hK => ?_) (AllReadyH.cons rfl (fun KK hK => ?_) AllReadyH.nil))
        · skip
          go_simp
          refine (SO.out _ _ _ TB.out).mono ?_
          rintro e y3 ⟨⟨wa0, wx0, wa1, wx1, rfl, be⟩, hb⟩
          replace TB : Hid (BankV y3 b (some ⟨tg0, 0, none⟩) (some ⟨tg1, 0, none⟩)) := TB.out.below hb
          have H0 : v0.heap.size ≤ y2.heap.size := H.size
          replace H : Below v0.heap.size v0 y3 := H.trans (hb.mono H.size)
          have E0 : Hid (EO y3 v0.heap.size 28 3 (.slice wa0 d.nr wx0) d.nr (rgF d.R)) := be.e0.mono H0
          have E1 : Hid (EO y3 v0.heap.size 64 4 (.slice wa1 d.ns wx1) d.ns (seF d.S)) := be.e1.mono H0
          clear hb be H0
          refine hK.out _ _ H (fun _ => ?_)
          clear hK KK
          change wpAnyH _ _ _ _ _ _ _ { tmps := #[_, _, _, _, _, _, _, _, _, _, _, _, _, _, _, _, _, _, _, _, _, _, _, _, _, _, _, _, _, _, _, _, _, _, _, _, _, _, _, _, _, _, _, _, _, _, _, _, _, _, _, _, _, _, _, _, _, _, _, _, _, _, _, _, _, _, _, _, _, _, _, _, _, _, _, _, _, _, _, _, _, _, _, _, _, _, _, _, _, _, _, _, _, _, _, _, _, _, _, _, _, _, _, _, _, _, _, _, _, _, _, _, _, _, _, _, _, _, _, _, _, _, _, _, _, _, _, _, _, _, _, _, _, _, _, _, _, _, _, _, _, _, _, _, _, _, _, _, _, _, _], defers := _ } _
          refine wpAnyH_take (i := 5) (v := .tuple #[.agg #[.slice wa0 d.nr wx0, .slice wa1 d.ns wx1], .int .i64 tl, .int .i64 mk, .int .i64 cd]) rfl (by kernel_rfl) (by kernel_rfl) (by kernel_rfl) (fun _ _ _ h => h) (Or.inl ⟨by rfl, ?_⟩) H ?_
          · intro w' hSw; go_simp
          change wpAnyH _ _ _ _ _ _ _ { tmps := #[_, _, _, _, _, _, _, _, _, _, _, _, _, _, _, _, _, _, _, _, _, _, _, _, _, _, _, _, _, _, _, _, _, _, _, _, _, _, _, _, _, _, _, _, _, _, _, _, _, _, _, _, _, _, _, _, _, _, _, _, _, _, _, _, _, _, _, _, _, _, _, _, _, _, _, _, _, _, _, _, _, _, _, _, _, _, _, _, _, _, _, _, _, _, _, _, _, _, _, _, _, _, _, _, _, _, _, _, _, _, _, _, _, _, _, _, _, _, _, _, _, _, _, _, _, _, _, _, _, _, _, _, _, _, _, _, _, _, _, _, _, _, _, _, _, _, _, _, _, _, _], defers := _ } _
          refine wpAnyH_take (i := 6) (v := .agg #[.slice wa0 d.nr wx0, .slice wa1 d.ns wx1]) rfl (by kernel_rfl) (by kernel_rfl) (by kernel_rfl) (fun _ _ _ h => h) (Or.inl ⟨by rfl, ?_⟩) H ?_
          · intro w' hSw; go_simp
          change wpAnyH _ _ _ _ _ _ _ { tmps := #[_, _, _, _, _, _, _, _, _, _, _, _, _, _, _, _, _, _, _, _, _, _, _, _, _, _, _, _, _, _, _, _, _, _, _, _, _, _, _, _, _, _, _, _, _, _, _, _, _, _, _, _, _, _, _, _, _, _, _, _, _, _, _, _, _, _, _, _, _, _, _, _, _, _, _, _, _, _, _, _, _, _, _, _, _, _, _, _, _, _, _, _, _, _, _, _, _, _, _, _, _, _, _, _, _, _, _, _, _, _, _, _, _, _, _, _, _, _, _, _, _, _, _, _, _, _, _, _, _, _, _, _, _, _, _, _, _, _, _, _, _, _, _, _, _, _, _, _, _, _, _], defers := _ } _
          refine wpAnyH_take (i := 7) (v := .int .i64 tl) rfl (by kernel_rfl) (by kernel_rfl) (by kernel_rfl) (fun _ _ _ h => h) (Or.inl ⟨by rfl, ?_⟩) H ?_
          · intro w' hSw; go_simp
          change wpAnyH _ _ _ _ _ _ _ { tmps := #[_, _, _, _, _, _, _, _, _, _, _, _, _, _, _, _, _, _, _, _, _, _, _, _, _, _, _, _, _, _, _, _, _, _, _, _, _, _, _, _, _, _, _, _, _, _, _, _, _, _, _, _, _, _, _, _, _, _, _, _, _, _, _, _, _, _, _, _, _, _, _, _, _, _, _, _, _, _, _, _, _, _, _, _, _, _, _, _, _, _, _, _, _, _, _, _, _, _, _, _, _, _, _, _, _, _, _, _, _, _, _, _, _, _, _, _, _, _, _, _, _, _, _, _, _, _, _, _, _, _, _, _, _, _, _, _, _, _, _, _, _, _, _, _, _, _, _, _, _, _, _], defers := _ } _
          refine wpAnyH_take (i := 8) (v := .int .i64 mk) rfl (by kernel_rfl) (by kernel_rfl) (by kernel_rfl) (fun _ _ _ h => h) (Or.inl ⟨by rfl, ?_⟩) H ?_
          · intro w' hSw; go_simp
          change wpAnyH _ _ _ _ _ _ _ { tmps := #[_, _, _, _, _, _, _, _, _, _, _, _, _, _, _, _, _, _, _, _, _, _, _, _, _, _, _, _, _, _, _, _, _, _, _, _, _, _, _, _, _, _, _, _, _, _, _, _, _, _, _, _, _, _, _, _, _, _, _, _, _, _, _, _, _, _, _, _, _, _, _, _, _, _, _, _, _, _, _, _, _, _, _, _, _, _, _, _, _, _, _, _, _, _, _, _, _, _, _, _, _, _, _, _, _, _, _, _, _, _, _, _, _, _, _, _, _, _, _, _, _, _, _, _, _, _, _, _, _, _, _, _, _, _, _, _, _, _, _, _, _, _, _, _, _, _, _, _, _, _, _], defers := _ } _
          refine wpAnyH_take (i := 9) (v := .int .i64 cd) rfl (by kernel_rfl) (by kernel_rfl) (by kernel_rfl) (fun _ _ _ h => h) (Or.inl ⟨by rfl, ?_⟩) H ?_
          · intro w' hSw; go_simp
          change wpAnyH _ _ _ _ _ _ _ { tmps := #[_, _, _, _, _, _, _, _, _, _, _, _, _, _, _, _, _, _, _, _, _, _, _, _, _, _, _, _, _, _, _, _, _, _, _, _, _, _, _, _, _, _, _, _, _, _, _, _, _, _, _, _, _, _, _, _, _, _, _, _, _, _, _, _, _, _, _, _, _, _, _, _, _, _, _, _, _, _, _, _, _, _, _, _, _, _, _, _, _, _, _, _, _, _, _, _, _, _, _, _, _, _, _, _, _, _, _, _, _, _, _, _, _, _, _, _, _, _, _, _, _, _, _, _, _, _, _, _, _, _, _, _, _, _, _, _, _, _, _, _, _, _, _, _, _, _, _, _, _, _, _], defers := _ } _
          refine wpAnyH_ready (rs := [10]) (by kernel_rfl) (by simp) ?_
          refine (AllReadyH.cons rfl (fun KK hK => ?_) AllReadyH.nil)
          go_simp
          have hb : Below y3.heap.size y3 (y3.alloc (.cells #[.slice none 0 0, .slice none 0 0] 34)) := (Below.refl _ _).alloc (Nat.le_refl _) _
          have PZ : Hid (Box2 (y3.alloc (.cells #[.slice none 0 0, .slice none 0 0] 34)) y3.heap.size 34 (.slice none 0 0) (.slice none 0 0)) := Box2.madeAt rfl _ _ _
          have Lpb : Hid (v0.heap.size ≤ y3.heap.size) := H.size
          replace TB : Hid (BankV (y3.alloc (.cells #[.slice none 0 0, .slice none 0 0] 34)) b (some ⟨tg0, 0, none⟩) (some ⟨tg1, 0, none⟩)) := TB.out.below hb
          replace E0 : Hid (EO (y3.alloc (.cells #[.slice none 0 0, .slice none 0 0] 34)) v0.heap.size 28 3 (.slice wa0 d.nr wx0) d.nr (rgF d.R)) := E0.out.below hb
          replace E1 : Hid (EO (y3.alloc (.cells #[.slice none 0 0, .slice none 0 0] 34)) v0.heap.size 64 4 (.slice wa1 d.ns wx1) d.ns (seF d.S)) := E1.out.below hb
          replace H : Below v0.heap.size v0 (y3.alloc (.cells #[.slice none 0 0, .slice none 0 0] 34)) := H.trans (hb.mono H.size)
          clear hb
          refine hK.out _ _ H (fun _ => ?_)
          clear hK KK
          generalize (y3.alloc (.cells #[.slice none 0 0, .slice none 0 0] 34)) = y4 at *
          generalize y3.heap.size = pb at *
          change wpAnyH _ _ _ _ _ _ _ { tmps := #[_, _, _, _, _, _, _, _, _, _, _, _, _, _, _, _, _, _, _, _, _, _, _, _, _, _, _, _, _, _, _, _, _, _, _, _, _, _, _, _, _, _, _, _, _, _, _, _, _, _, _, _, _, _, _, _, _, _, _, _, _, _, _, _, _, _, _, _, _, _, _, _, _, _, _, _, _, _, _, _, _, _, _, _, _, _, _, _, _, _, _, _, _, _, _, _, _, _, _, _, _, _, _, _, _, _, _, _, _, _, _, _, _, _, _, _, _, _, _, _, _, _, _, _, _, _, _, _, _, _, _, _, _, _, _, _, _, _, _, _, _, _, _, _, _, _, _, _, _, _, _], defers := _ } _
          refine wpAnyH_ready (rs := [11]) (by kernel_rfl) (by simp) ?_
          refine (AllReadyH.cons rfl (fun KK hK => ?_) AllReadyH.nil)
          have t0 := PZ.out.c0
          have t1 := PZ.out.c1
          have f0 := PZ.out.fr 0
          have f1 := PZ.out.fr 1
          go_simp
          replace H : Below v0.heap.size v0 ((y4.setCell ⟨pb, 0, none⟩ (.slice wa0 d.nr wx0)).setCell ⟨pb, 1, none⟩ (.slice wa1 d.ns wx1)) := (H.setCell (by exact Lpb.out) _).setCell (by exact Lpb.out) _
          refine hK.out _ _ H (fun _ => ?_)
          clear hK KK
          change wpAnyH _ _ _ _ _ _ _ { tmps := #[_, _, _, _, _, _, _, _, _, _, _, _, _, _, _, _, _, _, _, _, _, _, _, _, _, _, _, _, _, _, _, _, _, _, _, _, _, _, _, _, _, _, _, _, _, _, _, _, _, _, _, _, _, _, _, _, _, _, _, _, _, _, _, _, _, _, _, _, _, _, _, _, _, _, _, _, _, _, _, _, _, _, _, _, _, _, _, _, _, _, _, _, _, _, _, _, _, _, _, _, _, _, _, _, _, _, _, _, _, _, _, _, _, _, _, _, _, _, _, _, _, _, _, _, _, _, _, _, _, _, _, _, _, _, _, _, _, _, _, _, _, _, _, _, _, _, _, _, _, _, _], defers := _ } _
          refine wpAnyH_take (i := 12) (v := .int .i64 tl) rfl (by kernel_rfl) (by kernel_rfl) (by kernel_rfl) (fun _ _ _ h => h) (Or.inl ⟨by rfl, ?_⟩) H ?_
          · intro w' hSw; go_simp
          change wpAnyH _ _ _ _ _ _ _ { tmps := #[_, _, _, _, _, _, _, _, _, _, _, _, _, _, _, _, _, _, _, _, _, _, _, _, _, _, _, _, _, _, _, _, _, _, _, _, _, _, _, _, _, _, _, _, _, _, _, _, _, _, _, _, _, _, _, _, _, _, _, _, _, _, _, _, _, _, _, _, _, _, _, _, _, _, _, _, _, _, _, _, _, _, _, _, _, _, _, _, _, _, _, _, _, _, _, _, _, _, _, _, _, _, _, _, _, _, _, _, _, _, _, _, _, _, _, _, _, _, _, _, _, _, _, _, _, _, _, _, _, _, _, _, _, _, _, _, _, _, _, _, _, _, _, _, _, _, _, _, _, _, _], defers := _ } _
          refine wpAnyH_take (i := 13) (v := .int .i64 mk) rfl (by kernel_rfl) (by kernel_rfl) (by kernel_rfl) (fun _ _ _ h => h) (Or.inl ⟨by rfl, ?_⟩) H ?_
          · intro w' hSw; go_simp
          change wpAnyH _ _ _ _ _ _ _ { tmps := #[_, _, _, _, _, _, _, _, _, _, _, _, _, _, _, _, _, _, _, _, _, _, _, _, _, _, _, _, _, _, _, _, _, _, _, _, _, _, _, _, _, _, _, _, _, _, _, _, _, _, _, _, _, _, _, _, _, _, _, _, _, _, _, _, _, _, _, _, _, _, _, _, _, _, _, _, _, _, _, _, _, _, _, _, _, _, _, _, _, _, _, _, _, _, _, _, _, _, _, _, _, _, _, _, _, _, _, _, _, _, _, _, _, _, _, _, _, _, _, _, _, _, _, _, _, _, _, _, _, _, _, _, _, _, _, _, _, _, _, _, _, _, _, _, _, _, _, _, _, _, _], defers := _ } _
          refine wpAnyH_take (i := 14) (v := .int .i64 cd) rfl (by kernel_rfl) (by kernel_rfl) (by kernel_rfl) (fun _ _ _ h => h) (Or.inl ⟨by rfl, ?_⟩) H ?_
          · intro w' hSw; go_simp
          change wpAnyH _ _ _ _ _ _ _ { tmps := #[_, _, _, _, _, _, _, _, _, _, _, _, _, _, _, _, _, _, _, _, _, _, _, _, _, _, _, _, _, _, _, _, _, _, _, _, _, _, _, _, _, _, _, _, _, _, _, _, _, _, _, _, _, _, _, _, _, _, _, _, _, _, _, _, _, _, _, _, _, _, _, _, _, _, _, _, _, _, _, _, _, _, _, _, _, _, _, _, _, _, _, _, _, _, _, _, _, _, _, _, _, _, _, _, _, _, _, _, _, _, _, _, _, _, _, _, _, _, _, _, _, _, _, _, _, _, _, _, _, _, _, _, _, _, _, _, _, _, _, _, _, _, _, _, _, _, _, _, _, _, _], defers := _ } _
          refine wpAnyH_done (by kernel_rfl) ?_ _
          refine NoPanic.normal ?_
          have XB : Hid (Box2 ((y4.setCell ⟨pb, 0, none⟩ (.slice wa0 d.nr wx0)).setCell ⟨pb, 1, none⟩ (.slice wa1 d.ns wx1)) pb 34 (.slice wa0 d.nr wx0) (.slice wa1 d.ns wx1)) := (PZ.out.set0 _).set1 _
          have BE : Hid (BankE ((y4.setCell ⟨pb, 0, none⟩ (.slice wa0 d.nr wx0)).setCell ⟨pb, 1, none⟩ (.slice wa1 d.ns wx1)) v0.heap.size d.nr d.ns d (.slice wa0 d.nr wx0) (.slice wa1 d.ns wx1)) := ⟨E0.out.boxA PZ.out (by decide) _ _, E1.out.boxA PZ.out (by decide) _ _, E0.out.notRow E1.out (by decide)⟩
          have HF : Hid (Below v0.heap.size v0 ((y4.setCell ⟨pb, 0, none⟩ (.slice wa0 d.nr wx0)).setCell ⟨pb, 1, none⟩ (.slice wa1 d.ns wx1))) := H
          clear PZ H t0 t1 f0 f1 E0 E1
          change Exit.then _ _ Exit.normal { tmps := #[_, _, _, _, _, _, _, _, _, _, _, _, _, _, _, _, _, _, _, _, _, _, _, _, _, _, _, _, _, _, _, _, _, _, _, _, _, _, _, _, _, _, _, _, _, _, _, _, _, _, _, _, _, _, _, _, _, _, _, _, _, _, _, _, _, _, _, _, _, _, _, _, _, _, _, _, _, _, _, _, _, _, _, _, _, _, _, _, _, _, _, _, _, _, _, _, _, _, _, _, _, _, _, _, _, _, _, _, _, _, _, _, _, _, _, _, _, _, _, _, _, _, _, _, _, _, _, _, _, _, _, _, _, _, _, _, _, _, _, _, _, _, _, _, _, _, _, _, _, _, _], defers := _ } _
          generalize (y4.setCell ⟨pb, 0, none⟩ (.slice wa0 d.nr wx0)).setCell ⟨pb, 1, none⟩ (.slice wa1 d.ns wx1) = z at *
          go_wp2_with fail
          go_meet
          exact ⟨pb, wa0, wa1, wx0, wx1, rfl, rfl, rfl, rfl, XB.out, BE.out, HF.out, Lpb.out⟩
        · skip
          go_simp
          have hb : Below y2.heap.size y2 (y2.alloc (.cells #[.slice none 0 0, .slice none 0 0] 34)) := (Below.refl _ _).alloc (Nat.le_refl _) _
          have PZ : Hid (Box2 (y2.alloc (.cells #[.slice none 0 0, .slice none 0 0] 34)) y2.heap.size 34 (.slice none 0 0) (.slice none 0 0)) := Box2.madeAt rfl _ _ _
          have Lpb : Hid (v0.heap.size ≤ y2.heap.size) := H.size
          replace TB : Hid (BankV (y2.alloc (.cells #[.slice none 0 0, .slice none 0 0] 34)) b (some ⟨tg0, 0, none⟩) (some ⟨tg1, 0, none⟩)) := TB.out.below hb
          replace H : Below v0.heap.size v0 (y2.alloc (.cells #[.slice none 0 0, .slice none 0 0] 34)) := H.trans (hb.mono H.size)
          clear hb
          refine hK.out _ _ H (fun _ => ?_)
          clear hK KK
          generalize (y2.alloc (.cells #[.slice none 0 0, .slice none 0 0] 34)) = y3 at *
          generalize y2.heap.size = pb at *
          change wpAnyH _ _ _ _ _ _ _ { tmps := #[_, _, _, _, _, _, _, _, _, _, _, _, _, _, _, _, _, _, _, _, _, _, _, _, _, _, _, _, _, _, _, _, _, _, _, _, _, _, _, _, _, _, _, _, _, _, _, _, _, _, _, _, _, _, _, _, _, _, _, _, _, _, _, _, _, _, _, _, _, _, _, _, _, _, _, _, _, _, _, _, _, _, _, _, _, _, _, _, _, _, _, _, _, _, _, _, _, _, _, _, _, _, _, _, _, _, _, _, _, _, _, _, _, _, _, _, _, _, _, _, _, _, _, _, _, _, _, _, _, _, _, _, _, _, _, _, _, _, _, _, _, _, _, _, _, _, _, _, _, _, _], defers := _ } _
          refine wpAnyH_ready (rs := [4]) (by kernel_rfl) (by simp) ?_
          refine (AllReadyH.cons rfl (fun KK hK => ?_) AllReadyH.nil)
          go_simp
          refine (SO.out _ _ _ TB.out).mono ?_
          rintro e y4 ⟨⟨wa0, wx0, wa1, wx1, rfl, be⟩, hb⟩
          replace TB : Hid (BankV y4 b (some ⟨tg0, 0, none⟩) (some ⟨tg1, 0, none⟩)) := TB.out.below hb
          replace PZ : Hid (Box2 y4 pb 34 (.slice none 0 0) (.slice none 0 0)) := PZ.out.below hb
          have H0 : v0.heap.size ≤ y3.heap.size := H.size
          replace H : Below v0.heap.size v0 y4 := H.trans (hb.mono H.size)
          have E0 : Hid (EO y4 v0.heap.size 28 3 (.slice wa0 d.nr wx0) d.nr (rgF d.R)) := be.e0.mono H0
          have E1 : Hid (EO y4 v0.heap.size 64 4 (.slice wa1 d.ns wx1) d.ns (seF d.S)) := be.e1.mono H0
          clear hb be H0
          refine hK.out _ _ H (fun _ => ?_)
          clear hK KK
          change wpAnyH _ _ _ _ _ _ _ { tmps := #[_, _, _, _, _, _, _, _, _, _, _, _, _, _, _, _, _, _, _, _, _, _, _, _, _, _, _, _, _, _, _, _, _, _, _, _, _, _, _, _, _, _, _, _, _, _, _, _, _, _, _, _, _, _, _, _, _, _, _, _, _, _, _, _, _, _, _, _, _, _, _, _, _, _, _, _, _, _, _, _, _, _, _, _, _, _, _, _, _, _, _, _, _, _, _, _, _, _, _, _, _, _, _, _, _, _, _, _, _, _, _, _, _, _, _, _, _, _, _, _, _, _, _, _, _, _, _, _, _, _, _, _, _, _, _, _, _, _, _, _, _, _, _, _, _, _, _, _, _, _, _], defers := _ } _
          refine wpAnyH_take (i := 5) (v := .tuple #[.agg #[.slice wa0 d.nr wx0, .slice wa1 d.ns wx1], .int .i64 tl, .int .i64 mk, .int .i64 cd]) rfl (by kernel_rfl) (by kernel_rfl) (by kernel_rfl) (fun _ _ _ h => h) (Or.inl ⟨by rfl, ?_⟩) H ?_
          · intro w' hSw; go_simp
          change wpAnyH _ _ _ _ _ _ _ { tmps := #[_, _, _, _, _, _, _, _, _, _, _, _, _, _, _, _, _, _, _, _, _, _, _, _, _, _, _, _, _, _, _, _, _, _, _, _, _, _, _, _, _, _, _, _, _, _, _, _, _, _, _, _, _, _, _, _, _, _, _, _, _, _, _, _, _, _, _, _, _, _, _, _, _, _, _, _, _, _, _, _, _, _, _, _, _, _, _, _, _, _, _, _, _, _, _, _, _, _, _, _, _, _, _, _, _, _, _, _, _, _, _, _, _, _, _, _, _, _, _, _, _, _, _, _, _, _, _, _, _, _, _, _, _, _, _, _, _, _, _, _, _, _, _, _, _, _, _, _, _, _, _], defers := _ } _
          refine wpAnyH_take (i := 6) (v := .agg #[.slice wa0 d.nr wx0, .slice wa1 d.ns wx1]) rfl (by kernel_rfl) (by kernel_rfl) (by kernel_rfl) (fun _ _ _ h => h) (Or.inl ⟨by rfl, ?_⟩) H ?_
          · intro w' hSw; go_simp
          change wpAnyH _ _ _ _ _ _ _ { tmps := #[_, _, _, _, _, _, _, _, _, _, _, _, _, _, _, _, _, _, _, _, _, _, _, _, _, _, _, _, _, _, _, _, _, _, _, _, _, _, _, _, _, _, _, _, _, _, _, _, _, _, _, _, _, _, _, _, _, _, _, _, _, _, _, _, _, _, _, _, _, _, _, _, _, _, _, _, _, _, _, _, _, _, _, _, _, _, _, _, _, _, _, _, _, _, _, _, _, _, _, _, _, _, _, _, _, _, _, _, _, _, _, _, _, _, _, _, _, _, _, _, _, _, _, _, _, _, _, _, _, _, _, _, _, _, _, _, _, _, _, _, _, _, _, _, _, _, _, _, _, _, _], defers := _ } _
          refine wpAnyH_take (i := 7) (v := .int .i64 tl) rfl (by kernel_rfl) (by kernel_rfl) (by kernel_rfl) (fun _ _ _ h => h) (Or.inl ⟨by rfl, ?_⟩) H ?_
          · intro w' hSw; go_simp
          change wpAnyH _ _ _ _ _ _ _ { tmps := #[_, _, _, _, _, _, _, _, _, _, _, _, _, _, _, _, _, _, _, _, _, _, _, _, _, _, _, _, _, _, _, _, _, _, _, _, _, _, _, _, _, _, _, _, _, _, _, _, _, _, _, _, _, _, _, _, _, _, _, _, _, _, _, _, _, _, _, _, _, _, _, _, _, _, _, _, _, _, _, _, _, _, _, _, _, _, _, _, _, _, _, _, _, _, _, _, _, _, _, _, _, _, _, _, _, _, _, _, _, _, _, _, _, _, _, _, _, _, _, _, _, _, _, _, _, _, _, _, _, _, _, _, _, _, _, _, _, _, _, _, _, _, _, _, _, _, _, _, _, _, _], defers := _ } _
          refine wpAnyH_take (i := 8) (v := .int .i64 mk) rfl (by kernel_rfl) (by kernel_rfl) (by kernel_rfl) (fun _ _ _ h => h) (Or.inl ⟨by rfl, ?_⟩) H ?_
          · intro w' hSw; go_simp
          change wpAnyH _ _ _ _ _ _ _ { tmps := #[_, _, _, _, _, _, _, _, _, _, _, _, _, _, _, _, _, _, _, _, _, _, _, _, _, _, _, _, _, _, _, _, _, _, _, _, _, _, _, _, _, _, _, _, _, _, _, _, _, _, _, _, _, _, _, _, _, _, _, _, _, _, _, _, _, _, _, _, _, _, _, _, _, _, _, _, _, _, _, _, _, _, _, _, _, _, _, _, _, _, _, _, _, _, _, _, _, _, _, _, _, _, _, _, _, _, _, _, _, _, _, _, _, _, _, _, _, _, _, _, _, _, _, _, _, _, _, _, _, _, _, _, _, _, _, _, _, _, _, _, _, _, _, _, _, _, _, _, _, _, _], defers := _ } _
          refine wpAnyH_take (i := 9) (v := .int .i64 cd) rfl (by kernel_rfl) (by kernel_rfl) (by kernel_rfl) (fun _ _ _ h => h) (Or.inl ⟨by rfl, ?_⟩) H ?_
          · intro w' hSw; go_simp
          change wpAnyH _ _ _ _ _ _ _ { tmps := #[_, _, _, _, _, _, _, _, _, _, _, _, _, _, _, _, _, _, _, _, _, _, _, _, _, _, _, _, _, _, _, _, _, _, _, _, _, _, _, _, _, _, _, _, _, _, _, _, _, _, _, _, _, _, _, _, _, _, _, _, _, _, _, _, _, _, _, _, _, _, _, _, _, _, _, _, _, _, _, _, _, _, _, _, _, _, _, _, _, _, _, _, _, _, _, _, _, _, _, _, _, _, _, _, _, _, _, _, _, _, _, _, _, _, _, _, _, _, _, _, _, _, _, _, _, _, _, _, _, _, _, _, _, _, _, _, _, _, _, _, _, _, _, _, _, _, _, _, _, _, _], defers := _ } _
          refine wpAnyH_ready (rs := [11]) (by kernel_rfl) (by simp) ?_
          refine (AllReadyH.cons rfl (fun KK hK => ?_) AllReadyH.nil)
          have t0 := PZ.out.c0
          have t1 := PZ.out.c1
          have f0 := PZ.out.fr 0
          have f1 := PZ.out.fr 1
          go_simp
          replace H : Below v0.heap.size v0 ((y4.setCell ⟨pb, 0, none⟩ (.slice wa0 d.nr wx0)).setCell ⟨pb, 1, none⟩ (.slice wa1 d.ns wx1)) := (H.setCell (by exact Lpb.out) _).setCell (by exact Lpb.out) _
          refine hK.out _ _ H (fun _ => ?_)
          clear hK KK
          change wpAnyH _ _ _ _ _ _ _ { tmps := #[_, _, _, _, _, _, _, _, _, _, _, _, _, _, _, _, _, _, _, _, _, _, _, _, _, _, _, _, _, _, _, _, _, _, _, _, _, _, _, _, _, _, _, _, _, _, _, _, _, _, _, _, _, _, _, _, _, _, _, _, _, _, _, _, _, _, _, _, _, _, _, _, _, _, _, _, _, _, _, _, _, _, _, _, _, _, _, _, _, _, _, _, _, _, _, _, _, _, _, _, _, _, _, _, _, _, _, _, _, _, _, _, _, _, _, _, _, _, _, _, _, _, _, _, _, _, _, _, _, _, _, _, _, _, _, _, _, _, _, _, _, _, _, _, _, _, _, _, _, _, _], defers := _ } _
          refine wpAnyH_take (i := 12) (v := .int .i64 tl) rfl (by kernel_rfl) (by kernel_rfl) (by kernel_rfl) (fun _ _ _ h => h) (Or.inl ⟨by rfl, ?_⟩) H ?_
          · intro w' hSw; go_simp
          change wpAnyH _ _ _ _ _ _ _ { tmps := #[_, _, _, _, _, _, _, _, _, _, _, _, _, _, _, _, _, _, _, _, _, _, _, _, _, _, _, _, _, _, _, _, _, _, _, _, _, _, _, _, _, _, _, _, _, _, _, _, _, _, _, _, _, _, _, _, _, _, _, _, _, _, _, _, _, _, _, _, _, _, _, _, _, _, _, _, _, _, _, _, _, _, _, _, _, _, _, _, _, _, _, _, _, _, _, _, _, _, _, _, _, _, _, _, _, _, _, _, _, _, _, _, _, _, _, _, _, _, _, _, _, _, _, _, _, _, _, _, _, _, _, _, _, _, _, _, _, _, _, _, _, _, _, _, _, _, _, _, _, _, _], defers := _ } _
          refine wpAnyH_take (i := 13) (v := .int .i64 mk) rfl (by kernel_rfl) (by kernel_rfl) (by kernel_rfl) (fun _ _ _ h => h) (Or.inl ⟨by rfl, ?_⟩) H ?_
          · intro w' hSw; go_simp
          change wpAnyH _ _ _ _ _ _ _ { tmps := #[_, _, _, _, _, _, _, _, _, _, _, _, _, _, _, _, _, _, _, _, _, _, _, _, _, _, _, _, _, _, _, _, _, _, _, _, _, _, _, _, _, _, _, _, _, _, _, _, _, _, _, _, _, _, _, _, _, _, _, _, _, _, _, _, _, _, _, _, _, _, _, _, _, _, _, _, _, _, _, _, _, _, _, _, _, _, _, _, _, _, _, _, _, _, _, _, _, _, _, _, _, _, _, _, _, _, _, _, _, _, _, _, _, _, _, _, _, _, _, _, _, _, _, _, _, _, _, _, _, _, _, _, _, _, _, _, _, _, _, _, _, _, _, _, _, _, _, _, _, _, _], defers := _ } _
          refine wpAnyH_take (i := 14) (v := .int .i64 cd) rfl (by kernel_rfl) (by kernel_rfl) (by kernel_rfl) (fun _ _ _ h => h) (Or.inl ⟨by rfl, ?_⟩) H ?_
          · intro w' hSw; go_simp
          change wpAnyH _ _ _ _ _ _ _ { tmps := #[_, _, _, _, _, _, _, _, _, _, _, _, _, _, _, _, _, _, _, _, _, _, _, _, _, _, _, _, _, _, _, _, _, _, _, _, _, _, _, _, _, _, _, _, _, _, _, _, _, _, _, _, _, _, _, _, _, _, _, _, _, _, _, _, _, _, _, _, _, _, _, _, _, _, _, _, _, _, _, _, _, _, _, _, _, _, _, _, _, _, _, _, _, _, _, _, _, _, _, _, _, _, _, _, _, _, _, _, _, _, _, _, _, _, _, _, _, _, _, _, _, _, _, _, _, _, _, _, _, _, _, _, _, _, _, _, _, _, _, _, _, _, _, _, _, _, _, _, _, _, _], defers := _ } _
          refine wpAnyH_done (by kernel_rfl) ?_ _
          refine NoPanic.normal ?_
          have XB : Hid (Box2 ((y4.setCell ⟨pb, 0, none⟩ (.slice wa0 d.nr wx0)).setCell ⟨pb, 1, none⟩ (.slice wa1 d.ns wx1)) pb 34 (.slice wa0 d.nr wx0) (.slice wa1 d.ns wx1)) := (PZ.out.set0 _).set1 _
          have BE : Hid (BankE ((y4.setCell ⟨pb, 0, none⟩ (.slice wa0 d.nr wx0)).setCell ⟨pb, 1, none⟩ (.slice wa1 d.ns wx1)) v0.heap.size d.nr d.ns d (.slice wa0 d.nr wx0) (.slice wa1 d.ns wx1)) := ⟨E0.out.boxA PZ.out (by decide) _ _, E1.out.boxA PZ.out (by decide) _ _, E0.out.notRow E1.out (by decide)⟩
          have HF : Hid (Below v0.heap.size v0 ((y4.setCell ⟨pb, 0, none⟩ (.slice wa0 d.nr wx0)).setCell ⟨pb, 1, none⟩ (.slice wa1 d.ns wx1))) := H
          clear PZ H t0 t1 f0 f1 E0 E1
          change Exit.then _ _ Exit.normal { tmps := #[_, _, _, _, _, _, _, _, _, _, _, _, _, _, _, _, _, _, _, _, _, _, _, _, _, _, _, _, _, _, _, _, _, _, _, _, _, _, _, _, _, _, _, _, _, _, _, _, _, _, _, _, _, _, _, _, _, _, _, _, _, _, _, _, _, _, _, _, _, _, _, _, _, _, _, _, _, _, _, _, _, _, _, _, _, _, _, _, _, _, _, _, _, _, _, _, _, _, _, _, _, _, _, _, _, _, _, _, _, _, _, _, _, _, _, _, _, _, _, _, _, _, _, _, _, _, _, _, _, _, _, _, _, _, _, _, _, _, _, _, _, _, _, _, _, _, _, _, _, _, _], defers := _ } _
          generalize (y4.setCell ⟨pb, 0, none⟩ (.slice wa0 d.nr wx0)).setCell ⟨pb, 1, none⟩ (.slice wa1 d.ns wx1) = z at *
          go_wp2_with fail
          go_meet
          exact ⟨pb, wa0, wa1, wx0, wx1, rfl, rfl, rfl, rfl, XB.out, BE.out, HF.out, Lpb.out⟩
      · skip
        go_simp
        have hb : Below y1.heap.size y1 (y1.alloc (.cells #[.slice none 0 0, .slice none 0 0] 34)) := (Below.refl _ _).alloc (Nat.le_refl _) _
        have PZ : Hid (Box2 (y1.alloc (.cells #[.slice none 0 0, .slice none 0 0] 34)) y1.heap.size 34 (.slice none 0 0) (.slice none 0 0)) := Box2.madeAt rfl _ _ _
        have Lpb : Hid (v0.heap.size ≤ y1.heap.size) := H.size
        replace TB : Hid (BankV (y1.alloc (.cells #[.slice none 0 0, .slice none 0 0] 34)) b (some ⟨tg0, 0, none⟩) (some ⟨tg1, 0, none⟩)) := TB.out.below hb
        replace H : Below v0.heap.size v0 (y1.alloc (.cells #[.slice none 0 0, .slice none 0 0] 34)) := H.trans (hb.mono H.size)
        clear hb
        refine hK.out _ _ H (fun _ => ?_)
        clear hK KK
        generalize (y1.alloc (.cells #[.slice none 0 0, .slice none 0 0] 34)) = y2 at *
        generalize y1.heap.size = pb at *
        change wpAnyH _ _ _ _ _ _ _ { tmps := #[_, _, _, _, _, _, _, _, _, _, _, _, _, _, _, _, _, _, _, _, _, _, _, _, _, _, _, _, _, _, _, _, _, _, _, _, _, _, _, _, _, _, _, _, _, _, _, _, _, _, _, _, _, _, _, _, _, _, _, _, _, _, _, _, _, _, _, _, _, _, _, _, _, _, _, _, _, _, _, _, _, _, _, _, _, _, _, _, _, _, _, _, _, _, _, _, _, _, _, _, _, _, _, _, _, _, _, _, _, _, _, _, _, _, _, _, _, _, _, _, _, _, _, _, _, _, _, _, _, _, _, _, _, _, _, _, _, _, _, _, _, _, _, _, _, _, _, _, _, _, _], defers := _ } _
        refine wpAnyH_ready (rs := [3]) (by kernel_rfl) (by simp) ?_
        refine (AllReadyH.cons rfl (fun KK hK => ?_) AllReadyH.nil)
        go_simp
        refine (TR.out _).mono ?_
        rintro e y3 ⟨rfl, hb⟩
        replace TB : Hid (BankV y3 b (some ⟨tg0, 0, none⟩) (some ⟨tg1, 0, none⟩)) := TB.out.below hb
        replace PZ : Hid (Box2 y3 pb 34 (.slice none 0 0) (.slice none 0 0)) := PZ.out.below hb
        replace H : Below v0.heap.size v0 y3 := H.trans (hb.mono H.size)
        clear hb
        refine hK.out _ _ H (fun _ => ?_)
        clear hK KK
        change wpAnyH _ _ _ _ _ _ _ { tmps := #[_, _, _, _, _, _, _, _, _, _, _, _, _, _, _, _, _, _, _, _, _, _, _, _, _, _, _, _, _, _, _, _, _, _, _, _, _, _, _, _, _, _, _, _, _, _, _, _, _, _, _, _, _, _, _, _, _, _, _, _, _, _, _, _, _, _, _, _, _, _, _, _, _, _, _, _, _, _, _, _, _, _, _, _, _, _, _, _, _, _, _, _, _, _, _, _, _, _, _, _, _, _, _, _, _, _, _, _, _, _, _, _, _, _, _, _, _, _, _, _, _, _, _, _, _, _, _, _, _, _, _, _, _, _, _, _, _, _, _, _, _, _, _, _, _, _, _, _, _, _, _], defers := _ } _
        refine wpAnyH_ready (rs := [4]) (by kernel_rfl) (by simp) ?_
        refine (AllReadyH.cons rfl (fun KK hK => ?_) AllReadyH.nil)
        go_simp
        refine (SO.out _ _ _ TB.out).mono ?_
        rintro e y4 ⟨⟨wa0, wx0, wa1, wx1, rfl, be⟩, hb⟩
        replace TB : Hid (BankV y4 b (some ⟨tg0, 0, none⟩) (some ⟨tg1, 0, none⟩)) := TB.out.below hb
        replace PZ : Hid (Box2 y4 pb 34 (.slice none 0 0) (.slice none 0 0)) := PZ.out.below hb
        have H0 : v0.heap.size ≤ y3.heap.size := H.size
        replace H : Below v0.heap.size v0 y4 := H.trans (hb.mono H.size)
        have E0 : Hid (EO y4 v0.heap.size 28 3 (.slice wa0 d.nr wx0) d.nr (rgF d.R)) := be.e0.mono H0
        have E1 : Hid (EO y4 v0.heap.size 64 4 (.slice wa1 d.ns wx1) d.ns (seF d.S)) := be.e1.mono H0
        clear hb be H0
        refine hK.out _ _ H (fun _ => ?_)
        clear hK KK
        change wpAnyH _ _ _ _ _ _ _ { tmps := #[_, _, _, _, _, _, _, _, _, _, _, _, _, _, _, _, _, _, _, _, _, _, _, _, _, _, _, _, _, _, _, _, _, _, _, _, _, _, _, _, _, _, _, _, _, _, _, _, _, _, _, _, _, _, _, _, _, _, _, _, _, _, _, _, _, _, _, _, _, _, _, _, _, _, _, _, _, _, _, _, _, _, _, _, _, _, _, _, _, _, _, _, _, _, _, _, _, _, _, _, _, _, _, _, _, _, _, _, _, _, _, _, _, _, _, _, _, _, _, _, _, _, _, _, _, _, _, _, _, _, _, _, _, _, _, _, _, _, _, _, _, _, _, _, _, _, _, _, _, _, _], defers := _ } _
        refine wpAnyH_take (i := 5) (v := .tuple #[.agg #[.slice wa0 d.nr wx0, .slice wa1 d.ns wx1], .int .i64 tl, .int .i64 mk, .int .i64 cd]) rfl (by kernel_rfl) (by kernel_rfl) (by kernel_rfl) (fun _ _ _ h => h) (Or.inl ⟨by rfl, ?_⟩) H ?_
        · intro w' hSw; go_simp
        change wpAnyH _ _ _ _ _ _ _ { tmps := #[_, _, _, _, _, _, _, _, _, _, _, _, _, _, _, _, _, _, _, _, _, _, _, _, _, _, _, _, _, _, _, _, _, _, _, _, _, _, _, _, _, _, _, _, _, _, _, _, _, _, _, _, _, _, _, _, _, _, _, _, _, _, _, _, _, _, _, _, _, _, _, _, _, _, _, _, _, _, _, _, _, _, _, _, _, _, _, _, _, _, _, _, _, _, _, _, _, _, _, _, _, _, _, _, _, _, _, _, _, _, _, _, _, _, _, _, _, _, _, _, _, _, _, _, _, _, _, _, _, _, _, _, _, _, _, _, _, _, _, _, _, _, _, _, _, _, _, _, _, _, _], defers := _ } _
        refine wpAnyH_take (i := 6) (v := .agg #[.slice wa0 d.nr wx0, .slice wa1 d.ns wx1]) rfl (by kernel_rfl) (by kernel_rfl) (by kernel_rfl) (fun _ _ _ h => h) (Or.inl ⟨by rfl, ?_⟩) H ?_
        · intro w' hSw; go_simp
        change wpAnyH _ _ _ _ _ _ _ { tmps := #[_, _, _, _, _, _, _, _, _, _, _, _, _, _, _, _, _, _, _, _, _, _, _, _, _, _, _, _, _, _, _, _, _, _, _, _, _, _, _, _, _, _, _, _, _, _, _, _, _, _, _, _, _, _, _, _, _, _, _, _, _, _, _, _, _, _, _, _, _, _, _, _, _, _, _, _, _, _, _, _, _, _, _, _, _, _, _, _, _, _, _, _, _, _, _, _, _, _, _, _, _, _, _, _, _, _, _, _, _, _, _, _, _, _, _, _, _, _, _, _, _, _, _, _, _, _, _, _, _, _, _, _, _, _, _, _, _, _, _, _, _, _, _, _, _, _, _, _, _, _, _], defers := _ } _
        refine wpAnyH_take (i := 7) (v := .int .i64 tl) rfl (by kernel_rfl) (by kernel_rfl) (by kernel_rfl) (fun _ _ _ h => h) (Or.inl ⟨by rfl, ?_⟩) H ?_
        · intro w' hSw; go_simp
        change wpAnyH _ _ _ _ _ _ _ { tmps := #[_, _, _, _, _, _, _, _, _, _, _, _, _, _, _, _, _, _, _, _, _, _, _, _, _, _, _, _, _, _, _, _, _, _, _, _, _, _, _, _, _, _, _, _, _, _, _, _, _, _, _, _, _, _, _, _, _, _, _, _, _, _, _, _, _, _, _, _, _, _, _, _, _, _, _, _, _, _, _, _, _, _, _, _, _, _, _, _, _, _, _, _, _, _, _, _, _, _, _, _, _, _, _, _, _, _, _, _, _, _, _, _, _, _, _, _, _, _, _, _, _, _, _, _, _, _, _, _, _, _, _, _, _, _, _, _, _, _, _, _, _, _, _, _, _, _, _, _, _, _, _], defers := _ } _
        refine wpAnyH_take (i := 8) (v := .int .i64 mk) rfl (by kernel_rfl) (by kernel_rfl) (by kernel_rfl) (fun _ _ _ h => h) (Or.inl ⟨by rfl, ?_⟩) H ?_
        · intro w' hSw; go_simp
        change wpAnyH _ _ _ _ _ _ _ { tmps := #[_, _, _, _, _, _, _, _, _, _, _, _, _, _, _, _, _, _, _, _, _, _, _, _, _, _, _, _, _, _, _, _, _, _, _, _, _, _, _, _, _, _, _, _, _, _, _, _, _, _, _, _, _, _, _, _, _, _, _, _, _, _, _, _, _, _, _, _, _, _, _, _, _, _, _, _, _, _, _, _, _, _, _, _, _, _, _, _, _, _, _, _, _, _, _, _, _, _, _, _, _, _, _, _, _, _, _, _, _, _, _, _, _, _, _, _, _, _, _, _, _, _, _, _, _, _, _, _, _, _, _, _, _, _, _, _, _, _, _, _, _, _, _, _, _, _, _, _, _, _, _], defers := _ } _
        refine wpAnyH_take (i := 9) (v := .int .i64 cd) rfl (by kernel_rfl) (by kernel_rfl) (by kernel_rfl) (fun _ _ _ h => h) (Or.inl ⟨by rfl, ?_⟩) H ?_
        · intro w' hSw; go_simp
        change wpAnyH _ _ _ _ _ _ _ { tmps := #[_, _, _, _, _, _, _, _, _, _, _, _, _, _, _, _, _, _, _, _, _, _, _, _, _, _, _, _, _, _, _, _, _, _, _, _, _, _, _, _, _, _, _, _, _, _, _, _, _, _, _, _, _, _, _, _, _, _, _, _, _, _, _, _, _, _, _, _, _, _, _, _, _, _, _, _, _, _, _, _, _, _, _, _, _, _, _, _, _, _, _, _, _, _, _, _, _, _, _, _, _, _, _, _, _, _, _, _, _, _, _, _, _, _, _, _, _, _, _, _, _, _, _, _, _, _, _, _, _, _, _, _, _, _, _, _, _, _, _, _, _, _, _, _, _, _, _, _, _, _, _], defers := _ } _
        refine wpAnyH_ready (rs := [11]) (by kernel_rfl) (by simp) ?_
        refine (AllReadyH.cons rfl (fun KK hK => ?_) AllReadyH.nil)
        have t0 := PZ.out.c0
        have t1 := PZ.out.c1
        have f0 := PZ.out.fr 0
        have f1 := PZ.out.fr 1
        go_simp
        replace H : Below v0.heap.size v0 ((y4.setCell ⟨pb, 0, none⟩ (.slice wa0 d.nr wx0)).setCell ⟨pb, 1, none⟩ (.slice wa1 d.ns wx1)) := (H.setCell (by exact Lpb.out) _).setCell (by exact Lpb.out) _
        refine hK.out _ _ H (fun _ => ?_)
        clear hK KK
        change wpAnyH _ _ _ _ _ _ _ { tmps := #[_, _, _, _, _, _, _, _, _, _, _, _, _, _, _, _, _, _, _, _, _, _, _, _, _, _, _, _, _, _, _, _, _, _, _, _, _, _, _, _, _, _, _, _, _, _, _, _, _, _, _, _, _, _, _, _, _, _, _, _, _, _, _, _, _, _, _, _, _, _, _, _, _, _, _, _, _, _, _, _, _, _, _, _, _, _, _, _, _, _, _, _, _, _, _, _, _, _, _, _, _, _, _, _, _, _, _, _, _, _, _, _, _, _, _, _, _, _, _, _, _, _, _, _, _, _, _, _, _, _, _, _, _, _, _, _, _, _, _, _, _, _, _, _, _, _, _, _, _, _, _], defers := _ } _
        refine wpAnyH_take (i := 12) (v := .int .i64 tl) rfl (by kernel_rfl) (by kernel_rfl) (by kernel_rfl) (fun _ _ _ h => h) (Or.inl ⟨by rfl, ?_⟩) H ?_
        · intro w' hSw; go_simp
        change wpAnyH _ _ _ _ _ _ _ { tmps := #[_, _, _, _, _, _, _, _, _, _, _, _, _, _, _, _, _, _, _, _, _, _, _, _, _, _, _, _, _, _, _, _, _, _, _, _, _, _, _, _, _, _, _, _, _, _, _, _, _, _, _, _, _, _, _, _, _, _, _, _, _, _, _, _, _, _, _, _, _, _, _, _, _, _, _, _, _, _, _, _, _, _, _, _, _, _, _, _, _, _, _, _, _, _, _, _, _, _, _, _, _, _, _, _, _, _, _, _, _, _, _, _, _, _, _, _, _, _, _, _, _, _, _, _, _, _, _, _, _, _, _, _, _, _, _, _, _, _, _, _, _, _, _, _, _, _, _, _, _, _, _], defers := _ } _
        refine wpAnyH_take (i := 13) (v := .int .i64 mk) rfl (by kernel_rfl) (by kernel_rfl) (by kernel_rfl) (fun _ _ _ h => h) (Or.inl ⟨by rfl, ?_⟩) H ?_
        · intro w' hSw; go_simp
        change wpAnyH _ _ _ _ _ _ _ { tmps := #[_, _, _, _, _, _, _, _, _, _, _, _, _, _, _, _, _, _, _, _, _, _, _, _, _, _, _, _, _, _, _, _, _, _, _, _, _, _, _, _, _, _, _, _, _, _, _, _, _, _, _, _, _, _, _, _, _, _, _, _, _, _, _, _, _, _, _, _, _, _, _, _, _, _, _, _, _, _, _, _, _, _, _, _, _, _, _, _, _, _, _, _, _, _, _, _, _, _, _, _, _, _, _, _, _, _, _, _, _, _, _, _, _, _, _, _, _, _, _, _, _, _, _, _, _, _, _, _, _, _, _, _, _, _, _, _, _, _, _, _, _, _, _, _, _, _, _, _, _, _, _], defers := _ } _
        refine wpAnyH_take (i := 14) (v := .int .i64 cd) rfl (by kernel_rfl) (by kernel_rfl) (by kernel_rfl) (fun _ _ _ h => h) (Or.inl ⟨by rfl, ?_⟩) H ?_
        · intro w' hSw; go_simp
        change wpAnyH _ _ _ _ _ _ _ { tmps := #[_, _, _, _, _, _, _, _, _, _, _, _, _, _, _, _, _, _, _, _, _, _, _, _, _, _, _, _, _, _, _, _, _, _, _, _, _, _, _, _, _, _, _, _, _, _, _, _, _, _, _, _, _, _, _, _, _, _, _, _, _, _, _, _, _, _, _, _, _, _, _, _, _, _, _, _, _, _, _, _, _, _, _, _, _, _, _, _, _, _, _, _, _, _, _, _, _, _, _, _, _, _, _, _, _, _, _, _, _, _, _, _, _, _, _, _, _, _, _, _, _, _, _, _, _, _, _, _, _, _, _, _, _, _, _, _, _, _, _, _, _, _, _, _, _, _, _, _, _, _, _], defers := _ } _
        refine wpAnyH_done (by kernel_rfl) ?_ _
        refine NoPanic.normal ?_
        have XB : Hid (Box2 ((y4.setCell ⟨pb, 0, none⟩ (.slice wa0 d.nr wx0)).setCell ⟨pb, 1, none⟩ (.slice wa1 d.ns wx1)) pb 34 (.slice wa0 d.nr wx0) (.slice wa1 d.ns wx1)) := (PZ.out.set0 _).set1 _
        have BE : Hid (BankE ((y4.setCell ⟨pb, 0, none⟩ (.slice wa0 d.nr wx0)).setCell ⟨pb, 1, none⟩ (.slice wa1 d.ns wx1)) v0.heap.size d.nr d.ns d (.slice wa0 d.nr wx0) (.slice wa1 d.ns wx1)) := ⟨E0.out.boxA PZ.out (by decide) _ _, E1.out.boxA PZ.out (by decide) _ _, E0.out.notRow E1.out (by decide)⟩
        have HF : Hid (Below v0.heap.size v0 ((y4.setCell ⟨pb, 0, none⟩ (.slice wa0 d.nr wx0)).setCell ⟨pb, 1, none⟩ (.slice wa1 d.ns wx1))) := H
        clear PZ H t0 t1 f0 f1 E0 E1
        change Exit.then _ _ Exit.normal { tmps := #[_, _, _, _, _, _, _, _, _, _, _, _, _, _, _, _, _, _, _, _, _, _, _, _, _, _, _, _, _, _, _, _, _, _, _, _, _, _, _, _, _, _, _, _, _, _, _, _, _, _, _, _, _, _, _, _, _, _, _, _, _, _, _, _, _, _, _, _, _, _, _, _, _, _, _, _, _, _, _, _, _, _, _, _, _, _, _, _, _, _, _, _, _, _, _, _, _, _, _, _, _, _, _, _, _, _, _, _, _, _, _, _, _, _, _, _, _, _, _, _, _, _, _, _, _, _, _, _, _, _, _, _, _, _, _, _, _, _, _, _, _, _, _, _, _, _, _, _, _, _, _], defers := _ } _
        generalize (y4.setCell ⟨pb, 0, none⟩ (.slice wa0 d.nr wx0)).setCell ⟨pb, 1, none⟩ (.slice wa1 d.ns wx1) = z at *
        go_wp2_with fail
        go_meet
        exact ⟨pb, wa0, wa1, wx0, wx1, rfl, rfl, rfl, rfl, XB.out, BE.out, HF.out, Lpb.out⟩
    · skip
      go_simp
      have hb : Below y0.heap.size y0 (y0.alloc (.cells #[.slice none 0 0, .slice none 0 0] 34)) := (Below.refl _ _).alloc (Nat.le_refl _) _
      have PZ : Hid (Box2 (y0.alloc (.cells #[.slice none 0 0, .slice none 0 0] 34)) y0.heap.size 34 (.slice none 0 0) (.slice none 0 0)) := Box2.madeAt rfl _ _ _
      have Lpb : Hid (v0.heap.size ≤ y0.heap.size) := H.size
      replace H : Below v0.heap.size v0 (y0.alloc (.cells #[.slice none 0 0, .slice none 0 0] 34)) := H.trans (hb.mono H.size)
      clear hb
      refine hK.out _ _ H (fun _ => ?_)
      clear hK KK
      generalize (y0.alloc (.cells #[.slice none 0 0, .slice none 0 0] 34)) = y1 at *
      generalize y0.heap.size = pb at *
      change wpAnyH _ _ _ _ _ _ _ { tmps := #[_, _, _, _, _, _, _, _, _, _, _, _, _, _, _, _, _, _, _, _, _, _, _, _, _, _, _, _, _, _, _, _, _, _, _, _, _, _, _, _, _, _, _, _, _, _, _, _, _, _, _, _, _, _, _, _, _, _, _, _, _, _, _, _, _, _, _, _, _, _, _, _, _, _, _, _, _, _, _, _, _, _, _, _, _, _, _, _, _, _, _, _, _, _, _, _, _, _, _, _, _, _, _, _, _, _, _, _, _, _, _, _, _, _, _, _, _, _, _, _, _, _, _, _, _, _, _, _, _, _, _, _, _, _, _, _, _, _, _, _, _, _, _, _, _, _, _, _, _, _, _], defers := _ } _
      refine wpAnyH_ready (rs := [1]) (by kernel_rfl) (by simp) ?_
      refine (AllReadyH.cons rfl (fun KK hK => ?_) AllReadyH.nil)
      go_simp
      refine (TO.out _ (HV.out.below (A1.out.trans (H.mono A1.out.size)))).mono ?_
      rintro e y2 ⟨⟨tg0, tg1, -, -, -, rfl, tr⟩, hb⟩
      replace PZ : Hid (Box2 y2 pb 34 (.slice none 0 0) (.slice none 0 0)) := PZ.out.below hb
      replace H : Below v0.heap.size v0 y2 := H.trans (hb.mono H.size)
      have TB : Hid (BankV y2 b (some ⟨tg0, 0, none⟩) (some ⟨tg1, 0, none⟩)) := tr.bankV
      clear hb tr
      refine hK.out _ _ H (fun _ => ?_)
      clear hK KK
      change wpAnyH _ _ _ _ _ _ _ { tmps := #[_, _, _, _, _, _, _, _, _, _, _, _, _, _, _, _, _, _, _, _, _, _, _, _, _, _, _, _, _, _, _, _, _, _, _, _, _, _, _, _, _, _, _, _, _, _, _, _, _, _, _, _, _, _, _, _, _, _, _, _, _, _, _, _, _, _, _, _, _, _, _, _, _, _, _, _, _, _, _, _, _, _, _, _, _, _, _, _, _, _, _, _, _, _, _, _, _, _, _, _, _, _, _, _, _, _, _, _, _, _, _, _, _, _, _, _, _, _, _, _, _, _, _, _, _, _, _, _, _, _, _, _, _, _, _, _, _, _, _, _, _, _, _, _, _, _, _, _, _, _, _], defers := _ } _
      refine wpAnyH_ready (rs := [3]) (by kernel_rfl) (by simp) ?_
      refine (AllReadyH.cons rfl (fun KK hK => ?_) AllReadyH.nil)
      go_simp
      refine (TR.out _).mono ?_
      rintro e y3 ⟨rfl, hb⟩
      replace PZ : Hid (Box2 y3 pb 34 (.slice none 0 0) (.slice none 0 0)) := PZ.out.below hb
      replace TB : Hid (BankV y3 b (some ⟨tg0, 0, none⟩) (some ⟨tg1, 0, none⟩)) := TB.out.below hb
      replace H : Below v0.heap.size v0 y3 := H.trans (hb.mono H.size)
      clear hb
      refine hK.out _ _ H (fun _ => ?_)
      clear hK KK
      change wpAnyH _ _ _ _ _ _ _ { tmps := #[_, _, _, _, _, _, _, _, _, _, _, _, _, _, _, _, _, _, _, _, _, _, _, _, _, _, _, _, _, _, _, _, _, _, _, _, _, _, _, _, _, _, _, _, _, _, _, _, _, _, _, _, _, _, _, _, _, _, _, _, _, _, _, _, _, _, _, _, _, _, _, _, _, _, _, _, _, _, _, _, _, _, _, _, _, _, _, _, _, _, _, _, _, _, _, _, _, _, _, _, _, _, _, _, _, _, _, _, _, _, _, _, _, _, _, _, _, _, _, _, _, _, _, _, _, _, _, _, _, _, _, _, _, _, _, _, _, _, _, _, _, _, _, _, _, _, _, _, _, _, _], defers := _ } _
      refine wpAnyH_ready (rs := [4]) (by kernel_rfl) (by simp) ?_
      refine (AllReadyH.cons rfl (fun KK hK => ?_) AllReadyH.nil)
      go_simp
      refine (SO.out _ _ _ TB.out).mono ?_
      rintro e y4 ⟨⟨wa0, wx0, wa1, wx1, rfl, be⟩, hb⟩
      replace PZ : Hid (Box2 y4 pb 34 (.slice none 0 0) (.slice none 0 0)) := PZ.out.below hb
      replace TB : Hid (BankV y4 b (some ⟨tg0, 0, none⟩) (some ⟨tg1, 0, none⟩)) := TB.out.below hb
      have H0 : v0.heap.size ≤ y3.heap.size := H.size
      replace H : Below v0.heap.size v0 y4 := H.trans (hb.mono H.size)
      have E0 : Hid (EO y4 v0.heap.size 28 3 (.slice wa0 d.nr wx0) d.nr (rgF d.R)) := be.e0.mono H0
      have E1 : Hid (EO y4 v0.heap.size 64 4 (.slice wa1 d.ns wx1) d.ns (seF d.S)) := be.e1.mono H0
      clear hb be H0
      refine hK.out _ _ H (fun _ => ?_)
      clear hK KK
      change wpAnyH _ _ _ _ _ _ _ { tmps := #[_, _, _, _, _, _, _, _, _, _, _, _, _, _, _, _, _, _, _, _, _, _, _, _, _, _, _, _, _, _, _, _, _, _, _, _, _, _, _, _, _, _, _, _, _, _, _, _, _, _, _, _, _, _, _, _, _, _, _, _, _, _, _, _, _, _, _, _, _, _, _, _, _, _, _, _, _, _, _, _, _, _, _, _, _, _, _, _, _, _, _, _, _, _, _, _, _, _, _, _, _, _, _, _, _, _, _, _, _, _, _, _, _, _, _, _, _, _, _, _, _, _, _, _, _, _, _, _, _, _, _, _, _, _, _, _, _, _, _, _, _, _, _, _, _, _, _, _, _, _, _], defers := _ } _
      refine wpAnyH_take (i := 5) (v := .tuple #[.agg #[.slice wa0 d.nr wx0, .slice wa1 d.ns wx1], .int .i64 tl, .int .i64 mk, .int .i64 cd]) rfl (by kernel_rfl) (by kernel_rfl) (by kernel_rfl) (fun _ _ _ h => h) (Or.inl ⟨by rfl, ?_⟩) H ?_
      · intro w' hSw; go_simp
      change wpAnyH _ _ _ _ _ _ _ { tmps := #[_, _, _, _, _, _, _, _, _, _, _, _, _, _, _, _, _, _, _, _, _, _, _, _, _, _, _, _, _, _, _, _, _, _, _, _, _, _, _, _, _, _, _, _, _, _, _, _, _, _, _, _, _, _, _, _, _, _, _, _, _, _, _, _, _, _, _, _, _, _, _, _, _, _, _, _, _, _, _, _, _, _, _, _, _, _, _, _, _, _, _, _, _, _, _, _, _, _, _, _, _, _, _, _, _, _, _, _, _, _, _, _, _, _, _, _, _, _, _, _, _, _, _, _, _, _, _, _, _, _, _, _, _, _, _, _, _, _, _, _, _, _, _, _, _, _, _, _, _, _, _], defers := _ } _
      refine wpAnyH_take (i := 6) (v := .agg #[.slice wa0 d.nr wx0, .slice wa1 d.ns wx1]) rfl (by kernel_rfl) (by kernel_rfl) (by kernel_rfl) (fun _ _ _ h => h) (Or.inl ⟨by rfl, ?_⟩) H ?_
      · intro w' hSw; go_simp
      change wpAnyH _ _ _ _ _ _ _ { tmps := #[_, _, _, _, _, _, _, _, _, _, _, _, _, _, _, _, _, _, _, _, _, _, _, _, _, _, _, _, _, _, _, _, _, _, _, _, _, _, _, _, _, _, _, _, _, _, _, _, _, _, _, _, _, _, _, _, _, _, _, _, _, _, _, _, _, _, _, _, _, _, _, _, _, _, _, _, _, _, _, _, _, _, _, _, _, _, _, _, _, _, _, _, _, _, _, _, _, _, _, _, _, _, _, _, _, _, _, _, _, _, _, _, _, _, _, _, _, _, _, _, _, _, _, _, _, _, _, _, _, _, _, _, _, _, _, _, _, _, _, _, _, _, _, _, _, _, _, _, _, _, _], defers := _ } _
      refine wpAnyH_take (i := 7) (v := .int .i64 tl) rfl (by kernel_rfl) (by kernel_rfl) (by kernel_rfl) (fun _ _ _ h => h) (Or.inl ⟨by rfl, ?_⟩) H ?_
      · intro w' hSw; go_simp
      change wpAnyH _ _ _ _ _ _ _ { tmps := #[_, _, _, _, _, _, _, _, _, _, _, _, _, _, _, _, _, _, _, _, _, _, _, _, _, _, _, _, _, _, _, _, _, _, _, _, _, _, _, _, _, _, _, _, _, _, _, _, _, _, _, _, _, _, _, _, _, _, _, _, _, _, _, _, _, _, _, _, _, _, _, _, _, _, _, _, _, _, _, _, _, _, _, _, _, _, _, _, _, _, _, _, _, _, _, _, _, _, _, _, _, _, _, _, _, _, _, _, _, _, _, _, _, _, _, _, _, _, _, _, _, _, _, _, _, _, _, _, _, _, _, _, _, _, _, _, _, _, _, _, _, _, _, _, _, _, _, _, _, _, _], defers := _ } _
      refine wpAnyH_take (i := 8) (v := .int .i64 mk) rfl (by kernel_rfl) (by kernel_rfl) (by kernel_rfl) (fun _ _ _ h => h) (Or.inl ⟨by rfl, ?_⟩) H ?_
      · intro w' hSw; go_simp
      change wpAnyH _ _ _ _ _ _ _ { tmps := #[_, _, _, _, _, _, _, _, _, _, _, _, _, _, _, _, _, _, _, _, _, _, _, _, _, _, _, _, _, _, _, _, _, _, _, _, _, _, _, _, _, _, _, _, _, _, _, _, _, _, _, _, _, _, _, _, _, _, _, _, _, _, _, _, _, _, _, _, _, _, _, _, _, _, _, _, _, _, _, _, _, _, _, _, _, _, _, _, _, _, _, _, _, _, _, _, _, _, _, _, _, _, _, _, _, _, _, _, _, _, _, _, _, _, _, _, _, _, _, _, _, _, _, _, _, _, _, _, _, _, _, _, _, _, _, _, _, _, _, _, _, _, _, _, _, _, _, _, _, _, _], defers := _ } _
      refine wpAnyH_take (i := 9) (v := .int .i64 cd) rfl (by kernel_rfl) (by kernel_rfl) (by kernel_rfl) (fun _ _ _ h => h) (Or.inl ⟨by rfl, ?_⟩) H ?_
      · intro w' hSw; go_simp
      change wpAnyH _ _ _ _ _ _ _ { tmps := #[_, _, _, _, _, _, _, _, _, _, _, _, _, _, _, _, _, _, _, _, _, _, _, _, _, _, _, _, _, _, _, _, _, _, _, _, _, _, _, _, _, _, _, _, _, _, _, _, _, _, _, _, _, _, _, _, _, _, _, _, _, _, _, _, _, _, _, _, _, _, _, _, _, _, _, _, _, _, _, _, _, _, _, _, _, _, _, _, _, _, _, _, _, _, _, _, _, _, _, _, _, _, _, _, _, _, _, _, _, _, _, _, _, _, _, _, _, _, _, _, _, _, _, _, _, _, _, _, _, _, _, _, _, _, _, _, _, _, _, _, _, _, _, _, _, _, _, _, _, _, _], defers := _ } _
      refine wpAnyH_ready (rs := [11]) (by kernel_rfl) (by simp) ?_
      refine (AllReadyH.cons rfl (fun KK hK => ?_) AllReadyH.nil)
      have t0 := PZ.out.c0
      have t1 := PZ.out.c1
      have f0 := PZ.out.fr 0
      have f1 := PZ.out.fr 1
      go_simp
      replace H : Below v0.heap.size v0 ((y4.setCell ⟨pb, 0, none⟩ (.slice wa0 d.nr wx0)).setCell ⟨pb, 1, none⟩ (.slice wa1 d.ns wx1)) := (H.setCell (by exact Lpb.out) _).setCell (by exact Lpb.out) _
      refine hK.out _ _ H (fun _ => ?_)
      clear hK KK
      change wpAnyH _ _ _ _ _ _ _ { tmps := #[_, _, _, _, _, _, _, _, _, _, _, _, _, _, _, _, _, _, _, _, _, _, _, _, _, _, _, _, _, _, _, _, _, _, _, _, _, _, _, _, _, _, _, _, _, _, _, _, _, _, _, _, _, _, _, _, _, _, _, _, _, _, _, _, _, _, _, _, _, _, _, _, _, _, _, _, _, _, _, _, _, _, _, _, _, _, _, _, _, _, _, _, _, _, _, _, _, _, _, _, _, _, _, _, _, _, _, _, _, _, _, _, _, _, _, _, _, _, _, _, _, _, _, _, _, _, _, _, _, _, _, _, _, _, _, _, _, _, _, _, _, _, _, _, _, _, _, _, _, _, _], defers := _ } _
      refine wpAnyH_take (i := 12) (v := .int .i64 tl) rfl (by kernel_rfl) (by kernel_rfl) (by kernel_rfl) (fun _ _ _ h => h) (Or.inl ⟨by rfl, ?_⟩) H ?_
      · intro w' hSw; go_simp
      change wpAnyH _ _ _ _ _ _ _ { tmps := #[_, _, _, _, _, _, _, _, _, _, _, _, _, _, _, _, _, _, _, _, _, _, _, _, _, _, _, _, _, _, _, _, _, _, _, _, _, _, _, _, _, _, _, _, _, _, _, _, _, _, _, _, _, _, _, _, _, _, _, _, _, _, _, _, _, _, _, _, _, _, _, _, _, _, _, _, _, _, _, _, _, _, _, _, _, _, _, _, _, _, _, _, _, _, _, _, _, _, _, _, _, _, _, _, _, _, _, _, _, _, _, _, _, _, _, _, _, _, _, _, _, _, _, _, _, _, _, _, _, _, _, _, _, _, _, _, _, _, _, _, _, _, _, _, _, _, _, _, _, _, _], defers := _ } _
      refine wpAnyH_take (i := 13) (v := .int .i64 mk) rfl (by kernel_rfl) (by kernel_rfl) (by kernel_rfl) (fun _ _ _ h => h) (Or.inl ⟨by rfl, ?_⟩) H ?_
      · intro w' hSw; go_simp
      change wpAnyH _ _ _ _ _ _ _ { tmps := #[_, _, _, _, _, _, _, _, _, _, _, _, _, _, _, _, _, _, _, _, _, _, _, _, _, _, _, _, _, _, _, _, _, _, _, _, _, _, _, _, _, _, _, _, _, _, _, _, _, _, _, _, _, _, _, _, _, _, _, _, _, _, _, _, _, _, _, _, _, _, _, _, _, _, _, _, _, _, _, _, _, _, _, _, _, _, _, _, _, _, _, _, _, _, _, _, _, _, _, _, _, _, _, _, _, _, _, _, _, _, _, _, _, _, _, _, _, _, _, _, _, _, _, _, _, _, _, _, _, _, _, _, _, _, _, _, _, _, _, _, _, _, _, _, _, _, _, _, _, _, _], defers := _ } _
      refine wpAnyH_take (i := 14) (v := .int .i64 cd) rfl (by kernel_rfl) (by kernel_rfl) (by kernel_rfl) (fun _ _ _ h => h) (Or.inl ⟨by rfl, ?_⟩) H ?_
      · intro w' hSw; go_simp
      change wpAnyH _ _ _ _ _ _ _ { tmps := #[_, _, _, _, _, _, _, _, _, _, _, _, _, _, _, _, _, _, _, _, _, _, _, _, _, _, _, _, _, _, _, _, _, _, _, _, _, _, _, _, _, _, _, _, _, _, _, _, _, _, _, _, _, _, _, _, _, _, _, _, _, _, _, _, _, _, _, _, _, _, _, _, _, _, _, _, _, _, _, _, _, _, _, _, _, _, _, _, _, _, _, _, _, _, _, _, _, _, _, _, _, _, _, _, _, _, _, _, _, _, _, _, _, _, _, _, _, _, _, _, _, _, _, _, _, _, _, _, _, _, _, _, _, _, _, _, _, _, _, _, _, _, _, _, _, _, _, _, _, _, _], defers := _ } _
      refine wpAnyH_done (by kernel_rfl) ?_ _
      refine NoPanic.normal ?_
      have XB : Hid (Box2 ((y4.setCell ⟨pb, 0, none⟩ (.slice wa0 d.nr wx0)).setCell ⟨pb, 1, none⟩ (.slice wa1 d.ns wx1)) pb 34 (.slice wa0 d.nr wx0) (.slice wa1 d.ns wx1)) := (PZ.out.set0 _).set1 _
      have BE : Hid (BankE ((y4.setCell ⟨pb, 0, none⟩ (.slice wa0 d.nr wx0)).setCell ⟨pb, 1, none⟩ (.slice wa1 d.ns wx1)) v0.heap.size d.nr d.ns d (.slice wa0 d.nr wx0) (.slice wa1 d.ns wx1)) := ⟨E0.out.boxA PZ.out (by decide) _ _, E1.out.boxA PZ.out (by decide) _ _, E0.out.notRow E1.out (by decide)⟩
      have HF : Hid (Below v0.heap.size v0 ((y4.setCell ⟨pb, 0, none⟩ (.slice wa0 d.nr wx0)).setCell ⟨pb, 1, none⟩ (.slice wa1 d.ns wx1))) := H
      clear PZ H t0 t1 f0 f1 E0 E1
      change Exit.then _ _ Exit.normal { tmps := #[_, _, _, _, _, _, _, _, _, _, _, _, _, _, _, _, _, _, _, _, _, _, _, _, _, _, _, _, _, _, _, _, _, _, _, _, _, _, _, _, _, _, _, _, _, _, _, _, _, _, _, _, _, _, _, _, _, _, _, _, _, _, _, _, _, _, _, _, _, _, _, _, _, _, _, _, _, _, _, _, _, _, _, _, _, _, _, _, _, _, _, _, _, _, _, _, _, _, _, _, _, _, _, _, _, _, _, _, _, _, _, _, _, _, _, _, _, _, _, _, _, _, _, _, _, _, _, _, _, _, _, _, _, _, _, _, _, _, _, _, _, _, _, _, _, _, _, _, _, _, _], defers := _ } _
      generalize (y4.setCell ⟨pb, 0, none⟩ (.slice wa0 d.nr wx0)).setCell ⟨pb, 1, none⟩ (.slice wa1 d.ns wx1) = z at *
      go_wp2_with fail
      go_meet
      exact ⟨pb, wa0, wa1, wx0, wx1, rfl, rfl, rfl, rfl, XB.out, BE.out, HF.out, Lpb.out⟩
  case rest =>
  obtain ⟨pw, wa0, wa1, wx0, wx1, rfl, rfl, rfl, rfl, xb, be, hb, hge⟩ := hcut
  obtain ⟨va, hva⟩ : ∃ va : World, va = wc := ⟨_, rfl⟩
  subst hva
  have W0 : Hid (BankV va d wa0 wa1) := ⟨be.e0.els, be.e1.els⟩
  have PW : Hid (Box2 va pw 34 (.slice wa0 d.nr wx0) (.slice wa1 d.ns wx1)) := xb
  replace A1 : Hid (Below w.heap.size w va) := A1.out.trans (hb.mono A1.out.size)
  have RV : Hid (Box2 va w.heap.size 25 (.slice a0 b.nr c0) (.slice a1 b.ns c1)) := RA.out.below hb
  have LV : Hid (BoxL va (w.heap.size + 1) s q v x r) := RL.out.below hb
  clear xb be hb hge SO RA RL
  have ra0 := RV.out.c0
  have ra1 := RV.out.c1
  go_wp2_with fail
  refine (TO.out _ (HV.out.below A1.out)).mono ?_
  rintro e v4 ⟨⟨gx0, gx1, hg0, hg01, hg1, rfl, hxr⟩, hb⟩
  have AX : Hid (Below w.heap.size w va) := A1.out
  have GB : Hid (va.heap.size ≤ gx0 ∧ gx0 < gx1 ∧ gx1 < v4.heap.size) := ⟨hg0, hg01, hg1⟩
  have hbA : Below v4.heap.size v4 (v4.alloc (.cells #[.slice (some ⟨gx0, 0, none⟩) b.nr b.nr, .slice (some ⟨gx1, 0, none⟩) b.ns b.ns] 34)) := (Below.refl _ _).alloc (Nat.le_refl _) _
  have PX : Hid (Box2 (v4.alloc (.cells #[.slice (some ⟨gx0, 0, none⟩) b.nr b.nr, .slice (some ⟨gx1, 0, none⟩) b.ns b.ns] 34)) v4.heap.size 34 (.slice (some ⟨gx0, 0, none⟩) b.nr b.nr) (.slice (some ⟨gx1, 0, none⟩) b.ns b.ns)) := Box2.made _ _ _ _
  have XR : Hid (RowB (v4.alloc (.cells #[.slice (some ⟨gx0, 0, none⟩) b.nr b.nr, .slice (some ⟨gx1, 0, none⟩) b.ns b.ns] 34)) b (some ⟨gx0, 0, none⟩) (some ⟨gx1, 0, none⟩) gx0 gx1) := hxr.below hbA
  have KX : Hid (Below va.heap.size va (v4.alloc (.cells #[.slice (some ⟨gx0, 0, none⟩) b.nr b.nr, .slice (some ⟨gx1, 0, none⟩) b.ns b.ns] 34))) := hb.trans (hbA.mono hb.size)
  have LG1 : Hid (gx1 < (v4.alloc (.cells #[.slice (some ⟨gx0, 0, none⟩) b.nr b.nr, .slice (some ⟨gx1, 0, none⟩) b.ns b.ns] 34)).heap.size) := Nat.lt_of_lt_of_le hg1 hbA.size
  replace A1 : Hid (Below w.heap.size w (v4.alloc (.cells #[.slice (some ⟨gx0, 0, none⟩) b.nr b.nr, .slice (some ⟨gx1, 0, none⟩) b.ns b.ns] 34))) := AX.out.trans (KX.out.mono AX.out.size)
  have RL : Hid (BoxL (v4.alloc (.cells #[.slice (some ⟨gx0, 0, none⟩) b.nr b.nr, .slice (some ⟨gx1, 0, none⟩) b.ns b.ns] 34)) (w.heap.size + 1) s q v x r) := LV.out.below KX.out
  clear hb hbA hxr hg0 hg01 hg1 ra0 ra1
  go_upto_region 10 with fail
  generalize (v4.alloc (.cells #[.slice (some ⟨gx0, 0, none⟩) b.nr b.nr, .slice (some ⟨gx1, 0, none⟩) b.ns b.ns] 34)) = v5 at *
  generalize hpx : v4.heap.size = px at *
  clear hpx
  have LPX : Hid (px < v5.heap.size) := PX.out.lt
  have L45 : Hid (gx1 < v5.heap.size) := LG1.out
  go_cut [11, 12, 13, 14] (fun pv tv mv cv wx => ∃ (pb : Nat) (ha0 ha1 : Option Addr) (hx0 hx1 : Nat), pv = .pointer (some ⟨pb, 0, none⟩) ∧ tv = .int .i64 tl ∧ mv = .int .i64 mk ∧ cv = .int .i64 cd ∧ Box2 wx pb 34 (.slice ha0 d.nr hx0) (.slice ha1 d.ns hx1) ∧ BankE wx v5.heap.size d.nr d.ns d (.slice ha0 d.nr hx0) (.slice ha1 d.ns hx1) ∧ Below v5.heap.size v5 wx ∧ v5.heap.size ≤ pb)
  case first =>
    have H : Below v5.heap.size v5 v5.drew := (Below.refl _ _).drew
    refine wp_region_noPanic ?_
    refine wp_region_held_drew (S := fun w' => Below v5.heap.size v5 w') (by kernel_rfl) H (fun _ => ?_)
    generalize v5.drew = y0 at *
    refine wpAnyH_take (i := 0) (v := .agg #[.slice (some ⟨gx0, 0, none⟩) b.nr b.nr, .slice (some ⟨gx1, 0, none⟩) b.ns b.ns]) rfl (by kernel_rfl) (by kernel_rfl) (by kernel_rfl) (fun _ _ _ h => h) (Or.inl ⟨by rfl, ?_⟩) H ?_
    · intro w' hSw; have t0 := (PX.out.below hSw).c0; have t1 := (PX.out.below hSw).c1; clear hSw; go_simp
    change wpAnyH _ _ _ _ _ _ _ { tmps := #[_, _, _, _, _, _, _, _, _, _, _, _, _, _, _, _, _, _, _, _, _, _, _, _, _, _, _, _, _, _, _, _, _, _, _, _, _, _, _, _, _, _, _, _, _, _, _, _, _, _, _, _, _, _, _, _, _, _, _, _, _, _, _, _, _, _, _, _, _, _, _, _, _, _, _, _, _, _, _, _, _, _, _, _, _, _, _, _, _, _, _, _, _, _, _, _, _, _, _, _, _, _, _, _, _, _, _, _, _, _, _, _, _, _, _, _, _, _, _, _, _, _, _, _, _, _, _, _, _, _, _, _, _, _, _, _, _, _, _, _, _, _, _, _, _, _, _, _, _, _, _], defers := _ } _
    refine wpAnyH_take (i := 1) (v := .agg #[.int .i64 s, .int .i64 q, .int .i64 v, .int .i64 x, .string r]) rfl (by kernel_rfl) (by kernel_rfl) (by kernel_rfl) (fun _ _ _ h => h) (Or.inl ⟨by rfl, ?_⟩) H ?_
    · intro w' hSw; obtain ⟨r0, r1, r2, r3, r4⟩ := (RL.out.below hSw).c; clear hSw; go_simp
    change wpAnyH _ _ _ _ _ _ _ { tmps := #[_, _, _, _, _, _, _, _, _, _, _, _, _, _, _, _, _, _, _, _, _, _, _, _, _, _, _, _, _, _, _, _, _, _, _, _, _, _, _, _, _, _, _, _, _, _, _, _, _, _, _, _, _, _, _, _, _, _, _, _, _, _, _, _, _, _, _, _, _, _, _, _, _, _, _, _, _, _, _, _, _, _, _, _, _, _, _, _, _, _, _, _, _, _, _, _, _, _, _, _, _, _, _, _, _, _, _, _, _, _, _, _, _, _, _, _, _, _, _, _, _, _, _, _, _, _, _, _, _, _, _, _, _, _, _, _, _, _, _, _, _, _, _, _, _, _, _, _, _, _, _], defers := _ } _
    refine wpAnyH_ready (rs := [2, 9]) (by kernel_rfl) (by simp) ?_
    refine (AllReadyH.cons rfl (fun KK hK => ?_) (AllReadyH.cons rfl (fun KK hK => ?_) AllReadyH.nil))
    · skip
      go_simp
      refine (TR.out _).mono ?_
      rintro e y1 ⟨rfl, hb⟩
      replace H : Below v5.heap.size v5 y1 := H.trans (hb.mono H.size)
      clear hb
      refine hK.out _ _ H (fun _ => ?_)
      clear hK KK
      change wpAnyH _ _ _ _ _ _ _ { tmps := #[_, _, _, _, _, _, _, _, _, _, _, _, _, _, _, _, _, _, _, _, _, _, _, _, _, _, _, _, _, _, _, _, _, _, _, _, _, _, _, _, _, _, _, _, _, _, _, _, _, _, _, _, _, _, _, _, _, _, _, _, _, _, _, _, _, _, _, _, _, _, _, _, _, _, _, _, _, _, _, _, _, _, _, _, _, _, _, _, _, _, _, _, _, _, _, _, _, _, _, _, _, _, _, _, _, _, _, _, _, _, _, _, _, _, _, _, _, _, _, _, _, _, _, _, _, _, _, _, _, _, _, _, _, _, _, _, _, _, _, _, _, _, _, _, _, _, _, _, _, _, _], defers := _ } _
      refine wpAnyH_ready (rs := [3, 9]) (by kernel_rfl) (by simp) ?_
      refine (AllReadyH.cons rfl (fun KK hK => ?_) (AllReadyH.cons rfl (fun KK hK => ?_) AllReadyH.nil))
      · skip
        go_simp
        refine (IY.out _ _ _ (XR.out.bankV.below H) (TW.out.below (A1.out.trans (H.mono A1.out.size)))).mono ?_
        rintro e y2 ⟨⟨ha0, hx0, ha1, hx1, rfl, be⟩, hb⟩
        have H0 : v5.heap.size ≤ y1.heap.size := H.size
        replace H : Below v5.heap.size v5 y2 := H.trans (hb.mono H.size)
        have E0 : Hid (EO y2 v5.heap.size 28 3 (.slice ha0 d.nr hx0) d.nr (rgF d.R)) := be.e0.mono H0
        have E1 : Hid (EO y2 v5.heap.size 64 4 (.slice ha1 d.ns hx1) d.ns (seF d.S)) := be.e1.mono H0
        clear hb be H0
        refine hK.out _ _ H (fun _ => ?_)
        clear hK KK
        change wpAnyH _ _ _ _ _ _ _ { tmps := #[_, _, _, _, _, _, _, _, _, _, _, _, _, _, _, _, _, _, _, _, _, _, _, _, _, _, _, _, _, _, _, _, _, _, _, _, _, _, _, _, _, _, _, _, _, _, _, _, _, _, _, _, _, _, _, _, _, _, _, _, _, _, _, _, _, _, _, _, _, _, _, _, _, _, _, _, _, _, _, _, _, _, _, _, _, _, _, _, _, _, _, _, _, _, _, _, _, _, _, _, _, _, _, _, _, _, _, _, _, _, _, _, _, _, _, _, _, _, _, _, _, _, _, _, _, _, _, _, _, _, _, _, _, _, _, _, _, _, _, _, _, _, _, _, _, _, _, _, _, _, _], defers := _ } _
        refine wpAnyH_take (i := 4) (v := .tuple #[.agg #[.slice ha0 d.nr hx0, .slice ha1 d.ns hx1], .int .i64 tl, .int .i64 mk, .int .i64 cd]) rfl (by kernel_rfl) (by kernel_rfl) (by kernel_rfl) (fun _ _ _ h => h) (Or.inl ⟨by rfl, ?_⟩) H ?_
        · intro w' hSw; go_simp
        change wpAnyH _ _ _ _ _ _ _ { tmps := #[_, _, _, _, _, _, _, _, _, _, _, _, _, _, _, _, _, _, _, _, _, _, _, _, _, _, _, _, _, _, _, _, _, _, _, _, _, _, _, _, _, _, _, _, _, _, _, _, _, _, _, _, _, _, _, _, _, _, _, _, _, _, _, _, _, _, _, _, _, _, _, _, _, _, _, _, _, _, _, _, _, _, _, _, _, _, _, _, _, _, _, _, _, _, _, _, _, _, _, _, _, _, _, _, _, _, _, _, _, _, _, _, _, _, _, _, _, _, _, _, _, _, _, _, _, _, _, _, _, _, _, _, _, _, _, _, _, _, _, _, _, _, _, _, _, _, _, _, _, _, _], defers := _ } _
        refine wpAnyH_take (i := 5) (v := .agg #[.slice ha0 d.nr hx0, .slice ha1 d.ns hx1]) rfl (by kernel_rfl) (by kernel_rfl) (by kernel_rfl) (fun _ _ _ h => h) (Or.inl ⟨by rfl, ?_⟩) H ?_
        · intro w' hSw; go_simp
        change wpAnyH _ _ _ _ _ _ _ { tmps := #[_, _, _, _, _, _, _, _, _, _, _, _, _, _, _, _, _, _, _, _, _, _, _, _, _, _, _, _, _, _, _, _, _, _, _, _, _, _, _, _, _, _, _, _, _, _, _, _, _, _, _, _, _, _, _, _, _, _, _, _, _, _, _, _, _, _, _, _, _, _, _, _, _, _, _, _, _, _, _, _, _, _, _, _, _, _, _, _, _, _, _, _, _, _, _, _, _, _, _, _, _, _, _, _, _, _, _, _, _, _, _, _, _, _, _, _, _, _, _, _, _, _, _, _, _, _, _, _, _, _, _, _, _, _, _, _, _, _, _, _, _, _, _, _, _, _, _, _, _, _, _], defers := _ } _
        refine wpAnyH_take (i := 6) (v := .int .i64 tl) rfl (by kernel_rfl) (by kernel_rfl) (by kernel_rfl) (fun _ _ _ h => h) (Or.inl ⟨by rfl, ?_⟩) H ?_
        · intro w' hSw; go_simp
        change wpAnyH _ _ _ _ _ _ _ { tmps := #[_, _, _, _, _, _, _, _, _, _, _, _, _, _, _, _, _, _, _, _, _, _, _, _, _, _, _, _, _, _, _, _, _, _, _, _, _, _, _, _, _, _, _, _, _, _, _, _, _, _, _, _, _, _, _, _, _, _, _, _, _, _, _, _, _, _, _, _, _, _, _, _, _, _, _, _, _, _, _, _, _, _, _, _, _, _, _, _, _, _, _, _, _, _, _, _, _, _, _, _, _, _, _, _, _, _, _, _, _, _, _, _, _, _, _, _, _, _, _, _, _, _, _, _, _, _, _, _, _, _, _, _, _, _, _, _, _, _, _, _, _, _, _, _, _, _, _, _, _, _, _], defers := _ } _
        refine wpAnyH_take (i := 7) (v := .int .i64 mk) rfl (by kernel_rfl) (by kernel_rfl) (by kernel_rfl) (fun _ _ _ h => h) (Or.inl ⟨by rfl, ?_⟩) H ?_
        · intro w' hSw; go_simp
        change wpAnyH _ _ _ _ _ _ _ { tmps := #[_, _, _, _, _, _, _, _, _, _, _, _, _, _, _, _, _, _, _, _, _, _, _, _, _, _, _, _, _, _, _, _, _, _, _, _, _, _, _, _, _, _, _, _, _, _, _, _, _, _, _, _, _, _, _, _, _, _, _, _, _, _, _, _, _, _, _, _, _, _, _, _, _, _, _, _, _, _, _, _, _, _, _, _, _, _, _, _, _, _, _, _, _, _, _, _, _, _, _, _, _, _, _, _, _, _, _, _, _, _, _, _, _, _, _, _, _, _, _, _, _, _, _, _, _, _, _, _, _, _, _, _, _, _, _, _, _, _, _, _, _, _, _, _, _, _, _, _, _, _, _], defers := _ } _
        refine wpAnyH_take (i := 8) (v := .int .i64 cd) rfl (by kernel_rfl) (by kernel_rfl) (by kernel_rfl) (fun _ _ _ h => h) (Or.inl ⟨by rfl, ?_⟩) H ?_
        · intro w' hSw; go_simp
        change wpAnyH _ _ _ _ _ _ _ { tmps := #[_, _, _, _, _, _, _, _, _, _, _, _, _, _, _, _, _, _, _, _, _, _, _, _, _, _, _, _, _, _, _, _, _, _, _, _, _, _, _, _, _, _, _, _, _, _, _, _, _, _, _, _, _, _, _, _, _, _, _, _, _, _, _, _, _, _, _, _, _, _, _, _, _, _, _, _, _, _, _, _, _, _, _, _, _, _, _, _, _, _, _, _, _, _, _, _, _, _, _, _, _, _, _, _, _, _, _, _, _, _, _, _, _, _, _, _, _, _, _, _, _, _, _, _, _, _, _, _, _, _, _, _, _, _, _, _, _, _, _, _, _, _, _, _, _, _, _, _, _, _, _], defers := _ } _
        refine wpAnyH_ready (rs := [9]) (by kernel_rfl) (by simp) ?_
        refine (AllReadyH.cons rfl (fun KK hK => ?_) AllReadyH.nil)
        go_simp
        have hb : Below y2.heap.size y2 (y2.alloc (.cells #[.slice none 0 0, .slice none 0 0] 34)) := (Below.refl _ _).alloc (Nat.le_refl _) _
        have PZ : Hid (Box2 (y2.alloc (.cells #[.slice none 0 0, .slice none 0 0] 34)) y2.heap.size 34 (.slice none 0 0) (.slice none 0 0)) := Box2.madeAt rfl _ _ _
        have Lpb : Hid (v5.heap.size ≤ y2.heap.size) := H.size
        replace E0 : Hid (EO (y2.alloc (.cells #[.slice none 0 0, .slice none 0 0] 34)) v5.heap.size 28 3 (.slice ha0 d.nr hx0) d.nr (rgF d.R)) := E0.out.below hb
        replace E1 : Hid (EO (y2.alloc (.cells #[.slice none 0 0, .slice none 0 0] 34)) v5.heap.size 64 4 (.slice ha1 d.ns hx1) d.ns (seF d.S)) := E1.out.below hb
        replace H : Below v5.heap.size v5 (y2.alloc (.cells #[.slice none 0 0, .slice none 0 0] 34)) := H.trans (hb.mono H.size)
        clear hb
        refine hK.out _ _ H (fun _ => ?_)
        clear hK KK
        generalize (y2.alloc (.cells #[.slice none 0 0, .slice none 0 0] 34)) = y3 at *
        generalize y2.heap.size = pb at *
        change wpAnyH _ _ _ _ _ _ _ { tmps := #[_, _, _, _, _, _, _, _, _, _, _, _, _, _, _, _, _, _, _, _, _, _, _, _, _, _, _, _, _, _, _, _, _, _, _, _, _, _, _, _, _, _, _, _, _, _, _, _, _, _, _, _, _, _, _, _, _, _, _, _, _, _, _, _, _, _, _, _, _, _, _, _, _, _, _, _, _, _, _, _, _, _, _, _, _, _, _, _, _, _, _, _, _, _, _, _, _, _, _, _, _, _, _, _, _, _, _, _, _, _, _, _, _, _, _, _, _, _, _, _, _, _, _, _, _, _, _, _, _, _, _, _, _, _, _, _, _, _, _, _, _, _, _, _, _, _, _, _, _, _, _], defers := _ } _
        refine wpAnyH_ready (rs := [10]) (by kernel_rfl) (by simp) ?_
        refine (AllReadyH.cons rfl (fun KK hK => ?_) AllReadyH.nil)
        have t0 := PZ.out.c0
        have t1 := PZ.out.c1
        have f0 := PZ.out.fr 0
        have f1 := PZ.out.fr 1
        go_simp
        replace H : Below v5.heap.size v5 ((y3.setCell ⟨pb, 0, none⟩ (.slice ha0 d.nr hx0)).setCell ⟨pb, 1, none⟩ (.slice ha1 d.ns hx1)) := (H.setCell (by exact Lpb.out) _).setCell (by exact Lpb.out) _
        refine hK.out _ _ H (fun _ => ?_)
        clear hK KK
        change wpAnyH _ _ _ _ _ _ _ { tmps := #[_, _, _, _, _, _, _, _, _, _, _, _, _, _, _, _, _, _, _, _, _, _, _, _, _, _, _, _, _, _, _, _, _, _, _, _, _, _, _, _, _, _, _, _, _, _, _, _, _, _, _, _, _, _, _, _, _, _, _, _, _, _, _, _, _, _, _, _, _, _, _, _, _, _, _, _, _, _, _, _, _, _, _, _, _, _, _, _, _, _, _, _, _, _, _, _, _, _, _, _, _, _, _, _, _, _, _, _, _, _, _, _, _, _, _, _, _, _, _, _, _, _, _, _, _, _, _, _, _, _, _, _, _, _, _, _, _, _, _, _, _, _, _, _, _, _, _, _, _, _, _], defers := _ } _
        refine wpAnyH_take (i := 11) (v := .int .i64 tl) rfl (by kernel_rfl) (by kernel_rfl) (by kernel_rfl) (fun _ _ _ h => h) (Or.inl ⟨by rfl, ?_⟩) H ?_
        · intro w' hSw; go_simp
        change wpAnyH _ _ _ _ _ _ _ { tmps := #[_, _, _, _, _, _, _, _, _, _, _, _, _, _, _, _, _, _, _, _, _, _, _, _, _, _, _, _, _, _, _, _, _, _, _, _, _, _, _, _, _, _, _, _, _, _, _, _, _, _, _, _, _, _, _, _, _, _, _, _, _, _, _, _, _, _, _, _, _, _, _, _, _, _, _, _, _, _, _, _, _, _, _, _, _, _, _, _, _, _, _, _, _, _, _, _, _, _, _, _, _, _, _, _, _, _, _, _, _, _, _, _, _, _, _, _, _, _, _, _, _, _, _, _, _, _, _, _, _, _, _, _, _, _, _, _, _, _, _, _, _, _, _, _, _, _, _, _, _, _, _], defers := _ } _
        refine wpAnyH_take (i := 12) (v := .int .i64 mk) rfl (by kernel_rfl) (by kernel_rfl) (by kernel_rfl) (fun _ _ _ h => h) (Or.inl ⟨by rfl, ?_⟩) H ?_
        · intro w' hSw; go_simp
        change wpAnyH _ _ _ _ _ _ _ { tmps := #[_, _, _, _, _, _, _, _, _, _, _, _, _, _, _, _, _, _, _, _, _, _, _, _, _, _, _, _, _, _, _, _, _, _, _, _, _, _, _, _, _, _, _, _, _, _, _, _, _, _, _, _, _, _, _, _, _, _, _, _, _, _, _, _, _, _, _, _, _, _, _, _, _, _, _, _, _, _, _, _, _, _, _, _, _, _, _, _, _, _, _, _, _, _, _, _, _, _, _, _, _, _, _, _, _, _, _, _, _, _, _, _, _, _, _, _, _, _, _, _, _, _, _, _, _, _, _, _, _, _, _, _, _, _, _, _, _, _, _, _, _, _, _, _, _, _, _, _, _, _, _], defers := _ } _
        refine wpAnyH_take (i := 13) (v := .int .i64 cd) rfl (by kernel_rfl) (by kernel_rfl) (by kernel_rfl) (fun _ _ _ h => h) (Or.inl ⟨by rfl, ?_⟩) H ?_
        · intro w' hSw; go_simp
        change wpAnyH _ _ _ _ _ _ _ { tmps := #[_, _, _, _, _, _, _, _, _, _, _, _, _, _, _, _, _, _, _, _, _, _, _, _, _, _, _, _, _, _, _, _, _, _, _, _, _, _, _, _, _, _, _, _, _, _, _, _, _, _, _, _, _, _, _, _, _, _, _, _, _, _, _, _, _, _, _, _, _, _, _, _, _, _, _, _, _, _, _, _, _, _, _, _, _, _, _, _, _, _, _, _, _, _, _, _, _, _, _, _, _, _, _, _, _, _, _, _, _, _, _, _, _, _, _, _, _, _, _, _, _, _, _, _, _, _, _, _, _, _, _, _, _, _, _, _, _, _, _, _, _, _, _, _, _, _, _, _, _, _, _], defers := _ } _
        refine wpAnyH_done (by kernel_rfl) ?_ _
        refine NoPanic.normal ?_
        have XB : Hid (Box2 ((y3.setCell ⟨pb, 0, none⟩ (.slice ha0 d.nr hx0)).setCell ⟨pb, 1, none⟩ (.slice ha1 d.ns hx1)) pb 34 (.slice ha0 d.nr hx0) (.slice ha1 d.ns hx1)) := (PZ.out.set0 _).set1 _
        have BE : Hid (BankE ((y3.setCell ⟨pb, 0, none⟩ (.slice ha0 d.nr hx0)).setCell ⟨pb, 1, none⟩ (.slice ha1 d.ns hx1)) v5.heap.size d.nr d.ns d (.slice ha0 d.nr hx0) (.slice ha1 d.ns hx1)) := ⟨E0.out.boxA PZ.out (by decide) _ _, E1.out.boxA PZ.out (by decide) _ _, E0.out.notRow E1.out (by decide)⟩
        have HF : Hid (Below v5.heap.size v5 ((y3.setCell ⟨pb, 0, none⟩ (.slice ha0 d.nr hx0)).setCell ⟨pb, 1, none⟩ (.slice ha1 d.ns hx1))) := H
        clear PZ H t0 t1 f0 f1 E0 E1
        change Exit.then _ _ Exit.normal { tmps := #[_, _, _, _, _, _, _, _, _, _, _, _, _, _, _, _, _, _, _, _, _, _, _, _, _, _, _, _, _, _, _, _, _, _, _, _, _, _, _, _, _, _, _, _, _, _, _, _, _, _, _, _, _, _, _, _, _, _, _, _, _, _, _, _, _, _, _, _, _, _, _, _, _, _, _, _, _, _, _, _, _, _, _, _, _, _, _, _, _, _, _, _, _, _, _, _, _, _, _, _, _, _, _, _, _, _, _, _, _, _, _, _, _, _, _, _, _, _, _, _, _, _, _, _, _, _, _, _, _, _, _, _, _, _, _, _, _, _, _, _, _, _, _, _, _, _, _, _, _, _, _], defers := _ } _
        generalize (y3.setCell ⟨pb, 0, none⟩ (.slice ha0 d.nr hx0)).setCell ⟨pb, 1, none⟩ (.slice ha1 d.ns hx1) = z at *
        go_wp2_with fail
        go_meet
        exact ⟨pb, ha0, ha1, hx0, hx1, rfl, rfl, rfl, rfl, XB.out, BE.out, HF.out, Lpb.out⟩
      · skip
        go_simp
        have hb : Below y1.heap.size y1 (y1.alloc (.cells #[.slice none 0 0, .slice none 0 0] 34)) := (Below.refl _ _).alloc (Nat.le_refl _) _
        have PZ : Hid (Box2 (y1.alloc (.cells #[.slice none 0 0, .slice none 0 0] 34)) y1.heap.size 34 (.slice none 0 0) (.slice none 0 0)) := Box2.madeAt rfl _ _ _
        have Lpb : Hid (v5.heap.size ≤ y1.heap.size) := H.size
        replace H : Below v5.heap.size v5 (y1.alloc (.cells #[.slice none 0 0, .slice none 0 0] 34)) := H.trans (hb.mono H.size)
        clear hb
        refine hK.out _ _ H (fun _ => ?_)
        clear hK KK
        generalize (y1.alloc (.cells #[.slice none 0 0, .slice none 0 0] 34)) = y2 at *
        generalize y1.heap.size = pb at *
        change wpAnyH _ _ _ _ _ _ _ { tmps := #[_, _, _, _, _, _, _, _, _, _, _, _, _, _, _, _, _, _, _, _, _, _, _, _, _, _, _, _, _, _, _, _, _, _, _, _, _, _, _, _, _, _, _, _, _, _, _, _, _, _, _, _, _, _, _, _, _, _, _, _, _, _, _, _, _, _, _, _, _, _, _, _, _, _, _, _, _, _, _, _, _, _, _, _, _, _, _, _, _, _, _, _, _, _, _, _, _, _, _, _, _, _, _, _, _, _, _, _, _, _, _, _, _, _, _, _, _, _, _, _, _, _, _, _, _, _, _, _, _, _, _, _, _, _, _, _, _, _, _, _, _, _, _, _, _, _, _, _, _, _, _], defers := _ } _
        refine wpAnyH_ready (rs := [3]) (by kernel_rfl) (by simp) ?_
        refine (AllReadyH.cons rfl (fun KK hK => ?_) AllReadyH.nil)
        go_simp
        refine (IY.out _ _ _ (XR.out.bankV.below H) (TW.out.below (A1.out.trans (H.mono A1.out.size)))).mono ?_
        rintro e y3 ⟨⟨ha0, hx0, ha1, hx1, rfl, be⟩, hb⟩
        replace PZ : Hid (Box2 y3 pb 34 (.slice none 0 0) (.slice none 0 0)) := PZ.out.below hb
        have H0 : v5.heap.size ≤ y2.heap.size := H.size
        replace H : Below v5.heap.size v5 y3 := H.trans (hb.mono H.size)
        have E0 : Hid (EO y3 v5.heap.size 28 3 (.slice ha0 d.nr hx0) d.nr (rgF d.R)) := be.e0.mono H0
        have E1 : Hid (EO y3 v5.heap.size 64 4 (.slice ha1 d.ns hx1) d.ns (seF d.S)) := be.e1.mono H0
        clear hb be H0
        refine hK.out _ _ H (fun _ => ?_)
        clear hK KK
        change wpAnyH _ _ _ _ _ _ _ { tmps := #[_, _, _, _, _, _, _, _, _, _, _, _, _, _, _, _, _, _, _, _, _, _, _, _, _, _, _, _, _, _, _, _, _, _, _, _, _, _, _, _, _, _, _, _, _, _, _, _, _, _, _, _, _, _, _, _, _, _, _, _, _, _, _, _, _, _, _, _, _, _, _, _, _, _, _, _, _, _, _, _, _, _, _, _, _, _, _, _, _, _, _, _, _, _, _, _, _, _, _, _, _, _, _, _, _, _, _, _, _, _, _, _, _, _, _, _, _, _, _, _, _, _, _, _, _, _, _, _, _, _, _, _, _, _, _, _, _, _, _, _, _, _, _, _, _, _, _, _, _, _, _], defers := _ } _
        refine wpAnyH_take (i := 4) (v := .tuple #[.agg #[.slice ha0 d.nr hx0, .slice ha1 d.ns hx1], .int .i64 tl, .int .i64 mk, .int .i64 cd]) rfl (by kernel_rfl) (by kernel_rfl) (by kernel_rfl) (fun _ _ _ h => h) (Or.inl ⟨by rfl, ?_⟩) H ?_
        · intro w' hSw; go_simp
        change wpAnyH _ _ _ _ _ _ _ { tmps := #[_, _, _, _, _, _, _, _, _, _, _, _, _, _, _, _, _, _, _, _, _, _, _, _, _, _, _, _, _, _, _, _, _, _, _, _, _, _, _, _, _, _, _, _, _, _, _, _, _, _, _, _, _, _, _, _, _, _, _, _, _, _, _, _, _, _, _, _, _, _, _, _, _, _, _, _, _, _, _, _, _, _, _, _, _, _, _, _, _, _, _, _, _, _, _, _, _, _, _, _, _, _, _, _, _, _, _, _, _, _, _, _, _, _, _, _, _, _, _, _, _, _, _, _, _, _, _, _, _, _, _, _, _, _, _, _, _, _, _, _, _, _, _, _, _, _, _, _, _, _, _], defers := _ } _
        refine wpAnyH_take (i := 5) (v := .agg #[.slice ha0 d.nr hx0, .slice ha1 d.ns hx1]) rfl (by kernel_rfl) (by kernel_rfl) (by kernel_rfl) (fun _ _ _ h => h) (Or.inl ⟨by rfl, ?_⟩) H ?_
        · intro w' hSw; go_simp
        change wpAnyH _ _ _ _ _ _ _ { tmps := #[_, _, _, _, _, _, _, _, _, _, _, _, _, _, _, _, _, _, _, _, _, _, _, _, _, _, _, _, _, _, _, _, _, _, _, _, _, _, _, _, _, _, _, _, _, _, _, _, _, _, _, _, _, _, _, _, _, _, _, _, _, _, _, _, _, _, _, _, _, _, _, _, _, _, _, _, _, _, _, _, _, _, _, _, _, _, _, _, _, _, _, _, _, _, _, _, _, _, _, _, _, _, _, _, _, _, _, _, _, _, _, _, _, _, _, _, _, _, _, _, _, _, _, _, _, _, _, _, _, _, _, _, _, _, _, _, _, _, _, _, _, _, _, _, _, _, _, _, _, _, _], defers := _ } _
        refine wpAnyH_take (i := 6) (v := .int .i64 tl) rfl (by kernel_rfl) (by kernel_rfl) (by kernel_rfl) (fun _ _ _ h => h) (Or.inl ⟨by rfl, ?_⟩) H ?_
        · intro w' hSw; go_simp
        change wpAnyH _ _ _ _ _ _ _ { tmps := #[_, _, _, _, _, _, _, _, _, _, _, _, _, _, _, _, _, _, _, _, _, _, _, _, _, _, _, _, _, _, _, _, _, _, _, _, _, _, _, _, _, _, _, _, _, _, _, _, _, _, _, _, _, _, _, _, _, _, _, _, _, _, _, _, _, _, _, _, _, _, _, _, _, _, _, _, _, _, _, _, _, _, _, _, _, _, _, _, _, _, _, _, _, _, _, _, _, _, _, _, _, _, _, _, _, _, _, _, _, _, _, _, _, _, _, _, _, _, _, _, _, _, _, _, _, _, _, _, _, _, _, _, _, _, _, _, _, _, _, _, _, _, _, _, _, _, _, _, _, _, _], defers := _ } _
        refine wpAnyH_take (i := 7) (v := .int .i64 mk) rfl (by kernel_rfl) (by kernel_rfl) (by kernel_rfl) (fun _ _ _ h => h) (Or.inl ⟨by rfl, ?_⟩) H ?_
        · intro w' hSw; go_simp
        change wpAnyH _ _ _ _ _ _ _ { tmps := #[_, _, _, _, _, _, _, _, _, _, _, _, _, _, _, _, _, _, _, _, _, _, _, _, _, _, _, _, _, _, _, _, _, _, _, _, _, _, _, _, _, _, _, _, _, _, _, _, _, _, _, _, _, _, _, _, _, _, _, _, _, _, _, _, _, _, _, _, _, _, _, _, _, _, _, _, _, _, _, _, _, _, _, _, _, _, _, _, _, _, _, _, _, _, _, _, _, _, _, _, _, _, _, _, _, _, _, _, _, _, _, _, _, _, _, _, _, _, _, _, _, _, _, _, _, _, _, _, _, _, _, _, _, _, _, _, _, _, _, _, _, _, _, _, _, _, _, _, _, _, _], defers := _ } _
        refine wpAnyH_take (i := 8) (v := .int .i64 cd) rfl (by kernel_rfl) (by kernel_rfl) (by kernel_rfl) (fun _ _ _ h => h) (Or.inl ⟨by rfl, ?_⟩) H ?_
        · intro w' hSw; go_simp
        change wpAnyH _ _ _ _ _ _ _ { tmps := #[_, _, _, _, _, _, _, _, _, _, _, _, _, _, _, _, _, _, _, _, _, _, _, _, _, _, _, _, _, _, _, _, _, _, _, _, _, _, _, _, _, _, _, _, _, _, _, _, _, _, _, _, _, _, _, _, _, _, _, _, _, _, _, _, _, _, _, _, _, _, _, _, _, _, _, _, _, _, _, _, _, _, _, _, _, _, _, _, _, _, _, _, _, _, _, _, _, _, _, _, _, _, _, _, _, _, _, _, _, _, _, _, _, _, _, _, _, _, _, _, _, _, _, _, _, _, _, _, _, _, _, _, _, _, _, _, _, _, _, _, _, _, _, _, _, _, _, _, _, _, _], defers := _ } _
        refine wpAnyH_ready (rs := [10]) (by kernel_rfl) (by simp) ?_
        refine (AllReadyH.cons rfl (fun KK hK => ?_) AllReadyH.nil)
        have t0 := PZ.out.c0
        have t1 := PZ.out.c1
        have f0 := PZ.out.fr 0
        have f1 := PZ.out.fr 1
        go_simp
        replace H : Below v5.heap.size v5 ((y3.setCell ⟨pb, 0, none⟩ (.slice ha0 d.nr hx0)).setCell ⟨pb, 1, none⟩ (.slice ha1 d.ns hx1)) := (H.setCell (by exact Lpb.out) _).setCell (by exact Lpb.out) _
        refine hK.out _ _ H (fun _ => ?_)
        clear hK KK
        change wpAnyH _ _ _ _ _ _ _ { tmps := #[_, _, _, _, _, _, _, _, _, _, _, _, _, _, _, _, _, _, _, _, _, _, _, _, _, _, _, _, _, _, _, _, _, _, _, _, _, _, _, _, _, _, _, _, _, _, _, _, _, _, _, _, _, _, _, _, _, _, _, _, _, _, _, _, _, _, _, _, _, _, _, _, _, _, _, _, _, _, _, _, _, _, _, _, _, _, _, _, _, _, _, _, _, _, _, _, _, _, _, _, _, _, _, _, _, _, _, _, _, _, _, _, _, _, _, _, _, _, _, _, _, _, _, _, _, _, _, _, _, _, _, _, _, _, _, _, _, _, _, _, _, _, _, _, _, _, _, _, _, _, _], defers := _ } _
        refine wpAnyH_take (i := 11) (v := .int .i64 tl) rfl (by kernel_rfl) (by kernel_rfl) (by kernel_rfl) (fun _ _ _ h => h) (Or.inl ⟨by rfl, ?_⟩) H ?_
        · intro w' hSw; go_simp
        change wpAnyH _ _ _ _ _ _ _ { tmps := #[_, _, _, _, _, _, _, _, _, _, _, _, _, _, _, _, _, _, _, _, _, _, _, _, _, _, _, _, _, _, _, _, _, _, _, _, _, _, _, _, _, _, _, _, _, _, _, _, _, _, _, _, _, _, _, _, _, _, _, _, _, _, _, _, _, _, _, _, _, _, _, _, _, _, _, _, _, _, _, _, _, _, _, _, _, _, _, _, _, _, _, _, _, _, _, _, _, _, _, _, _, _, _, _, _, _, _, _, _, _, _, _, _, _, _, _, _, _, _, _, _, _, _, _, _, _, _, _, _, _, _, _, _, _, _, _, _, _, _, _, _, _, _, _, _, _, _, _, _, _, _], defers := _ } _
        refine wpAnyH_take (i := 12) (v := .int .i64 mk) rfl (by kernel_rfl) (by kernel_rfl) (by kernel_rfl) (fun _ _ _ h => h) (Or.inl ⟨by rfl, ?_⟩) H ?_
        · intro w' hSw; go_simp
        change wpAnyH _ _ _ _ _ _ _ { tmps := #[_, _, _, _, _, _, _, _, _, _, _, _, _, _, _, _, _, _, _, _, _, _, _, _, _, _, _, _, _, _, _, _, _, _, _, _, _, _, _, _, _, _, _, _, _, _, _, _, _, _, _, _, _, _, _, _, _, _, _, _, _, _, _, _, _, _, _, _, _, _, _, _, _, _, _, _, _, _, _, _, _, _, _, _, _, _, _, _, _, _, _, _, _, _, _, _, _, _, _, _, _, _, _, _, _, _, _, _, _, _, _, _, _, _, _, _, _, _, _, _, _, _, _, _, _, _, _, _, _, _, _, _, _, _, _, _, _, _, _, _, _, _, _, _, _, _, _, _, _, _, _], defers := _ } _
        refine wpAnyH_take (i := 13) (v := .int .i64 cd) rfl (by kernel_rfl) (by kernel_rfl) (by kernel_rfl) (fun _ _ _ h => h) (Or.inl ⟨by rfl, ?_⟩) H ?_
        · intro w' hSw; go_simp
        change wpAnyH _ _ _ _ _ _ _ { tmps := #[_, _, _, _, _, _, _, _, _, _, _, _, _, _, _, _, _, _, _, _, _, _, _, _, _, _, _, _, _, _, _, _, _, _, _, _, _, _, _, _, _, _, _, _, _, _, _, _, _, _, _, _, _, _, _, _, _, _, _, _, _, _, _, _, _, _, _, _, _, _, _, _, _, _, _, _, _, _, _, _, _, _, _, _, _, _, _, _, _, _, _, _, _, _, _, _, _, _, _, _, _, _, _, _, _, _, _, _, _, _, _, _, _, _, _, _, _, _, _, _, _, _, _, _, _, _, _, _, _, _, _, _, _, _, _, _, _, _, _, _, _, _, _, _, _, _, _, _, _, _, _], defers := _ } _
        refine wpAnyH_done (by kernel_rfl) ?_ _
        refine NoPanic.normal ?_
        have XB : Hid (Box2 ((y3.setCell ⟨pb, 0, none⟩ (.slice ha0 d.nr hx0)).setCell ⟨pb, 1, none⟩ (.slice ha1 d.ns hx1)) pb 34 (.slice ha0 d.nr hx0) (.slice ha1 d.ns hx1)) := (PZ.out.set0 _).set1 _
        have BE : Hid (BankE ((y3.setCell ⟨pb, 0, none⟩ (.slice ha0 d.nr hx0)).setCell ⟨pb, 1, none⟩ (.slice ha1 d.ns hx1)) v5.heap.size d.nr d.ns d (.slice ha0 d.nr hx0) (.slice ha1 d.ns hx1)) := ⟨E0.out.boxA PZ.out (by decide) _ _, E1.out.boxA PZ.out (by decide) _ _, E0.out.notRow E1.out (by decide)⟩
        have HF : Hid (Below v5.heap.size v5 ((y3.setCell ⟨pb, 0, none⟩ (.slice ha0 d.nr hx0)).setCell ⟨pb, 1, none⟩ (.slice ha1 d.ns hx1))) := H
        clear PZ H t0 t1 f0 f1 E0 E1
        change Exit.then _ _ Exit.normal { tmps := #[_, _, _, _, _, _, _, _, _, _, _, _, _, _, _, _, _, _, _, _, _, _, _, _, _, _, _, _, _, _, _, _, _, _, _, _, _, _, _, _, _, _, _, _, _, _, _, _, _, _, _, _, _, _, _, _, _, _, _, _, _, _, _, _, _, _, _, _, _, _, _, _, _, _, _, _, _, _, _, _, _, _, _, _, _, _, _, _, _, _, _, _, _, _, _, _, _, _, _, _, _, _, _, _, _, _, _, _, _, _, _, _, _, _, _, _, _, _, _, _, _, _, _, _, _, _, _, _, _, _, _, _, _, _, _, _, _, _, _, _, _, _, _, _, _, _, _, _, _, _, _], defers := _ } _
        generalize (y3.setCell ⟨pb, 0, none⟩ (.slice ha0 d.nr hx0)).setCell ⟨pb, 1, none⟩ (.slice ha1 d.ns hx1) = z at *
        go_wp2_with fail
        go_meet
        exact ⟨pb, ha0, ha1, hx0, hx1, rfl, rfl, rfl, rfl, XB.out, BE.out, HF.out, Lpb.out⟩
    · skip
      go_simp
      have hb : Below y0.heap.size y0 (y0.alloc (.cells #[.slice none 0 0, .slice none 0 0] 34)) := (Below.refl _ _).alloc (Nat.le_refl _) _
      have PZ : Hid (Box2 (y0.alloc (.cells #[.slice none 0 0, .slice none 0 0] 34)) y0.heap.size 34 (.slice none 0 0) (.slice none 0 0)) := Box2.madeAt rfl _ _ _
      have Lpb : Hid (v5.heap.size ≤ y0.heap.size) := H.size
      replace H : Below v5.heap.size v5 (y0.alloc (.cells #[.slice none 0 0, .slice none 0 0] 34)) := H.trans (hb.mono H.size)
      clear hb
      refine hK.out _ _ H (fun _ => ?_)
      clear hK KK
      generalize (y0.alloc (.cells #[.slice none 0 0, .slice none 0 0] 34)) = y1 at *
      generalize y0.heap.size = pb at *
      change wpAnyH _ _ _ _ _ _ _ { tmps := #[_, _, _, _, _, _, _, _, _, _, _, _, _, _, _, _, _, _, _, _, _, _, _, _, _, _, _, _, _, _, _, _, _, _, _, _, _, _, _, _, _, _, _, _, _, _, _, _, _, _, _, _, _, _, _, _, _, _, _, _, _, _, _, _, _, _, _, _, _, _, _, _, _, _, _, _, _, _, _, _, _, _, _, _, _, _, _, _, _, _, _, _, _, _, _, _, _, _, _, _, _, _, _, _, _, _, _, _, _, _, _, _, _, _, _, _, _, _, _, _, _, _, _, _, _, _, _, _, _, _, _, _, _, _, _, _, _, _, _, _, _, _, _, _, _, _, _, _, _, _, _], defers := _ } _
      refine wpAnyH_ready (rs := [2]) (by kernel_rfl) (by simp) ?_
      refine (AllReadyH.cons rfl (fun KK hK => ?_) AllReadyH.nil)
      go_simp
      refine (TR.out _).mono ?_
      rintro e y2 ⟨rfl, hb⟩
      replace PZ : Hid (Box2 y2 pb 34 (.slice none 0 0) (.slice none 0 0)) := PZ.out.below hb
      replace H : Below v5.heap.size v5 y2 := H.trans (hb.mono H.size)
      clear hb
      refine hK.out _ _ H (fun _ => ?_)
      clear hK KK
      change wpAnyH _ _ _ _ _ _ _ { tmps := #[_, _, _, _, _, _, _, _, _, _, _, _, _, _, _, _, _, _, _, _, _, _, _, _, _, _, _, _, _, _, _, _, _, _, _, _, _, _, _, _, _, _, _, _, _, _, _, _, _, _, _, _, _, _, _, _, _, _, _, _, _, _, _, _, _, _, _, _, _, _, _, _, _, _, _, _, _, _, _, _, _, _, _, _, _, _, _, _, _, _, _, _, _, _, _, _, _, _, _, _, _, _, _, _, _, _, _, _, _, _, _, _, _, _, _, _, _, _, _, _, _, _, _, _, _, _, _, _, _, _, _, _, _, _, _, _, _, _, _, _, _, _, _, _, _, _, _, _, _, _, _], defers := _ } _
      refine wpAnyH_ready (rs := [3]) (by kernel_rfl) (by simp) ?_
      refine (AllReadyH.cons rfl (fun KK hK => ?_) AllReadyH.nil)
      go_simp
      refine (IY.out _ _ _ (XR.out.bankV.below H) (TW.out.below (A1.out.trans (H.mono A1.out.size)))).mono ?_
      rintro e y3 ⟨⟨ha0, hx0, ha1, hx1, rfl, be⟩, hb⟩
      replace PZ : Hid (Box2 y3 pb 34 (.slice none 0 0) (.slice none 0 0)) := PZ.out.below hb
      have H0 : v5.heap.size ≤ y2.heap.size := H.size
      replace H : Below v5.heap.size v5 y3 := H.trans (hb.mono H.size)
      have E0 : Hid (EO y3 v5.heap.size 28 3 (.slice ha0 d.nr hx0) d.nr (rgF d.R)) := be.e0.mono H0
      have E1 : Hid (EO y3 v5.heap.size 64 4 (.slice ha1 d.ns hx1) d.ns (seF d.S)) := be.e1.mono H0
      clear hb be H0
      refine hK.out _ _ H (fun _ => ?_)
      clear hK KK
      change wpAnyH _ _ _ _ _ _ _ { tmps := #[_, _, _, _, _, _, _, _, _, _, _, _, _, _, _, _, _, _, _, _, _, _, _, _, _, _, _, _, _, _, _, _, _, _, _, _, _, _, _, _, _, _, _, _, _, _, _, _, _, _, _, _, _, _, _, _, _, _, _, _, _, _, _, _, _, _, _, _, _, _, _, _, _, _, _, _, _, _, _, _, _, _, _, _, _, _, _, _, _, _, _, _, _, _, _, _, _, _, _, _, _, _, _, _, _, _, _, _, _, _, _, _, _, _, _, _, _, _, _, _, _, _, _, _, _, _, _, _, _, _, _, _, _, _, _, _, _, _, _, _, _, _, _, _, _, _, _, _, _, _, _], defers := _ } _
      refine wpAnyH_take (i := 4) (v := .tuple #[.agg #[.slice ha0 d.nr hx0, .slice ha1 d.ns hx1], .int .i64 tl, .int .i64 mk, .int .i64 cd]) rfl (by kernel_rfl) (by kernel_rfl) (by kernel_rfl) (fun _ _ _ h => h) (Or.inl ⟨by rfl, ?_⟩) H ?_
      · intro w' hSw; go_simp
      change wpAnyH _ _ _ _ _ _ _ { tmps := #[_, _, _, _, _, _, _, _, _, _, _, _, _, _, _, _, _, _, _, _, _, _, _, _, _, _, _, _, _, _, _, _, _, _, _, _, _, _, _, _, _, _, _, _, _, _, _, _, _, _, _, _, _, _, _, _, _, _, _, _, _, _, _, _, _, _, _, _, _, _, _, _, _, _, _, _, _, _, _, _, _, _, _, _, _, _, _, _, _, _, _, _, _, _, _, _, _, _, _, _, _, _, _, _, _, _, _, _, _, _, _, _, _, _, _, _, _, _, _, _, _, _, _, _, _, _, _, _, _, _, _, _, _, _, _, _, _, _, _, _, _, _, _, _, _, _, _, _, _, _, _], defers := _ } _
      refine wpAnyH_take (i := 5) (v := .agg #[.slice ha0 d.nr hx0, .slice ha1 d.ns hx1]) rfl (by kernel_rfl) (by kernel_rfl) (by kernel_rfl) (fun _ _ _ h => h) (Or.inl ⟨by rfl, ?_⟩) H ?_
      · intro w' hSw; go_simp
      change wpAnyH _ _ _ _ _ _ _ { tmps := #[_, _, _, _, _, _, _, _, _, _, _, _, _, _, _, _, _, _, _, _, _, _, _, _, _, _, _, _, _, _, _, _, _, _, _, _, _, _, _, _, _, _, _, _, _, _, _, _, _, _, _, _, _, _, _, _, _, _, _, _, _, _, _, _, _, _, _, _, _, _, _, _, _, _, _, _, _, _, _, _, _, _, _, _, _, _, _, _, _, _, _, _, _, _, _, _, _, _, _, _, _, _, _, _, _, _, _, _, _, _, _, _, _, _, _, _, _, _, _, _, _, _, _, _, _, _, _, _, _, _, _, _, _, _, _, _, _, _, _, _, _, _, _, _, _, _, _, _, _, _, _], defers := _ } _
      refine wpAnyH_take (i := 6) (v := .int .i64 tl) rfl (by kernel_rfl) (by kernel_rfl) (by kernel_rfl) (fun _ _ _ h => h) (Or.inl ⟨by rfl, ?_⟩) H ?_
      · intro w' hSw; go_simp
      change wpAnyH _ _ _ _ _ _ _ { tmps := #[_, _, _, _, _, _, _, _, _, _, _, _, _, _, _, _, _, _, _, _, _, _, _, _, _, _, _, _, _, _, _, _, _, _, _, _, _, _, _, _, _, _, _, _, _, _, _, _, _, _, _, _, _, _, _, _, _, _, _, _, _, _, _, _, _, _, _, _, _, _, _, _, _, _, _, _, _, _, _, _, _, _, _, _, _, _, _, _, _, _, _, _, _, _, _, _, _, _, _, _, _, _, _, _, _, _, _, _, _, _, _, _, _, _, _, _, _, _, _, _, _, _, _, _, _, _, _, _, _, _, _, _, _, _, _, _, _, _, _, _, _, _, _, _, _, _, _, _, _, _, _], defers := _ } _
      refine wpAnyH_take (i := 7) (v := .int .i64 mk) rfl (by kernel_rfl) (by kernel_rfl) (by kernel_rfl) (fun _ _ _ h => h) (Or.inl ⟨by rfl, ?_⟩) H ?_
      · intro w' hSw; go_simp
      change wpAnyH _ _ _ _ _ _ _ { tmps := #[_, _, _, _, _, _, _, _, _, _, _, _, _, _, _, _, _, _, _, _, _, _, _, _, _, _, _, _, _, _, _, _, _, _, _, _, _, _, _, _, _, _, _, _, _, _, _, _, _, _, _, _, _, _, _, _, _, _, _, _, _, _, _, _, _, _, _, _, _, _, _, _, _, _, _, _, _, _, _, _, _, _, _, _, _, _, _, _, _, _, _, _, _, _, _, _, _, _, _, _, _, _, _, _, _, _, _, _, _, _, _, _, _, _, _, _, _, _, _, _, _, _, _, _, _, _, _, _, _, _, _, _, _, _, _, _, _, _, _, _, _, _, _, _, _, _, _, _, _, _, _], defers := _ } _
      refine wpAnyH_take (i := 8) (v := .int .i64 cd) rfl (by kernel_rfl) (by kernel_rfl) (by kernel_rfl) (fun _ _ _ h => h) (Or.inl ⟨by rfl, ?_⟩) H ?_
      · intro w' hSw; go_simp
      change wpAnyH _ _ _ _ _ _ _ { tmps := #[_, _, _, _, _, _, _, _, _, _, _, _, _, _, _, _, _, _, _, _, _, _, _, _, _, _, _, _, _, _, _, _, _, _, _, _, _, _, _, _, _, _, _, _, _, _, _, _, _, _, _, _, _, _, _, _, _, _, _, _, _, _, _, _, _, _, _, _, _, _, _, _, _, _, _, _, _, _, _, _, _, _, _, _, _, _, _, _, _, _, _, _, _, _, _, _, _, _, _, _, _, _, _, _, _, _, _, _, _, _, _, _, _, _, _, _, _, _, _, _, _, _, _, _, _, _, _, _, _, _, _, _, _, _, _, _, _, _, _, _, _, _, _, _, _, _, _, _, _, _, _], defers := _ } _
      refine wpAnyH_ready (rs := [10]) (by kernel_rfl) (by simp) ?_
      refine (AllReadyH.cons rfl (fun KK hK => ?_) AllReadyH.nil)
      have t0 := PZ.out.c0
      have t1 := PZ.out.c1
      have f0 := PZ.out.fr 0
      have f1 := PZ.out.fr 1
      go_simp
      replace H : Below v5.heap.size v5 ((y3.setCell ⟨pb, 0, none⟩ (.slice ha0 d.nr hx0)).setCell ⟨pb, 1, none⟩ (.slice ha1 d.ns hx1)) := (H.setCell (by exact Lpb.out) _).setCell (by exact Lpb.out) _
      refine hK.out _ _ H (fun _ => ?_)
      clear hK KK
      change wpAnyH _ _ _ _ _ _ _ { tmps := #[_, _, _, _, _, _, _, _, _, _, _, _, _, _, _, _, _, _, _, _, _, _, _, _, _, _, _, _, _, _, _, _, _, _, _, _, _, _, _, _, _, _, _, _, _, _, _, _, _, _, _, _, _, _, _, _, _, _, _, _, _, _, _, _, _, _, _, _, _, _, _, _, _, _, _, _, _, _, _, _, _, _, _, _, _, _, _, _, _, _, _, _, _, _, _, _, _, _, _, _, _, _, _, _, _, _, _, _, _, _, _, _, _, _, _, _, _, _, _, _, _, _, _, _, _, _, _, _, _, _, _, _, _, _, _, _, _, _, _, _, _, _, _, _, _, _, _, _, _, _, _], defers := _ } _
      refine wpAnyH_take (i := 11) (v := .int .i64 tl) rfl (by kernel_rfl) (by kernel_rfl) (by kernel_rfl) (fun _ _ _ h => h) (Or.inl ⟨by rfl, ?_⟩) H ?_
      · intro w' hSw; go_simp
      change wpAnyH _ _ _ _ _ _ _ { tmps := #[_, _, _, _, _, _, _, _, _, _, _, _, _, _, _, _, _, _, _, _, _, _, _, _, _, _, _, _, _, _, _, _, _, _, _, _, _, _, _, _, _, _, _, _, _, _, _, _, _, _, _, _, _, _, _, _, _, _, _, _, _, _, _, _, _, _, _, _, _, _, _, _, _, _, _, _, _, _, _, _, _, _, _, _, _, _, _, _, _, _, _, _, _, _, _, _, _, _, _, _, _, _, _, _, _, _, _, _, _, _, _, _, _, _, _, _, _, _, _, _, _, _, _, _, _, _, _, _, _, _, _, _, _, _, _, _, _, _, _, _, _, _, _, _, _, _, _, _, _, _, _], defers := _ } _
      refine wpAnyH_take (i := 12) (v := .int .i64 mk) rfl (by kernel_rfl) (by kernel_rfl) (by kernel_rfl) (fun _ _ _ h => h) (Or.inl ⟨by rfl, ?_⟩) H ?_
      · intro w' hSw; go_simp
      change wpAnyH _ _ _ _ _ _ _ { tmps := #[_, _, _, _, _, _, _, _, _, _, _, _, _, _, _, _, _, _, _, _, _, _, _, _, _, _, _, _, _, _, _, _, _, _, _, _, _, _, _, _, _, _, _, _, _, _, _, _, _, _, _, _, _, _, _, _, _, _, _, _, _, _, _, _, _, _, _, _, _, _, _, _, _, _, _, _, _, _, _, _, _, _, _, _, _, _, _, _, _, _, _, _, _, _, _, _, _, _, _, _, _, _, _, _, _, _, _, _, _, _, _, _, _, _, _, _, _, _, _, _, _, _, _, _, _, _, _, _, _, _, _, _, _, _, _, _, _, _, _, _, _, _, _, _, _, _, _, _, _, _, _], defers := _ } _
      refine wpAnyH_take (i := 13) (v := .int .i64 cd) rfl (by kernel_rfl) (by kernel_rfl) (by kernel_rfl) (fun _ _ _ h => h) (Or.inl ⟨by rfl, ?_⟩) H ?_
      · intro w' hSw; go_simp
      change wpAnyH _ _ _ _ _ _ _ { tmps := #[_, _, _, _, _, _, _, _, _, _, _, _, _, _, _, _, _, _, _, _, _, _, _, _, _, _, _, _, _, _, _, _, _, _, _, _, _, _, _, _, _, _, _, _, _, _, _, _, _, _, _, _, _, _, _, _, _, _, _, _, _, _, _, _, _, _, _, _, _, _, _, _, _, _, _, _, _, _, _, _, _, _, _, _, _, _, _, _, _, _, _, _, _, _, _, _, _, _, _, _, _, _, _, _, _, _, _, _, _, _, _, _, _, _, _, _, _, _, _, _, _, _, _, _, _, _, _, _, _, _, _, _, _, _, _, _, _, _, _, _, _, _, _, _, _, _, _, _, _, _, _], defers := _ } _
      refine wpAnyH_done (by kernel_rfl) ?_ _
      refine NoPanic.normal ?_
      have XB : Hid (Box2 ((y3.setCell ⟨pb, 0, none⟩ (.slice ha0 d.nr hx0)).setCell ⟨pb, 1, none⟩ (.slice ha1 d.ns hx1)) pb 34 (.slice ha0 d.nr hx0) (.slice ha1 d.ns hx1)) := (PZ.out.set0 _).set1 _
      have BE : Hid (BankE ((y3.setCell ⟨pb, 0, none⟩ (.slice ha0 d.nr hx0)).setCell ⟨pb, 1, none⟩ (.slice ha1 d.ns hx1)) v5.heap.size d.nr d.ns d (.slice ha0 d.nr hx0) (.slice ha1 d.ns hx1)) := ⟨E0.out.boxA PZ.out (by decide) _ _, E1.out.boxA PZ.out (by decide) _ _, E0.out.notRow E1.out (by decide)⟩
      have HF : Hid (Below v5.heap.size v5 ((y3.setCell ⟨pb, 0, none⟩ (.slice ha0 d.nr hx0)).setCell ⟨pb, 1, none⟩ (.slice ha1 d.ns hx1))) := H
      clear PZ H t0 t1 f0 f1 E0 E1
      change Exit.then _ _ Exit.normal { tmps := #[_, _, _, _, _, _, _, _, _, _, _, _, _, _, _, _, _, _, _, _, _, _, _, _, _, _, _, _, _, _, _, _, _, _, _, _, _, _, _, _, _, _, _, _, _, _, _, _, _, _, _, _, _, _, _, _, _, _, _, _, _, _, _, _, _, _, _, _, _, _, _, _, _, _, _, _, _, _, _, _, _, _, _, _, _, _, _, _, _, _, _, _, _, _, _, _, _, _, _, _, _, _, _, _, _, _, _, _, _, _, _, _, _, _, _, _, _, _, _, _, _, _, _, _, _, _, _, _, _, _, _, _, _, _, _, _, _, _, _, _, _, _, _, _, _, _, _, _, _, _, _], defers := _ } _
      generalize (y3.setCell ⟨pb, 0, none⟩ (.slice ha0 d.nr hx0)).setCell ⟨pb, 1, none⟩ (.slice ha1 d.ns hx1) = z at *
      go_wp2_with fail
      go_meet
      exact ⟨pb, ha0, ha1, hx0, hx1, rfl, rfl, rfl, rfl, XB.out, BE.out, HF.out, Lpb.out⟩
  case rest =>
  obtain ⟨pg, ha0, ha1, hx0, hx1, rfl, rfl, rfl, rfl, xb, be, hb, hge⟩ := hcut
  obtain ⟨v6, hv6⟩ : ∃ va : World, va = wc := ⟨_, rfl⟩
  subst hv6
  obtain ⟨gg0, gg1, hR, hl0, hl1⟩ := be.rows
  have GG : Hid (RowB v6 d ha0 ha1 gg0 gg1) := hR
  have GL : Hid ((0 < d.nr → v5.heap.size ≤ gg0 ∧ gg0 < v6.heap.size) ∧ (0 < d.ns → v5.heap.size ≤ gg1 ∧ gg1 < v6.heap.size)) := ⟨hl0, hl1⟩
  have PG : Hid (Box2 v6 pg 34 (.slice ha0 d.nr hx0) (.slice ha1 d.ns hx1)) := xb
  have GP : Hid (v5.heap.size ≤ pg) := hge
  have NPG : Hid ((0 < d.nr → pg ≠ gg0) ∧ (0 < d.ns → pg ≠ gg1)) := by
    refine ⟨fun q e => ?_, fun q e => ?_⟩
    · have h0 := hR.s0.a q
      exact be.e0.notBox xb (by decide) (by rw [h0, e]; rfl)
    · have h0 := hR.s1.a q
      exact be.e1.notBox xb (by decide) (by rw [h0, e]; rfl)
  replace KX : Hid (Below va.heap.size va v6) := KX.out.trans (hb.mono KX.out.size)
  replace PX : Hid (Box2 v6 px 34 (.slice (some ⟨gx0, 0, none⟩) b.nr b.nr) (.slice (some ⟨gx1, 0, none⟩) b.ns b.ns)) := PX.out.below hb
  replace XR : Hid (RowB v6 b (some ⟨gx0, 0, none⟩) (some ⟨gx1, 0, none⟩) gx0 gx1) := XR.out.below hb
  clear xb be hb hge hR hl0 hl1 A1 RL
  have pg0 := PG.out.c0
  have pg1 := PG.out.c1
  have pw0 := (PW.out.below KX.out).c0
  have pw1 := (PW.out.below KX.out).c1
  go_wp2_with fail
  refine (EQ.out _ _ _ _ _ _ _ _ _ GG.out.bankV (W0.out.below KX.out)).mono ?_
  rintro e v7 ⟨rfl, hb⟩
  replace KX : Hid (Below va.heap.size va v7) := KX.out.trans (hb.mono KX.out.size)
  replace PX : Hid (Box2 v7 px 34 (.slice (some ⟨gx0, 0, none⟩) b.nr b.nr) (.slice (some ⟨gx1, 0, none⟩) b.ns b.ns)) := PX.out.below hb
  replace XR : Hid (RowB v7 b (some ⟨gx0, 0, none⟩) (some ⟨gx1, 0, none⟩) gx0 gx1) := XR.out.below hb
  replace PG : Hid (Box2 v7 pg 34 (.slice ha0 d.nr hx0) (.slice ha1 d.ns hx1)) := PG.out.below hb
  replace GG : Hid (RowB v7 d ha0 ha1 gg0 gg1) := GG.out.below hb
  clear hb
  clear pg0 pg1 pw0 pw1
  go_wp2_with fail
  have RA : Hid (Box2 v7 w.heap.size 25 (.slice a0 b.nr c0) (.slice a1 b.ns c1)) := RV.out.below KX.out
  have H : Below v7.heap.size v7 v7.drew := (Below.refl _ _).drew
  refine wp_region_noPanic ?_
  refine wp_region_held_drew (S := fun w' => Below v7.heap.size v7 w') (by kernel_rfl) H (fun _ => ?_)
  generalize v7.drew = t0 at *
  refine wpAnyH_take (i := 0) (v := .agg #[.slice (some ⟨gx0, 0, none⟩) b.nr b.nr, .slice (some ⟨gx1, 0, none⟩) b.ns b.ns]) rfl (by kernel_rfl) (by kernel_rfl) (by kernel_rfl) (fun _ _ _ h => h) (Or.inl ⟨by rfl, ?_⟩) H ?_
  · intro w' hSw; have t0 := (PX.out.below hSw).c0; have t1 := (PX.out.below hSw).c1; clear hSw; go_simp
  change wpAnyH _ _ _ _ _ _ _ { tmps := #[_, _, _, _, _, _, _, _, _, _, _, _, _, _, _, _, _, _, _, _, _, _, _, _, _, _, _, _, _, _, _, _, _, _, _, _, _, _, _, _, _, _, _, _, _, _, _, _, _, _, _, _, _, _, _, _, _, _, _, _, _, _, _, _, _, _, _, _, _, _, _, _, _, _, _, _, _, _, _, _, _, _, _, _, _, _, _, _, _, _, _, _, _, _, _, _, _, _, _, _, _, _, _, _, _, _, _, _, _, _, _, _, _, _, _, _, _, _, _, _, _, _, _, _, _, _, _, _, _, _, _, _, _, _, _, _, _, _, _, _, _, _, _, _, _, _, _, _, _, _, _], defers := _ } _
  refine wpAnyH_take (i := 1) (v := .agg #[.slice a0 b.nr c0, .slice a1 b.ns c1]) rfl (by kernel_rfl) (by kernel_rfl) (by kernel_rfl) (fun _ _ _ h => h) (Or.inl ⟨by rfl, ?_⟩) H ?_
  · intro w' hSw; have t0 := (RA.out.below hSw).c0; have t1 := (RA.out.below hSw).c1; clear hSw; go_simp
  change wpAnyH _ _ _ _ _ _ _ { tmps := #[_, _, _, _, _, _, _, _, _, _, _, _, _, _, _, _, _, _, _, _, _, _, _, _, _, _, _, _, _, _, _, _, _, _, _, _, _, _, _, _, _, _, _, _, _, _, _, _, _, _, _, _, _, _, _, _, _, _, _, _, _, _, _, _, _, _, _, _, _, _, _, _, _, _, _, _, _, _, _, _, _, _, _, _, _, _, _, _, _, _, _, _, _, _, _, _, _, _, _, _, _, _, _, _, _, _, _, _, _, _, _, _, _, _, _, _, _, _, _, _, _, _, _, _, _, _, _, _, _, _, _, _, _, _, _, _, _, _, _, _, _, _, _, _, _, _, _, _, _, _, _], defers := _ } _
  refine wpAnyH_ready (rs := [2]) (by kernel_rfl) (by simp) ?_
  refine (AllReadyH.cons rfl (fun KK hK => ?_) AllReadyH.nil)
  go_simp
  refine (TO.out _ (HV.out.below ((AX.out.trans (KX.out.mono AX.out.size)).trans (H.mono (AX.out.trans (KX.out.mono AX.out.size)).size)))).mono ?_
  rintro e t1 ⟨⟨tg0, tg1, -, -, -, rfl, tr⟩, hb⟩
  replace H : Below v7.heap.size v7 t1 := H.trans (hb.mono H.size)
  have TB : Hid (BankV t1 b (some ⟨tg0, 0, none⟩) (some ⟨tg1, 0, none⟩)) := tr.bankV
  clear hb tr
  refine hK.out _ _ H (fun _ => ?_)
  clear hK KK
  change wpAnyH _ _ _ _ _ _ _ { tmps := #[_, _, _, _, _, _, _, _, _, _, _, _, _, _, _, _, _, _, _, _, _, _, _, _, _, _, _, _, _, _, _, _, _, _, _, _, _, _, _, _, _, _, _, _, _, _, _, _, _, _, _, _, _, _, _, _, _, _, _, _, _, _, _, _, _, _, _, _, _, _, _, _, _, _, _, _, _, _, _, _, _, _, _, _, _, _, _, _, _, _, _, _, _, _, _, _, _, _, _, _, _, _, _, _, _, _, _, _, _, _, _, _, _, _, _, _, _, _, _, _, _, _, _, _, _, _, _, _, _, _, _, _, _, _, _, _, _, _, _, _, _, _, _, _, _, _, _, _, _, _, _], defers := _ } _
  refine wpAnyH_ready (rs := [3]) (by kernel_rfl) (by simp) ?_
  refine (AllReadyH.cons rfl (fun KK hK => ?_) AllReadyH.nil)
  go_simp
  refine (EB.out _ _ _ _ _ _ _ _ _ (XR.out.bankV.below H) TB.out).mono ?_
  rintro e t2 ⟨rfl, hb⟩
  replace TB : Hid (BankV t2 b (some ⟨tg0, 0, none⟩) (some ⟨tg1, 0, none⟩)) := TB.out.below hb
  replace H : Below v7.heap.size v7 t2 := H.trans (hb.mono H.size)
  clear hb
  refine hK.out _ _ H (fun _ => ?_)
  clear hK KK
  change wpAnyH _ _ _ _ _ _ _ { tmps := #[_, _, _, _, _, _, _, _, _, _, _, _, _, _, _, _, _, _, _, _, _, _, _, _, _, _, _, _, _, _, _, _, _, _, _, _, _, _, _, _, _, _, _, _, _, _, _, _, _, _, _, _, _, _, _, _, _, _, _, _, _, _, _, _, _, _, _, _, _, _, _, _, _, _, _, _, _, _, _, _, _, _, _, _, _, _, _, _, _, _, _, _, _, _, _, _, _, _, _, _, _, _, _, _, _, _, _, _, _, _, _, _, _, _, _, _, _, _, _, _, _, _, _, _, _, _, _, _, _, _, _, _, _, _, _, _, _, _, _, _, _, _, _, _, _, _, _, _, _, _, _], defers := _ } _
  refine wpAnyH_take (i := 4) (v := .bool false) rfl (by kernel_rfl) (by kernel_rfl) (by kernel_rfl) (fun _ _ _ h => h) (Or.inl ⟨by rfl, ?_⟩) H ?_
  · intro w' hSw; go_simp
  change wpAnyH _ _ _ _ _ _ _ { tmps := #[_, _, _, _, _, _, _, _, _, _, _, _, _, _, _, _, _, _, _, _, _, _, _, _, _, _, _, _, _, _, _, _, _, _, _, _, _, _, _, _, _, _, _, _, _, _, _, _, _, _, _, _, _, _, _, _, _, _, _, _, _, _, _, _, _, _, _, _, _, _, _, _, _, _, _, _, _, _, _, _, _, _, _, _, _, _, _, _, _, _, _, _, _, _, _, _, _, _, _, _, _, _, _, _, _, _, _, _, _, _, _, _, _, _, _, _, _, _, _, _, _, _, _, _, _, _, _, _, _, _, _, _, _, _, _, _, _, _, _, _, _, _, _, _, _, _, _, _, _, _, _], defers := _ } _
  refine wpAnyH_done (by kernel_rfl) ?_ _
  refine NoPanic.normal ?_
  have hb : Below v7.heap.size v7 t2 := H
  replace KX : Hid (Below va.heap.size va t2) := KX.out.trans (hb.mono KX.out.size)
  replace PX : Hid (Box2 t2 px 34 (.slice (some ⟨gx0, 0, none⟩) b.nr b.nr) (.slice (some ⟨gx1, 0, none⟩) b.ns b.ns)) := PX.out.below hb
  replace XR : Hid (RowB t2 b (some ⟨gx0, 0, none⟩) (some ⟨gx1, 0, none⟩) gx0 gx1) := XR.out.below hb
  replace PG : Hid (Box2 t2 pg 34 (.slice ha0 d.nr hx0) (.slice ha1 d.ns hx1)) := PG.out.below hb
  replace GG : Hid (RowB t2 d ha0 ha1 gg0 gg1) := GG.out.below hb
  clear hb H RA TB
  change Exit.then _ _ Exit.normal { tmps := #[_, _, _, _, _, _, _, _, _, _, _, _, _, _, _, _, _, _, _, _, _, _, _, _, _, _, _, _, _, _, _, _, _, _, _, _, _, _, _, _, _, _, _, _, _, _, _, _, _, _, _, _, _, _, _, _, _, _, _, _, _, _, _, _, _, _, _, _, _, _, _, _, _, _, _, _, _, _, _, _, _, _, _, _, _, _, _, _, _, _, _, _, _, _, _, _, _, _, _, _, _, _, _, _, _, _, _, _, _, _, _, _, _, _, _, _, _, _, _, _, _, _, _, _, _, _, _, _, _, _, _, _, _, _, _, _, _, _, _, _, _, _, _, _, _, _, _, _, _, _, _], defers := _ } _
  go_upto_region 16 with fail
  have px0 := PX.out.c0
  have px1 := PX.out.c1
  go_wp2_with fail
  have hgb := GB.out
  have hgp := GP.out
  have hlp := LPX.out
  have hl45 := L45.out
  refine (MX.out va.heap.size _ _ _ _ _ _ _ ⟨fun _ => by omega, fun _ => by omega⟩ KX.out.size XR.out).mono ?_
  rintro e v8 ⟨rfl, -, hkp, hbk⟩
  have kp : ∀ g, g < t2.heap.size → g ≠ gx0 → g ≠ gx1 → v8.heap[g]? = t2.heap[g]? := fun g h1 h2 h3 => hkp.2 g h1 (fun _ => h2) (fun _ => h3)
  replace GG : Hid (RowB v8 d ha0 ha1 gg0 gg1) := GG.out.keepA (fun q => kp _ (GG.out.s0.lt (by omega) q) (by have := GL.out.1 q; omega) (by have := GL.out.1 q; omega)) (fun q => kp _ (GG.out.s1.lt (by omega) q) (by have := GL.out.2 q; omega) (by have := GL.out.2 q; omega))
  replace PG : Hid (Box2 v8 pg 34 (.slice ha0 d.nr hx0) (.slice ha1 d.ns hx1)) := PG.out.ofBlock (kp _ PG.out.lt (by omega) (by omega))
  replace KX : Hid (Below va.heap.size va v8) := KX.out.trans hbk
  clear hkp hbk kp px0 px1 PX XR MX
  have pg0 := PG.out.c0
  have pg1 := PG.out.c1
  have pw0 := (PW.out.below KX.out).c0
  have pw1 := (PW.out.below KX.out).c1
  go_wp2_with fail
  refine (EQ.out _ _ _ _ _ _ _ _ _ GG.out.bankV (W0.out.below KX.out)).mono ?_
  rintro e v9 ⟨rfl, hb⟩
  replace KX : Hid (Below va.heap.size va v9) := KX.out.trans (hb.mono KX.out.size)
  replace PG : Hid (Box2 v9 pg 34 (.slice ha0 d.nr hx0) (.slice ha1 d.ns hx1)) := PG.out.below hb
  replace GG : Hid (RowB v9 d ha0 ha1 gg0 gg1) := GG.out.below hb
  clear hb
  clear pg0 pg1 pw0 pw1
  have pg0 := PG.out.c0
  have pg1 := PG.out.c1
  have pw0 := (PW.out.below KX.out).c0
  have pw1 := (PW.out.below KX.out).c1
  go_wp2_with fail
  refine (MK.out va.heap.size _ _ _ _ _ _ _ ⟨fun q => by have := GL.out.1 q; omega, fun q => by have := GL.out.2 q; omega⟩ KX.out.size GG.out).mono ?_
  rintro e v10 ⟨rfl, hr, hkp, hbk⟩
  have GM : Hid (RowB v10 (d.marked 1) ha0 ha1 gg0 gg1) := hr
  replace PG : Hid (Box2 v10 pg 34 (.slice ha0 d.nr hx0) (.slice ha1 d.ns hx1)) := PG.out.ofBlock (hkp.2 _ PG.out.lt NPG.out.1 NPG.out.2)
  replace KX : Hid (Below va.heap.size va v10) := KX.out.trans hbk
  clear hkp hbk hr GG MK GL NPG hgb hgp hlp hl45
  clear pg0 pg1 pw0 pw1
  have pg0 := PG.out.c0
  have pg1 := PG.out.c1
  have pw0 := (PW.out.below KX.out).c0
  have pw1 := (PW.out.below KX.out).c1
  go_wp2_with fail
  refine (HH.out _ _ _ _ _ GM.out.bankV).mono ?_
  rintro e v11 ⟨rfl, hb⟩
  replace KX : Hid (Below va.heap.size va v11) := KX.out.trans (hb.mono KX.out.size)
  replace PG : Hid (Box2 v11 pg 34 (.slice ha0 d.nr hx0) (.slice ha1 d.ns hx1)) := PG.out.below hb
  replace GM : Hid (RowB v11 (d.marked 1) ha0 ha1 gg0 gg1) := GM.out.below hb
  clear hb
  clear pg0 pg1 pw0 pw1
  go_wp2_with fail
  have RA : Hid (Box2 v11 w.heap.size 25 (.slice a0 b.nr c0) (.slice a1 b.ns c1)) := RV.out.below KX.out
  have RL : Hid (BoxL v11 (w.heap.size + 1) s q v x r) := LV.out.below KX.out
  have A1 : Hid (Below w.heap.size w v11) := AX.out.trans (KX.out.mono AX.out.size)
  go_cut [18, 19, 20, 21] (fun pv tv mv cv wx => ∃ (pb : Nat) (ka0 ka1 : Option Addr) (kx0 kx1 : Nat), pv = .pointer (some ⟨pb, 0, none⟩) ∧ tv = .int .i64 tl ∧ mv = .int .i64 mk ∧ cv = .int .i64 cd ∧ Box2 wx pb 34 (.slice ka0 d.nr kx0) (.slice ka1 d.ns kx1) ∧ BankE wx v11.heap.size d.nr d.ns d (.slice ka0 d.nr kx0) (.slice ka1 d.ns kx1) ∧ Below v11.heap.size v11 wx ∧ v11.heap.size ≤ pb)
  case first =>
    have H : Below v11.heap.size v11 v11.drew := (Below.refl _ _).drew
    refine wp_region_noPanic ?_
    refine wp_region_held_drew (S := fun w' => Below v11.heap.size v11 w') (by kernel_rfl) H (fun _ => ?_)
    generalize v11.drew = y0 at *
    refine wpAnyH_take (i := 0) (v := .agg #[.slice a0 b.nr c0, .slice a1 b.ns c1]) rfl (by kernel_rfl) (by kernel_rfl) (by kernel_rfl) (fun _ _ _ h => h) (Or.inl ⟨by rfl, ?_⟩) H ?_
    · intro w' hSw; have t0 := (RA.out.below hSw).c0; have t1 := (RA.out.below hSw).c1; clear hSw; go_simp
    change wpAnyH _ _ _ _ _ _ _ { tmps := #[_, _, _, _, _, _, _, _, _, _, _, _, _, _, _, _, _, _, _, _, _, _, _, _, _, _, _, _, _, _, _, _, _, _, _, _, _, _, _, _, _, _, _, _, _, _, _, _, _, _, _, _, _, _, _, _, _, _, _, _, _, _, _, _, _, _, _, _, _, _, _, _, _, _, _, _, _, _, _, _, _, _, _, _, _, _, _, _, _, _, _, _, _, _, _, _, _, _, _, _, _, _, _, _, _, _, _, _, _, _, _, _, _, _, _, _, _, _, _, _, _, _, _, _, _, _, _, _, _, _, _, _, _, _, _, _, _, _, _, _, _, _, _, _, _, _, _, _, _, _, _], defers := _ } _
    refine wpAnyH_take (i := 2) (v := .agg #[.int .i64 s, .int .i64 q, .int .i64 v, .int .i64 x, .string r]) rfl (by kernel_rfl) (by kernel_rfl) (by kernel_rfl) (fun _ _ _ h => h) (Or.inl ⟨by rfl, ?_⟩) H ?_
    · intro w' hSw; obtain ⟨r0, r1, r2, r3, r4⟩ := (RL.out.below hSw).c; clear hSw; go_simp
    change wpAnyH _ _ _ _ _ _ _ { tmps := #[_, _, _, _, _, _, _, _, _, _, _, _, _, _, _, _, _, _, _, _, _, _, _, _, _, _, _, _, _, _, _, _, _, _, _, _, _, _, _, _, _, _, _, _, _, _, _, _, _, _, _, _, _, _, _, _, _, _, _, _, _, _, _, _, _, _, _, _, _, _, _, _, _, _, _, _, _, _, _, _, _, _, _, _, _, _, _, _, _, _, _, _, _, _, _, _, _, _, _, _, _, _, _, _, _, _, _, _, _, _, _, _, _, _, _, _, _, _, _, _, _, _, _, _, _, _, _, _, _, _, _, _, _, _, _, _, _, _, _, _, _, _, _, _, _, _, _, _, _, _, _], defers := _ } _
    refine wpAnyH_ready (rs := [1, 10]) (by kernel_rfl) (by simp) ?_
    refine (AllReadyH.cons rfl (fun KK hK => ?_) (AllReadyH.cons rfl (fun KK hK => ?_) AllReadyH.nil))
    · skip
      go_simp
      refine (TO.out _ (HV.out.below (A1.out.trans (H.mono A1.out.size)))).mono ?_
      rintro e y1 ⟨⟨tg0, tg1, -, -, -, rfl, tr⟩, hb⟩
      replace H : Below v11.heap.size v11 y1 := H.trans (hb.mono H.size)
      have TB : Hid (BankV y1 b (some ⟨tg0, 0, none⟩) (some ⟨tg1, 0, none⟩)) := tr.bankV
      clear hb tr
      refine hK.out _ _ H (fun _ => ?_)
      clear hK KK
      change wpAnyH _ _ _ _ _ _ _ { tmps := #[_, _, _, _, _, _, _, _, _, _, _, _, _, _, _, _, _, _, _, _, _, _, _, _, _, _, _, _, _, _, _, _, _, _, _, _, _, _, _, _, _, _, _, _, _, _, _, _, _, _, _, _, _, _, _, _, _, _, _, _, _, _, _, _, _, _, _, _, _, _, _, _, _, _, _, _, _, _, _, _, _, _, _, _, _, _, _, _, _, _, _, _, _, _, _, _, _, _, _, _, _, _, _, _, _, _, _, _, _, _, _, _, _, _, _, _, _, _, _, _, _, _, _, _, _, _, _, _, _, _, _, _, _, _, _, _, _, _, _, _, _, _, _, _, _, _, _, _, _, _, _], defers := _ } _
      refine wpAnyH_ready (rs := [3, 10]) (by kernel_rfl) (by simp) ?_
      refine (AllReadyH.cons rfl (fun KK hK => ?_) (AllReadyH.cons rfl (fun KK hK => ?_) AllReadyH.nil))
      · skip
        go_simp
        refine (TR.out _).mono ?_
        rintro e y2 ⟨rfl, hb⟩
        replace TB : Hid (BankV y2 b (some ⟨tg0, 0, none⟩) (some ⟨tg1, 0, none⟩)) := TB.out.below hb
        replace H : Below v11.heap.size v11 y2 := H.trans (hb.mono H.size)
        clear hb
        refine hK.out _ _ H (fun _ => ?_)
        clear hK KK
        change wpAnyH _ _ _ _ _ _ _ { tmps := #[_, _, _, _, _, _, _, _, _, _, _, _, _, _, _, _, _, _, _, _, _, _, _, _, _, _, _, _, _, _, _, _, _, _, _, _, _, _, _, _, _, _, _, _, _, _, _, _, _, _, _, _, _, _, _, _, _, _, _, _, _, _, _, _, _, _, _, _, _, _, _, _, _, _, _, _, _, _, _, _, _, _, _, _, _, _, _, _, _, _, _, _, _, _, _, _, _, _, _, _, _, _, _, _, _, _, _, _, _, _, _, _, _, _, _, _, _, _, _, _, _, _, _, _, _, _, _, _, _, _, _, _, _, _, _, _, _, _, _, _, _, _, _, _, _, _, _, _, _, _, _], defers := _ } _
        refine wpAnyH_ready (rs := [4, 10]) (by kernel_rfl) (by simp) ?_
        refine (AllReadyH.cons rfl (fun KK hK => ?_) (AllReadyH.cons rfl (fun KK hK => ?_) AllReadyH.nil))
        · skip
          go_simp
          refine (IY.out _ _ _ TB.out (TW.out.below (A1.out.trans (H.mono A1.out.size)))).mono ?_
          rintro e y3 ⟨⟨ka0, kx0, ka1, kx1, rfl, be⟩, hb⟩
          replace TB : Hid (BankV y3 b (some ⟨tg0, 0, none⟩) (some ⟨tg1, 0, none⟩)) := TB.out.below hb
          have H0 : v11.heap.size ≤ y2.heap.size := H.size
          replace H : Below v11.heap.size v11 y3 := H.trans (hb.mono H.size)
          have E0 : Hid (EO y3 v11.heap.size 28 3 (.slice ka0 d.nr kx0) d.nr (rgF d.R)) := be.e0.mono H0
          have E1 : Hid (EO y3 v11.heap.size 64 4 (.slice ka1 d.ns kx1) d.ns (seF d.S)) := be.e1.mono H0
          clear hb be H0
          refine hK.out _ _ H (fun _ => ?_)
          clear hK KK
          change wpAnyH _ _ _ _ _ _ _ { tmps := #[_, _, _, _, _, _, _, _, _, _, _, _, _, _, _, _, _, _, _, _, _, _, _, _, _, _, _, _, _, _, _, _, _, _, _, _, _, _, _, _, _, _, _, _, _, _, _, _, _, _, _, _, _, _, _, _, _, _, _, _, _, _, _, _, _, _, _, _, _, _, _, _, _, _, _, _, _, _, _, _, _, _, _, _, _, _, _, _, _, _, _, _, _, _, _, _, _, _, _, _, _, _, _, _, _, _, _, _, _, _, _, _, _, _, _, _, _, _, _, _, _, _, _, _, _, _, _, _, _, _, _, _, _, _, _, _, _, _, _, _, _, _, _, _, _, _, _, _, _, _, _], defers := _ } _
          refine wpAnyH_take (i := 5) (v := .tuple #[.agg #[.slice ka0 d.nr kx0, .slice ka1 d.ns kx1], .int .i64 tl, .int .i64 mk, .int .i64 cd]) rfl (by kernel_rfl) (by kernel_rfl) (by kernel_rfl) (fun _ _ _ h => h) (Or.inl ⟨by rfl, ?_⟩) H ?_
          · intro w' hSw; go_simp
          change wpAnyH _ _ _ _ _ _ _ { tmps := #[_, _, _, _, _, _, _, _, _, _, _, _, _, _, _, _, _, _, _, _, _, _, _, _, _, _, _, _, _, _, _, _, _, _, _, _, _, _, _, _, _, _, _, _, _, _, _, _, _, _, _, _, _, _, _, _, _, _, _, _, _, _, _, _, _, _, _, _, _, _, _, _, _, _, _, _, _, _, _, _, _, _, _, _, _, _, _, _, _, _, _, _, _, _, _, _, _, _, _, _, _, _, _, _, _, _, _, _, _, _, _, _, _, _, _, _, _, _, _, _, _, _, _, _, _, _, _, _, _, _, _, _, _, _, _, _, _, _, _, _, _, _, _, _, _, _, _, _, _, _, _], defers := _ } _
          refine wpAnyH_take (i := 6) (v := .agg #[.slice ka0 d.nr kx0, .slice ka1 d.ns kx1]) rfl (by kernel_rfl) (by kernel_rfl) (by kernel_rfl) (fun _ _ _ h => h) (Or.inl ⟨by rfl, ?_⟩) H ?_
          · intro w' hSw; go_simp
          change wpAnyH _ _ _ _ _ _ _ { tmps := #[_, _, _, _, _, _, _, _, _, _, _, _, _, _, _, _, _, _, _, _, _, _, _, _, _, _, _, _, _, _, _, _, _, _, _, _, _, _, _, _, _, _, _, _, _, _, _, _, _, _, _, _, _, _, _, _, _, _, _, _, _, _, _, _, _, _, _, _, _, _, _, _, _, _, _, _, _, _, _, _, _, _, _, _, _, _, _, _, _, _, _, _, _, _, _, _, _, _, _, _, _, _, _, _, _, _, _, _, _, _, _, _, _, _, _, _, _, _, _, _, _, _, _, _, _, _, _, _, _, _, _, _, _, _, _, _, _, _, _, _, _, _, _, _, _, _, _, _, _, _, _], defers := _ } _
          refine wpAnyH_take (i := 7) (v := .int .i64 tl) rfl (by kernel_rfl) (by kernel_rfl) (by kernel_rfl) (fun _ _ _ h => h) (Or.inl ⟨by rfl, ?_⟩) H ?_
          · intro w' hSw; go_simp
          change wpAnyH _ _ _ _ _ _ _ { tmps := #[_, _, _, _, _, _, _, _, _, _, _, _, _, _, _, _, _, _, _, _, _, _, _, _, _, _, _, _, _, _, _, _, _, _, _, _, _, _, _, _, _, _, _, _, _, _, _, _, _, _, _, _, _, _, _, _, _, _, _, _, _, _, _, _, _, _, _, _, _, _, _, _, _, _, _, _, _, _, _, _, _, _, _, _, _, _, _, _, _, _, _, _, _, _, _, _, _, _, _, _, _, _, _, _, _, _, _, _, _, _, _, _, _, _, _, _, _, _, _, _, _, _, _, _, _, _, _, _, _, _, _, _, _, _, _, _, _, _, _, _, _, _, _, _, _, _, _, _, _, _, _], defers := _ } _
          refine wpAnyH_take (i := 8) (v := .int .i64 mk) rfl (by kernel_rfl) (by kernel_rfl) (by kernel_rfl) (fun _ _ _ h => h) (Or.inl ⟨by rfl, ?_⟩) H ?_
          · intro w' hSw; go_simp
          change wpAnyH _ _ _ _ _ _ _ { tmps := #[_, _, _, _, _, _, _, _, _, _, _, _, _, _, _, _, _, _, _, _, _, _, _, _, _, _, _, _, _, _, _, _, _, _, _, _, _, _, _, _, _, _, _, _, _, _, _, _, _, _, _, _, _, _, _, _, _, _, _, _, _, _, _, _, _, _, _, _, _, _, _, _, _, _, _, _, _, _, _, _, _, _, _, _, _, _, _, _, _, _, _, _, _, _, _, _, _, _, _, _, _, _, _, _, _, _, _, _, _, _, _, _, _, _, _, _, _, _, _, _, _, _, _, _, _, _, _, _, _, _, _, _, _, _, _, _, _, _, _, _, _, _, _, _, _, _, _, _, _, _, _], defers := _ } _
          refine wpAnyH_take (i := 9) (v := .int .i64 cd) rfl (by kernel_rfl) (by kernel_rfl) (by kernel_rfl) (fun _ _ _ h => h) (Or.inl ⟨by rfl, ?_⟩) H ?_
          · intro w' hSw; go_simp
          change wpAnyH _ _ _ _ _ _ _ { tmps := #[_, _, _, _, _, _, _, _, _, _, _, _, _, _, _, _, _, _, _, _, _, _, _, _, _, _, _, _, _, _, _, _, _, _, _, _, _, _, _, _, _, _, _, _, _, _, _, _, _, _, _, _, _, _, _, _, _, _, _, _, _, _, _, _, _, _, _, _, _, _, _, _, _, _, _, _, _, _, _, _, _, _, _, _, _, _, _, _, _, _, _, _, _, _, _, _, _, _, _, _, _, _, _, _, _, _, _, _, _, _, _, _, _, _, _, _, _, _, _, _, _, _, _, _, _, _, _, _, _, _, _, _, _, _, _, _, _, _, _, _, _, _, _, _, _, _, _, _, _, _, _], defers := _ } _
          refine wpAnyH_ready (rs := [10]) (by kernel_rfl) (by simp) ?_
          refine (AllReadyH.cons rfl (fun KK hK => ?_) AllReadyH.nil)
          go_simp
          have hb : Below y3.heap.size y3 (y3.alloc (.cells #[.slice none 0 0, .slice none 0 0] 34)) := (Below.refl _ _).alloc (Nat.le_refl _) _
          have PZ : Hid (Box2 (y3.alloc (.cells #[.slice none 0 0, .slice none 0 0] 34)) y3.heap.size 34 (.slice none 0 0) (.slice none 0 0)) := Box2.madeAt rfl _ _ _
          have Lpb : Hid (v11.heap.size ≤ y3.heap.size) := H.size
          replace TB : Hid (BankV (y3.alloc (.cells #[.slice none 0 0, .slice none 0 0] 34)) b (some ⟨tg0, 0, none⟩) (some ⟨tg1, 0, none⟩)) := TB.out.below hb
          replace E0 : Hid (EO (y3.alloc (.cells #[.slice none 0 0, .slice none 0 0] 34)) v11.heap.size 28 3 (.slice ka0 d.nr kx0) d.nr (rgF d.R)) := E0.out.below hb
          replace E1 : Hid (EO (y3.alloc (.cells #[.slice none 0 0, .slice none 0 0] 34)) v11.heap.size 64 4 (.slice ka1 d.ns kx1) d.ns (seF d.S)) := E1.out.below hb
          replace H : Below v11.heap.size v11 (y3.alloc (.cells #[.slice none 0 0, .slice none 0 0] 34)) := H.trans (hb.mono H.size)
          clear hb
          refine hK.out _ _ H (fun _ => ?_)
          clear hK KK
          generalize (y3.alloc (.cells #[.slice none 0 0, .slice none 0 0] 34)) = y4 at *
          generalize y3.heap.size = pb at *
          change wpAnyH _ _ _ _ _ _ _ { tmps := #[_, _, _, _, _, _, _, _, _, _, _, _, _, _, _, _, _, _, _, _, _, _, _, _, _, _, _, _, _, _, _, _, _, _, _, _, _, _, _, _, _, _, _, _, _, _, _, _, _, _, _, _, _, _, _, _, _, _, _, _, _, _, _, _, _, _, _, _, _, _, _, _, _, _, _, _, _, _, _, _, _, _, _, _, _, _, _, _, _, _, _, _, _, _, _, _, _, _, _, _, _, _, _, _, _, _, _, _, _, _, _, _, _, _, _, _, _, _, _, _, _, _, _, _, _, _, _, _, _, _, _, _, _, _, _, _, _, _, _, _, _, _, _, _, _, _, _, _, _, _, _], defers := _ } _
          refine wpAnyH_ready (rs := [11]) (by kernel_rfl) (by simp) ?_
          refine (AllReadyH.cons rfl (fun KK hK => ?_) AllReadyH.nil)
          have t0 := PZ.out.c0
          have t1 := PZ.out.c1
          have f0 := PZ.out.fr 0
          have f1 := PZ.out.fr 1
          go_simp
          replace H : Below v11.heap.size v11 ((y4.setCell ⟨pb, 0, none⟩ (.slice ka0 d.nr kx0)).setCell ⟨pb, 1, none⟩ (.slice ka1 d.ns kx1)) := (H.setCell (by exact Lpb.out) _).setCell (by exact Lpb.out) _
          refine hK.out _ _ H (fun _ => ?_)
          clear hK KK
          change wpAnyH _ _ _ _ _ _ _ { tmps := #[_, _, _, _, _, _, _, _, _, _, _, _, _, _, _, _, _, _, _, _, _, _, _, _, _, _, _, _, _, _, _, _, _, _, _, _, _, _, _, _, _, _, _, _, _, _, _, _, _, _, _, _, _, _, _, _, _, _, _, _, _, _, _, _, _, _, _, _, _, _, _, _, _, _, _, _, _, _, _, _, _, _, _, _, _, _, _, _, _, _, _, _, _, _, _, _, _, _, _, _, _, _, _, _, _, _, _, _, _, _, _, _, _, _, _, _, _, _, _, _, _, _, _, _, _, _, _, _, _, _, _, _, _, _, _, _, _, _, _, _, _, _, _, _, _, _, _, _, _, _, _], defers := _ } _
          refine wpAnyH_take (i := 12) (v := .int .i64 tl) rfl (by kernel_rfl) (by kernel_rfl) (by kernel_rfl) (fun _ _ _ h => h) (Or.inl ⟨by rfl, ?_⟩) H ?_
          · intro w' hSw; go_simp
          change wpAnyH _ _ _ _ _ _ _ { tmps := #[_, _, _, _, _, _, _, _, _, _, _, _, _, _, _, _, _, _, _, _, _, _, _, _, _, _, _, _, _, _, _, _, _, _, _, _, _, _, _, _, _, _, _, _, _, _, _, _, _, _, _, _, _, _, _, _, _, _, _, _, _, _, _, _, _, _, _, _, _, _, _, _, _, _, _, _, _, _, _, _, _, _, _, _, _, _, _, _, _, _, _, _, _, _, _, _, _, _, _, _, _, _, _, _, _, _, _, _, _, _, _, _, _, _, _, _, _, _, _, _, _, _, _, _, _, _, _, _, _, _, _, _, _, _, _, _, _, _, _, _, _, _, _, _, _, _, _, _, _, _, _], defers := _ } _
          refine wpAnyH_take (i := 13) (v := .int .i64 mk) rfl (by kernel_rfl) (by kernel_rfl) (by kernel_rfl) (fun _ _ _ h => h) (Or.inl ⟨by rfl, ?_⟩) H ?_
          · intro w' hSw; go_simp
          change wpAnyH _ _ _ _ _ _ _ { tmps := #[_, _, _, _, _, _, _, _, _, _, _, _, _, _, _, _, _, _, _, _, _, _, _, _, _, _, _, _, _, _, _, _, _, _, _, _, _, _, _, _, _, _, _, _, _, _, _, _, _, _, _, _, _, _, _, _, _, _, _, _, _, _, _, _, _, _, _, _, _, _, _, _, _, _, _, _, _, _, _, _, _, _, _, _, _, _, _, _, _, _, _, _, _, _, _, _, _, _, _, _, _, _, _, _, _, _, _, _, _, _, _, _, _, _, _, _, _, _, _, _, _, _, _, _, _, _, _, _, _, _, _, _, _, _, _, _, _, _, _, _, _, _, _, _, _, _, _, _, _, _, _], defers := _ } _
          refine wpAnyH_take (i := 14) (v := .int .i64 cd) rfl (by kernel_rfl) (by kernel_rfl) (by kernel_rfl) (fun _ _ _ h => h) (Or.inl ⟨by rfl, ?_⟩) H ?_
          · intro w' hSw; go_simp
          change wpAnyH _ _ _ _ _ _ _ { tmps := #[_, _, _, _, _, _, _, _, _, _, _, _, _, _, _, _, _, _, _, _, _, _, _, _, _, _, _, _, _, _, _, _, _, _, _, _, _, _, _, _, _, _, _, _, _, _, _, _, _, _, _, _, _, _, _, _, _, _, _, _, _, _, _, _, _, _, _, _, _, _, _, _, _, _, _, _, _, _, _, _, _, _, _, _, _, _, _, _, _, _, _, _, _, _, _, _, _, _, _, _, _, _, _, _, _, _, _, _, _, _, _, _, _, _, _, _, _, _, _, _, _, _, _, _, _, _, _, _, _, _, _, _, _, _, _, _, _, _, _, _, _, _, _, _, _, _, _, _, _, _, _], defers := _ } _
          refine wpAnyH_done (by kernel_rfl) ?_ _
          refine NoPanic.normal ?_
          have XB : Hid (Box2 ((y4.setCell ⟨pb, 0, none⟩ (.slice ka0 d.nr kx0)).setCell ⟨pb, 1, none⟩ (.slice ka1 d.ns kx1)) pb 34 (.slice ka0 d.nr kx0) (.slice ka1 d.ns kx1)) := (PZ.out.set0 _).set1 _
          have BE : Hid (BankE ((y4.setCell ⟨pb, 0, none⟩ (.slice ka0 d.nr kx0)).setCell ⟨pb, 1, none⟩ (.slice ka1 d.ns kx1)) v11.heap.size d.nr d.ns d (.slice ka0 d.nr kx0) (.slice ka1 d.ns kx1)) := ⟨E0.out.boxA PZ.out (by decide) _ _, E1.out.boxA PZ.out (by decide) _ _, E0.out.notRow E1.out (by decide)⟩
          have HF : Hid (Below v11.heap.size v11 ((y4.setCell ⟨pb, 0, none⟩ (.slice ka0 d.nr kx0)).setCell ⟨pb, 1, none⟩ (.slice ka1 d.ns kx1))) := H
          clear PZ H t0 t1 f0 f1 E0 E1
          change Exit.then _ _ Exit.normal { tmps := #[_, _, _, _, _, _, _, _, _, _, _, _, _, _, _, _, _, _, _, _, _, _, _, _, _, _, _, _, _, _, _, _, _, _, _, _, _, _, _, _, _, _, _, _, _, _, _, _, _, _, _, _, _, _, _, _, _, _, _, _, _, _, _, _, _, _, _, _, _, _, _, _, _, _, _, _, _, _, _, _, _, _, _, _, _, _, _, _, _, _, _, _, _, _, _, _, _, _, _, _, _, _, _, _, _, _, _, _, _, _, _, _, _, _, _, _, _, _, _, _, _, _, _, _, _, _, _, _, _, _, _, _, _, _, _, _, _, _, _, _, _, _, _, _, _, _, _, _, _, _, _], defers := _ } _
          generalize (y4.setCell ⟨pb, 0, none⟩ (.slice ka0 d.nr kx0)).setCell ⟨pb, 1, none⟩ (.slice ka1 d.ns kx1) = z at *
          go_wp2_with fail
          go_meet
          exact ⟨pb, ka0, ka1, kx0, kx1, rfl, rfl, rfl, rfl, XB.out, BE.out, HF.out, Lpb.out⟩
        · skip
          go_simp
          have hb : Below y2.heap.size y2 (y2.alloc (.cells #[.slice none 0 0, .slice none 0 0] 34)) := (Below.refl _ _).alloc (Nat.le_refl _) _
          have PZ : Hid (Box2 (y2.alloc (.cells #[.slice none 0 0, .slice none 0 0] 34)) y2.heap.size 34 (.slice none 0 0) (.slice none 0 0)) := Box2.madeAt rfl _ _ _
          have Lpb : Hid (v11.heap.size ≤ y2.heap.size) := H.size
          replace TB : Hid (BankV (y2.alloc (.cells #[.slice none 0 0, .slice none 0 0] 34)) b (some ⟨tg0, 0, none⟩) (some ⟨tg1, 0, none⟩)) := TB.out.below hb
          replace H : Below v11.heap.size v11 (y2.alloc (.cells #[.slice none 0 0, .slice none 0 0] 34)) := H.trans (hb.mono H.size)
          clear hb
          refine hK.out _ _ H (fun _ => ?_)
          clear hK KK
          generalize (y2.alloc (.cells #[.slice none 0 0, .slice none 0 0] 34)) = y3 at *
          generalize y2.heap.size = pb at *
          change wpAnyH _ _ _ _ _ _ _ { tmps := #[_, _, _, _, _, _, _, _, _, _, _, _, _, _, _, _, _, _, _, _, _, _, _, _, _, _, _, _, _, _, _, _, _, _, _, _, _, _, _, _, _, _, _, _, _, _, _, _, _, _, _, _, _, _, _, _, _, _, _, _, _, _, _, _, _, _, _, _, _, _, _, _, _, _, _, _, _, _, _, _, _, _, _, _, _, _, _, _, _, _, _, _, _, _, _, _, _, _, _, _, _, _, _, _, _, _, _, _, _, _, _, _, _, _, _, _, _, _, _, _, _, _, _, _, _, _, _, _, _, _, _, _, _, _, _, _, _, _, _, _, _, _, _, _, _, _, _, _, _, _, _], defers := _ } _
          refine wpAnyH_ready (rs := [4]) (by kernel_rfl) (by simp) ?_
          refine (AllReadyH.cons rfl (fun KK hK => ?_) AllReadyH.nil)
          go_simp
          refine (IY.out _ _ _ TB.out (TW.out.below (A1.out.trans (H.mono A1.out.size)))).mono ?_
          rintro e y4 ⟨⟨ka0, kx0, ka1, kx1, rfl, be⟩, hb⟩
          replace TB : Hid (BankV y4 b (some ⟨tg0, 0, none⟩) (some ⟨tg1, 0, none⟩)) := TB.out.below hb
          replace PZ : Hid (Box2 y4 pb 34 (.slice none 0 0) (.slice none 0 0)) := PZ.out.below hb
          have H0 : v11.heap.size ≤ y3.heap.size := H.size
          replace H : Below v11.heap.size v11 y4 := H.trans (hb.mono H.size)
          have E0 : Hid (EO y4 v11.heap.size 28 3 (.slice ka0 d.nr kx0) d.nr (rgF d.R)) := be.e0.mono H0
          have E1 : Hid (EO y4 v11.heap.size 64 4 (.slice ka1 d.ns kx1) d.ns (seF d.S)) := be.e1.mono H0
          clear hb be H0
          refine hK.out _ _ H (fun _ => ?_)
          clear hK KK
          change wpAnyH _ _ _ _ _ _ _ { tmps := #[_, _, _, _, _, _, _, _, _, _, _, _, _, _, _, _, _, _, _, _, _, _, _, _, _, _, _, _, _, _, _, _, _, _, _, _, _, _, _, _, _, _, _, _, _, _, _, _, _, _, _, _, _, _, _, _, _, _, _, _, _, _, _, _, _, _, _, _, _, _, _, _, _, _, _, _, _, _, _, _, _, _, _, _, _, _, _, _, _, _, _, _, _, _, _, _, _, _, _, _, _, _, _, _, _, _, _, _, _, _, _, _, _, _, _, _, _, _, _, _, _, _, _, _, _, _, _, _, _, _, _, _, _, _, _, _, _, _, _, _, _, _, _, _, _, _, _, _, _, _, _], defers := _ } _
          refine wpAnyH_take (i := 5) (v := .tuple #[.agg #[.slice ka0 d.nr kx0, .slice ka1 d.ns kx1], .int .i64 tl, .int .i64 mk, .int .i64 cd]) rfl (by kernel_rfl) (by kernel_rfl) (by kernel_rfl) (fun _ _ _ h => h) (Or.inl ⟨by rfl, ?_⟩) H ?_
          · intro w' hSw; go_simp
          change wpAnyH _ _ _ _ _ _ _ { tmps := #[_, _, _, _, _, _, _, _, _, _, _, _, _, _, _, _, _, _, _, _, _, _, _, _, _, _, _, _, _, _, _, _, _, _, _, _, _, _, _, _, _, _, _, _, _, _, _, _, _, _, _, _, _, _, _, _, _, _, _, _, _, _, _, _, _, _, _, _, _, _, _, _, _, _, _, _, _, _, _, _, _, _, _, _, _, _, _, _, _, _, _, _, _, _, _, _, _, _, _, _, _, _, _, _, _, _, _, _, _, _, _, _, _, _, _, _, _, _, _, _, _, _, _, _, _, _, _, _, _, _, _, _, _, _, _, _, _, _, _, _, _, _, _, _, _, _, _, _, _, _, _], defers := _ } _
          refine wpAnyH_take (i := 6) (v := .agg #[.slice ka0 d.nr kx0, .slice ka1 d.ns kx1]) rfl (by kernel_rfl) (by kernel_rfl) (by kernel_rfl) (fun _ _ _ h => h) (Or.inl ⟨by rfl, ?_⟩) H ?_
          · intro w' hSw; go_simp
          change wpAnyH _ _ _ _ _ _ _ { tmps := #[_, _, _, _, _, _, _, _, _, _, _, _, _, _, _, _, _, _, _, _, _, _, _, _, _, _, _, _, _, _, _, _, _, _, _, _, _, _, _, _, _, _, _, _, _, _, _, _, _, _, _, _, _, _, _, _, _, _, _, _, _, _, _, _, _, _, _, _, _, _, _, _, _, _, _, _, _, _, _, _, _, _, _, _, _, _, _, _, _, _, _, _, _, _, _, _, _, _, _, _, _, _, _, _, _, _, _, _, _, _, _, _, _, _, _, _, _, _, _, _, _, _, _, _, _, _, _, _, _, _, _, _, _, _, _, _, _, _, _, _, _, _, _, _, _, _, _, _, _, _, _], defers := _ } _
          refine wpAnyH_take (i := 7) (v := .int .i64 tl) rfl (by kernel_rfl) (by kernel_rfl) (by kernel_rfl) (fun _ _ _ h => h) (Or.inl ⟨by rfl, ?_⟩) H ?_
          · intro w' hSw; go_simp
          change wpAnyH _ _ _ _ _ _ _ { tmps := #[_, _, _, _, _, _, _, _, _, _, _, _, _, _, _, _, _, _, _, _, _, _, _, _, _, _, _, _, _, _, _, _, _, _, _, _, _, _, _, _, _, _, _, _, _, _, _, _, _, _, _, _, _, _, _, _, _, _, _, _, _, _, _, _, _, _, _, _, _, _, _, _, _, _, _, _, _, _, _, _, _, _, _, _, _, _, _, _, _, _, _, _, _, _, _, _, _, _, _, _, _, _, _, _, _, _, _, _, _, _, _, _, _, _, _, _, _, _, _, _, _, _, _, _, _, _, _, _, _, _, _, _, _, _, _, _, _, _, _, _, _, _, _, _, _, _, _, _, _, _, _], defers := _ } _
          refine wpAnyH_take (i := 8) (v := .int .i64 mk) rfl (by kernel_rfl) (by kernel_rfl) (by kernel_rfl) (fun _ _ _ h => h) (Or.inl ⟨by rfl, ?_⟩) H ?_
          · intro w' hSw; go_simp
          change wpAnyH _ _ _ _ _ _ _ { tmps := #[_, _, _, _, _, _, _, _, _, _, _, _, _, _, _, _, _, _, _, _, _, _, _, _, _, _, _, _, _, _, _, _, _, _, _, _, _, _, _, _, _, _, _, _, _, _, _, _, _, _, _, _, _, _, _, _, _, _, _, _, _, _, _, _, _, _, _, _, _, _, _, _, _, _, _, _, _, _, _, _, _, _, _, _, _, _, _, _, _, _, _, _, _, _, _, _, _, _, _, _, _, _, _, _, _, _, _, _, _, _, _, _, _, _, _, _, _, _, _, _, _, _, _, _, _, _, _, _, _, _, _, _, _, _, _, _, _, _, _, _, _, _, _, _, _, _, _, _, _, _, _], defers := _ } _
          refine wpAnyH_take (i := 9) (v := .int .i64 cd) rfl (by kernel_rfl) (by kernel_rfl) (by kernel_rfl) (fun _ _ _ h => h) (Or.inl ⟨by rfl, ?_⟩) H ?_
          · intro w' hSw; go_simp
          change wpAnyH _ _ _ _ _ _ _ { tmps := #[_, _, _, _, _, _, _, _, _, _, _, _, _, _, _, _, _, _, _, _, _, _, _, _, _, _, _, _, _, _, _, _, _, _, _, _, _, _, _, _, _, _, _, _, _, _, _, _, _, _, _, _, _, _, _, _, _, _, _, _, _, _, _, _, _, _, _, _, _, _, _, _, _, _, _, _, _, _, _, _, _, _, _, _, _, _, _, _, _, _, _, _, _, _, _, _, _, _, _, _, _, _, _, _, _, _, _, _, _, _, _, _, _, _, _, _, _, _, _, _, _, _, _, _, _, _, _, _, _, _, _, _, _, _, _, _, _, _, _, _, _, _, _, _, _, _, _, _, _, _, _], defers := _ } _
          refine wpAnyH_ready (rs := [11]) (by kernel_rfl) (by simp) ?_
          refine (AllReadyH.cons rfl (fun KK hK => ?_) AllReadyH.nil)
          have t0 := PZ.out.c0
          have t1 := PZ.out.c1
          have f0 := PZ.out.fr 0
          have f1 := PZ.out.fr 1
          go_simp
          replace H : Below v11.heap.size v11 ((y4.setCell ⟨pb, 0, none⟩ (.slice ka0 d.nr kx0)).setCell ⟨pb, 1, none⟩ (.slice ka1 d.ns kx1)) := (H.setCell (by exact Lpb.out) _).setCell (by exact Lpb.out) _
          refine hK.out _ _ H (fun _ => ?_)
          clear hK KK
          change wpAnyH _ _ _ _ _ _ _ { tmps := #[_, _, _, _, _, _, _, _, _, _, _, _, _, _, _, _, _, _, _, _, _, _, _, _, _, _, _, _, _, _, _, _, _, _, _, _, _, _, _, _, _, _, _, _, _, _, _, _, _, _, _, _, _, _, _, _, _, _, _, _, _, _, _, _, _, _, _, _, _, _, _, _, _, _, _, _, _, _, _, _, _, _, _, _, _, _, _, _, _, _, _, _, _, _, _, _, _, _, _, _, _, _, _, _, _, _, _, _, _, _, _, _, _, _, _, _, _, _, _, _, _, _, _, _, _, _, _, _, _, _, _, _, _, _, _, _, _, _, _, _, _, _, _, _, _, _, _, _, _, _, _], defers := _ } _
          refine wpAnyH_take (i := 12) (v := .int .i64 tl) rfl (by kernel_rfl) (by kernel_rfl) (by kernel_rfl) (fun _ _ _ h => h) (Or.inl ⟨by rfl, ?_⟩) H ?_
          · intro w' hSw; go_simp
          change wpAnyH _ _ _ _ _ _ _ { tmps := #[_, _, _, _, _, _, _, _, _, _, _, _, _, _, _, _, _, _, _, _, _, _, _, _, _, _, _, _, _, _, _, _, _, _, _, _, _, _, _, _, _, _, _, _, _, _, _, _, _, _, _, _, _, _, _, _, _, _, _, _, _, _, _, _, _, _, _, _, _, _, _, _, _, _, _, _, _, _, _, _, _, _, _, _, _, _, _, _, _, _, _, _, _, _, _, _, _, _, _, _, _, _, _, _, _, _, _, _, _, _, _, _, _, _, _, _, _, _, _, _, _, _, _, _, _, _, _, _, _, _, _, _, _, _, _, _, _, _, _, _, _, _, _, _, _, _, _, _, _, _, _], defers := _ } _
          refine wpAnyH_take (i := 13) (v := .int .i64 mk) rfl (by kernel_rfl) (by kernel_rfl) (by kernel_rfl) (fun _ _ _ h => h) (Or.inl ⟨by rfl, ?_⟩) H ?_
          · intro w' hSw; go_simp
          change wpAnyH _ _ _ _ _ _ _ { tmps := #[_, _, _, _, _, _, _, _, _, _, _, _, _, _, _, _, _, _, _, _, _, _, _, _, _, _, _, _, _, _, _, _, _, _, _, _, _, _, _, _, _, _, _, _, _, _, _, _, _, _, _, _, _, _, _, _, _, _, _, _, _, _, _, _, _, _, _, _, _, _, _, _, _, _, _, _, _, _, _, _, _, _, _, _, _, _, _, _, _, _, _, _, _, _, _, _, _, _, _, _, _, _, _, _, _, _, _, _, _, _, _, _, _, _, _, _, _, _, _, _, _, _, _, _, _, _, _, _, _, _, _, _, _, _, _, _, _, _, _, _, _, _, _, _, _, _, _, _, _, _, _], defers := _ } _
          refine wpAnyH_take (i := 14) (v := .int .i64 cd) rfl (by kernel_rfl) (by kernel_rfl) (by kernel_rfl) (fun _ _ _ h => h) (Or.inl ⟨by rfl, ?_⟩) H ?_
          · intro w' hSw; go_simp
          change wpAnyH _ _ _ _ _ _ _ { tmps := #[_, _, _, _, _, _, _, _, _, _, _, _, _, _, _, _, _, _, _, _, _, _, _, _, _, _, _, _, _, _, _, _, _, _, _, _, _, _, _, _, _, _, _, _, _, _, _, _, _, _, _, _, _, _, _, _, _, _, _, _, _, _, _, _, _, _, _, _, _, _, _, _, _, _, _, _, _, _, _, _, _, _, _, _, _, _, _, _, _, _, _, _, _, _, _, _, _, _, _, _, _, _, _, _, _, _, _, _, _, _, _, _, _, _, _, _, _, _, _, _, _, _, _, _, _, _, _, _, _, _, _, _, _, _, _, _, _, _, _, _, _, _, _, _, _, _, _, _, _, _, _], defers := _ } _
          refine wpAnyH_done (by kernel_rfl) ?_ _
          refine NoPanic.normal ?_
          have XB : Hid (Box2 ((y4.setCell ⟨pb, 0, none⟩ (.slice ka0 d.nr kx0)).setCell ⟨pb, 1, none⟩ (.slice ka1 d.ns kx1)) pb 34 (.slice ka0 d.nr kx0) (.slice ka1 d.ns kx1)) := (PZ.out.set0 _).set1 _
          have BE : Hid (BankE ((y4.setCell ⟨pb, 0, none⟩ (.slice ka0 d.nr kx0)).setCell ⟨pb, 1, none⟩ (.slice ka1 d.ns kx1)) v11.heap.size d.nr d.ns d (.slice ka0 d.nr kx0) (.slice ka1 d.ns kx1)) := ⟨E0.out.boxA PZ.out (by decide) _ _, E1.out.boxA PZ.out (by decide) _ _, E0.out.notRow E1.out (by decide)⟩
          have HF : Hid (Below v11.heap.size v11 ((y4.setCell ⟨pb, 0, none⟩ (.slice ka0 d.nr kx0)).setCell ⟨pb, 1, none⟩ (.slice ka1 d.ns kx1))) := H
          clear PZ H t0 t1 f0 f1 E0 E1
          change Exit.then _ _ Exit.normal { tmps := #[_, _, _, _, _, _, _, _, _, _, _, _, _, _, _, _, _, _, _, _, _, _, _, _, _, _, _, _, _, _, _, _, _, _, _, _, _, _, _, _, _, _, _, _, _, _, _, _, _, _, _, _, _, _, _, _, _, _, _, _, _, _, _, _, _, _, _, _, _, _, _, _, _, _, _, _, _, _, _, _, _, _, _, _, _, _, _, _, _, _, _, _, _, _, _, _, _, _, _, _, _, _, _, _, _, _, _, _, _, _, _, _, _, _, _, _, _, _, _, _, _, _, _, _, _, _, _, _, _, _, _, _, _, _, _, _, _, _, _, _, _, _, _, _, _, _, _, _, _, _, _], defers := _ } _
          generalize (y4.setCell ⟨pb, 0, none⟩ (.slice ka0 d.nr kx0)).setCell ⟨pb, 1, none⟩ (.slice ka1 d.ns kx1) = z at *
          go_wp2_with fail
          go_meet
          exact ⟨pb, ka0, ka1, kx0, kx1, rfl, rfl, rfl, rfl, XB.out, BE.out, HF.out, Lpb.out⟩
      · skip
        go_simp
        have hb : Below y1.heap.size y1 (y1.alloc (.cells #[.slice none 0 0, .slice none 0 0] 34)) := (Below.refl _ _).alloc (Nat.le_refl _) _
        have PZ : Hid (Box2 (y1.alloc (.cells #[.slice none 0 0, .slice none 0 0] 34)) y1.heap.size 34 (.slice none 0 0) (.slice none 0 0)) := Box2.madeAt rfl _ _ _
        have Lpb : Hid (v11.heap.size ≤ y1.heap.size) := H.size
        replace TB : Hid (BankV (y1.alloc (.cells #[.slice none 0 0, .slice none 0 0] 34)) b (some ⟨tg0, 0, none⟩) (some ⟨tg1, 0, none⟩)) := TB.out.below hb
        replace H : Below v11.heap.size v11 (y1.alloc (.cells #[.slice none 0 0, .slice none 0 0] 34)) := H.trans (hb.mono H.size)
        clear hb
        refine hK.out _ _ H (fun _ => ?_)
        clear hK KK
        generalize (y1.alloc (.cells #[.slice none 0 0, .slice none 0 0] 34)) = y2 at *
        generalize y1.heap.size = pb at *
        change wpAnyH _ _ _ _ _ _ _ { tmps := #[_, _, _, _, _, _, _, _, _, _, _, _, _, _, _, _, _, _, _, _, _, _, _, _, _, _, _, _, _, _, _, _, _, _, _, _, _, _, _, _, _, _, _, _, _, _, _, _, _, _, _, _, _, _, _, _, _, _, _, _, _, _, _, _, _, _, _, _, _, _, _, _, _, _, _, _, _, _, _, _, _, _, _, _, _, _, _, _, _, _, _, _, _, _, _, _, _, _, _, _, _, _, _, _, _, _, _, _, _, _, _, _, _, _, _, _, _, _, _, _, _, _, _, _, _, _, _, _, _, _, _, _, _, _, _, _, _, _, _, _, _, _, _, _, _, _, _, _, _, _, _], defers := _ } _
        refine wpAnyH_ready (rs := [3]) (by kernel_rfl) (by simp) ?_
        refine (AllReadyH.cons rfl (fun KK hK => ?_) AllReadyH.nil)
        go_simp
        refine (TR.out _).mono ?_
        rintro e y3 ⟨rfl, hb⟩
        replace TB : Hid (BankV y3 b (some ⟨tg0, 0, none⟩) (some ⟨tg1, 0, none⟩)) := TB.out.below hb
        replace PZ : Hid (Box2 y3 pb 34 (.slice none 0 0) (.slice none 0 0)) := PZ.out.below hb
        replace H : Below v11.heap.size v11 y3 := H.trans (hb.mono H.size)
        clear hb
        refine hK.out _ _ H (fun _ => ?_)
        clear hK KK
        change wpAnyH _ _ _ _ _ _ _ { tmps := #[_, _, _, _, _, _, _, _, _, _, _, _, _, _, _, _, _, _, _, _, _, _, _, _, _, _, _, _, _, _, _, _, _, _, _, _, _, _, _, _, _, _, _, _, _, _, _, _, _, _, _, _, _, _, _, _, _, _, _, _, _, _, _, _, _, _, _, _, _, _, _, _, _, _, _, _, _, _, _, _, _, _, _, _, _, _, _, _, _, _, _, _, _, _, _, _, _, _, _, _, _, _, _, _, _, _, _, _, _, _, _, _, _, _, _, _, _, _, _, _, _, _, _, _, _, _, _, _, _, _, _, _, _, _, _, _, _, _, _, _, _, _, _, _, _, _, _, _, _, _, _], defers := _ } _
        refine wpAnyH_ready (rs := [4]) (by kernel_rfl) (by simp) ?_
        refine (AllReadyH.cons rfl (fun KK hK => ?_) AllReadyH.nil)
        go_simp
        refine (IY.out _ _ _ TB.out (TW.out.below (A1.out.trans (H.mono A1.out.size)))).mono ?_
        rintro e y4 ⟨⟨ka0, kx0, ka1, kx1, rfl, be⟩, hb⟩
        replace TB : Hid (BankV y4 b (some ⟨tg0, 0, none⟩) (some ⟨tg1, 0, none⟩)) := TB.out.below hb
        replace PZ : Hid (Box2 y4 pb 34 (.slice none 0 0) (.slice none 0 0)) := PZ.out.below hb
        have H0 : v11.heap.size ≤ y3.heap.size := H.size
        replace H : Below v11.heap.size v11 y4 := H.trans (hb.mono H.size)
        have E0 : Hid (EO y4 v11.heap.size 28 3 (.slice ka0 d.nr kx0) d.nr (rgF d.R)) := be.e0.mono H0
        have E1 : Hid (EO y4 v11.heap.size 64 4 (.slice ka1 d.ns kx1) d.ns (seF d.S)) := be.e1.mono H0
        clear hb be H0
        refine hK.out _ _ H (fun _ => ?_)
        clear hK KK
        change wpAnyH _ _ _ _ _ _ _ { tmps := #[_, _, _, _, _, _, _, _, _, _, _, _, _, _, _, _, _, _, _, _, _, _, _, _, _, _, _, _, _, _, _, _, _, _, _, _, _, _, _, _, _, _, _, _, _, _, _, _, _, _, _, _, _, _, _, _, _, _, _, _, _, _, _, _, _, _, _, _, _, _, _, _, _, _, _, _, _, _, _, _, _, _, _, _, _, _, _, _, _, _, _, _, _, _, _, _, _, _, _, _, _, _, _, _, _, _, _, _, _, _, _, _, _, _, _, _, _, _, _, _, _, _, _, _, _, _, _, _, _, _, _, _, _, _, _, _, _, _, _, _, _, _, _, _, _, _, _, _, _, _, _], defers := _ } _
        refine wpAnyH_take (i := 5) (v := .tuple #[.agg #[.slice ka0 d.nr kx0, .slice ka1 d.ns kx1], .int .i64 tl, .int .i64 mk, .int .i64 cd]) rfl (by kernel_rfl) (by kernel_rfl) (by kernel_rfl) (fun _ _ _ h => h) (Or.inl ⟨by rfl, ?_⟩) H ?_
        · intro w' hSw; go_simp
        change wpAnyH _ _ _ _ _ _ _ { tmps := #[_, _, _, _, _, _, _, _, _, _, _, _, _, _, _, _, _, _, _, _, _, _, _, _, _, _, _, _, _, _, _, _, _, _, _, _, _, _, _, _, _, _, _, _, _, _, _, _, _, _, _, _, _, _, _, _, _, _, _, _, _, _, _, _, _, _, _, _, _, _, _, _, _, _, _, _, _, _, _, _, _, _, _, _, _, _, _, _, _, _, _, _, _, _, _, _, _, _, _, _, _, _, _, _, _, _, _, _, _, _, _, _, _, _, _, _, _, _, _, _, _, _, _, _, _, _, _, _, _, _, _, _, _, _, _, _, _, _, _, _, _, _, _, _, _, _, _, _, _, _, _], defers := _ } _
        refine wpAnyH_take (i := 6) (v := .agg #[.slice ka0 d.nr kx0, .slice ka1 d.ns kx1]) rfl (by kernel_rfl) (by kernel_rfl) (by kernel_rfl) (fun _ _ _ h => h) (Or.inl ⟨by rfl, ?_⟩) H ?_
        · intro w' hSw; go_simp
        change wpAnyH _ _ _ _ _ _ _ { tmps := #[_, _, _, _, _, _, _, _, _, _, _, _, _, _, _, _, _, _, _, _, _, _, _, _, _, _, _, _, _, _, _, _, _, _, _, _, _, _, _, _, _, _, _, _, _, _, _, _, _, _, _, _, _, _, _, _, _, _, _, _, _, _, _, _, _, _, _, _, _, _, _, _, _, _, _, _, _, _, _, _, _, _, _, _, _, _, _, _, _, _, _, _, _, _, _, _, _, _, _, _, _, _, _, _, _, _, _, _, _, _, _, _, _, _, _, _, _, _, _, _, _, _, _, _, _, _, _, _, _, _, _, _, _, _, _, _, _, _, _, _, _, _, _, _, _, _, _, _, _, _, _], defers := _ } _
        refine wpAnyH_take (i := 7) (v := .int .i64 tl) rfl (by kernel_rfl) (by kernel_rfl) (by kernel_rfl) (fun _ _ _ h => h) (Or.inl ⟨by rfl, ?_⟩) H ?_
        · intro w' hSw; go_simp
        change wpAnyH _ _ _ _ _ _ _ { tmps := #[_, _, _, _, _, _, _, _, _, _, _, _, _, _, _, _, _, _, _, _, _, _, _, _, _, _, _, _, _, _, _, _, _, _, _, _, _, _, _, _, _, _, _, _, _, _, _, _, _, _, _, _, _, _, _, _, _, _, _, _, _, _, _, _, _, _, _, _, _, _, _, _, _, _, _, _, _, _, _, _, _, _, _, _, _, _, _, _, _, _, _, _, _, _, _, _, _, _, _, _, _, _, _, _, _, _, _, _, _, _, _, _, _, _, _, _, _, _, _, _, _, _, _, _, _, _, _, _, _, _, _, _, _, _, _, _, _, _, _, _, _, _, _, _, _, _, _, _, _, _, _], defers := _ } _
        refine wpAnyH_take (i := 8) (v := .int .i64 mk) rfl (by kernel_rfl) (by kernel_rfl) (by kernel_rfl) (fun _ _ _ h => h) (Or.inl ⟨by rfl, ?_⟩) H ?_
        · intro w' hSw; go_simp
        change wpAnyH _ _ _ _ _ _ _ { tmps := #[_, _, _, _, _, _, _, _, _, _, _, _, _, _, _, _, _, _, _, _, _, _, _, _, _, _, _, _, _, _, _, _, _, _, _, _, _, _, _, _, _, _, _, _, _, _, _, _, _, _, _, _, _, _, _, _, _, _, _, _, _, _, _, _, _, _, _, _, _, _, _, _, _, _, _, _, _, _, _, _, _, _, _, _, _, _, _, _, _, _, _, _, _, _, _, _, _, _, _, _, _, _, _, _, _, _, _, _, _, _, _, _, _, _, _, _, _, _, _, _, _, _, _, _, _, _, _, _, _, _, _, _, _, _, _, _, _, _, _, _, _, _, _, _, _, _, _, _, _, _, _], defers := _ } _
        refine wpAnyH_take (i := 9) (v := .int .i64 cd) rfl (by kernel_rfl) (by kernel_rfl) (by kernel_rfl) (fun _ _ _ h => h) (Or.inl ⟨by rfl, ?_⟩) H ?_
        · intro w' hSw; go_simp
        change wpAnyH _ _ _ _ _ _ _ { tmps := #[_, _, _, _, _, _, _, _, _, _, _, _, _, _, _, _, _, _, _, _, _, _, _, _, _, _, _, _, _, _, _, _, _, _, _, _, _, _, _, _, _, _, _, _, _, _, _, _, _, _, _, _, _, _, _, _, _, _, _, _, _, _, _, _, _, _, _, _, _, _, _, _, _, _, _, _, _, _, _, _, _, _, _, _, _, _, _, _, _, _, _, _, _, _, _, _, _, _, _, _, _, _, _, _, _, _, _, _, _, _, _, _, _, _, _, _, _, _, _, _, _, _, _, _, _, _, _, _, _, _, _, _, _, _, _, _, _, _, _, _, _, _, _, _, _, _, _, _, _, _, _], defers := _ } _
        refine wpAnyH_ready (rs := [11]) (by kernel_rfl) (by simp) ?_
        refine (AllReadyH.cons rfl (fun KK hK => ?_) AllReadyH.nil)
        have t0 := PZ.out.c0
        have t1 := PZ.out.c1
        have f0 := PZ.out.fr 0
        have f1 := PZ.out.fr 1
        go_simp
        replace H : Below v11.heap.size v11 ((y4.setCell ⟨pb, 0, none⟩ (.slice ka0 d.nr kx0)).setCell ⟨pb, 1, none⟩ (.slice ka1 d.ns kx1)) := (H.setCell (by exact Lpb.out) _).setCell (by exact Lpb.out) _
        refine hK.out _ _ H (fun _ => ?_)
        clear hK KK
        change wpAnyH _ _ _ _ _ _ _ { tmps := #[_, _, _, _, _, _, _, _, _, _, _, _, _, _, _, _, _, _, _, _, _, _, _, _, _, _, _, _, _, _, _, _, _, _, _, _, _, _, _, _, _, _, _, _, _, _, _, _, _, _, _, _, _, _, _, _, _, _, _, _, _, _, _, _, _, _, _, _, _, _, _, _, _, _, _, _, _, _, _, _, _, _, _, _, _, _, _, _, _, _, _, _, _, _, _, _, _, _, _, _, _, _, _, _, _, _, _, _, _, _, _, _, _, _, _, _, _, _, _, _, _, _, _, _, _, _, _, _, _, _, _, _, _, _, _, _, _, _, _, _, _, _, _, _, _, _, _, _, _, _, _], defers := _ } _
        refine wpAnyH_take (i := 12) (v := .int .i64 tl) rfl (by kernel_rfl) (by kernel_rfl) (by kernel_rfl) (fun _ _ _ h => h) (Or.inl ⟨by rfl, ?_⟩) H ?_
        · intro w' hSw; go_simp
        change wpAnyH _ _ _ _ _ _ _ { tmps := #[_, _, _, _, _, _, _, _, _, _, _, _, _, _, _, _, _, _, _, _, _, _, _, _, _, _, _, _, _, _, _, _, _, _, _, _, _, _, _, _, _, _, _, _, _, _, _, _, _, _, _, _, _, _, _, _, _, _, _, _, _, _, _, _, _, _, _, _, _, _, _, _, _, _, _, _, _, _, _, _, _, _, _, _, _, _, _, _, _, _, _, _, _, _, _, _, _, _, _, _, _, _, _, _, _, _, _, _, _, _, _, _, _, _, _, _, _, _, _, _, _, _, _, _, _, _, _, _, _, _, _, _, _, _, _, _, _, _, _, _, _, _, _, _, _, _, _, _, _, _, _], defers := _ } _
        refine wpAnyH_take (i := 13) (v := .int .i64 mk) rfl (by kernel_rfl) (by kernel_rfl) (by kernel_rfl) (fun _ _ _ h => h) (Or.inl ⟨by rfl, ?_⟩) H ?_
        · intro w' hSw; go_simp
        change wpAnyH _ _ _ _ _ _ _ { tmps := #[_, _, _, _, _, _, _, _, _, _, _, _, _, _, _, _, _, _, _, _, _, _, _, _, _, _, _, _, _, _, _, _, _, _, _, _, _, _, _, _, _, _, _, _, _, _, _, _, _, _, _, _, _, _, _, _, _, _, _, _, _, _, _, _, _, _, _, _, _, _, _, _, _, _, _, _, _, _, _, _, _, _, _, _, _, _, _, _, _, _, _, _, _, _, _, _, _, _, _, _, _, _, _, _, _, _, _, _, _, _, _, _, _, _, _, _, _, _, _, _, _, _, _, _, _, _, _, _, _, _, _, _, _, _, _, _, _, _, _, _, _, _, _, _, _, _, _, _, _, _, _], defers := _ } _
        refine wpAnyH_take (i := 14) (v := .int .i64 cd) rfl (by kernel_rfl) (by kernel_rfl) (by kernel_rfl) (fun _ _ _ h => h) (Or.inl ⟨by rfl, ?_⟩) H ?_
        · intro w' hSw; go_simp
        change wpAnyH _ _ _ _ _ _ _ { tmps := #[_, _, _, _, _, _, _, _, _, _, _, _, _, _, _, _, _, _, _, _, _, _, _, _, _, _, _, _, _, _, _, _, _, _, _, _, _, _, _, _, _, _, _, _, _, _, _, _, _, _, _, _, _, _, _, _, _, _, _, _, _, _, _, _, _, _, _, _, _, _, _, _, _, _, _, _, _, _, _, _, _, _, _, _, _, _, _, _, _, _, _, _, _, _, _, _, _, _, _, _, _, _, _, _, _, _, _, _, _, _, _, _, _, _, _, _, _, _, _, _, _, _, _, _, _, _, _, _, _, _, _, _, _, _, _, _, _, _, _, _, _, _, _, _, _, _, _, _, _, _, _], defers := _ } _
        refine wpAnyH_done (by kernel_rfl) ?_ _
        refine NoPanic.normal ?_
        have XB : Hid (Box2 ((y4.setCell ⟨pb, 0, none⟩ (.slice ka0 d.nr kx0)).setCell ⟨pb, 1, none⟩ (.slice ka1 d.ns kx1)) pb 34 (.slice ka0 d.nr kx0) (.slice ka1 d.ns kx1)) := (PZ.out.set0 _).set1 _
        have BE : Hid (BankE ((y4.setCell ⟨pb, 0, none⟩ (.slice ka0 d.nr kx0)).setCell ⟨pb, 1, none⟩ (.slice ka1 d.ns kx1)) v11.heap.size d.nr d.ns d (.slice ka0 d.nr kx0) (.slice ka1 d.ns kx1)) := ⟨E0.out.boxA PZ.out (by decide) _ _, E1.out.boxA PZ.out (by decide) _ _, E0.out.notRow E1.out (by decide)⟩
        have HF : Hid (Below v11.heap.size v11 ((y4.setCell ⟨pb, 0, none⟩ (.slice ka0 d.nr kx0)).setCell ⟨pb, 1, none⟩ (.slice ka1 d.ns kx1))) := H
        clear PZ H t0 t1 f0 f1 E0 E1
        change Exit.then _ _ Exit.normal { tmps := #[_, _, _, _, _, _, _, _, _, _, _, _, _, _, _, _, _, _, _, _, _, _, _, _, _, _, _, _, _, _, _, _, _, _, _, _, _, _, _, _, _, _, _, _, _, _, _, _, _, _, _, _, _, _, _, _, _, _, _, _, _, _, _, _, _, _, _, _, _, _, _, _, _, _, _, _, _, _, _, _, _, _, _, _, _, _, _, _, _, _, _, _, _, _, _, _, _, _, _, _, _, _, _, _, _, _, _, _, _, _, _, _, _, _, _, _, _, _, _, _, _, _, _, _, _, _, _, _, _, _, _, _, _, _, _, _, _, _, _, _, _, _, _, _, _, _, _, _, _, _, _], defers := _ } _
        generalize (y4.setCell ⟨pb, 0, none⟩ (.slice ka0 d.nr kx0)).setCell ⟨pb, 1, none⟩ (.slice ka1 d.ns kx1) = z at *
        go_wp2_with fail
        go_meet
        exact ⟨pb, ka0, ka1, kx0, kx1, rfl, rfl, rfl, rfl, XB.out, BE.out, HF.out, Lpb.out⟩
    · skip
      go_simp
      have hb : Below y0.heap.size y0 (y0.alloc (.cells #[.slice none 0 0, .slice none 0 0] 34)) := (Below.refl _ _).alloc (Nat.le_refl _) _
      have PZ : Hid (Box2 (y0.alloc (.cells #[.slice none 0 0, .slice none 0 0] 34)) y0.heap.size 34 (.slice none 0 0) (.slice none 0 0)) := Box2.madeAt rfl _ _ _
      have Lpb : Hid (v11.heap.size ≤ y0.heap.size) := H.size
      replace H : Below v11.heap.size v11 (y0.alloc (.cells #[.slice none 0 0, .slice none 0 0] 34)) := H.trans (hb.mono H.size)
      clear hb
      refine hK.out _ _ H (fun _ => ?_)
      clear hK KK
      generalize (y0.alloc (.cells #[.slice none 0 0, .slice none 0 0] 34)) = y1 at *
      generalize y0.heap.size = pb at *
      change wpAnyH _ _ _ _ _ _ _ { tmps := #[_, _, _, _, _, _, _, _, _, _, _, _, _, _, _, _, _, _, _, _, _, _, _, _, _, _, _, _, _, _, _, _, _, _, _, _, _, _, _, _, _, _, _, _, _, _, _, _, _, _, _, _, _, _, _, _, _, _, _, _, _, _, _, _, _, _, _, _, _, _, _, _, _, _, _, _, _, _, _, _, _, _, _, _, _, _, _, _, _, _, _, _, _, _, _, _, _, _, _, _, _, _, _, _, _, _, _, _, _, _, _, _, _, _, _, _, _, _, _, _, _, _, _, _, _, _, _, _, _, _, _, _, _, _, _, _, _, _, _, _, _, _, _, _, _, _, _, _, _, _, _], defers := _ } _
      refine wpAnyH_ready (rs := [1]) (by kernel_rfl) (by simp) ?_
      refine (AllReadyH.cons rfl (fun KK hK => ?_) AllReadyH.nil)
      go_simp
      refine (TO.out _ (HV.out.below (A1.out.trans (H.mono A1.out.size)))).mono ?_
      rintro e y2 ⟨⟨tg0, tg1, -, -, -, rfl, tr⟩, hb⟩
      replace PZ : Hid (Box2 y2 pb 34 (.slice none 0 0) (.slice none 0 0)) := PZ.out.below hb
      replace H : Below v11.heap.size v11 y2 := H.trans (hb.mono H.size)
      have TB : Hid (BankV y2 b (some ⟨tg0, 0, none⟩) (some ⟨tg1, 0, none⟩)) := tr.bankV
      clear hb tr
      refine hK.out _ _ H (fun _ => ?_)
      clear hK KK
      change wpAnyH _ _ _ _ _ _ _ { tmps := #[_, _, _, _, _, _, _, _, _, _, _, _, _, _, _, _, _, _, _, _, _, _, _, _, _, _, _, _, _, _, _, _, _, _, _, _, _, _, _, _, _, _, _, _, _, _, _, _, _, _, _, _, _, _, _, _, _, _, _, _, _, _, _, _, _, _, _, _, _, _, _, _, _, _, _, _, _, _, _, _, _, _, _, _, _, _, _, _, _, _, _, _, _, _, _, _, _, _, _, _, _, _, _, _, _, _, _, _, _, _, _, _, _, _, _, _, _, _, _, _, _, _, _, _, _, _, _, _, _, _, _, _, _, _, _, _, _, _, _, _, _, _, _, _, _, _, _, _, _, _, _], defers := _ } _
      refine wpAnyH_ready (rs := [3]) (by kernel_rfl) (by simp) ?_
      refine (AllReadyH.cons rfl (fun KK hK => ?_) AllReadyH.nil)
      go_simp
      refine (TR.out _).mono ?_
      rintro e y3 ⟨rfl, hb⟩
      replace PZ : Hid (Box2 y3 pb 34 (.slice none 0 0) (.slice none 0 0)) := PZ.out.below hb
      replace TB : Hid (BankV y3 b (some ⟨tg0, 0, none⟩) (some ⟨tg1, 0, none⟩)) := TB.out.below hb
      replace H : Below v11.heap.size v11 y3 := H.trans (hb.mono H.size)
      clear hb
      refine hK.out _ _ H (fun _ => ?_)
      clear hK KK
      change wpAnyH _ _ _ _ _ _ _ { tmps := #[_, _, _, _, _, _, _, _, _, _, _, _, _, _, _, _, _, _, _, _, _, _, _, _, _, _, _, _, _, _, _, _, _, _, _, _, _, _, _, _, _, _, _, _, _, _, _, _, _, _, _, _, _, _, _, _, _, _, _, _, _, _, _, _, _, _, _, _, _, _, _, _, _, _, _, _, _, _, _, _, _, _, _, _, _, _, _, _, _, _, _, _, _, _, _, _, _, _, _, _, _, _, _, _, _, _, _, _, _, _, _, _, _, _, _, _, _, _, _, _, _, _, _, _, _, _, _, _, _, _, _, _, _, _, _, _, _, _, _, _, _, _, _, _, _, _, _, _, _, _, _], defers := _ } _
      refine wpAnyH_ready (rs := [4]) (by kernel_rfl) (by simp) ?_
      refine (AllReadyH.cons rfl (fun KK hK => ?_) AllReadyH.nil)
      go_simp
      refine (IY.out _ _ _ TB.out (TW.out.below (A1.out.trans (H.mono A1.out.size)))).mono ?_
      rintro e y4 ⟨⟨ka0, kx0, ka1, kx1, rfl, be⟩, hb⟩
      replace PZ : Hid (Box2 y4 pb 34 (.slice none 0 0) (.slice none 0 0)) := PZ.out.below hb
      replace TB : Hid (BankV y4 b (some ⟨tg0, 0, none⟩) (some ⟨tg1, 0, none⟩)) := TB.out.below hb
      have H0 : v11.heap.size ≤ y3.heap.size := H.size
      replace H : Below v11.heap.size v11 y4 := H.trans (hb.mono H.size)
      have E0 : Hid (EO y4 v11.heap.size 28 3 (.slice ka0 d.nr kx0) d.nr (rgF d.R)) := be.e0.mono H0
      have E1 : Hid (EO y4 v11.heap.size 64 4 (.slice ka1 d.ns kx1) d.ns (seF d.S)) := be.e1.mono H0
      clear hb be H0
      refine hK.out _ _ H (fun _ => ?_)
      clear hK KK
      change wpAnyH _ _ _ _ _ _ _ { tmps := #[_, _, _, _, _, _, _, _, _, _, _, _, _, _, _, _, _, _, _, _, _, _, _, _, _, _, _, _, _, _, _, _, _, _, _, _, _, _, _, _, _, _, _, _, _, _, _, _, _, _, _, _, _, _, _, _, _, _, _, _, _, _, _, _, _, _, _, _, _, _, _, _, _, _, _, _, _, _, _, _, _, _, _, _, _, _, _, _, _, _, _, _, _, _, _, _, _, _, _, _, _, _, _, _, _, _, _, _, _, _, _, _, _, _, _, _, _, _, _, _, _, _, _, _, _, _, _, _, _, _, _, _, _, _, _, _, _, _, _, _, _, _, _, _, _, _, _, _, _, _, _], defers := _ } _
      refine wpAnyH_take (i := 5) (v := .tuple #[.agg #[.slice ka0 d.nr kx0, .slice ka1 d.ns kx1], .int .i64 tl, .int .i64 mk, .int .i64 cd]) rfl (by kernel_rfl) (by kernel_rfl) (by kernel_rfl) (fun _ _ _ h => h) (Or.inl ⟨by rfl, ?_⟩) H ?_
      · intro w' hSw; go_simp
      change wpAnyH _ _ _ _ _ _ _ { tmps := #[_, _, _, _, _, _, _, _, _, _, _, _, _, _, _, _, _, _, _, _, _, _, _, _, _, _, _, _, _, _, _, _, _, _, _, _, _, _, _, _, _, _, _, _, _, _, _, _, _, _, _, _, _, _, _, _, _, _, _, _, _, _, _, _, _, _, _, _, _, _, _, _, _, _, _, _, _, _, _, _, _, _, _, _, _, _, _, _, _, _, _, _, _, _, _, _, _, _, _, _, _, _, _, _, _, _, _, _, _, _, _, _, _, _, _, _, _, _, _, _, _, _, _, _, _, _, _, _, _, _, _, _, _, _, _, _, _, _, _, _, _, _, _, _, _, _, _, _, _, _, _], defers := _ } _
      refine wpAnyH_take (i := 6) (v := .agg #[.slice ka0 d.nr kx0, .slice ka1 d.ns kx1]) rfl (by kernel_rfl) (by kernel_rfl) (by kernel_rfl) (fun _ _ _ h => h) (Or.inl ⟨by rfl, ?_⟩) H ?_
      · intro w' hSw; go_simp
      change wpAnyH _ _ _ _ _ _ _ { tmps := #[_, _, _, _, _, _, _, _, _, _, _, _, _, _, _, _, _, _, _, _, _, _, _, _, _, _, _, _, _, _, _, _, _, _, _, _, _, _, _, _, _, _, _, _, _, _, _, _, _, _, _, _, _, _, _, _, _, _, _, _, _, _, _, _, _, _, _, _, _, _, _, _, _, _, _, _, _, _, _, _, _, _, _, _, _, _, _, _, _, _, _, _, _, _, _, _, _, _, _, _, _, _, _, _, _, _, _, _, _, _, _, _, _, _, _, _, _, _, _, _, _, _, _, _, _, _, _, _, _, _, _, _, _, _, _, _, _, _, _, _, _, _, _, _, _, _, _, _, _, _, _], defers := _ } _
      refine wpAnyH_take (i := 7) (v := .int .i64 tl) rfl (by kernel_rfl) (by kernel_rfl) (by kernel_rfl) (fun _ _ _ h => h) (Or.inl ⟨by rfl, ?_⟩) H ?_
      · intro w' hSw; go_simp
      change wpAnyH _ _ _ _ _ _ _ { tmps := #[_, _, _, _, _, _, _, _, _, _, _, _, _, _, _, _, _, _, _, _, _, _, _, _, _, _, _, _, _, _, _, _, _, _, _, _, _, _, _, _, _, _, _, _, _, _, _, _, _, _, _, _, _, _, _, _, _, _, _, _, _, _, _, _, _, _, _, _, _, _, _, _, _, _, _, _, _, _, _, _, _, _, _, _, _, _, _, _, _, _, _, _, _, _, _, _, _, _, _, _, _, _, _, _, _, _, _, _, _, _, _, _, _, _, _, _, _, _, _, _, _, _, _, _, _, _, _, _, _, _, _, _, _, _, _, _, _, _, _, _, _, _, _, _, _, _, _, _, _, _, _], defers := _ } _
      refine wpAnyH_take (i := 8) (v := .int .i64 mk) rfl (by kernel_rfl) (by kernel_rfl) (by kernel_rfl) (fun _ _ _ h => h) (Or.inl ⟨by rfl, ?_⟩) H ?_
      · intro w' hSw; go_simp
      change wpAnyH _ _ _ _ _ _ _ { tmps := #[_, _, _, _, _, _, _, _, _, _, _, _, _, _, _, _, _, _, _, _, _, _, _, _, _, _, _, _, _, _, _, _, _, _, _, _, _, _, _, _, _, _, _, _, _, _, _, _, _, _, _, _, _, _, _, _, _, _, _, _, _, _, _, _, _, _, _, _, _, _, _, _, _, _, _, _, _, _, _, _, _, _, _, _, _, _, _, _, _, _, _, _, _, _, _, _, _, _, _, _, _, _, _, _, _, _, _, _, _, _, _, _, _, _, _, _, _, _, _, _, _, _, _, _, _, _, _, _, _, _, _, _, _, _, _, _, _, _, _, _, _, _, _, _, _, _, _, _, _, _, _], defers := _ } _
      refine wpAnyH_take (i := 9) (v := .int .i64 cd) rfl (by kernel_rfl) (by kernel_rfl) (by kernel_rfl) (fun _ _ _ h => h) (Or.inl ⟨by rfl, ?_⟩) H ?_
      · intro w' hSw; go_simp
      change wpAnyH _ _ _ _ _ _ _ { tmps := #[_, _, _, _, _, _, _, _, _, _, _, _, _, _, _, _, _, _, _, _, _, _, _, _, _, _, _, _, _, _, _, _, _, _, _, _, _, _, _, _, _, _, _, _, _, _, _, _, _, _, _, _, _, _, _, _, _, _, _, _, _, _, _, _, _, _, _, _, _, _, _, _, _, _, _, _, _, _, _, _, _, _, _, _, _, _, _, _, _, _, _, _, _, _, _, _, _, _, _, _, _, _, _, _, _, _, _, _, _, _, _, _, _, _, _, _, _, _, _, _, _, _, _, _, _, _, _, _, _, _, _, _, _, _, _, _, _, _, _, _, _, _, _, _, _, _, _, _, _, _, _], defers := _ } _
      refine wpAnyH_ready (rs := [11]) (by kernel_rfl) (by simp) ?_
      refine (AllReadyH.cons rfl (fun KK hK => ?_) AllReadyH.nil)
      have t0 := PZ.out.c0
      have t1 := PZ.out.c1
      have f0 := PZ.out.fr 0
      have f1 := PZ.out.fr 1
      go_simp
      replace H : Below v11.heap.size v11 ((y4.setCell ⟨pb, 0, none⟩ (.slice ka0 d.nr kx0)).setCell ⟨pb, 1, none⟩ (.slice ka1 d.ns kx1)) := (H.setCell (by exact Lpb.out) _).setCell (by exact Lpb.out) _
      refine hK.out _ _ H (fun _ => ?_)
      clear hK KK
      change wpAnyH _ _ _ _ _ _ _ { tmps := #[_, _, _, _, _, _, _, _, _, _, _, _, _, _, _, _, _, _, _, _, _, _, _, _, _, _, _, _, _, _, _, _, _, _, _, _, _, _, _, _, _, _, _, _, _, _, _, _, _, _, _, _, _, _, _, _, _, _, _, _, _, _, _, _, _, _, _, _, _, _, _, _, _, _, _, _, _, _, _, _, _, _, _, _, _, _, _, _, _, _, _, _, _, _, _, _, _, _, _, _, _, _, _, _, _, _, _, _, _, _, _, _, _, _, _, _, _, _, _, _, _, _, _, _, _, _, _, _, _, _, _, _, _, _, _, _, _, _, _, _, _, _, _, _, _, _, _, _, _, _, _], defers := _ } _
      refine wpAnyH_take (i := 12) (v := .int .i64 tl) rfl (by kernel_rfl) (by kernel_rfl) (by kernel_rfl) (fun _ _ _ h => h) (Or.inl ⟨by rfl, ?_⟩) H ?_
      · intro w' hSw; go_simp
      change wpAnyH _ _ _ _ _ _ _ { tmps := #[_, _, _, _, _, _, _, _, _, _, _, _, _, _, _, _, _, _, _, _, _, _, _, _, _, _, _, _, _, _, _, _, _, _, _, _, _, _, _, _, _, _, _, _, _, _, _, _, _, _, _, _, _, _, _, _, _, _, _, _, _, _, _, _, _, _, _, _, _, _, _, _, _, _, _, _, _, _, _, _, _, _, _, _, _, _, _, _, _, _, _, _, _, _, _, _, _, _, _, _, _, _, _, _, _, _, _, _, _, _, _, _, _, _, _, _, _, _, _, _, _, _, _, _, _, _, _, _, _, _, _, _, _, _, _, _, _, _, _, _, _, _, _, _, _, _, _, _, _, _, _], defers := _ } _
      refine wpAnyH_take (i := 13) (v := .int .i64 mk) rfl (by kernel_rfl) (by kernel_rfl) (by kernel_rfl) (fun _ _ _ h => h) (Or.inl ⟨by rfl, ?_⟩) H ?_
      · intro w' hSw; go_simp
      change wpAnyH _ _ _ _ _ _ _ { tmps := #[_, _, _, _, _, _, _, _, _, _, _, _, _, _, _, _, _, _, _, _, _, _, _, _, _, _, _, _, _, _, _, _, _, _, _, _, _, _, _, _, _, _, _, _, _, _, _, _, _, _, _, _, _, _, _, _, _, _, _, _, _, _, _, _, _, _, _, _, _, _, _, _, _, _, _, _, _, _, _, _, _, _, _, _, _, _, _, _, _, _, _, _, _, _, _, _, _, _, _, _, _, _, _, _, _, _, _, _, _, _, _, _, _, _, _, _, _, _, _, _, _, _, _, _, _, _, _, _, _, _, _, _, _, _, _, _, _, _, _, _, _, _, _, _, _, _, _, _, _, _, _], defers := _ } _
      refine wpAnyH_take (i := 14) (v := .int .i64 cd) rfl (by kernel_rfl) (by kernel_rfl) (by kernel_rfl) (fun _ _ _ h => h) (Or.inl ⟨by rfl, ?_⟩) H ?_
      · intro w' hSw; go_simp
      change wpAnyH _ _ _ _ _ _ _ { tmps := #[_, _, _, _, _, _, _, _, _, _, _, _, _, _, _, _, _, _, _, _, _, _, _, _, _, _, _, _, _, _, _, _, _, _, _, _, _, _, _, _, _, _, _, _, _, _, _, _, _, _, _, _, _, _, _, _, _, _, _, _, _, _, _, _, _, _, _, _, _, _, _, _, _, _, _, _, _, _, _, _, _, _, _, _, _, _, _, _, _, _, _, _, _, _, _, _, _, _, _, _, _, _, _, _, _, _, _, _, _, _, _, _, _, _, _, _, _, _, _, _, _, _, _, _, _, _, _, _, _, _, _, _, _, _, _, _, _, _, _, _, _, _, _, _, _, _, _, _, _, _, _], defers := _ } _
      refine wpAnyH_done (by kernel_rfl) ?_ _
      refine NoPanic.normal ?_
      have XB : Hid (Box2 ((y4.setCell ⟨pb, 0, none⟩ (.slice ka0 d.nr kx0)).setCell ⟨pb, 1, none⟩ (.slice ka1 d.ns kx1)) pb 34 (.slice ka0 d.nr kx0) (.slice ka1 d.ns kx1)) := (PZ.out.set0 _).set1 _
      have BE : Hid (BankE ((y4.setCell ⟨pb, 0, none⟩ (.slice ka0 d.nr kx0)).setCell ⟨pb, 1, none⟩ (.slice ka1 d.ns kx1)) v11.heap.size d.nr d.ns d (.slice ka0 d.nr kx0) (.slice ka1 d.ns kx1)) := ⟨E0.out.boxA PZ.out (by decide) _ _, E1.out.boxA PZ.out (by decide) _ _, E0.out.notRow E1.out (by decide)⟩
      have HF : Hid (Below v11.heap.size v11 ((y4.setCell ⟨pb, 0, none⟩ (.slice ka0 d.nr kx0)).setCell ⟨pb, 1, none⟩ (.slice ka1 d.ns kx1))) := H
      clear PZ H t0 t1 f0 f1 E0 E1
      change Exit.then _ _ Exit.normal { tmps := #[_, _, _, _, _, _, _, _, _, _, _, _, _, _, _, _, _, _, _, _, _, _, _, _, _, _, _, _, _, _, _, _, _, _, _, _, _, _, _, _, _, _, _, _, _, _, _, _, _, _, _, _, _, _, _, _, _, _, _, _, _, _, _, _, _, _, _, _, _, _, _, _, _, _, _, _, _, _, _, _, _, _, _, _, _, _, _, _, _, _, _, _, _, _, _, _, _, _, _, _, _, _, _, _, _, _, _, _, _, _, _, _, _, _, _, _, _, _, _, _, _, _, _, _, _, _, _, _, _, _, _, _, _, _, _, _, _, _, _, _, _, _, _, _, _, _, _, _, _, _, _], defers := _ } _
      generalize (y4.setCell ⟨pb, 0, none⟩ (.slice ka0 d.nr kx0)).setCell ⟨pb, 1, none⟩ (.slice ka1 d.ns kx1) = z at *
      go_wp2_with fail
      go_meet
      exact ⟨pb, ka0, ka1, kx0, kx1, rfl, rfl, rfl, rfl, XB.out, BE.out, HF.out, Lpb.out⟩
  case rest =>
  obtain ⟨pk, ka0, ka1, kx0, kx1, rfl, rfl, rfl, rfl, xb, be, hb, hge⟩ := hcut
  obtain ⟨vk, hvk⟩ : ∃ va : World, va = wc := ⟨_, rfl⟩
  subst hvk
  have KV : Hid (BankV vk d ka0 ka1) := ⟨be.e0.els, be.e1.els⟩
  have kk0 := xb.c0
  have kk1 := xb.c1
  replace KX : Hid (Below va.heap.size va vk) := KX.out.trans (hb.mono KX.out.size)
  replace PG : Hid (Box2 vk pg 34 (.slice ha0 d.nr hx0) (.slice ha1 d.ns hx1)) := PG.out.below hb
  replace GM : Hid (RowB vk (d.marked 1) ha0 ha1 gg0 gg1) := GM.out.below hb
  clear hb be hge RA RL A1 IY TO TR
  have pw0 := (PW.out.below KX.out).c0
  have pw1 := (PW.out.below KX.out).c1
  go_wp2_with fail
  refine (EQ.out _ _ _ _ _ _ _ _ _ KV.out (W0.out.below KX.out)).mono ?_
  rintro e v13 ⟨rfl, hb⟩
  replace KX : Hid (Below va.heap.size va v13) := KX.out.trans (hb.mono KX.out.size)
  replace PG : Hid (Box2 v13 pg 34 (.slice ha0 d.nr hx0) (.slice ha1 d.ns hx1)) := PG.out.below hb
  replace GM : Hid (RowB v13 (d.marked 1) ha0 ha1 gg0 gg1) := GM.out.below hb
  clear hb
  clear pw0 pw1 kk0 kk1 xb
  have pg0 := PG.out.c0
  have pg1 := PG.out.c1
  have pw0 := (PW.out.below KX.out).c0
  have pw1 := (PW.out.below KX.out).c1
  go_wp2_with fail
  refine (HH.out _ _ _ _ _ GM.out.bankV).mono ?_
  rintro e v14 ⟨rfl, hb⟩
  replace KX : Hid (Below va.heap.size va v14) := KX.out.trans (hb.mono KX.out.size)
  replace PG : Hid (Box2 v14 pg 34 (.slice ha0 d.nr hx0) (.slice ha1 d.ns hx1)) := PG.out.below hb
  replace GM : Hid (RowB v14 (d.marked 1) ha0 ha1 gg0 gg1) := GM.out.below hb
  clear hb
  clear pg0 pg1 pw0 pw1
  have AF : Hid (Below w.heap.size w v14) := AX.out.trans (KX.out.mono AX.out.size)
  clear KX AX PG GM KV
  go_wp2
  go_ret
  exact ⟨rfl, AF.out⟩
end Go.Proofs.YtfhjenohgafjlabDoor
