/-
  Texts of the proof, joined: RunBs.
-/
import Derived.Test.YtpngjkhncfbnpaaDoorV44
import Derived.Test.YtpngjkhncfbnpaaDoorV47
namespace Go.Proofs.YtpngjkhncfbnpaaDoor
open Go.ChangeShapes Go.WideShapes Go.ChangeAt Go.RowKit
set_option linter.unusedVariables false
theorem RunA.lit (w : World) (B g : Nat) (cd : Int) (C : Nat → Int) (h : IE w B (.slice (some ⟨g, 0, none⟩) 0 0) 0 C) : RunA bkZ 0 C cd B (.returned (.tuple #[.agg #[.slice none 0 0, .slice none 0 0], .slice (some ⟨g, 0, none⟩) 0 0, .int .i64 cd])) w := ⟨none, 0, none, 0, _, 0, rfl, ⟨EO.nil _ _ _ _ _, EO.nil _ _ _ _ _, (fun g e => by cases e)⟩, h⟩
theorem FrQ.lower {Q : Nat → Prop} {B B' : Nat} {w : World} {a : Option Addr} (h : FrQ Q B w a) (hB : B' ≤ B) : FrQ Q B' w a := fun p e => (h p e).imp id (fun q => ⟨Nat.le_trans hB q.1, q.2⟩)
theorem FrQ.size {Q : Nat → Prop} {B : Nat} {w w' : World} {a : Option Addr} (h : FrQ Q B w a) (hs : w.heap.size ≤ w'.heap.size) : FrQ Q B w' a := fun p e => (h p e).imp id (fun q => ⟨q.1, Nat.lt_of_lt_of_le q.2 hs⟩)
theorem FrQ.below {Q : Nat → Prop} {B : Nat} {w w' : World} {a : Option Addr} (h : FrQ Q B w a) (hb : Below w.heap.size w w') : FrQ Q B w' a := h.size hb.size
theorem Els.grown {w w' : World} {s : Nat} {a : Option Addr} {n : Nat} {F : Nat → Nat → Value} {o : Option Nat} (h : Els w s a n F) (hs : 0 < s) (hg : w.grownBy w' o) (hn : ∀ p, a = some p → o ≠ some p.block) : Els w' s a n F := fun i hi => by
  obtain ⟨b, off, ha, hc⟩ := h i hi
  exact ⟨b, off, ha, fun j hj => (cellE (hg.block b (strBlock (hc j hj)) (fun e => hn _ ha e.symm))).trans (hc j hj)⟩
def NoSl (F : Nat → Nat → Value) : Prop := ∀ i j a n c, F i j ≠ .slice a n c
theorem noSl_rg (R : Nat → Rg) : NoSl (rgF R) := fun i j a n c => by
  unfold rgF rgV
  split <;> exact fun e => by cases e
theorem noSl_se (S : Nat → Se) : NoSl (seF S) := fun i j a n c => by
  unfold seF seV
  split <;> exact fun e => by cases e
theorem Els.box {w : World} {s : Nat} {a : Option Addr} {n : Nat} {F : Nat → Nat → Value} (h : Els w s a n F) (hF : NoSl F) {p off : Nat} {a' : Option Addr} {n' c' : Nat} (hp : w.cell? ⟨p, off, none⟩ = some (.slice a' n' c')) (x : Value) : Els (w.setCell ⟨p, off, none⟩ x) s a n F := fun i hi => by
  obtain ⟨b, o, ha, hc⟩ := h i hi
  refine ⟨b, o, ha, fun j hj => (World.cell?_setCell_other _ ⟨p, off, none⟩ ⟨b, o + i * s + j, none⟩ _ (fun e => ?_)).trans (hc j hj)⟩
  have h1 := hc j hj
  rw [← e, hp] at h1
  exact hF i j a' n' c' (Option.some.inj h1).symm
theorem BankV.box {w : World} {b : Bk} {a0 a1 : Option Addr} (h : BankV w b a0 a1) {p : Nat} {t : TypeId} {b0 b1 : Option Addr} {m0 m1 d0 d1 : Nat} (hp : Box2 w p t (.slice b0 m0 d0) (.slice b1 m1 d1)) (x y : Value) : BankV ((w.setCell ⟨p, 0, none⟩ x).setCell ⟨p, 1, none⟩ y) b a0 a1 := by
  have h1 : (w.setCell ⟨p, 0, none⟩ x).cell? ⟨p, 1, none⟩ = some (.slice b1 m1 d1) := (hp.set0 x).c1
  exact ⟨(h.1.box (noSl_rg _) hp.c0 x).box (noSl_rg _) h1 y, (h.2.box (noSl_se _) hp.c0 x).box (noSl_se _) h1 y⟩
theorem EO.neBox {w : World} {B : Nat} {e : TypeId} {s : Nat} {v : Value} {n : Nat} {F : Nat → Nat → Value} (h : EO w B e s v n F) {p : Nat} {t : TypeId} {x y : Value} (hp : Box2 w p t x y) (ht : t ≠ e) (g : Nat) (hg : v.ownBlock = some g) : g ≠ p := fun q => by
  obtain ⟨hl, ⟨h1, _⟩ | ⟨g', cap, cur, hv, _, hh, _⟩⟩ := h
  · rw [h1] at hg; cases hg
  · rw [hv] at hg
    cases hg
    obtain ⟨c, hc, _⟩ := hp
    have q2 : g' = p := q
    rw [q2, hc] at hh
    cases hh
    exact ht rfl
theorem EO.box2 {w : World} {B : Nat} {e : TypeId} {s : Nat} {v : Value} {n : Nat} {F : Nat → Nat → Value} (h : EO w B e s v n F) {p : Nat} {t : TypeId} {x y : Value} (hp : Box2 w p t x y) (ht : t ≠ e) (z1 z2 : Value) : EO ((w.setCell ⟨p, 0, none⟩ z1).setCell ⟨p, 1, none⟩ z2) B e s v n F := h.keep (fun g e => by rw [heap_setCell_other _ _ _ _ (h.neBox hp ht g e), heap_setCell_other _ _ _ _ (h.neBox hp ht g e)])
set_option maxRecDepth 100000 in
set_option maxHeartbeats 8000000 in
theorem specRunB_any (a : Option Addr) (n c : Nat) (RQ : Nat → Rqst) (b : Bk) (m : Nat) (C : Nat → Int) (cd : Int) (hD : RunD RQ n b m C cd) (hn : n ≤ maxLen) (w : World) (h : Els w 5 a n (rqF RQ)) :
    Calls Tryd.prog 20 #[.slice a n c] w fun e w' => RunA b m C cd w.heap.size e w' ∧ Below w.heap.size w w' := by
  have HE : Hid (Els w 5 a n (rqF RQ)) := h
  have W0 : Hid (Below w.heap.size w ((w.alloc (.cells #[.slice none 0 0, .slice none 0 0] 46)).alloc (.cells #[] 3))) := ((Below.refl _ _).alloc (Nat.le_refl _) _).alloc (by simp) _
  have X0 : Hid (Box2 ((w.alloc (.cells #[.slice none 0 0, .slice none 0 0] 46)).alloc (.cells #[] 3)) w.heap.size 46 (.slice none 0 0) (.slice none 0 0)) := (Box2.made _ _ _ _).alloc _
  have I0 : Hid (∀ C, IE ((w.alloc (.cells #[.slice none 0 0, .slice none 0 0] 46)).alloc (.cells #[] 3)) w.heap.size (.slice (some ⟨w.heap.size + 1, 0, none⟩) 0 0) 0 C) := fun C => by
    have := IE.lit (w.alloc (.cells #[.slice none 0 0, .slice none 0 0] 46)) w.heap.size (by simp) C
    simp at this
    exact this
  unfold maxLen at hn
  clear h
  rcases hD with ⟨h1, rfl, rfl, rfl, rfl⟩ | ⟨h1, h2, rfl, rfl, rfl, rfl⟩ | ⟨h1, hbad, rfl, rfl, rfl, rfl⟩ | ⟨h1, hok, rfl, hm, rfl, rfl⟩
  · have e1 : (4096 : Int) < (n : Int) := by omega
    go_enter Tryd.func20, Tryd.ntmps20
    go_wp2
    exact ret_cellTT (b := w.heap.size) Tryd.results20 rfl rfl rfl (Box2.loadbk X0.out) ⟨RunA.lit _ _ _ _ _ (I0.out _), W0.out⟩
  · have e1 : ¬ (4096 : Int) < (n : Int) := by omega
    have e2 : (120 : Int) < (n : Int) := by omega
    go_enter Tryd.func20, Tryd.ntmps20
    go_wp2
    exact ret_cellTT (b := w.heap.size) Tryd.results20 rfl rfl rfl (Box2.loadbk X0.out) ⟨RunA.lit _ _ _ _ _ (I0.out _), W0.out⟩
  all_goals
    first
      | (replace hm := hm.symm
         subst hm)
      | skip
    have e1 : ¬ (4096 : Int) < (n : Int) := by omega
    have e2 : ¬ (120 : Int) < (n : Int) := by omega
    have RO : Hid (∀ (q : Rqst) (z : Bool) (w : World), z = okB (toRq q).Ok → Calls Tryd.prog 52 #[.agg #[.int .i64 q.s, .int .i64 q.q, .int .i64 q.v, .int .i64 q.c, .string q.r]] w fun e w' => e = .returned (.bool z) ∧ Below w.heap.size w w') := fun q z w hz => by rw [hz]; exact l08Request_any (toRq q) w
    have X2 : Hid (Box2 (((w.alloc (.cells #[.slice none 0 0, .slice none 0 0] 46)).alloc (.cells #[.slice none 0 0, .slice none 0 0] 46)).alloc (.cells #[] 3)) w.heap.size 46 (.slice none 0 0) (.slice none 0 0)) := ((Box2.made _ _ _ _).alloc _).alloc _
    have P2 : Hid (Box2 (((w.alloc (.cells #[.slice none 0 0, .slice none 0 0] 46)).alloc (.cells #[.slice none 0 0, .slice none 0 0] 46)).alloc (.cells #[] 3)) (w.heap.size + 1) 46 (.slice none 0 0) (.slice none 0 0)) := (Box2.madeAt (by simp) _ _ _).alloc _
    have I2 : Hid (IE (((w.alloc (.cells #[.slice none 0 0, .slice none 0 0] 46)).alloc (.cells #[.slice none 0 0, .slice none 0 0] 46)).alloc (.cells #[] 3)) w.heap.size (.slice (some ⟨w.heap.size + 2, 0, none⟩) 0 0) 0 (told RQ)) := by
      have := IE.lit ((w.alloc (.cells #[.slice none 0 0, .slice none 0 0] 46)).alloc (.cells #[.slice none 0 0, .slice none 0 0] 46)) w.heap.size (by simp; omega) (told RQ)
      simp at this
      exact this
    have A2 : Hid (Below w.heap.size w (((w.alloc (.cells #[.slice none 0 0, .slice none 0 0] 46)).alloc (.cells #[.slice none 0 0, .slice none 0 0] 46)).alloc (.cells #[] 3))) := (((Below.refl _ _).alloc (Nat.le_refl _) _).alloc (by simp) _).alloc (by simp; omega) _
    have V2 : Hid (BankV (((w.alloc (.cells #[.slice none 0 0, .slice none 0 0] 46)).alloc (.cells #[.slice none 0 0, .slice none 0 0] 46)).alloc (.cells #[] 3)) (runK RQ 0) none none) := ⟨fun i hi => absurd hi (Nat.not_lt_zero _), fun i hi => absurd hi (Nat.not_lt_zero _)⟩
    have S2 : Hid (SlP none 0 0) := ⟨fun _ => rfl, .inl rfl, Nat.le_refl _, by unfold maxLen; omega⟩
    clear W0 X0 I0
    go_enter Tryd.func20, Tryd.ntmps20
    go_wp2_with fail
    generalize (((w.alloc (.cells #[.slice none 0 0, .slice none 0 0] 46)).alloc (.cells #[.slice none 0 0, .slice none 0 0] 46)).alloc (.cells #[] 3)) = v at *
    go_loopw [6, 7] (fun cv iv wr => ∃ (k : Nat) (a0 a1 : Option Addr) (c0 c1 : Nat), k ≤ n ∧ iv = .int .i64 (k : Int) ∧ (∀ i, i < k → (toRq (RQ i)).Ok) ∧ IE wr w.heap.size cv k (told RQ) ∧ Box2 wr (w.heap.size + 1) 46 (.slice a0 (runK RQ k).nr c0) (.slice a1 (runK RQ k).ns c1) ∧ BankV wr (runK RQ k) a0 a1 ∧ SlP a0 (runK RQ k).nr c0 ∧ SlP a1 (runK RQ k).ns c1 ∧ Box2 wr w.heap.size 46 (.slice none 0 0) (.slice none 0 0) ∧ Below w.heap.size w wr ∧ (∀ p, a0 = some p → p.block < wr.heap.size ∧ ∀ g, cv.ownBlock = some g → p.block ≠ g) ∧ (∀ p, a1 = some p → p.block < wr.heap.size ∧ ∀ g, cv.ownBlock = some g → p.block ≠ g)) (fun _ iv _ => n - (intOf iv).toNat)
    case atStart => exact ⟨0, none, none, 0, 0, by omega, rfl, fun i hi => absurd hi (by omega), I2.out, P2.out, V2.out, S2.out, S2.out, X2.out, A2.out, (fun p e => by cases e), (fun p e => by cases e)⟩
    case round =>
      clear X2 P2 I2 A2 V2 S2
      obtain ⟨k, a0, a1, c0, c1, hk, rfl, hj, hi, hp, hv, hs0, hs1, hx, hb, hq0, hq1⟩ := hrel
      have HJ : Hid (∀ i, i < k → (toRq (RQ i)).Ok) := hj
      obtain ⟨ac, cc, rfl⟩ := hi.form
      have I2 : Hid (IE wr w.heap.size (.slice ac k cc) k (told RQ)) := hi
      have P2 : Hid (Box2 wr (w.heap.size + 1) 46 (.slice a0 (runK RQ k).nr c0) (.slice a1 (runK RQ k).ns c1)) := hp
      have V2 : Hid (BankV wr (runK RQ k) a0 a1) := hv
      have S0 : Hid (SlP a0 (runK RQ k).nr c0) := hs0
      have S1 : Hid (SlP a1 (runK RQ k).ns c1) := hs1
      have X2 : Hid (Box2 wr w.heap.size 46 (.slice none 0 0) (.slice none 0 0)) := hx
      have A2 : Hid (Below w.heap.size w wr) := hb
      have Q0 : Hid (∀ p, a0 = some p → p.block < wr.heap.size ∧ ∀ g, (Value.slice ac k cc).ownBlock = some g → p.block ≠ g) := hq0
      have Q1 : Hid (∀ p, a1 = some p → p.block < wr.heap.size ∧ ∀ g, (Value.slice ac k cc).ownBlock = some g → p.block ≠ g) := hq1
      clear hj hi hp hv hs0 hs1 hx hb hq0 hq1
      by_cases hlt : k < n
      · obtain ⟨p, off, ha, d0, d1, d2, d3, d4⟩ := (HE.out.below A2.out).rqAt hlt
        subst ha
        have hlt' : (k : Int) < (n : Int) := by omega
        have hk0 : (0 : Int) ≤ (k : Int) := by omega
        go_wp2_with fail
        by_cases hq : (toRq (RQ k)).Ok
        · refine (RO.out (RQ k) true _ (okB_yes hq).symm).mono ?_
          rintro e u ⟨rfl, hb1⟩
          replace I2 : Hid (IE u w.heap.size (.slice ac k cc) k (told RQ)) := EO.below I2.out hb1
          replace P2 : Hid (Box2 u (w.heap.size + 1) 46 (.slice a0 (runK RQ k).nr c0) (.slice a1 (runK RQ k).ns c1)) := P2.out.below hb1
          replace V2 : Hid (BankV u (runK RQ k) a0 a1) := V2.out.below hb1
          replace X2 : Hid (Box2 u w.heap.size 46 (.slice none 0 0) (.slice none 0 0)) := X2.out.below hb1
          replace A2 : Hid (Below w.heap.size w u) := A2.out.trans (hb1.mono A2.out.size)
          have hb1S : Hid (wr.heap.size ≤ u.heap.size) := hb1.size
          have HQ : Hid (toRq (RQ k)).Ok := hq
          have AD : Hid (∀ w : World, BankV w (runK RQ k) a0 a1 → Calls Tryd.prog 53 #[.agg #[.slice a0 (runK RQ k).nr c0, .slice a1 (runK RQ k).ns c1], .agg #[.int .i64 (RQ k).s, .int .i64 (RQ k).q, .int .i64 (RQ k).v, .int .i64 (RQ k).c, .string (RQ k).r]] w fun e w' => RetSt (fun b => b < wr.heap.size ∧ ∀ g, (Value.slice ac k cc).ownBlock = some g → b ≠ g) w.heap.size (runK RQ (k + 1)) (told RQ k) (mark RQ k) e w' ∧ Below w.heap.size w w') := fun w hv => l08Advance_any _ _ _ (toRq (RQ k)) _ _ (runK_ok RQ k HJ.out) HQ.out (runK_is RQ k HJ.out) a0 a1 c0 c1 S0.out S1.out Q0.out Q1.out w hv
          have RQC : Hid (∀ u' : World, Below u.heap.size u u' → u'.cell? ⟨p, off + k * 5, none⟩ = some (.int .i64 (RQ k).s) ∧ u'.cell? ⟨p, off + k * 5 + 1, none⟩ = some (.int .i64 (RQ k).q) ∧ u'.cell? ⟨p, off + k * 5 + 2, none⟩ = some (.int .i64 (RQ k).v) ∧ u'.cell? ⟨p, off + k * 5 + 3, none⟩ = some (.int .i64 (RQ k).c) ∧ u'.cell? ⟨p, off + k * 5 + 4, none⟩ = some (.string (RQ k).r)) := fun u' hb => by
            have q : ∀ {o : Nat} {x : Value}, wr.cell? ⟨p, o, none⟩ = some x → u'.cell? ⟨p, o, none⟩ = some x := fun e => by
              have h1 := (hb1.cell (strBlock e)).trans e
              exact (hb.cell (strBlock h1)).trans h1
            exact ⟨q d0, q d1, q d2, q d3, q d4⟩
          clear hb1 hq d0 d1 d2 d3 d4
          go_wp2_with fail
          go_cut [8, 9] (fun pv cv wx => ∃ (pb : Nat) (j0 j1 : Option Addr) (e0 e1 : Nat), pv = .pointer (some ⟨pb, 0, none⟩) ∧ cv = .int .i64 (told RQ k) ∧ Box2 wx pb 46 (.slice j0 (runK RQ (k + 1)).nr e0) (.slice j1 (runK RQ (k + 1)).ns e1) ∧ BankV wx (runK RQ (k + 1)) j0 j1 ∧ SlP j0 (runK RQ (k + 1)).nr e0 ∧ SlP j1 (runK RQ (k + 1)).ns e1 ∧ Below u.heap.size u wx ∧ u.heap.size ≤ pb ∧ FrQ (fun b => b < wr.heap.size ∧ ∀ g, (Value.slice ac k cc).ownBlock = some g → b ≠ g) u.heap.size wx j0 ∧ FrQ (fun b => b < wr.heap.size ∧ ∀ g, (Value.slice ac k cc).ownBlock = some g → b ≠ g) u.heap.size wx j1)
          case first =>
            have H : Below u.heap.size u u.drew := (Below.refl _ _).drew
            refine wp_region_noPanic ?_
            refine wp_region_held_drew (S := fun w' => Below u.heap.size u w') (by kernel_rfl) H (fun _ => ?_)
            generalize u.drew = y0 at *
            refine wpAnyH_take (i := 0) (v := .agg #[.slice a0 (runK RQ k).nr c0, .slice a1 (runK RQ k).ns c1]) rfl (by kernel_rfl) (by kernel_rfl) (by kernel_rfl) (fun _ _ _ h => h) (Or.inl ⟨by rfl, ?_⟩) H ?_
            · intro w' hSw; have t0 := (P2.out.below hSw).c0; have t1 := (P2.out.below hSw).c1; clear hSw; go_simp
            change wpAnyH _ _ _ _ _ _ _ { tmps := #[_,_,_,_,_,_,_,_,_,_,_,_,_,_,_,_,_,_,_,_,_,_,_,_,_,_,_,_,_,_,_,_,_,_,_,_,_,_,_,_,_,_,_,_,_,_,_,_,_,_,_,_,_,_,_], defers := _ } _
            refine wpAnyH_take (i := 1) (v := .slice (some ⟨p, off, none⟩) n c) rfl (by kernel_rfl) (by kernel_rfl) (by kernel_rfl) (fun _ _ _ h => h) (Or.inl ⟨by rfl, ?_⟩) H ?_
            · intro w' hSw; go_simp
            change wpAnyH _ _ _ _ _ _ _ { tmps := #[_,_,_,_,_,_,_,_,_,_,_,_,_,_,_,_,_,_,_,_,_,_,_,_,_,_,_,_,_,_,_,_,_,_,_,_,_,_,_,_,_,_,_,_,_,_,_,_,_,_,_,_,_,_,_], defers := _ } _
            refine wpAnyH_take (i := 2) (v := .int .i64 (k : Int)) rfl (by kernel_rfl) (by kernel_rfl) (by kernel_rfl) (fun _ _ _ h => h) (Or.inl ⟨by rfl, ?_⟩) H ?_
            · intro w' hSw; go_simp
            change wpAnyH _ _ _ _ _ _ _ { tmps := #[_,_,_,_,_,_,_,_,_,_,_,_,_,_,_,_,_,_,_,_,_,_,_,_,_,_,_,_,_,_,_,_,_,_,_,_,_,_,_,_,_,_,_,_,_,_,_,_,_,_,_,_,_,_,_], defers := _ } _
            refine wpAnyH_take (i := 3) (v := .pointer (some ⟨p, off + k * 5, none⟩)) rfl (by kernel_rfl) (by kernel_rfl) (by kernel_rfl) (fun _ _ _ h => h) (Or.inl ⟨by rfl, ?_⟩) H ?_
            · intro w' hSw; go_simp
            change wpAnyH _ _ _ _ _ _ _ { tmps := #[_,_,_,_,_,_,_,_,_,_,_,_,_,_,_,_,_,_,_,_,_,_,_,_,_,_,_,_,_,_,_,_,_,_,_,_,_,_,_,_,_,_,_,_,_,_,_,_,_,_,_,_,_,_,_], defers := _ } _
            refine wpAnyH_take (i := 4) (v := .agg #[.int .i64 (RQ k).s, .int .i64 (RQ k).q, .int .i64 (RQ k).v, .int .i64 (RQ k).c, .string (RQ k).r]) rfl (by kernel_rfl) (by kernel_rfl) (by kernel_rfl) (fun _ _ _ h => h) (Or.inl ⟨by rfl, ?_⟩) H ?_
            · intro w' hSw; obtain ⟨r0, r1, r2, r3, r4⟩ := RQC.out _ hSw; clear hSw; go_simp
            change wpAnyH _ _ _ _ _ _ _ { tmps := #[_,_,_,_,_,_,_,_,_,_,_,_,_,_,_,_,_,_,_,_,_,_,_,_,_,_,_,_,_,_,_,_,_,_,_,_,_,_,_,_,_,_,_,_,_,_,_,_,_,_,_,_,_,_,_], defers := _ } _
            refine wpAnyH_ready (rs := [5, 10]) (by kernel_rfl) (by simp) ?_
            refine (AllReadyH.cons rfl (fun KK hK => ?_) (AllReadyH.cons rfl (fun KK hK => ?_) AllReadyH.nil))
            · skip
              go_simp
              refine (AD.out _ (V2.out.below H)).mono ?_
              rintro e y1 ⟨⟨j0, e0, j1, e1, rfl, bn, sj0, sj1, fj0, fj1⟩, hb⟩
              have H0 : Hid (u.heap.size ≤ y0.heap.size) := H.size
              replace H : Below u.heap.size u y1 := H.trans (hb.mono H.size)
              have BN : Hid (BankV y1 (runK RQ (k + 1)) j0 j1) := bn
              have FJ0 : Hid (FrQ (fun b => b < wr.heap.size ∧ ∀ g, (Value.slice ac k cc).ownBlock = some g → b ≠ g) u.heap.size y1 j0) := fj0.lower H0.out
              have FJ1 : Hid (FrQ (fun b => b < wr.heap.size ∧ ∀ g, (Value.slice ac k cc).ownBlock = some g → b ≠ g) u.heap.size y1 j1) := fj1.lower H0.out
              have SJ0 : Hid (SlP j0 (runK RQ (k + 1)).nr e0) := sj0
              have SJ1 : Hid (SlP j1 (runK RQ (k + 1)).ns e1) := sj1
              clear hb bn sj0 sj1 fj0 fj1 H0
              refine hK.out _ _ H (fun _ => ?_)
              clear hK KK
              change wpAnyH _ _ _ _ _ _ _ { tmps := #[_,_,_,_,_,_,_,_,_,_,_,_,_,_,_,_,_,_,_,_,_,_,_,_,_,_,_,_,_,_,_,_,_,_,_,_,_,_,_,_,_,_,_,_,_,_,_,_,_,_,_,_,_,_,_], defers := _ } _
              refine wpAnyH_take (i := 6) (v := .tuple #[.agg #[.slice j0 (runK RQ (k + 1)).nr e0, .slice j1 (runK RQ (k + 1)).ns e1], .int .i64 (told RQ k), .int .i64 (mark RQ k)]) rfl (by kernel_rfl) (by kernel_rfl) (by kernel_rfl) (fun _ _ _ h => h) (Or.inl ⟨by rfl, ?_⟩) H ?_
              · intro w' hSw; go_simp
              change wpAnyH _ _ _ _ _ _ _ { tmps := #[_,_,_,_,_,_,_,_,_,_,_,_,_,_,_,_,_,_,_,_,_,_,_,_,_,_,_,_,_,_,_,_,_,_,_,_,_,_,_,_,_,_,_,_,_,_,_,_,_,_,_,_,_,_,_], defers := _ } _
              refine wpAnyH_take (i := 7) (v := .agg #[.slice j0 (runK RQ (k + 1)).nr e0, .slice j1 (runK RQ (k + 1)).ns e1]) rfl (by kernel_rfl) (by kernel_rfl) (by kernel_rfl) (fun _ _ _ h => h) (Or.inl ⟨by rfl, ?_⟩) H ?_
              · intro w' hSw; go_simp
              change wpAnyH _ _ _ _ _ _ _ { tmps := #[_,_,_,_,_,_,_,_,_,_,_,_,_,_,_,_,_,_,_,_,_,_,_,_,_,_,_,_,_,_,_,_,_,_,_,_,_,_,_,_,_,_,_,_,_,_,_,_,_,_,_,_,_,_,_], defers := _ } _
              refine wpAnyH_take (i := 8) (v := .int .i64 (told RQ k)) rfl (by kernel_rfl) (by kernel_rfl) (by kernel_rfl) (fun _ _ _ h => h) (Or.inl ⟨by rfl, ?_⟩) H ?_
              · intro w' hSw; go_simp
              change wpAnyH _ _ _ _ _ _ _ { tmps := #[_,_,_,_,_,_,_,_,_,_,_,_,_,_,_,_,_,_,_,_,_,_,_,_,_,_,_,_,_,_,_,_,_,_,_,_,_,_,_,_,_,_,_,_,_,_,_,_,_,_,_,_,_,_,_], defers := _ } _
              refine wpAnyH_take (i := 9) (v := .int .i64 (mark RQ k)) rfl (by kernel_rfl) (by kernel_rfl) (by kernel_rfl) (fun _ _ _ h => h) (Or.inl ⟨by rfl, ?_⟩) H ?_
              · intro w' hSw; go_simp
              change wpAnyH _ _ _ _ _ _ _ { tmps := #[_,_,_,_,_,_,_,_,_,_,_,_,_,_,_,_,_,_,_,_,_,_,_,_,_,_,_,_,_,_,_,_,_,_,_,_,_,_,_,_,_,_,_,_,_,_,_,_,_,_,_,_,_,_,_], defers := _ } _
              refine wpAnyH_ready (rs := [10]) (by kernel_rfl) (by simp) ?_
              refine (AllReadyH.cons rfl (fun KK hK => ?_) AllReadyH.nil)
              go_simp
              have hb : Below y1.heap.size y1 (y1.alloc (.cells #[.slice none 0 0, .slice none 0 0] 46)) := (Below.refl _ _).alloc (Nat.le_refl _) _
              have PZ : Hid (Box2 (y1.alloc (.cells #[.slice none 0 0, .slice none 0 0] 46)) y1.heap.size 46 (.slice none 0 0) (.slice none 0 0)) := Box2.madeAt rfl _ _ _
              have Lpb : Hid (u.heap.size ≤ y1.heap.size) := H.size
              replace BN : Hid (BankV (y1.alloc (.cells #[.slice none 0 0, .slice none 0 0] 46)) (runK RQ (k + 1)) j0 j1) := BN.out.below hb
              replace FJ0 : Hid (FrQ (fun b => b < wr.heap.size ∧ ∀ g, (Value.slice ac k cc).ownBlock = some g → b ≠ g) u.heap.size (y1.alloc (.cells #[.slice none 0 0, .slice none 0 0] 46)) j0) := FJ0.out.below hb
              replace FJ1 : Hid (FrQ (fun b => b < wr.heap.size ∧ ∀ g, (Value.slice ac k cc).ownBlock = some g → b ≠ g) u.heap.size (y1.alloc (.cells #[.slice none 0 0, .slice none 0 0] 46)) j1) := FJ1.out.below hb
              replace H : Below u.heap.size u (y1.alloc (.cells #[.slice none 0 0, .slice none 0 0] 46)) := H.trans (hb.mono H.size)
              clear hb
              refine hK.out _ _ H (fun _ => ?_)
              clear hK KK
              generalize (y1.alloc (.cells #[.slice none 0 0, .slice none 0 0] 46)) = y2 at *
              generalize y1.heap.size = pb at *
              change wpAnyH _ _ _ _ _ _ _ { tmps := #[_,_,_,_,_,_,_,_,_,_,_,_,_,_,_,_,_,_,_,_,_,_,_,_,_,_,_,_,_,_,_,_,_,_,_,_,_,_,_,_,_,_,_,_,_,_,_,_,_,_,_,_,_,_,_], defers := _ } _
              refine wpAnyH_ready (rs := [11]) (by kernel_rfl) (by simp) ?_
              refine (AllReadyH.cons rfl (fun KK hK => ?_) AllReadyH.nil)
              have t0 := PZ.out.c0
              have t1 := PZ.out.c1
              have f0 := PZ.out.fr 0
              have f1 := PZ.out.fr 1
              go_simp
              replace H : Below u.heap.size u ((y2.setCell ⟨pb, 0, none⟩ (.slice j0 (runK RQ (k + 1)).nr e0)).setCell ⟨pb, 1, none⟩ (.slice j1 (runK RQ (k + 1)).ns e1)) := (H.setCell (by exact Lpb.out) _).setCell (by exact Lpb.out) _
              refine hK.out _ _ H (fun _ => ?_)
              clear hK KK
              change wpAnyH _ _ _ _ _ _ _ { tmps := #[_,_,_,_,_,_,_,_,_,_,_,_,_,_,_,_,_,_,_,_,_,_,_,_,_,_,_,_,_,_,_,_,_,_,_,_,_,_,_,_,_,_,_,_,_,_,_,_,_,_,_,_,_,_,_], defers := _ } _
              refine wpAnyH_take (i := 12) (v := .int .i64 (told RQ k)) rfl (by kernel_rfl) (by kernel_rfl) (by kernel_rfl) (fun _ _ _ h => h) (Or.inl ⟨by rfl, ?_⟩) H ?_
              · intro w' hSw; go_simp
              change wpAnyH _ _ _ _ _ _ _ { tmps := #[_,_,_,_,_,_,_,_,_,_,_,_,_,_,_,_,_,_,_,_,_,_,_,_,_,_,_,_,_,_,_,_,_,_,_,_,_,_,_,_,_,_,_,_,_,_,_,_,_,_,_,_,_,_,_], defers := _ } _
              refine wpAnyH_take (i := 13) (v := .int .i64 (mark RQ k)) rfl (by kernel_rfl) (by kernel_rfl) (by kernel_rfl) (fun _ _ _ h => h) (Or.inl ⟨by rfl, ?_⟩) H ?_
              · intro w' hSw; go_simp
              change wpAnyH _ _ _ _ _ _ _ { tmps := #[_,_,_,_,_,_,_,_,_,_,_,_,_,_,_,_,_,_,_,_,_,_,_,_,_,_,_,_,_,_,_,_,_,_,_,_,_,_,_,_,_,_,_,_,_,_,_,_,_,_,_,_,_,_,_], defers := _ } _
              refine wpAnyH_done (by kernel_rfl) ?_ _
              refine NoPanic.normal ?_
              have XB : Hid (Box2 ((y2.setCell ⟨pb, 0, none⟩ (.slice j0 (runK RQ (k + 1)).nr e0)).setCell ⟨pb, 1, none⟩ (.slice j1 (runK RQ (k + 1)).ns e1)) pb 46 (.slice j0 (runK RQ (k + 1)).nr e0) (.slice j1 (runK RQ (k + 1)).ns e1)) := (PZ.out.set0 _).set1 _
              have VB : Hid (BankV ((y2.setCell ⟨pb, 0, none⟩ (.slice j0 (runK RQ (k + 1)).nr e0)).setCell ⟨pb, 1, none⟩ (.slice j1 (runK RQ (k + 1)).ns e1)) (runK RQ (k + 1)) j0 j1) := BN.out.box PZ.out _ _
              have HF : Hid (Below u.heap.size u ((y2.setCell ⟨pb, 0, none⟩ (.slice j0 (runK RQ (k + 1)).nr e0)).setCell ⟨pb, 1, none⟩ (.slice j1 (runK RQ (k + 1)).ns e1))) := H
              replace FJ0 := FJ0.out.size (w' := (y2.setCell ⟨pb, 0, none⟩ (.slice j0 (runK RQ (k + 1)).nr e0)).setCell ⟨pb, 1, none⟩ (.slice j1 (runK RQ (k + 1)).ns e1)) (by simp)
              replace FJ1 := FJ1.out.size (w' := (y2.setCell ⟨pb, 0, none⟩ (.slice j0 (runK RQ (k + 1)).nr e0)).setCell ⟨pb, 1, none⟩ (.slice j1 (runK RQ (k + 1)).ns e1)) (by simp)
              clear PZ H t0 t1 f0 f1 BN
              change Exit.then _ _ Exit.normal { tmps := #[_, _, _, _, _, _, _, _, _, _, _, _, _, _, _, _, _, _, _, _, _, _, _, _, _, _, _, _, _, _, _, _, _, _, _, _, _, _, _, _, _, _, _, _, _, _, _, _, _, _, _, _, _, _, _], defers := _ } _
              generalize (y2.setCell ⟨pb, 0, none⟩ (.slice j0 (runK RQ (k + 1)).nr e0)).setCell ⟨pb, 1, none⟩ (.slice j1 (runK RQ (k + 1)).ns e1) = z at *
              go_wp2_with fail
              go_meet
              exact ⟨pb, j0, j1, e0, e1, rfl, rfl, XB.out, VB.out, SJ0.out, SJ1.out, HF.out, Lpb.out, FJ0, FJ1⟩
            · skip
              go_simp
              have hb : Below y0.heap.size y0 (y0.alloc (.cells #[.slice none 0 0, .slice none 0 0] 46)) := (Below.refl _ _).alloc (Nat.le_refl _) _
              have PZ : Hid (Box2 (y0.alloc (.cells #[.slice none 0 0, .slice none 0 0] 46)) y0.heap.size 46 (.slice none 0 0) (.slice none 0 0)) := Box2.madeAt rfl _ _ _
              have Lpb : Hid (u.heap.size ≤ y0.heap.size) := H.size
              replace H : Below u.heap.size u (y0.alloc (.cells #[.slice none 0 0, .slice none 0 0] 46)) := H.trans (hb.mono H.size)
              clear hb
              refine hK.out _ _ H (fun _ => ?_)
              clear hK KK
              generalize (y0.alloc (.cells #[.slice none 0 0, .slice none 0 0] 46)) = y1 at *
              generalize y0.heap.size = pb at *
              change wpAnyH _ _ _ _ _ _ _ { tmps := #[_,_,_,_,_,_,_,_,_,_,_,_,_,_,_,_,_,_,_,_,_,_,_,_,_,_,_,_,_,_,_,_,_,_,_,_,_,_,_,_,_,_,_,_,_,_,_,_,_,_,_,_,_,_,_], defers := _ } _
              refine wpAnyH_ready (rs := [5]) (by kernel_rfl) (by simp) ?_
              refine (AllReadyH.cons rfl (fun KK hK => ?_) AllReadyH.nil)
              go_simp
              refine (AD.out _ (V2.out.below H)).mono ?_
              rintro e y2 ⟨⟨j0, e0, j1, e1, rfl, bn, sj0, sj1, fj0, fj1⟩, hb⟩
              replace PZ : Hid (Box2 y2 pb 46 (.slice none 0 0) (.slice none 0 0)) := PZ.out.below hb
              have H0 : Hid (u.heap.size ≤ y1.heap.size) := H.size
              replace H : Below u.heap.size u y2 := H.trans (hb.mono H.size)
              have BN : Hid (BankV y2 (runK RQ (k + 1)) j0 j1) := bn
              have FJ0 : Hid (FrQ (fun b => b < wr.heap.size ∧ ∀ g, (Value.slice ac k cc).ownBlock = some g → b ≠ g) u.heap.size y2 j0) := fj0.lower H0.out
              have FJ1 : Hid (FrQ (fun b => b < wr.heap.size ∧ ∀ g, (Value.slice ac k cc).ownBlock = some g → b ≠ g) u.heap.size y2 j1) := fj1.lower H0.out
              have SJ0 : Hid (SlP j0 (runK RQ (k + 1)).nr e0) := sj0
              have SJ1 : Hid (SlP j1 (runK RQ (k + 1)).ns e1) := sj1
              clear hb bn sj0 sj1 fj0 fj1 H0
              refine hK.out _ _ H (fun _ => ?_)
              clear hK KK
              change wpAnyH _ _ _ _ _ _ _ { tmps := #[_,_,_,_,_,_,_,_,_,_,_,_,_,_,_,_,_,_,_,_,_,_,_,_,_,_,_,_,_,_,_,_,_,_,_,_,_,_,_,_,_,_,_,_,_,_,_,_,_,_,_,_,_,_,_], defers := _ } _
              refine wpAnyH_take (i := 6) (v := .tuple #[.agg #[.slice j0 (runK RQ (k + 1)).nr e0, .slice j1 (runK RQ (k + 1)).ns e1], .int .i64 (told RQ k), .int .i64 (mark RQ k)]) rfl (by kernel_rfl) (by kernel_rfl) (by kernel_rfl) (fun _ _ _ h => h) (Or.inl ⟨by rfl, ?_⟩) H ?_
              · intro w' hSw; go_simp
              change wpAnyH _ _ _ _ _ _ _ { tmps := #[_,_,_,_,_,_,_,_,_,_,_,_,_,_,_,_,_,_,_,_,_,_,_,_,_,_,_,_,_,_,_,_,_,_,_,_,_,_,_,_,_,_,_,_,_,_,_,_,_,_,_,_,_,_,_], defers := _ } _
              refine wpAnyH_take (i := 7) (v := .agg #[.slice j0 (runK RQ (k + 1)).nr e0, .slice j1 (runK RQ (k + 1)).ns e1]) rfl (by kernel_rfl) (by kernel_rfl) (by kernel_rfl) (fun _ _ _ h => h) (Or.inl ⟨by rfl, ?_⟩) H ?_
              · intro w' hSw; go_simp
              change wpAnyH _ _ _ _ _ _ _ { tmps := #[_,_,_,_,_,_,_,_,_,_,_,_,_,_,_,_,_,_,_,_,_,_,_,_,_,_,_,_,_,_,_,_,_,_,_,_,_,_,_,_,_,_,_,_,_,_,_,_,_,_,_,_,_,_,_], defers := _ } _
              refine wpAnyH_take (i := 8) (v := .int .i64 (told RQ k)) rfl (by kernel_rfl) (by kernel_rfl) (by kernel_rfl) (fun _ _ _ h => h) (Or.inl ⟨by rfl, ?_⟩) H ?_
              · intro w' hSw; go_simp
              change wpAnyH _ _ _ _ _ _ _ { tmps := #[_,_,_,_,_,_,_,_,_,_,_,_,_,_,_,_,_,_,_,_,_,_,_,_,_,_,_,_,_,_,_,_,_,_,_,_,_,_,_,_,_,_,_,_,_,_,_,_,_,_,_,_,_,_,_], defers := _ } _
              refine wpAnyH_take (i := 9) (v := .int .i64 (mark RQ k)) rfl (by kernel_rfl) (by kernel_rfl) (by kernel_rfl) (fun _ _ _ h => h) (Or.inl ⟨by rfl, ?_⟩) H ?_
              · intro w' hSw; go_simp
              change wpAnyH _ _ _ _ _ _ _ { tmps := #[_,_,_,_,_,_,_,_,_,_,_,_,_,_,_,_,_,_,_,_,_,_,_,_,_,_,_,_,_,_,_,_,_,_,_,_,_,_,_,_,_,_,_,_,_,_,_,_,_,_,_,_,_,_,_], defers := _ } _
              refine wpAnyH_ready (rs := [11]) (by kernel_rfl) (by simp) ?_
              refine (AllReadyH.cons rfl (fun KK hK => ?_) AllReadyH.nil)
              have t0 := PZ.out.c0
              have t1 := PZ.out.c1
              have f0 := PZ.out.fr 0
              have f1 := PZ.out.fr 1
              go_simp
              replace H : Below u.heap.size u ((y2.setCell ⟨pb, 0, none⟩ (.slice j0 (runK RQ (k + 1)).nr e0)).setCell ⟨pb, 1, none⟩ (.slice j1 (runK RQ (k + 1)).ns e1)) := (H.setCell (by exact Lpb.out) _).setCell (by exact Lpb.out) _
              refine hK.out _ _ H (fun _ => ?_)
              clear hK KK
              change wpAnyH _ _ _ _ _ _ _ { tmps := #[_,_,_,_,_,_,_,_,_,_,_,_,_,_,_,_,_,_,_,_,_,_,_,_,_,_,_,_,_,_,_,_,_,_,_,_,_,_,_,_,_,_,_,_,_,_,_,_,_,_,_,_,_,_,_], defers := _ } _
              refine wpAnyH_take (i := 12) (v := .int .i64 (told RQ k)) rfl (by kernel_rfl) (by kernel_rfl) (by kernel_rfl) (fun _ _ _ h => h) (Or.inl ⟨by rfl, ?_⟩) H ?_
              · intro w' hSw; go_simp
              change wpAnyH _ _ _ _ _ _ _ { tmps := #[_,_,_,_,_,_,_,_,_,_,_,_,_,_,_,_,_,_,_,_,_,_,_,_,_,_,_,_,_,_,_,_,_,_,_,_,_,_,_,_,_,_,_,_,_,_,_,_,_,_,_,_,_,_,_], defers := _ } _
              refine wpAnyH_take (i := 13) (v := .int .i64 (mark RQ k)) rfl (by kernel_rfl) (by kernel_rfl) (by kernel_rfl) (fun _ _ _ h => h) (Or.inl ⟨by rfl, ?_⟩) H ?_
              · intro w' hSw; go_simp
              change wpAnyH _ _ _ _ _ _ _ { tmps := #[_,_,_,_,_,_,_,_,_,_,_,_,_,_,_,_,_,_,_,_,_,_,_,_,_,_,_,_,_,_,_,_,_,_,_,_,_,_,_,_,_,_,_,_,_,_,_,_,_,_,_,_,_,_,_], defers := _ } _
              refine wpAnyH_done (by kernel_rfl) ?_ _
              refine NoPanic.normal ?_
              have XB : Hid (Box2 ((y2.setCell ⟨pb, 0, none⟩ (.slice j0 (runK RQ (k + 1)).nr e0)).setCell ⟨pb, 1, none⟩ (.slice j1 (runK RQ (k + 1)).ns e1)) pb 46 (.slice j0 (runK RQ (k + 1)).nr e0) (.slice j1 (runK RQ (k + 1)).ns e1)) := (PZ.out.set0 _).set1 _
              have VB : Hid (BankV ((y2.setCell ⟨pb, 0, none⟩ (.slice j0 (runK RQ (k + 1)).nr e0)).setCell ⟨pb, 1, none⟩ (.slice j1 (runK RQ (k + 1)).ns e1)) (runK RQ (k + 1)) j0 j1) := BN.out.box PZ.out _ _
              have HF : Hid (Below u.heap.size u ((y2.setCell ⟨pb, 0, none⟩ (.slice j0 (runK RQ (k + 1)).nr e0)).setCell ⟨pb, 1, none⟩ (.slice j1 (runK RQ (k + 1)).ns e1))) := H
              replace FJ0 := FJ0.out.size (w' := (y2.setCell ⟨pb, 0, none⟩ (.slice j0 (runK RQ (k + 1)).nr e0)).setCell ⟨pb, 1, none⟩ (.slice j1 (runK RQ (k + 1)).ns e1)) (by simp)
              replace FJ1 := FJ1.out.size (w' := (y2.setCell ⟨pb, 0, none⟩ (.slice j0 (runK RQ (k + 1)).nr e0)).setCell ⟨pb, 1, none⟩ (.slice j1 (runK RQ (k + 1)).ns e1)) (by simp)
              clear PZ H t0 t1 f0 f1 BN
              change Exit.then _ _ Exit.normal { tmps := #[_, _, _, _, _, _, _, _, _, _, _, _, _, _, _, _, _, _, _, _, _, _, _, _, _, _, _, _, _, _, _, _, _, _, _, _, _, _, _, _, _, _, _, _, _, _, _, _, _, _, _, _, _, _, _], defers := _ } _
              generalize (y2.setCell ⟨pb, 0, none⟩ (.slice j0 (runK RQ (k + 1)).nr e0)).setCell ⟨pb, 1, none⟩ (.slice j1 (runK RQ (k + 1)).ns e1) = z at *
              go_wp2_with fail
              go_meet
              exact ⟨pb, j0, j1, e0, e1, rfl, rfl, XB.out, VB.out, SJ0.out, SJ1.out, HF.out, Lpb.out, FJ0, FJ1⟩
          case rest =>
          obtain ⟨pb, j0, j1, e0, e1, rfl, rfl, xb, vb, sj0, sj1, hb, hge, fj0, fj1⟩ := hcut
          have I3 := EO.below I2.out hb
          have P3 := P2.out.below hb
          have X3 := X2.out.below hb
          have A3 := A2.out.trans (hb.mono A2.out.size)
          have hne : pb ≠ w.heap.size + 1 := by have := P2.out.lt; omega
          have b0 := xb.c0
          have b1 := xb.c1
          have p0 := P3.c0
          have p1 := P3.c1
          have f0 := P3.fr 0
          have f1 := P3.fr 1
          have O4 : OnlyB (w.heap.size + 1) wc ((wc.setCell ⟨w.heap.size + 1, 0, none⟩ (.slice j0 (runK RQ (k + 1)).nr e0)).setCell ⟨w.heap.size + 1, 1, none⟩ (.slice j1 (runK RQ (k + 1)).ns e1)) := ((OnlyB.refl _ wc).setCell 0 _).setCell 1 _
          have hb4 : Below ((wc.setCell ⟨w.heap.size + 1, 0, none⟩ (.slice j0 (runK RQ (k + 1)).nr e0)).setCell ⟨w.heap.size + 1, 1, none⟩ (.slice j1 (runK RQ (k + 1)).ns e1)).heap.size ((wc.setCell ⟨w.heap.size + 1, 0, none⟩ (.slice j0 (runK RQ (k + 1)).nr e0)).setCell ⟨w.heap.size + 1, 1, none⟩ (.slice j1 (runK RQ (k + 1)).ns e1)) (((wc.setCell ⟨w.heap.size + 1, 0, none⟩ (.slice j0 (runK RQ (k + 1)).nr e0)).setCell ⟨w.heap.size + 1, 1, none⟩ (.slice j1 (runK RQ (k + 1)).ns e1)).alloc (.cells #[.int .i64 (told RQ k)] 3)) := (Below.refl _ _).alloc (Nat.le_refl _) _
          have P4 : Hid (Box2 (((wc.setCell ⟨w.heap.size + 1, 0, none⟩ (.slice j0 (runK RQ (k + 1)).nr e0)).setCell ⟨w.heap.size + 1, 1, none⟩ (.slice j1 (runK RQ (k + 1)).ns e1)).alloc (.cells #[.int .i64 (told RQ k)] 3)) (w.heap.size + 1) 46 (.slice j0 (runK RQ (k + 1)).nr e0) (.slice j1 (runK RQ (k + 1)).ns e1)) := ((P3.set0 _).set1 _).alloc _
          have V4 : Hid (BankV (((wc.setCell ⟨w.heap.size + 1, 0, none⟩ (.slice j0 (runK RQ (k + 1)).nr e0)).setCell ⟨w.heap.size + 1, 1, none⟩ (.slice j1 (runK RQ (k + 1)).ns e1)).alloc (.cells #[.int .i64 (told RQ k)] 3)) (runK RQ (k + 1)) j0 j1) := (vb.box P3 _ _).below hb4
          have X4 : Hid (Box2 (((wc.setCell ⟨w.heap.size + 1, 0, none⟩ (.slice j0 (runK RQ (k + 1)).nr e0)).setCell ⟨w.heap.size + 1, 1, none⟩ (.slice j1 (runK RQ (k + 1)).ns e1)).alloc (.cells #[.int .i64 (told RQ k)] 3)) w.heap.size 46 (.slice none 0 0) (.slice none 0 0)) := (X3.onlyB O4 (by omega)).alloc _
          have A4 : Hid (Below w.heap.size w (((wc.setCell ⟨w.heap.size + 1, 0, none⟩ (.slice j0 (runK RQ (k + 1)).nr e0)).setCell ⟨w.heap.size + 1, 1, none⟩ (.slice j1 (runK RQ (k + 1)).ns e1)).alloc (.cells #[.int .i64 (told RQ k)] 3))) := (A3.trans (O4.toBelow (by omega) A3.size)).alloc (by have := A3.size; simp; omega) _
          have I4 : IE (((wc.setCell ⟨w.heap.size + 1, 0, none⟩ (.slice j0 (runK RQ (k + 1)).nr e0)).setCell ⟨w.heap.size + 1, 1, none⟩ (.slice j1 (runK RQ (k + 1)).ns e1)).alloc (.cells #[.int .i64 (told RQ k)] 3)) w.heap.size (.slice ac k cc) k (told RQ) := EO.below (EO.box2 I3 P3 (by decide) _ _) hb4
          obtain ⟨v', w5, hrun, ho, hgr, hloc⟩ := IE.app (((wc.setCell ⟨w.heap.size + 1, 0, none⟩ (.slice j0 (runK RQ (k + 1)).nr e0)).setCell ⟨w.heap.size + 1, 1, none⟩ (.slice j1 (runK RQ (k + 1)).ns e1)).alloc (.cells #[.int .i64 (told RQ k)] 3)) w.heap.size (.slice ac k cc) k wc.heap.size (told RQ) (told RQ k) A4.out.size (by omega) I4 ((World.cell?_alloc_at (w := ((wc.setCell ⟨w.heap.size + 1, 0, none⟩ (.slice j0 (runK RQ (k + 1)).nr e0)).setCell ⟨w.heap.size + 1, 1, none⟩ (.slice j1 (runK RQ (k + 1)).ns e1))) #[.int .i64 (told RQ k)] _ wc.heap.size 0 (by simp)).trans rfl)
          have I5 : Hid (IE w5 w.heap.size v' (k + 1) (told RQ)) := IE.congr ho (fun i hi => by unfold updE; by_cases e : i = k <;> simp [e])
          have kp : ∀ {q : Nat} {x y : Value}, Box2 (((wc.setCell ⟨w.heap.size + 1, 0, none⟩ (.slice j0 (runK RQ (k + 1)).nr e0)).setCell ⟨w.heap.size + 1, 1, none⟩ (.slice j1 (runK RQ (k + 1)).ns e1)).alloc (.cells #[.int .i64 (told RQ k)] 3)) q 46 x y → Box2 w5 q 46 x y := fun hq => hq.ofBlock (hgr.block _ hq.lt (fun e => absurd rfl (EO.neBox I4 hq (by decide) _ e.symm)))
          have P5 : Hid (Box2 w5 (w.heap.size + 1) 46 (.slice j0 (runK RQ (k + 1)).nr e0) (.slice j1 (runK RQ (k + 1)).ns e1)) := kp P4.out
          have X5 : Hid (Box2 w5 w.heap.size 46 (.slice none 0 0) (.slice none 0 0)) := kp X4.out
          have A5 : Hid (Below w.heap.size w w5) := A4.out.grown hgr A4.out.size (fun g e => (EO.ge I4 g e).1)
          have nq : ∀ (j : Option Addr), FrQ (fun b => b < wr.heap.size ∧ ∀ g, (Value.slice ac k cc).ownBlock = some g → b ≠ g) u.heap.size wc j → ∀ p, j = some p → p.block < (((wc.setCell ⟨w.heap.size + 1, 0, none⟩ (.slice j0 (runK RQ (k + 1)).nr e0)).setCell ⟨w.heap.size + 1, 1, none⟩ (.slice j1 (runK RQ (k + 1)).ns e1)).alloc (.cells #[.int .i64 (told RQ k)] 3)).heap.size ∧ ∀ g, (Value.slice ac k cc).ownBlock = some g → p.block ≠ g := fun j fj p e => by
            have hs4 : wc.heap.size ≤ (((wc.setCell ⟨w.heap.size + 1, 0, none⟩ (.slice j0 (runK RQ (k + 1)).nr e0)).setCell ⟨w.heap.size + 1, 1, none⟩ (.slice j1 (runK RQ (k + 1)).ns e1)).alloc (.cells #[.int .i64 (told RQ k)] 3)).heap.size := by simp
            rcases fj p e with ⟨h1, h2⟩ | ⟨h1, h2⟩
            · exact ⟨by have := hb.size; have := hb1S.out; omega, h2⟩
            · exact ⟨by omega, fun g eg => by have := (EO.ge I2.out g eg).2; omega⟩
          have V5 : Hid (BankV w5 (runK RQ (k + 1)) j0 j1) := ⟨V4.out.1.grown (by omega) hgr (fun p e eo => (nq j0 fj0 p e).2 _ eo rfl), V4.out.2.grown (by omega) hgr (fun p e eo => (nq j1 fj1 p e).2 _ eo rfl)⟩
          have nq5 : ∀ (j : Option Addr), FrQ (fun b => b < wr.heap.size ∧ ∀ g, (Value.slice ac k cc).ownBlock = some g → b ≠ g) u.heap.size wc j → ∀ p, j = some p → p.block < w5.heap.size ∧ ∀ g, v'.ownBlock = some g → p.block ≠ g := fun j fj p e => by
            obtain ⟨h1, h2⟩ := nq j fj p e
            refine ⟨Nat.lt_of_lt_of_le h1 hgr.size, fun g eg => ?_⟩
            rcases hloc with q | q
            · exact h2 g (q ▸ eg)
            · rw [q] at eg
              cases eg
              omega
          have NQ0 : Hid (∀ p, j0 = some p → p.block < w5.heap.size ∧ ∀ g, v'.ownBlock = some g → p.block ≠ g) := nq5 j0 fj0
          have NQ1 : Hid (∀ p, j1 = some p → p.block < w5.heap.size ∧ ∀ g, v'.ownBlock = some g → p.block ≠ g) := nq5 j1 fj1
          have SJ0 : Hid (SlP j0 (runK RQ (k + 1)).nr e0) := sj0
          have SJ1 : Hid (SlP j1 (runK RQ (k + 1)).ns e1) := sj1
          clear I2 P2 X2 A2 I3 P3 X3 A3 O4 hb4 P4 V4 X4 A4 I4 ho hgr hloc kp xb vb sj0 sj1 hb hge AD RQC V2 S0 S1 nq nq5 fj0 fj1
          go_wp2_with (at_builtin; refine Lib.wpList_append_run _ rfl (.tmp 48) (.tmp 50) 28 28 rfl (.slice ac k cc) (.slice (some ⟨wc.heap.size, 0, none⟩) 1 1) rfl rfl _ _ (hrun _) ?_)
          go_roundw
          case rel => exact ⟨k + 1, j0, j1, e0, e1, by omega, by go_num, fun i hi => by
            rcases (show i < k ∨ i = k by omega) with g | rfl
            · exact HJ.out i g
            · exact HQ.out, I5.out, P5.out, V5.out, SJ0.out, SJ1.out, X5.out, A5.out, NQ0.out, NQ1.out⟩
          case measure => simp [intOf]; omega
        · first
            | exact absurd (hok k hlt) hq
            | (refine (RO.out (RQ k) false _ (okB_no hq).symm).mono ?_
               rintro e u ⟨rfl, hb1⟩
               have X3 := X2.out.below hb1
               have A3 := A2.out.trans (hb1.mono A2.out.size)
               have x0 := X3.c0
               have x1 := X3.c1
               have f0 := X3.fr 0
               have f1 := X3.fr 1
               have hl3 := X3.lt
               have hbL : Below ((u.setCell ⟨w.heap.size, 0, none⟩ (.slice none 0 0)).setCell ⟨w.heap.size, 1, none⟩ (.slice none 0 0)).heap.size ((u.setCell ⟨w.heap.size, 0, none⟩ (.slice none 0 0)).setCell ⟨w.heap.size, 1, none⟩ (.slice none 0 0)) (((u.setCell ⟨w.heap.size, 0, none⟩ (.slice none 0 0)).setCell ⟨w.heap.size, 1, none⟩ (.slice none 0 0)).alloc (.cells #[] 3)) := (Below.refl _ _).alloc (Nat.le_refl _) _
               have X4 : Hid (Box2 (((u.setCell ⟨w.heap.size, 0, none⟩ (.slice none 0 0)).setCell ⟨w.heap.size, 1, none⟩ (.slice none 0 0)).alloc (.cells #[] 3)) w.heap.size 46 (.slice none 0 0) (.slice none 0 0)) := ((X3.set0 _).set1 _).alloc _
               have A4 : Hid (Below w.heap.size w (((u.setCell ⟨w.heap.size, 0, none⟩ (.slice none 0 0)).setCell ⟨w.heap.size, 1, none⟩ (.slice none 0 0)).alloc (.cells #[] 3))) := ((A3.setCell (Nat.le_refl _) _).setCell (Nat.le_refl _) _).alloc (by have := A3.size; simp; omega) _
               have I4 : Hid (IE (((u.setCell ⟨w.heap.size, 0, none⟩ (.slice none 0 0)).setCell ⟨w.heap.size, 1, none⟩ (.slice none 0 0)).alloc (.cells #[] 3)) w.heap.size (.slice (some ⟨u.heap.size, 0, none⟩) 0 0) 0 (fun _ => 0)) := by
                 have := IE.lit ((u.setCell ⟨w.heap.size, 0, none⟩ (.slice none 0 0)).setCell ⟨w.heap.size, 1, none⟩ (.slice none 0 0)) w.heap.size (by have := A3.size; simp; omega) (fun _ => 0)
                 simp at this
                 exact this
               clear hb1 hq d0 d1 d2 d3 d4 hbL I2 P2 V2 X2 A2 X3 A3
               go_wp2
               exact ret_cellTT (b := w.heap.size) Tryd.results20 rfl rfl rfl (Box2.loadbk X4.out) ⟨RunA.lit _ _ _ _ _ I4.out, A4.out⟩)
      · obtain rfl : k = n := by omega
        have hlt' : ¬ (k : Int) < (k : Int) := by omega
        first
          | (obtain ⟨i, hi, hno⟩ := hbad
             exact absurd (HJ.out i hi) hno)
          | (have p0 := P2.out.c0
             have p1 := P2.out.c1
             have HK : Hid (runK RQ k).Ok := runK_ok RQ k HJ.out
             go_wp2_with fail
             refine (l08Own_any (runK RQ k) a0 a1 c0 c1 (by have := HK.out.1.1; omega) (by have := HK.out.2.1; omega) S0.out.z S1.out.z _ V2.out).mono ?_
             rintro e u ⟨⟨i0, n0, i1, n1, rfl, RE⟩, hb⟩
             have X3 := X2.out.below hb
             have I3 := EO.below I2.out hb
             have A3 := A2.out.trans (hb.mono A2.out.size)
             have x0 := X3.c0
             have x1 := X3.c1
             have f0 := X3.fr 0
             have f1 := X3.fr 1
             have lw := X2.out.lt
             have O5 : OnlyB w.heap.size u ((u.setCell ⟨w.heap.size, 0, none⟩ (.slice i0 (runK RQ k).nr n0)).setCell ⟨w.heap.size, 1, none⟩ (.slice i1 (runK RQ k).ns n1)) := ((OnlyB.refl _ u).setCell 0 _).setCell 1 _
             have R5 : Hid (RunA (runK RQ k) k (told RQ) 0 w.heap.size (.returned (.tuple #[.agg #[.slice i0 (runK RQ k).nr n0, .slice i1 (runK RQ k).ns n1], .slice ac k cc, .int .i64 0])) ((u.setCell ⟨w.heap.size, 0, none⟩ (.slice i0 (runK RQ k).nr n0)).setCell ⟨w.heap.size, 1, none⟩ (.slice i1 (runK RQ k).ns n1))) := ⟨i0, n0, i1, n1, _, _, rfl, ⟨(RE.e0.onlyB O5 lw).mono (Nat.le_of_lt lw), (RE.e1.onlyB O5 lw).mono (Nat.le_of_lt lw), RE.n01⟩, EO.box2 I3 X3 (by decide) _ _⟩
             have X5 : Hid (Box2 ((u.setCell ⟨w.heap.size, 0, none⟩ (.slice i0 (runK RQ k).nr n0)).setCell ⟨w.heap.size, 1, none⟩ (.slice i1 (runK RQ k).ns n1)) w.heap.size 46 (.slice i0 (runK RQ k).nr n0) (.slice i1 (runK RQ k).ns n1)) := (X3.set0 _).set1 _
             have A5 : Hid (Below w.heap.size w ((u.setCell ⟨w.heap.size, 0, none⟩ (.slice i0 (runK RQ k).nr n0)).setCell ⟨w.heap.size, 1, none⟩ (.slice i1 (runK RQ k).ns n1))) := (A3.setCell (Nat.le_refl _) _).setCell (Nat.le_refl _) _
             clear O5 I3 X3 A3 RE hb I2 P2 V2 X2 A2 p0 p1
             go_wp2
             exact ret_cellTT (b := w.heap.size) Tryd.results20 rfl rfl rfl (Box2.loadbk X5.out) ⟨R5.out, A5.out⟩)
end Go.Proofs.YtpngjkhncfbnpaaDoor
