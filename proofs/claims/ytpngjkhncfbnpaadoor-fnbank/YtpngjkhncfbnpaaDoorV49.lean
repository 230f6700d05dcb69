/-
  Texts of the proof, joined: AdvB.
-/
import Derived.Test.YtpngjkhncfbnpaaDoorV43
import Derived.Test.YtpngjkhncfbnpaaDoorV47
namespace Go.Proofs.YtpngjkhncfbnpaaDoor
open Go.ChangeShapes Go.WideShapes Go.ChangeAt Go.RowKit
set_option linter.unusedVariables false
theorem EO.notBox {w : World} {B : Nat} {e : TypeId} {s : Nat} {v : Value} {n : Nat} {F : Nat → Nat → Value} (h : EO w B e s v n F) {p : Nat} {t : TypeId} {x y : Value} (hp : Box2 w p t x y) (ht : t ≠ e) : v.ownBlock ≠ some p := fun hg => by
  obtain ⟨hl, ⟨h1, _⟩ | ⟨g', cap, cur, hv, _, hh, _⟩⟩ := h
  · rw [h1] at hg; cases hg
  · rw [hv] at hg
    have q2 : g' = p := Option.some.inj hg
    obtain ⟨c, hc, _⟩ := hp
    rw [q2, hc] at hh
    cases hh
    exact ht rfl
theorem EO.notRow {w : World} {B B' : Nat} {t t' : TypeId} {s s' : Nat} {v v' : Value} {n n' : Nat} {F F' : Nat → Nat → Value} (h : EO w B t s v n F) (h' : EO w B' t' s' v' n' F') (ht : t ≠ t') (g : Nat) (e : v.ownBlock = some g) : v'.ownBlock ≠ some g := fun e' => by
  obtain ⟨_, ⟨h1, _⟩ | ⟨g1, cap, cur, hv, _, hh, _⟩⟩ := h
  · rw [h1] at e; cases e
  obtain ⟨_, ⟨k1, _⟩ | ⟨g2, cap', cur', kv, _, kh, _⟩⟩ := h'
  · rw [k1] at e'; cases e'
  rw [hv] at e
  rw [kv] at e'
  have q1 : g1 = g := Option.some.inj e
  have q2 : g2 = g := Option.some.inj e'
  rw [q1] at hh
  rw [q2] at kh
  rw [hh] at kh
  cases kh
  exact ht rfl
theorem Els.nothing {w : World} {s : Nat} {a : Option Addr} {n : Nat} {F : Nat → Nat → Value} (h : Els w s a n F) (e : a = none) : n = 0 := by
  rcases Nat.eq_zero_or_pos n with g | g
  · exact g
  · obtain ⟨p, off, hp, _⟩ := h.opened g
    rw [e] at hp
    cases hp
def bkN : Bk := Bk.mk 0 (fun _ => rgZ) 0 (fun _ => seZ)
def AdvD (b : Bk) (q : Rq) (b' : Bk) (tl mk cd : Int) : Prop := (¬ (b.Ok ∧ q.Ok) ∧ b' = bkN ∧ tl = 0 ∧ mk = 0 ∧ cd = 1) ∨ (b.Ok ∧ q.Ok ∧ AdvIs b q b' tl mk ∧ cd = 0)
def RetA (b : Bk) (tl mk cd : Int) (B : Nat) (e : Ending) (w : World) : Prop := ∃ a0 c0 a1 c1, e = .returned (.tuple #[.agg #[.slice a0 b.nr c0, .slice a1 b.ns c1], .int .i64 tl, .int .i64 mk, .int .i64 cd]) ∧ BankE w B b.nr b.ns b (.slice a0 b.nr c0) (.slice a1 b.ns c1)
theorem RetA.empty (w : World) (B : Nat) : RetA bkN 0 0 1 B (.returned (.tuple #[.agg #[.slice none 0 0, .slice none 0 0], .int .i64 0, .int .i64 0, .int .i64 1])) w := ⟨none, 0, none, 0, rfl, ⟨EO.nil _ _ _ _ _, EO.nil _ _ _ _ _, (fun g e => by cases e)⟩⟩
theorem ret_cellTTT {P : Program} {fn : Func} {p u u2 u3 : Tmp} {ty : TypeId} {tmps : Array Value} {w : World} {b : Nat} {v x x2 x3 : Value} {Post : Ending → World → Prop} (h : fn.results = #[.cell p ty, .tmp u, .tmp u2, .tmp u3]) (hp : tmps.getD p undef = .pointer (some ⟨b, 0, none⟩)) (hu : tmps.getD u undef = x) (hu2 : tmps.getD u2 undef = x2) (hu3 : tmps.getD u3 undef = x3) (hl : (loadVar ty ⟨b, 0, none⟩).run P w = .ok v w) (hq : Post (.returned (.tuple #[v, x, x2, x3])) w) : bodyPost P fn Post .ret { tmps := tmps, defers := [] } w := by
  refine bodyPost_ret (v := .tuple #[v, x, x2, x3]) ?_ rfl hq
  simp only [Array.getD_eq_getD_getElem?] at hp hu hu2 hu3
  unfold results
  rw [h]
  simp [hp, hu, hu2, hu3, asAddr, hl, Result.andThen]
set_option maxRecDepth 100000 in
set_option maxHeartbeats 4000000 in
theorem implAdv_any (b b' : Bk) (q : Rq) (tl mk cd : Int) (hD : AdvD b q b' tl mk cd) (a0 a1 : Option Addr) (c0 c1 : Nat) (z0 : a0 = none → c0 = 0) (z1 : a1 = none → c1 = 0) (w : World) (h : BankV w b a0 a1) (hT : TabW w) :
    Calls Tryd.prog 25 #[.agg #[.slice a0 b.nr c0, .slice a1 b.ns c1], .agg #[.int .i64 q.se, .int .i64 q.sq, .int .i64 q.x.v, .int .i64 q.x.c, .string q.x.r]] w fun e w' => RetA b' tl mk cd w.heap.size e w' ∧ Below w.heap.size w w' := by
  have HV : Hid (BankV w b a0 a1) := h
  have HT : Hid (TabW w) := hT
  have A1 : Hid (Below w.heap.size w (((w.alloc (.cells #[.slice a0 b.nr c0, .slice a1 b.ns c1] 46)).alloc (.cells #[.int .i64 q.se, .int .i64 q.sq, .int .i64 q.x.v, .int .i64 q.x.c, .string q.x.r] 52)).alloc (.cells #[.slice none 0 0, .slice none 0 0] 46))) := (((Below.refl _ _).alloc (Nat.le_refl _) _).alloc (by simp) _).alloc (by simp; omega) _
  have X : Hid (Box2 (((w.alloc (.cells #[.slice a0 b.nr c0, .slice a1 b.ns c1] 46)).alloc (.cells #[.int .i64 q.se, .int .i64 q.sq, .int .i64 q.x.v, .int .i64 q.x.c, .string q.x.r] 52)).alloc (.cells #[.slice none 0 0, .slice none 0 0] 46)) w.heap.size 46 (.slice a0 b.nr c0) (.slice a1 b.ns c1)) := ((Box2.made _ _ _ _).alloc _).alloc _
  have XQ : Hid (BoxQ (((w.alloc (.cells #[.slice a0 b.nr c0, .slice a1 b.ns c1] 46)).alloc (.cells #[.int .i64 q.se, .int .i64 q.sq, .int .i64 q.x.v, .int .i64 q.x.c, .string q.x.r] 52)).alloc (.cells #[.slice none 0 0, .slice none 0 0] 46)) (w.heap.size + 1) q) := (BoxQ.madeAt (by simp) q).alloc _
  have Y : Hid (Box2 (((w.alloc (.cells #[.slice a0 b.nr c0, .slice a1 b.ns c1] 46)).alloc (.cells #[.int .i64 q.se, .int .i64 q.sq, .int .i64 q.x.v, .int .i64 q.x.c, .string q.x.r] 52)).alloc (.cells #[.slice none 0 0, .slice none 0 0] 46)) (w.heap.size + 2) 46 (.slice none 0 0) (.slice none 0 0)) := Box2.madeAt (by simp) _ _ _
  have BO : Hid (∀ (z : Bool) (w : World), z = okB b.Ok → BankV w b a0 a1 → TabW w → Calls Tryd.prog 23 #[.agg #[.slice a0 b.nr c0, .slice a1 b.ns c1]] w fun e w' => e = .returned (.bool z) ∧ Below w.heap.size w w') := fun z w hz h hT => by rw [hz]; exact implBankOK_any b a0 a1 c0 c1 w h hT
  have RO : Hid (∀ (z : Bool) (w : World), z = okB q.Ok → Calls Tryd.prog 50 #[.agg #[.int .i64 q.se, .int .i64 q.sq, .int .i64 q.x.v, .int .i64 q.x.c, .string q.x.r]] w fun e w' => e = .returned (.bool z) ∧ Below w.heap.size w w') := fun z w hz => by rw [hz]; exact requestOK_any q w
  clear h hT
  have KEY : Hid (∀ (v u : World), Below v.heap.size v u → Below w.heap.size w v → Box2 v w.heap.size 46 (.slice a0 b.nr c0) (.slice a1 b.ns c1) → BoxQ v (w.heap.size + 1) q → Box2 v (w.heap.size + 2) 46 (.slice none 0 0) (.slice none 0 0) → Below w.heap.size w u ∧ Box2 u w.heap.size 46 (.slice a0 b.nr c0) (.slice a1 b.ns c1) ∧ BoxQ u (w.heap.size + 1) q ∧ Box2 u (w.heap.size + 2) 46 (.slice none 0 0) (.slice none 0 0)) := fun v u hb a1 x xq y => ⟨a1.trans (hb.mono a1.size), x.below hb, xq.below hb, y.below hb⟩
  rcases hD with ⟨hno, rfl, rfl, rfl, rfl⟩ | ⟨hk, hq, ha, rfl⟩
  · go_enter Tryd.func25, Tryd.ntmps25
    go_wp2_with fail
    generalize (((w.alloc (.cells #[.slice a0 b.nr c0, .slice a1 b.ns c1] 46)).alloc (.cells #[.int .i64 q.se, .int .i64 q.sq, .int .i64 q.x.v, .int .i64 q.x.c, .string q.x.r] 52)).alloc (.cells #[.slice none 0 0, .slice none 0 0] 46)) = v at *
    by_cases h1 : b.Ok
    · have h2 : ¬ q.Ok := fun e => hno ⟨h1, e⟩
      refine (BO.out true _ (okB_yes h1).symm (HV.out.below A1.out) (HT.out.below A1.out)).mono ?_
      rintro e v1 ⟨rfl, hb⟩
      obtain ⟨a1', x', xq', y'⟩ := KEY.out _ _ hb A1.out X.out XQ.out Y.out
      have q0 := xq'.c0
      have q1 := xq'.c1
      have q2 := xq'.c2
      have q3 := xq'.c3
      have q4 := xq'.c4
      clear hb A1 X XQ Y BO HV
      go_wp2_with fail
      refine (RO.out false _ (okB_no h2).symm).mono ?_
      rintro e v2 ⟨rfl, hb⟩
      obtain ⟨a2, x2, xq2, y2⟩ := KEY.out _ _ hb a1' x' xq' y'
      have Y2 : Hid (Box2 v2 (w.heap.size + 2) 46 (.slice none 0 0) (.slice none 0 0)) := y2
      have A2 : Hid (Below w.heap.size w v2) := a2
      have y0 := y2.c0
      have y1 := y2.c1
      have f0 := y2.fr 0
      have f1 := y2.fr 1
      clear hb a1' x' xq' y' q0 q1 q2 q3 q4 a2 x2 xq2 y2 RO KEY hno h1 h2
      go_wp2
      exact ret_cellTTT (b := w.heap.size + 2) Tryd.results25 rfl rfl rfl rfl (Box2.loadbk ((Y2.out.set0 _).set1 _)) ⟨RetA.empty _ _, (A2.out.setCell (by show w.heap.size ≤ w.heap.size + 2; omega) _).setCell (by show w.heap.size ≤ w.heap.size + 2; omega) _⟩
    · have x0 := X.out.c0
      have x1 := X.out.c1
      refine (BO.out false _ (okB_no h1).symm (HV.out.below A1.out) (HT.out.below A1.out)).mono ?_
      rintro e v1 ⟨rfl, hb⟩
      obtain ⟨a1', x', xq', y'⟩ := KEY.out _ _ hb A1.out X.out XQ.out Y.out
      have Y2 : Hid (Box2 v1 (w.heap.size + 2) 46 (.slice none 0 0) (.slice none 0 0)) := y'
      have A2 : Hid (Below w.heap.size w v1) := a1'
      have y0 := y'.c0
      have y1 := y'.c1
      have f0 := y'.fr 0
      have f1 := y'.fr 1
      clear hb A1 X XQ Y BO HV a1' x' xq' y' x0 x1 RO KEY hno h1
      go_wp2
      exact ret_cellTTT (b := w.heap.size + 2) Tryd.results25 rfl rfl rfl rfl (Box2.loadbk ((Y2.out.set0 _).set1 _)) ⟨RetA.empty _ _, (A2.out.setCell (by show w.heap.size ≤ w.heap.size + 2; omega) _).setCell (by show w.heap.size ≤ w.heap.size + 2; omega) _⟩
  · have HK : Hid b.Ok := hk
    have HA : Hid (AdvIs b q b' tl mk) := ha
    have HQ : Hid q.Ok := hq
    have CR : Hid (∀ w : World, Els w 3 a0 b.nr (rgF b.R) → Calls Tryd.prog 59 #[.slice a0 b.nr c0] w fun e w' => RetRg b.nr b.R w.heap.size e w' ∧ Below w.heap.size w w') := fun w hE => cloneRg_any a0 b.nr c0 b.R w (by have := hk.1.1; omega) hE (fun e => ⟨hE.nothing e, z0 e⟩)
    have CS : Hid (∀ w : World, Els w 4 a1 b.ns (seF b.S) → Calls Tryd.prog 60 #[.slice a1 b.ns c1] w fun e w' => RetSe b.ns b.S w.heap.size e w' ∧ Below w.heap.size w w') := fun w hE => cloneSe_any a1 b.ns c1 b.S w (by have := hk.2.1; omega) hE (fun e => ⟨hE.nothing e, z1 e⟩)
    go_enter Tryd.func25, Tryd.ntmps25
    go_wp2_with fail
    generalize (((w.alloc (.cells #[.slice a0 b.nr c0, .slice a1 b.ns c1] 46)).alloc (.cells #[.int .i64 q.se, .int .i64 q.sq, .int .i64 q.x.v, .int .i64 q.x.c, .string q.x.r] 52)).alloc (.cells #[.slice none 0 0, .slice none 0 0] 46)) = v at *
    refine (BO.out true _ (okB_yes hk).symm (HV.out.below A1.out) (HT.out.below A1.out)).mono ?_
    rintro e v1 ⟨rfl, hb⟩
    obtain ⟨a1', x', xq', y'⟩ := KEY.out _ _ hb A1.out X.out XQ.out Y.out
    have q0 := xq'.c0
    have q1 := xq'.c1
    have q2 := xq'.c2
    have q3 := xq'.c3
    have q4 := xq'.c4
    clear hb A1 X XQ Y BO HT
    go_wp2_with fail
    refine (RO.out true _ (okB_yes hq).symm).mono ?_
    rintro e u ⟨rfl, hb⟩
    obtain ⟨a2, x2, xq2, y2⟩ := KEY.out _ _ hb a1' x' xq' y'
    have A2 : Hid (Below w.heap.size w u) := a2
    have X2 : Hid (Box2 u w.heap.size 46 (.slice a0 b.nr c0) (.slice a1 b.ns c1)) := x2
    have Q2 : Hid (BoxQ u (w.heap.size + 1) q) := xq2
    have Y2 : Hid (Box2 u (w.heap.size + 2) 46 (.slice none 0 0) (.slice none 0 0)) := y2
    have V2 : Hid (BankV u b a0 a1) := HV.out.below a2
    clear hb a1' x' xq' y' q0 q1 q2 q3 q4 a2 x2 xq2 y2 RO HV hk hq ha z0 z1 KEY
    go_wp2_with fail
    go_cut [8] (fun pv wx => ∃ (pb : Nat) (j0 j1 : Option Addr) (d0 d1 : Nat), pv = .pointer (some ⟨pb, 0, none⟩) ∧ BkP wx pb u.heap.size b (.slice j0 b.nr d0) (.slice j1 b.ns d1) ∧ Below u.heap.size u wx ∧ u.heap.size ≤ pb)
    case first =>
      have H : Below u.heap.size u u.drew := (Below.refl _ _).drew
      refine wp_region_noPanic ?_
      refine wp_region_held_drew (S := fun w' => Below u.heap.size u w') (by kernel_rfl) H (fun _ => ?_)
      generalize u.drew = y0 at *
      refine wpAnyH_take (i := 0) (v := .pointer (some ⟨w.heap.size, 0, none⟩)) rfl (by kernel_rfl) (by kernel_rfl) (by kernel_rfl) (fun _ _ _ h => h) (Or.inl ⟨by rfl, ?_⟩) H ?_
      · intro w' hSw; go_simp
      change wpAnyH _ _ _ _ _ _ _ { tmps := #[_,_,_,_,_,_,_,_,_,_,_,_,_,_,_,_,_,_,_,_,_,_,_,_,_,_,_,_,_,_,_,_,_,_,_], defers := _ } _
      refine wpAnyH_take (i := 1) (v := .slice a0 b.nr c0) rfl (by kernel_rfl) (by kernel_rfl) (by kernel_rfl) (fun _ _ _ h => h) (Or.inl ⟨by rfl, ?_⟩) H ?_
      · intro w' hSw; have t0 := (X2.out.below hSw).c0; clear hSw; go_simp
      change wpAnyH _ _ _ _ _ _ _ { tmps := #[_,_,_,_,_,_,_,_,_,_,_,_,_,_,_,_,_,_,_,_,_,_,_,_,_,_,_,_,_,_,_,_,_,_,_], defers := _ } _
      refine wpAnyH_take (i := 3) (v := .pointer (some ⟨w.heap.size, 1, none⟩)) rfl (by kernel_rfl) (by kernel_rfl) (by kernel_rfl) (fun _ _ _ h => h) (Or.inl ⟨by rfl, ?_⟩) H ?_
      · intro w' hSw; go_simp
      change wpAnyH _ _ _ _ _ _ _ { tmps := #[_,_,_,_,_,_,_,_,_,_,_,_,_,_,_,_,_,_,_,_,_,_,_,_,_,_,_,_,_,_,_,_,_,_,_], defers := _ } _
      refine wpAnyH_take (i := 4) (v := .slice a1 b.ns c1) rfl (by kernel_rfl) (by kernel_rfl) (by kernel_rfl) (fun _ _ _ h => h) (Or.inl ⟨by rfl, ?_⟩) H ?_
      · intro w' hSw; have t0 := (X2.out.below hSw).c1; clear hSw; go_simp
      change wpAnyH _ _ _ _ _ _ _ { tmps := #[_,_,_,_,_,_,_,_,_,_,_,_,_,_,_,_,_,_,_,_,_,_,_,_,_,_,_,_,_,_,_,_,_,_,_], defers := _ } _
      refine wpAnyH_ready (rs := [2, 7]) (by kernel_rfl) (by simp) ?_
      refine (AllReadyH.cons rfl (fun KK hK => ?_) (AllReadyH.cons rfl (fun KK hK => ?_) AllReadyH.nil))
      · skip
        go_simp
        refine (CR.out _ (V2.out.1.below H)).mono ?_
        rintro e y1 ⟨⟨j0, d0, rfl, e0⟩, hb⟩
        have H0 : u.heap.size ≤ y0.heap.size := H.size
        replace H : Below u.heap.size u y1 := H.trans (hb.mono H.size)
        have E0 : Hid (EO y1 u.heap.size 54 3 (.slice j0 b.nr d0) b.nr (rgF b.R)) := e0.mono H0
        clear hb e0 H0
        refine hK.out _ _ H (fun _ => ?_)
        clear hK KK
        change wpAnyH _ _ _ _ _ _ _ { tmps := #[_,_,_,_,_,_,_,_,_,_,_,_,_,_,_,_,_,_,_,_,_,_,_,_,_,_,_,_,_,_,_,_,_,_,_], defers := _ } _
        refine wpAnyH_ready (rs := [5, 7]) (by kernel_rfl) (by simp) ?_
        refine (AllReadyH.cons rfl (fun KK hK => ?_) (AllReadyH.cons rfl (fun KK hK => ?_) AllReadyH.nil))
        · skip
          go_simp
          refine (CS.out _ (V2.out.2.below H)).mono ?_
          rintro e y2 ⟨⟨j1, d1, rfl, e1⟩, hb⟩
          replace E0 : Hid (EO y2 u.heap.size 54 3 (.slice j0 b.nr d0) b.nr (rgF b.R)) := E0.out.below hb
          have H0 : u.heap.size ≤ y1.heap.size := H.size
          replace H : Below u.heap.size u y2 := H.trans (hb.mono H.size)
          have E1 : Hid (EO y2 u.heap.size 100 4 (.slice j1 b.ns d1) b.ns (seF b.S)) := e1.mono H0
          clear hb e1 H0
          refine hK.out _ _ H (fun _ => ?_)
          clear hK KK
          change wpAnyH _ _ _ _ _ _ _ { tmps := #[_,_,_,_,_,_,_,_,_,_,_,_,_,_,_,_,_,_,_,_,_,_,_,_,_,_,_,_,_,_,_,_,_,_,_], defers := _ } _
          refine wpAnyH_take (i := 6) (v := .agg #[.slice j0 b.nr d0, .slice j1 b.ns d1]) rfl (by kernel_rfl) (by kernel_rfl) (by kernel_rfl) (fun _ _ _ h => h) (Or.inl ⟨by rfl, ?_⟩) H ?_
          · intro w' hSw; go_simp
          change wpAnyH _ _ _ _ _ _ _ { tmps := #[_,_,_,_,_,_,_,_,_,_,_,_,_,_,_,_,_,_,_,_,_,_,_,_,_,_,_,_,_,_,_,_,_,_,_], defers := _ } _
          refine wpAnyH_ready (rs := [7]) (by kernel_rfl) (by simp) ?_
          refine (AllReadyH.cons rfl (fun KK hK => ?_) AllReadyH.nil)
          go_simp
          have hb : Below y2.heap.size y2 (y2.alloc (.cells #[.slice none 0 0, .slice none 0 0] 46)) := (Below.refl _ _).alloc (Nat.le_refl _) _
          have PZ : Hid (Box2 (y2.alloc (.cells #[.slice none 0 0, .slice none 0 0] 46)) y2.heap.size 46 (.slice none 0 0) (.slice none 0 0)) := Box2.madeAt rfl _ _ _
          have Lpb : Hid (u.heap.size ≤ y2.heap.size) := H.size
          replace E0 : Hid (EO (y2.alloc (.cells #[.slice none 0 0, .slice none 0 0] 46)) u.heap.size 54 3 (.slice j0 b.nr d0) b.nr (rgF b.R)) := E0.out.below hb
          replace E1 : Hid (EO (y2.alloc (.cells #[.slice none 0 0, .slice none 0 0] 46)) u.heap.size 100 4 (.slice j1 b.ns d1) b.ns (seF b.S)) := E1.out.below hb
          replace H : Below u.heap.size u (y2.alloc (.cells #[.slice none 0 0, .slice none 0 0] 46)) := H.trans (hb.mono H.size)
          clear hb
          refine hK.out _ _ H (fun _ => ?_)
          clear hK KK
          generalize (y2.alloc (.cells #[.slice none 0 0, .slice none 0 0] 46)) = y3 at *
          generalize y2.heap.size = pb at *
          change wpAnyH _ _ _ _ _ _ _ { tmps := #[_,_,_,_,_,_,_,_,_,_,_,_,_,_,_,_,_,_,_,_,_,_,_,_,_,_,_,_,_,_,_,_,_,_,_], defers := _ } _
          refine wpAnyH_ready (rs := [8]) (by kernel_rfl) (by simp) ?_
          refine (AllReadyH.cons rfl (fun KK hK => ?_) AllReadyH.nil)
          have t0 := PZ.out.c0
          have t1 := PZ.out.c1
          have f0 := PZ.out.fr 0
          have f1 := PZ.out.fr 1
          go_simp
          replace H : Below u.heap.size u ((y3.setCell ⟨pb, 0, none⟩ (.slice j0 b.nr d0)).setCell ⟨pb, 1, none⟩ (.slice j1 b.ns d1)) := (H.setCell (by exact Lpb.out) _).setCell (by exact Lpb.out) _
          refine hK.out _ _ H (fun _ => ?_)
          clear hK KK
          change wpAnyH _ _ _ _ _ _ _ { tmps := #[_,_,_,_,_,_,_,_,_,_,_,_,_,_,_,_,_,_,_,_,_,_,_,_,_,_,_,_,_,_,_,_,_,_,_], defers := _ } _
          refine wpAnyH_done (by kernel_rfl) ?_ _
          refine NoPanic.normal ?_
          have P0 : Hid (BkP ((y3.setCell ⟨pb, 0, none⟩ (.slice j0 b.nr d0)).setCell ⟨pb, 1, none⟩ (.slice j1 b.ns d1)) pb u.heap.size b (.slice j0 b.nr d0) (.slice j1 b.ns d1)) := ⟨(PZ.out.set0 _).set1 _, ⟨E0.out.keep (fun g e => by rw [heap_setCell_other _ _ _ _ (fun q => E0.out.notBox PZ.out (by decide) (by rw [e, q])), heap_setCell_other _ _ _ _ (fun q => E0.out.notBox PZ.out (by decide) (by rw [e, q]))]), E1.out.keep (fun g e => by rw [heap_setCell_other _ _ _ _ (fun q => E1.out.notBox PZ.out (by decide) (by rw [e, q])), heap_setCell_other _ _ _ _ (fun q => E1.out.notBox PZ.out (by decide) (by rw [e, q]))]), E0.out.notRow E1.out (by decide)⟩, E0.out.notBox PZ.out (by decide), E1.out.notBox PZ.out (by decide)⟩
          have HF : Hid (Below u.heap.size u ((y3.setCell ⟨pb, 0, none⟩ (.slice j0 b.nr d0)).setCell ⟨pb, 1, none⟩ (.slice j1 b.ns d1))) := H
          clear PZ H t0 t1 f0 f1 E0 E1
          change Exit.then _ _ Exit.normal { tmps := #[_, _, _, _, _, _, _, _, _, _, _, _, _, _, _, _, _, _, _, _, _, _, _, _, _, _, _, _, _, _, _, _, _, _, _], defers := _ } _
          generalize (y3.setCell ⟨pb, 0, none⟩ (.slice j0 b.nr d0)).setCell ⟨pb, 1, none⟩ (.slice j1 b.ns d1) = z at *
          go_wp2_with fail
          go_meet
          exact ⟨pb, j0, j1, d0, d1, rfl, P0.out, HF.out, Lpb.out⟩
        · skip
          go_simp
          have hb : Below y1.heap.size y1 (y1.alloc (.cells #[.slice none 0 0, .slice none 0 0] 46)) := (Below.refl _ _).alloc (Nat.le_refl _) _
          have PZ : Hid (Box2 (y1.alloc (.cells #[.slice none 0 0, .slice none 0 0] 46)) y1.heap.size 46 (.slice none 0 0) (.slice none 0 0)) := Box2.madeAt rfl _ _ _
          have Lpb : Hid (u.heap.size ≤ y1.heap.size) := H.size
          replace E0 : Hid (EO (y1.alloc (.cells #[.slice none 0 0, .slice none 0 0] 46)) u.heap.size 54 3 (.slice j0 b.nr d0) b.nr (rgF b.R)) := E0.out.below hb
          replace H : Below u.heap.size u (y1.alloc (.cells #[.slice none 0 0, .slice none 0 0] 46)) := H.trans (hb.mono H.size)
          clear hb
          refine hK.out _ _ H (fun _ => ?_)
          clear hK KK
          generalize (y1.alloc (.cells #[.slice none 0 0, .slice none 0 0] 46)) = y2 at *
          generalize y1.heap.size = pb at *
          change wpAnyH _ _ _ _ _ _ _ { tmps := #[_,_,_,_,_,_,_,_,_,_,_,_,_,_,_,_,_,_,_,_,_,_,_,_,_,_,_,_,_,_,_,_,_,_,_], defers := _ } _
          refine wpAnyH_ready (rs := [5]) (by kernel_rfl) (by simp) ?_
          refine (AllReadyH.cons rfl (fun KK hK => ?_) AllReadyH.nil)
          go_simp
          refine (CS.out _ (V2.out.2.below H)).mono ?_
          rintro e y3 ⟨⟨j1, d1, rfl, e1⟩, hb⟩
          replace E0 : Hid (EO y3 u.heap.size 54 3 (.slice j0 b.nr d0) b.nr (rgF b.R)) := E0.out.below hb
          replace PZ : Hid (Box2 y3 pb 46 (.slice none 0 0) (.slice none 0 0)) := PZ.out.below hb
          have H0 : u.heap.size ≤ y2.heap.size := H.size
          replace H : Below u.heap.size u y3 := H.trans (hb.mono H.size)
          have E1 : Hid (EO y3 u.heap.size 100 4 (.slice j1 b.ns d1) b.ns (seF b.S)) := e1.mono H0
          clear hb e1 H0
          refine hK.out _ _ H (fun _ => ?_)
          clear hK KK
          change wpAnyH _ _ _ _ _ _ _ { tmps := #[_,_,_,_,_,_,_,_,_,_,_,_,_,_,_,_,_,_,_,_,_,_,_,_,_,_,_,_,_,_,_,_,_,_,_], defers := _ } _
          refine wpAnyH_take (i := 6) (v := .agg #[.slice j0 b.nr d0, .slice j1 b.ns d1]) rfl (by kernel_rfl) (by kernel_rfl) (by kernel_rfl) (fun _ _ _ h => h) (Or.inl ⟨by rfl, ?_⟩) H ?_
          · intro w' hSw; go_simp
          change wpAnyH _ _ _ _ _ _ _ { tmps := #[_,_,_,_,_,_,_,_,_,_,_,_,_,_,_,_,_,_,_,_,_,_,_,_,_,_,_,_,_,_,_,_,_,_,_], defers := _ } _
          refine wpAnyH_ready (rs := [8]) (by kernel_rfl) (by simp) ?_
          refine (AllReadyH.cons rfl (fun KK hK => ?_) AllReadyH.nil)
          have t0 := PZ.out.c0
          have t1 := PZ.out.c1
          have f0 := PZ.out.fr 0
          have f1 := PZ.out.fr 1
          go_simp
          replace H : Below u.heap.size u ((y3.setCell ⟨pb, 0, none⟩ (.slice j0 b.nr d0)).setCell ⟨pb, 1, none⟩ (.slice j1 b.ns d1)) := (H.setCell (by exact Lpb.out) _).setCell (by exact Lpb.out) _
          refine hK.out _ _ H (fun _ => ?_)
          clear hK KK
          change wpAnyH _ _ _ _ _ _ _ { tmps := #[_,_,_,_,_,_,_,_,_,_,_,_,_,_,_,_,_,_,_,_,_,_,_,_,_,_,_,_,_,_,_,_,_,_,_], defers := _ } _
          refine wpAnyH_done (by kernel_rfl) ?_ _
          refine NoPanic.normal ?_
          have P0 : Hid (BkP ((y3.setCell ⟨pb, 0, none⟩ (.slice j0 b.nr d0)).setCell ⟨pb, 1, none⟩ (.slice j1 b.ns d1)) pb u.heap.size b (.slice j0 b.nr d0) (.slice j1 b.ns d1)) := ⟨(PZ.out.set0 _).set1 _, ⟨E0.out.keep (fun g e => by rw [heap_setCell_other _ _ _ _ (fun q => E0.out.notBox PZ.out (by decide) (by rw [e, q])), heap_setCell_other _ _ _ _ (fun q => E0.out.notBox PZ.out (by decide) (by rw [e, q]))]), E1.out.keep (fun g e => by rw [heap_setCell_other _ _ _ _ (fun q => E1.out.notBox PZ.out (by decide) (by rw [e, q])), heap_setCell_other _ _ _ _ (fun q => E1.out.notBox PZ.out (by decide) (by rw [e, q]))]), E0.out.notRow E1.out (by decide)⟩, E0.out.notBox PZ.out (by decide), E1.out.notBox PZ.out (by decide)⟩
          have HF : Hid (Below u.heap.size u ((y3.setCell ⟨pb, 0, none⟩ (.slice j0 b.nr d0)).setCell ⟨pb, 1, none⟩ (.slice j1 b.ns d1))) := H
          clear PZ H t0 t1 f0 f1 E0 E1
          change Exit.then _ _ Exit.normal { tmps := #[_, _, _, _, _, _, _, _, _, _, _, _, _, _, _, _, _, _, _, _, _, _, _, _, _, _, _, _, _, _, _, _, _, _, _], defers := _ } _
          generalize (y3.setCell ⟨pb, 0, none⟩ (.slice j0 b.nr d0)).setCell ⟨pb, 1, none⟩ (.slice j1 b.ns d1) = z at *
          go_wp2_with fail
          go_meet
          exact ⟨pb, j0, j1, d0, d1, rfl, P0.out, HF.out, Lpb.out⟩
      · skip
        go_simp
        have hb : Below y0.heap.size y0 (y0.alloc (.cells #[.slice none 0 0, .slice none 0 0] 46)) := (Below.refl _ _).alloc (Nat.le_refl _) _
        have PZ : Hid (Box2 (y0.alloc (.cells #[.slice none 0 0, .slice none 0 0] 46)) y0.heap.size 46 (.slice none 0 0) (.slice none 0 0)) := Box2.madeAt rfl _ _ _
        have Lpb : Hid (u.heap.size ≤ y0.heap.size) := H.size
        replace H : Below u.heap.size u (y0.alloc (.cells #[.slice none 0 0, .slice none 0 0] 46)) := H.trans (hb.mono H.size)
        clear hb
        refine hK.out _ _ H (fun _ => ?_)
        clear hK KK
        generalize (y0.alloc (.cells #[.slice none 0 0, .slice none 0 0] 46)) = y1 at *
        generalize y0.heap.size = pb at *
        change wpAnyH _ _ _ _ _ _ _ { tmps := #[_,_,_,_,_,_,_,_,_,_,_,_,_,_,_,_,_,_,_,_,_,_,_,_,_,_,_,_,_,_,_,_,_,_,_], defers := _ } _
        refine wpAnyH_ready (rs := [2]) (by kernel_rfl) (by simp) ?_
        refine (AllReadyH.cons rfl (fun KK hK => ?_) AllReadyH.nil)
        go_simp
        refine (CR.out _ (V2.out.1.below H)).mono ?_
        rintro e y2 ⟨⟨j0, d0, rfl, e0⟩, hb⟩
        replace PZ : Hid (Box2 y2 pb 46 (.slice none 0 0) (.slice none 0 0)) := PZ.out.below hb
        have H0 : u.heap.size ≤ y1.heap.size := H.size
        replace H : Below u.heap.size u y2 := H.trans (hb.mono H.size)
        have E0 : Hid (EO y2 u.heap.size 54 3 (.slice j0 b.nr d0) b.nr (rgF b.R)) := e0.mono H0
        clear hb e0 H0
        refine hK.out _ _ H (fun _ => ?_)
        clear hK KK
        change wpAnyH _ _ _ _ _ _ _ { tmps := #[_,_,_,_,_,_,_,_,_,_,_,_,_,_,_,_,_,_,_,_,_,_,_,_,_,_,_,_,_,_,_,_,_,_,_], defers := _ } _
        refine wpAnyH_ready (rs := [5]) (by kernel_rfl) (by simp) ?_
        refine (AllReadyH.cons rfl (fun KK hK => ?_) AllReadyH.nil)
        go_simp
        refine (CS.out _ (V2.out.2.below H)).mono ?_
        rintro e y3 ⟨⟨j1, d1, rfl, e1⟩, hb⟩
        replace PZ : Hid (Box2 y3 pb 46 (.slice none 0 0) (.slice none 0 0)) := PZ.out.below hb
        replace E0 : Hid (EO y3 u.heap.size 54 3 (.slice j0 b.nr d0) b.nr (rgF b.R)) := E0.out.below hb
        have H0 : u.heap.size ≤ y2.heap.size := H.size
        replace H : Below u.heap.size u y3 := H.trans (hb.mono H.size)
        have E1 : Hid (EO y3 u.heap.size 100 4 (.slice j1 b.ns d1) b.ns (seF b.S)) := e1.mono H0
        clear hb e1 H0
        refine hK.out _ _ H (fun _ => ?_)
        clear hK KK
        change wpAnyH _ _ _ _ _ _ _ { tmps := #[_,_,_,_,_,_,_,_,_,_,_,_,_,_,_,_,_,_,_,_,_,_,_,_,_,_,_,_,_,_,_,_,_,_,_], defers := _ } _
        refine wpAnyH_take (i := 6) (v := .agg #[.slice j0 b.nr d0, .slice j1 b.ns d1]) rfl (by kernel_rfl) (by kernel_rfl) (by kernel_rfl) (fun _ _ _ h => h) (Or.inl ⟨by rfl, ?_⟩) H ?_
        · intro w' hSw; go_simp
        change wpAnyH _ _ _ _ _ _ _ { tmps := #[_,_,_,_,_,_,_,_,_,_,_,_,_,_,_,_,_,_,_,_,_,_,_,_,_,_,_,_,_,_,_,_,_,_,_], defers := _ } _
        refine wpAnyH_ready (rs := [8]) (by kernel_rfl) (by simp) ?_
        refine (AllReadyH.cons rfl (fun KK hK => ?_) AllReadyH.nil)
        have t0 := PZ.out.c0
        have t1 := PZ.out.c1
        have f0 := PZ.out.fr 0
        have f1 := PZ.out.fr 1
        go_simp
        replace H : Below u.heap.size u ((y3.setCell ⟨pb, 0, none⟩ (.slice j0 b.nr d0)).setCell ⟨pb, 1, none⟩ (.slice j1 b.ns d1)) := (H.setCell (by exact Lpb.out) _).setCell (by exact Lpb.out) _
        refine hK.out _ _ H (fun _ => ?_)
        clear hK KK
        change wpAnyH _ _ _ _ _ _ _ { tmps := #[_,_,_,_,_,_,_,_,_,_,_,_,_,_,_,_,_,_,_,_,_,_,_,_,_,_,_,_,_,_,_,_,_,_,_], defers := _ } _
        refine wpAnyH_done (by kernel_rfl) ?_ _
        refine NoPanic.normal ?_
        have P0 : Hid (BkP ((y3.setCell ⟨pb, 0, none⟩ (.slice j0 b.nr d0)).setCell ⟨pb, 1, none⟩ (.slice j1 b.ns d1)) pb u.heap.size b (.slice j0 b.nr d0) (.slice j1 b.ns d1)) := ⟨(PZ.out.set0 _).set1 _, ⟨E0.out.keep (fun g e => by rw [heap_setCell_other _ _ _ _ (fun q => E0.out.notBox PZ.out (by decide) (by rw [e, q])), heap_setCell_other _ _ _ _ (fun q => E0.out.notBox PZ.out (by decide) (by rw [e, q]))]), E1.out.keep (fun g e => by rw [heap_setCell_other _ _ _ _ (fun q => E1.out.notBox PZ.out (by decide) (by rw [e, q])), heap_setCell_other _ _ _ _ (fun q => E1.out.notBox PZ.out (by decide) (by rw [e, q]))]), E0.out.notRow E1.out (by decide)⟩, E0.out.notBox PZ.out (by decide), E1.out.notBox PZ.out (by decide)⟩
        have HF : Hid (Below u.heap.size u ((y3.setCell ⟨pb, 0, none⟩ (.slice j0 b.nr d0)).setCell ⟨pb, 1, none⟩ (.slice j1 b.ns d1))) := H
        clear PZ H t0 t1 f0 f1 E0 E1
        change Exit.then _ _ Exit.normal { tmps := #[_, _, _, _, _, _, _, _, _, _, _, _, _, _, _, _, _, _, _, _, _, _, _, _, _, _, _, _, _, _, _, _, _, _, _], defers := _ } _
        generalize (y3.setCell ⟨pb, 0, none⟩ (.slice j0 b.nr d0)).setCell ⟨pb, 1, none⟩ (.slice j1 b.ns d1) = z at *
        go_wp2_with fail
        go_meet
        exact ⟨pb, j0, j1, d0, d1, rfl, P0.out, HF.out, Lpb.out⟩
    case rest =>
    obtain ⟨pb, j0, j1, d0, d1, rfl, bk, hb, hge⟩ := hcut
    have Q3 := Q2.out.below hb
    have Y3 : Hid (Box2 wc (w.heap.size + 2) 46 (.slice none 0 0) (.slice none 0 0)) := Y2.out.below hb
    have A3 : Hid (Below w.heap.size w wc) := A2.out.trans (hb.mono A2.out.size)
    have BK : Hid (BkP wc pb u.heap.size b (.slice j0 b.nr d0) (.slice j1 b.ns d1)) := bk
    have GE : Hid (u.heap.size ≤ pb) := hge
    have LU : Hid (w.heap.size + 2 < u.heap.size) := Y2.out.lt
    have q0 := Q3.c0
    have q1 := Q3.c1
    have q2 := Q3.c2
    have q3 := Q3.c3
    have q4 := Q3.c4
    have SZ : Hid (u.heap.size ≤ wc.heap.size) := hb.size
    clear bk hb hge Q2 Y2 A2 X2 V2 CR CS Q3
    go_wp2_with fail
    refine (answer_any pb u.heap.size b b' q tl mk HK.out HQ.out HA.out _ _ _ SZ.out BK.out).mono ?_
    rintro e u3 ⟨t0, t1, rfl, pk, kb⟩
    obtain ⟨i0, k0, rfl⟩ := pk.r.e0.form
    obtain ⟨i1, k1, rfl⟩ := pk.r.e1.form
    have hlu := LU.out
    have hge := GE.out
    have Y4 := Y3.out.ofBlock (kb.blk _ Y3.out.lt (by omega) (fun e => by have := (BK.out.r.e0.ge _ e).1; omega) (fun e => by have := (BK.out.r.e1.ge _ e).1; omega))
    have A4 := A3.out.trans ((kb.toBelow hge BK.out SZ.out).mono (by omega))
    have p0 := pk.x.c0
    have p1 := pk.x.c1
    have y0 := Y4.c0
    have y1 := Y4.c1
    have f0 := Y4.fr 0
    have f1 := Y4.fr 1
    have O5 : OnlyB (w.heap.size + 2) u3 ((u3.setCell ⟨w.heap.size + 2, 0, none⟩ (.slice i0 b'.nr k0)).setCell ⟨w.heap.size + 2, 1, none⟩ (.slice i1 b'.ns k1)) := ((OnlyB.refl _ u3).setCell 0 _).setCell 1 _
    have R5 : Hid (RetA b' tl mk 0 w.heap.size (.returned (.tuple #[.agg #[.slice i0 b'.nr k0, .slice i1 b'.ns k1], .int .i64 tl, .int .i64 mk, .int .i64 0])) ((u3.setCell ⟨w.heap.size + 2, 0, none⟩ (.slice i0 b'.nr k0)).setCell ⟨w.heap.size + 2, 1, none⟩ (.slice i1 b'.ns k1))) := ⟨i0, k0, i1, k1, rfl, ⟨(pk.r.e0.onlyB O5 hlu).mono (by omega), (pk.r.e1.onlyB O5 hlu).mono (by omega), pk.r.n01⟩⟩
    have Y5 : Hid (Box2 ((u3.setCell ⟨w.heap.size + 2, 0, none⟩ (.slice i0 b'.nr k0)).setCell ⟨w.heap.size + 2, 1, none⟩ (.slice i1 b'.ns k1)) (w.heap.size + 2) 46 (.slice i0 b'.nr k0) (.slice i1 b'.ns k1)) := (Y4.set0 _).set1 _
    have A5 : Hid (Below w.heap.size w ((u3.setCell ⟨w.heap.size + 2, 0, none⟩ (.slice i0 b'.nr k0)).setCell ⟨w.heap.size + 2, 1, none⟩ (.slice i1 b'.ns k1))) := (A4.setCell (by show w.heap.size ≤ w.heap.size + 2; omega) _).setCell (by show w.heap.size ≤ w.heap.size + 2; omega) _
    clear O5 pk kb BK Y3 A3 Y4 A4 q0 q1 q2 q3 q4 HK HQ HA hlu hge GE LU SZ
    go_wp2
    exact ret_cellTTT (b := w.heap.size + 2) Tryd.results25 rfl rfl rfl rfl (Box2.loadbk Y5.out) ⟨R5.out, A5.out⟩
end Go.Proofs.YtpngjkhncfbnpaaDoor
