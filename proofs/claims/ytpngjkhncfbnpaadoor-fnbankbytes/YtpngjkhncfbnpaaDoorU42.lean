/-
  Texts of the proof, joined: BankSi, BankSx.
-/
import Derived.Test.YtpngjkhncfbnpaaDoorU38
import Derived.Deep.DeepCutAuto
namespace Go.Proofs.YtpngjkhncfbnpaaDoor
open Go.ChangeShapes Go.WideShapes Go.ChangeAt Go.RowKit
set_option linter.unusedVariables false
set_option maxRecDepth 100000 in
set_option maxHeartbeats 4000000 in
theorem l08Step_ins (Q : Nat → Prop) (b : Bk) (q : Rq) (hk : b.Ok) (g : ¬ b.hasR q.x.v) (h6 : b.nr < 6) (k2 : q.x.c = 1) (a0 a1 : Option Addr) (c0 c1 : Nat) (s0 : SlP a0 b.nr c0) (s1 : SlP a1 b.ns c1) (w : World) (h : BankV w b a0 a1) :
    Calls Tryd.prog 93 #[.agg #[.slice a0 b.nr c0, .slice a1 b.ns c1], .agg #[.int .i64 q.se, .int .i64 q.sq, .int .i64 q.x.v, .int .i64 q.x.c, .string q.x.r]] w fun e w' => RetSt Q w.heap.size (b.insR q.x) 0 q.x.c e w' ∧ Below w.heap.size w w' := by
  have HV : Hid (BankV w b a0 a1) := h
  have A1 : Hid (Below w.heap.size w (((w.alloc (.cells #[.slice a0 b.nr c0, .slice a1 b.ns c1] 46)).alloc (.cells #[.int .i64 q.se, .int .i64 q.sq, .int .i64 q.x.v, .int .i64 q.x.c, .string q.x.r] 52)).alloc (.cells #[.slice none 0 0, .slice none 0 0] 46))) := (((Below.refl _ _).alloc (Nat.le_refl _) _).alloc (by simp) _).alloc (by simp; omega) _
  have X : Hid (Box2 (((w.alloc (.cells #[.slice a0 b.nr c0, .slice a1 b.ns c1] 46)).alloc (.cells #[.int .i64 q.se, .int .i64 q.sq, .int .i64 q.x.v, .int .i64 q.x.c, .string q.x.r] 52)).alloc (.cells #[.slice none 0 0, .slice none 0 0] 46)) w.heap.size 46 (.slice a0 b.nr c0) (.slice a1 b.ns c1)) := ((Box2.made _ _ _ _).alloc _).alloc _
  have XQ : Hid (BoxQ (((w.alloc (.cells #[.slice a0 b.nr c0, .slice a1 b.ns c1] 46)).alloc (.cells #[.int .i64 q.se, .int .i64 q.sq, .int .i64 q.x.v, .int .i64 q.x.c, .string q.x.r] 52)).alloc (.cells #[.slice none 0 0, .slice none 0 0] 46)) (w.heap.size + 1) q) := (BoxQ.madeAt (by simp) q).alloc _
  have Y : Hid (Box2 (((w.alloc (.cells #[.slice a0 b.nr c0, .slice a1 b.ns c1] 46)).alloc (.cells #[.int .i64 q.se, .int .i64 q.sq, .int .i64 q.x.v, .int .i64 q.x.c, .string q.x.r] 52)).alloc (.cells #[.slice none 0 0, .slice none 0 0] 46)) (w.heap.size + 2) 46 (.slice none 0 0) (.slice none 0 0)) := Box2.madeAt (by simp) _ _ _
  have FH : Hid (∀ (w : World), BankV w b a0 a1 → Calls Tryd.prog 113 #[.agg #[.slice a0 b.nr c0, .slice a1 b.ns c1], .int .i64 q.x.v] w fun e w' => e = .returned (.int .i64 (-1)) ∧ Below w.heap.size w w') := fun w h => l08Find_any b q.x.v _ hk (.inr ⟨g, rfl⟩) a0 a1 c0 c1 w h
  have OW : Hid (∀ (w : World), BankV w b a0 a1 → Calls Tryd.prog 54 #[.agg #[.slice a0 b.nr c0, .slice a1 b.ns c1]] w fun e w' => RetOwn b w.heap.size e w' ∧ Below w.heap.size w w') := fun w h => l08Own_any b a0 a1 c0 c1 (by have := hk.1.1; omega) (by have := hk.2.1; omega) s0.z s1.z w h
  have K2 : Hid (q.x.c = 1) := k2
  have PS : Hid (Pos (fun i => (b.R i).v) b.nr q.x.v (b.kR q.x.v)) := hk.posR q.x.v
  have KS : Hid (b.insR q.x = { b with nr := b.nr + 1, R := insE b.R (b.kR q.x.v) q.x }) := rfl
  have NG : Hid (¬ (b.kR q.x.v < b.nr ∧ (b.R (b.kR q.x.v)).v = q.x.v)) := g
  have SP : Hid (SlP a0 b.nr c0) := s0
  have KN : Hid (b.kR q.x.v ≤ b.nr) := PS.out.1
  clear h k2 s0 s1 g hk
  generalize hu : b.kR q.x.v = K at *
  clear hu
  go_enter Tryd.func93, Tryd.ntmps93
  go_wp2_with fail
  generalize (((w.alloc (.cells #[.slice a0 b.nr c0, .slice a1 b.ns c1] 46)).alloc (.cells #[.int .i64 q.se, .int .i64 q.sq, .int .i64 q.x.v, .int .i64 q.x.c, .string q.x.r] 52)).alloc (.cells #[.slice none 0 0, .slice none 0 0] 46)) = v at *
  refine (FH.out _ (HV.out.below A1.out)).mono ?_
  rintro e v2 ⟨rfl, hb⟩
  replace A1 : Hid (Below w.heap.size w v2) := A1.out.trans (hb.mono A1.out.size)
  replace X : Hid (Box2 v2 w.heap.size 46 (.slice a0 b.nr c0) (.slice a1 b.ns c1)) := X.out.below hb
  replace XQ : Hid (BoxQ v2 (w.heap.size + 1) q) := XQ.out.below hb
  replace Y : Hid (Box2 v2 (w.heap.size + 2) 46 (.slice none 0 0) (.slice none 0 0)) := Y.out.below hb
  clear hb FH
  have HL : Hid (w.heap.size + 2 < v2.heap.size) := Y.out.lt
  have x0 := X.out.c0
  have x1 := X.out.c1
  have q3 := XQ.out.c3
  rw [K2.out] at q3
  have m4 : ((b.nr : Int) == 6) = false := by simp; omega
  go_wp2_with fail
  refine (OW.out _ (HV.out.below A1.out)).mono ?_
  rintro e v3 ⟨⟨i0, n0, i1, n1, rfl, RE⟩, hb⟩
  replace A1 : Hid (Below w.heap.size w v3) := A1.out.trans (hb.mono A1.out.size)
  replace X : Hid (Box2 v3 w.heap.size 46 (.slice a0 b.nr c0) (.slice a1 b.ns c1)) := X.out.below hb
  replace XQ : Hid (BoxQ v3 (w.heap.size + 1) q) := XQ.out.below hb
  replace Y : Hid (Box2 v3 (w.heap.size + 2) 46 (.slice none 0 0) (.slice none 0 0)) := Y.out.below hb
  clear hb OW x0 x1 q3 m4
  have q2 := XQ.out.c2
  have q3 := XQ.out.c3
  have q4 := XQ.out.c4
  have l0 := X.out.lt
  have l1 := XQ.out.lt
  have l2 := Y.out.lt
  have hb5 : Below v3.heap.size v3 ((v3.alloc (.cells #[.slice i0 b.nr n0, .slice i1 b.ns n1] 46)).alloc (.cells #[.int .i64 q.x.v, .int .i64 q.x.c, .string q.x.r] 54)) := ((Below.refl _ _).alloc (Nat.le_refl _) _).alloc (by simp) _
  have X5 : Hid (Box2 ((v3.alloc (.cells #[.slice i0 b.nr n0, .slice i1 b.ns n1] 46)).alloc (.cells #[.int .i64 q.x.v, .int .i64 q.x.c, .string q.x.r] 54)) w.heap.size 46 (.slice a0 b.nr c0) (.slice a1 b.ns c1)) := X.out.below hb5
  have Q5 : Hid (BoxQ ((v3.alloc (.cells #[.slice i0 b.nr n0, .slice i1 b.ns n1] 46)).alloc (.cells #[.int .i64 q.x.v, .int .i64 q.x.c, .string q.x.r] 54)) (w.heap.size + 1) q) := XQ.out.below hb5
  have Y5 : Hid (Box2 ((v3.alloc (.cells #[.slice i0 b.nr n0, .slice i1 b.ns n1] 46)).alloc (.cells #[.int .i64 q.x.v, .int .i64 q.x.c, .string q.x.r] 54)) (w.heap.size + 2) 46 (.slice none 0 0) (.slice none 0 0)) := Y.out.below hb5
  have O5 : Hid (Box2 ((v3.alloc (.cells #[.slice i0 b.nr n0, .slice i1 b.ns n1] 46)).alloc (.cells #[.int .i64 q.x.v, .int .i64 q.x.c, .string q.x.r] 54)) v3.heap.size 46 (.slice i0 b.nr n0) (.slice i1 b.ns n1)) := (Box2.made _ _ _ _).alloc _
  have Z5 : Hid (Box3 ((v3.alloc (.cells #[.slice i0 b.nr n0, .slice i1 b.ns n1] 46)).alloc (.cells #[.int .i64 q.x.v, .int .i64 q.x.c, .string q.x.r] 54)) (v3.heap.size + 1) 54 (.int .i64 q.x.v) (.int .i64 q.x.c) (.string q.x.r)) := Box3.madeAt (by simp) _ _ _ _
  have A5 : Hid (Below w.heap.size w ((v3.alloc (.cells #[.slice i0 b.nr n0, .slice i1 b.ns n1] 46)).alloc (.cells #[.int .i64 q.x.v, .int .i64 q.x.c, .string q.x.r] 54))) := A1.out.trans (hb5.mono A1.out.size)
  have E5 : Hid (EO ((v3.alloc (.cells #[.slice i0 b.nr n0, .slice i1 b.ns n1] 46)).alloc (.cells #[.int .i64 q.x.v, .int .i64 q.x.c, .string q.x.r] 54)) v2.heap.size 100 4 (.slice i1 b.ns n1) b.ns (seF b.S)) := RE.e1.below hb5
  have SP1 : Hid (SlP i1 b.ns n1) := RE.e1.slp
  have G1 : Hid (∀ g, (Value.slice i1 b.ns n1).ownBlock = some g → g < v3.heap.size) := fun g e => (RE.e1.ge g e).2
  have L3 : Hid (w.heap.size + 2 < v3.heap.size) := Y.out.lt
  have V5 : Hid (Els ((v3.alloc (.cells #[.slice i0 b.nr n0, .slice i1 b.ns n1] 46)).alloc (.cells #[.int .i64 q.x.v, .int .i64 q.x.c, .string q.x.r] 54)) 3 a0 b.nr (rgF b.R)) := HV.out.1.below A5.out
  clear RE A1 X XQ Y hb5 HV
  go_wp2_with fail
  generalize ((v3.alloc (.cells #[.slice i0 b.nr n0, .slice i1 b.ns n1] 46)).alloc (.cells #[.int .i64 q.x.v, .int .i64 q.x.c, .string q.x.r] 54)) = v5 at *
  generalize v3.heap.size = po at *
  clear q2 q3 q4 l0 l1 l2
  go_loopw [7] (fun kv wr => ∃ k : Nat, k ≤ K ∧ kv = .int .i64 (k : Int) ∧ ∃ n, wr = v5.drewN n) (fun kv _ => K - (intOf kv).toNat)
  case atStart => exact ⟨0, by omega, rfl, 0, rfl⟩
  case round =>
    obtain ⟨k, hk, rfl, n, rfl⟩ := hrel
    have x0 := X5.out.c0
    have q2 := Q5.out.c2
    by_cases hlt : k < K
    · have KN' := KN.out
      obtain ⟨p, off, ha, hcc⟩ := V5.out.opened (by omega)
      obtain ⟨d0, d1, d2⟩ := Els.rgC hcc k (by omega)
      have hd : (b.R k).v < q.x.v := PS.out.2.1 k hlt
      have hlt' : (k : Int) < (b.nr : Int) := by omega
      have hk0 : (0 : Int) ≤ (k : Int) := by omega
      clear hcc d1 d2
      subst ha
      go_wp2_with fail
      go_quiet (fail)
      go_wp2
      go_roundw
      case rel => exact ⟨k + 1, by omega, by go_num, _, rfl⟩
      case measure => simp [intOf]; omega
    · obtain rfl : k = K := by omega
      have KN' := KN.out
      have hke : k < b.nr → ¬ (b.R k).v < q.x.v := fun h => by
        have h1 := PS.out.2.2 k (Nat.le_refl _) h
        dsimp only at h1
        omega
      clear hlt
      rcases Nat.lt_or_ge k b.nr with hlt | hlt
      all_goals
        first
          | (have hlt2 : k < b.nr := hlt
             obtain ⟨p, off, ha, hcc⟩ := V5.out.opened (by omega)
             obtain ⟨d0, d1, d2⟩ := Els.rgC hcc k hlt
             have hd := hke hlt
             have hlt' : (k : Int) < (b.nr : Int) := by omega
             have hk0 : (0 : Int) ≤ (k : Int) := by omega
             clear hcc d1 d2 hlt2
             subst ha
             go_wp2_with fail
             go_quiet (fail)
             go_wp2_with fail
             clear d0 hd hlt' hk0
             generalize hA : (some (⟨p, off, none⟩ : Addr)) = a0 at *
             clear hA)
          | (have hlt' : ¬ (k : Int) < (b.nr : Int) := by omega
             have hd : decide (k < b.nr) = false := by simp; omega
             have hd2 : ¬ k < b.nr := by omega
             go_wp2_with fail
             go_quiet (fail)
             go_wp2_with fail
             clear hd hd2 hlt')
        generalize hU : (v5.drewN _).drewN _ = u at *
        have hbu : Below v5.heap.size v5 u := hU ▸ (below_dN v5 _).trans (below_dN (v5.drewN _) _)
        have X2 : Hid (Box2 u w.heap.size 46 (.slice a0 b.nr c0) (.slice a1 b.ns c1)) := X5.out.below hbu
        have XX : Hid (Box3 u (po + 1) 54 (.int .i64 q.x.v) (.int .i64 q.x.c) (.string q.x.r)) := Z5.out.below hbu
        have XO : Hid (Box2 u po 46 (.slice i0 b.nr n0) (.slice i1 b.ns n1)) := O5.out.below hbu
        have Q6 : Hid (BoxQ u (w.heap.size + 1) q) := Q5.out.below hbu
        have Y6 : Hid (Box2 u (w.heap.size + 2) 46 (.slice none 0 0) (.slice none 0 0)) := Y5.out.below hbu
        have A6 : Hid (Below w.heap.size w u) := A5.out.trans (hbu.mono A5.out.size)
        have E6 : Hid (EO u v2.heap.size 100 4 (.slice i1 b.ns n1) b.ns (seF b.S)) := E5.out.below hbu
        have ER : Hid (Els u 3 a0 b.nr (rgF b.R)) := V5.out.below hbu
        have EC : Hid (Els u 3 (cutA a0 c0 k 3) (b.nr - k) (rgF (fun i => b.R (k + i)))) := ER.out.cut SP.out.le k KN.out
        have hsz : ∀ w, (sizeOf (Tryd.prog.elem 43)).run Tryd.prog w = .ok 3 w := fun w => by
          obtain ⟨i, hi, hz, hsz, hby⟩ := info_parts Tryd.infoRg
          rw [show Tryd.prog.elem 43 = 54 by kernel_rfl]
          simp [sizeOf, typeInfo, hi, hsz]
        have hun : Tryd.prog.underlying 43 = some (.slice (Tryd.prog.elem 43)) := by kernel_rfl
        have CT : Hid (∀ w : World, (Instr.slice 43 (.slice a0 b.nr c0) none (some (.int .i64 (k : Int))) none).run Tryd.prog w = .ok (.slice a0 k c0) w) := run_cut_to 43 hun 3 hsz SP.out k (Nat.le_trans KN.out SP.out.le)
        have CF : Hid (∀ w : World, (Instr.slice 43 (.slice a0 b.nr c0) (some (.int .i64 (k : Int))) none none).run Tryd.prog w = .ok (.slice (cutA a0 c0 k 3) (b.nr - k) (c0 - k)) w) := run_cut_from 43 hun 3 hsz SP.out k KN.out
        have N2 : Hid (w.heap.size ≠ po) := by have := L3.out; show w.heap.size ≠ po; omega
        have NX : Hid (po + 1 ≠ po) := by show po + 1 ≠ po; omega
        clear hU hbu X5 Z5 O5 Q5 Y5 A5 E5 V5 hke x0 q2 hsz hun PS hlt
        have I : Hid (InsJ u u.drew 54 3 (.slice none 0 0) 0 (rgF b.R) none (rgV q.x)) := InsJ.start _ _ _ _ _
        have H : (Box2 u.drew w.heap.size 46 (.slice a0 b.nr c0) (.slice a1 b.ns c1)) ∧ (Box3 u.drew (po + 1) 54 (.int .i64 q.x.v) (.int .i64 q.x.c) (.string q.x.r)) := ⟨X2.out.below I.out.hb, XX.out.below I.out.hb⟩
        refine wp_region_noPanic ?_
        refine wp_region_held_drew (S := fun w' => (Box2 w' w.heap.size 46 (.slice a0 b.nr c0) (.slice a1 b.ns c1)) ∧ (Box3 w' (po + 1) 54 (.int .i64 q.x.v) (.int .i64 q.x.c) (.string q.x.r))) (by kernel_rfl) H (fun _ => ?_)
        generalize u.drew = y0 at *
        refine wpAnyH_take (i := 1) (v := .pointer (some ⟨w.heap.size, 0, none⟩)) rfl (by kernel_rfl) (by kernel_rfl) (by kernel_rfl) (fun _ _ _ h => h) (Or.inl ⟨by rfl, ?_⟩) H ?_
        · intro w' hSw; go_simp
        change wpAnyH _ _ _ _ _ _ _ { tmps := #[_,_,_,_,_,_,_,_,_,_,_,_,_,_,_,_,_,_,_,_,_,_,_,_,_,_,_,_,_,_,_,_,_,_,_,_,_,_,_,_,_,_,_,_,_,_,_,_,_,_,_,_,_,_,_,_,_,_,_,_,_,_,_,_,_,_,_,_,_,_,_,_,_,_,_,_,_,_,_,_,_,_,_,_,_,_,_,_,_,_,_,_,_,_,_,_,_,_,_,_,_,_,_,_,_,_,_,_,_], defers := _ } _
        refine wpAnyH_take (i := 2) (v := .slice a0 b.nr c0) rfl (by kernel_rfl) (by kernel_rfl) (by kernel_rfl) (fun _ _ _ h => h) (Or.inl ⟨by rfl, ?_⟩) H ?_
        · intro w' hSw; have t0 := hSw.1.c0; clear hSw; go_simp
        change wpAnyH _ _ _ _ _ _ _ { tmps := #[_,_,_,_,_,_,_,_,_,_,_,_,_,_,_,_,_,_,_,_,_,_,_,_,_,_,_,_,_,_,_,_,_,_,_,_,_,_,_,_,_,_,_,_,_,_,_,_,_,_,_,_,_,_,_,_,_,_,_,_,_,_,_,_,_,_,_,_,_,_,_,_,_,_,_,_,_,_,_,_,_,_,_,_,_,_,_,_,_,_,_,_,_,_,_,_,_,_,_,_,_,_,_,_,_,_,_,_,_], defers := _ } _
        refine wpAnyH_take (i := 3) (v := .int .i64 (k : Int)) rfl (by kernel_rfl) (by kernel_rfl) (by kernel_rfl) (fun _ _ _ h => h) (Or.inl ⟨by rfl, ?_⟩) H ?_
        · intro w' hSw; go_simp
        change wpAnyH _ _ _ _ _ _ _ { tmps := #[_,_,_,_,_,_,_,_,_,_,_,_,_,_,_,_,_,_,_,_,_,_,_,_,_,_,_,_,_,_,_,_,_,_,_,_,_,_,_,_,_,_,_,_,_,_,_,_,_,_,_,_,_,_,_,_,_,_,_,_,_,_,_,_,_,_,_,_,_,_,_,_,_,_,_,_,_,_,_,_,_,_,_,_,_,_,_,_,_,_,_,_,_,_,_,_,_,_,_,_,_,_,_,_,_,_,_,_,_], defers := _ } _
        refine wpAnyH_take (i := 4) (v := .slice a0 k c0) rfl (by kernel_rfl) (by kernel_rfl) (by kernel_rfl) (fun _ _ _ h => h) (Or.inl ⟨by rfl, ?_⟩) H ?_
        · intro w' hSw; have hs := CT.out w'; clear hSw; go_simp
        change wpAnyH _ _ _ _ _ _ _ { tmps := #[_,_,_,_,_,_,_,_,_,_,_,_,_,_,_,_,_,_,_,_,_,_,_,_,_,_,_,_,_,_,_,_,_,_,_,_,_,_,_,_,_,_,_,_,_,_,_,_,_,_,_,_,_,_,_,_,_,_,_,_,_,_,_,_,_,_,_,_,_,_,_,_,_,_,_,_,_,_,_,_,_,_,_,_,_,_,_,_,_,_,_,_,_,_,_,_,_,_,_,_,_,_,_,_,_,_,_,_,_], defers := _ } _
        refine wpAnyH_take (i := 6) (v := .agg #[.int .i64 q.x.v, .int .i64 q.x.c, .string q.x.r]) rfl (by kernel_rfl) (by kernel_rfl) (by kernel_rfl) (fun _ _ _ h => h) (Or.inl ⟨by rfl, ?_⟩) H ?_
        · intro w' hSw; have t0 := hSw.2.c0; have t1 := hSw.2.c1; have t2 := hSw.2.c2; clear hSw; go_simp
        change wpAnyH _ _ _ _ _ _ _ { tmps := #[_,_,_,_,_,_,_,_,_,_,_,_,_,_,_,_,_,_,_,_,_,_,_,_,_,_,_,_,_,_,_,_,_,_,_,_,_,_,_,_,_,_,_,_,_,_,_,_,_,_,_,_,_,_,_,_,_,_,_,_,_,_,_,_,_,_,_,_,_,_,_,_,_,_,_,_,_,_,_,_,_,_,_,_,_,_,_,_,_,_,_,_,_,_,_,_,_,_,_,_,_,_,_,_,_,_,_,_,_], defers := _ } _
        refine wpAnyH_take (i := 9) (v := .pointer (some ⟨w.heap.size, 0, none⟩)) rfl (by kernel_rfl) (by kernel_rfl) (by kernel_rfl) (fun _ _ _ h => h) (Or.inl ⟨by rfl, ?_⟩) H ?_
        · intro w' hSw; go_simp
        change wpAnyH _ _ _ _ _ _ _ { tmps := #[_,_,_,_,_,_,_,_,_,_,_,_,_,_,_,_,_,_,_,_,_,_,_,_,_,_,_,_,_,_,_,_,_,_,_,_,_,_,_,_,_,_,_,_,_,_,_,_,_,_,_,_,_,_,_,_,_,_,_,_,_,_,_,_,_,_,_,_,_,_,_,_,_,_,_,_,_,_,_,_,_,_,_,_,_,_,_,_,_,_,_,_,_,_,_,_,_,_,_,_,_,_,_,_,_,_,_,_,_], defers := _ } _
        refine wpAnyH_take (i := 10) (v := .slice a0 b.nr c0) rfl (by kernel_rfl) (by kernel_rfl) (by kernel_rfl) (fun _ _ _ h => h) (Or.inl ⟨by rfl, ?_⟩) H ?_
        · intro w' hSw; have t0 := hSw.1.c0; clear hSw; go_simp
        change wpAnyH _ _ _ _ _ _ _ { tmps := #[_,_,_,_,_,_,_,_,_,_,_,_,_,_,_,_,_,_,_,_,_,_,_,_,_,_,_,_,_,_,_,_,_,_,_,_,_,_,_,_,_,_,_,_,_,_,_,_,_,_,_,_,_,_,_,_,_,_,_,_,_,_,_,_,_,_,_,_,_,_,_,_,_,_,_,_,_,_,_,_,_,_,_,_,_,_,_,_,_,_,_,_,_,_,_,_,_,_,_,_,_,_,_,_,_,_,_,_,_], defers := _ } _
        refine wpAnyH_take (i := 11) (v := .int .i64 (k : Int)) rfl (by kernel_rfl) (by kernel_rfl) (by kernel_rfl) (fun _ _ _ h => h) (Or.inl ⟨by rfl, ?_⟩) H ?_
        · intro w' hSw; go_simp
        change wpAnyH _ _ _ _ _ _ _ { tmps := #[_,_,_,_,_,_,_,_,_,_,_,_,_,_,_,_,_,_,_,_,_,_,_,_,_,_,_,_,_,_,_,_,_,_,_,_,_,_,_,_,_,_,_,_,_,_,_,_,_,_,_,_,_,_,_,_,_,_,_,_,_,_,_,_,_,_,_,_,_,_,_,_,_,_,_,_,_,_,_,_,_,_,_,_,_,_,_,_,_,_,_,_,_,_,_,_,_,_,_,_,_,_,_,_,_,_,_,_,_], defers := _ } _
        refine wpAnyH_take (i := 12) (v := .slice (cutA a0 c0 k 3) (b.nr - k) (c0 - k)) rfl (by kernel_rfl) (by kernel_rfl) (by kernel_rfl) (fun _ _ _ h => h) (Or.inl ⟨by rfl, ?_⟩) H ?_
        · intro w' hSw; have hs := CF.out w'; clear hSw; go_simp
        change wpAnyH _ _ _ _ _ _ _ { tmps := #[_,_,_,_,_,_,_,_,_,_,_,_,_,_,_,_,_,_,_,_,_,_,_,_,_,_,_,_,_,_,_,_,_,_,_,_,_,_,_,_,_,_,_,_,_,_,_,_,_,_,_,_,_,_,_,_,_,_,_,_,_,_,_,_,_,_,_,_,_,_,_,_,_,_,_,_,_,_,_,_,_,_,_,_,_,_,_,_,_,_,_,_,_,_,_,_,_,_,_,_,_,_,_,_,_,_,_,_,_], defers := _ } _
        refine wpAnyH_ready (rs := [0, 7]) (by kernel_rfl) (by simp) ?_
        refine (AllReadyH.cons rfl (fun KK hK => ?_) (AllReadyH.cons rfl (fun KK hK => ?_) AllReadyH.nil))
        · skip
          replace I : Hid (InsJ u (y0.alloc (.cells #[] 54)) 54 3 (.slice (some ⟨y0.heap.size, 0, none⟩) 0 0) 0 (rgF b.R) none (rgV q.x)) := I.out.lit0
          go_simp
          replace H := (⟨X2.out.below I.out.hb, XX.out.below I.out.hb⟩ : (Box2 (y0.alloc (.cells #[] 54)) w.heap.size 46 (.slice a0 b.nr c0) (.slice a1 b.ns c1)) ∧ (Box3 (y0.alloc (.cells #[] 54)) (po + 1) 54 (.int .i64 q.x.v) (.int .i64 q.x.c) (.string q.x.r)))
          refine hK.out _ _ H (fun _ => ?_)
          clear hK KK
          generalize (y0.alloc (.cells #[] 54)) = y1 at *
          generalize y0.heap.size = gr at *
          change wpAnyH _ _ _ _ _ _ _ { tmps := #[_,_,_,_,_,_,_,_,_,_,_,_,_,_,_,_,_,_,_,_,_,_,_,_,_,_,_,_,_,_,_,_,_,_,_,_,_,_,_,_,_,_,_,_,_,_,_,_,_,_,_,_,_,_,_,_,_,_,_,_,_,_,_,_,_,_,_,_,_,_,_,_,_,_,_,_,_,_,_,_,_,_,_,_,_,_,_,_,_,_,_,_,_,_,_,_,_,_,_,_,_,_,_,_,_,_,_,_,_], defers := _ } _
          refine wpAnyH_ready (rs := [5, 7]) (by kernel_rfl) (by simp) ?_
          refine (AllReadyH.cons rfl (fun KK hK => ?_) (AllReadyH.cons rfl (fun KK hK => ?_) AllReadyH.nil))
          · skip
            obtain ⟨vr, y2, hr, ho, hg, hl⟩ := allRg y1 u.heap.size _ 0 b.R a0 k c0 b.R I.out.hb.size (by omega) I.out.row ((ER.out.less KN.out).below I.out.hb) SP.out.z
            rw [Nat.zero_add, catE_zero] at ho
            obtain ⟨ara, cra, rfl⟩ := ho.form
            replace I : Hid (InsJ u y2 54 3 (.slice ara k cra) k (rgF b.R) none (rgV q.x)) := I.out.grow ho hg hl
            rw [if_pos (by rfl)]
            refine Lib.wp_append_run _ (.tmp 91) (.tmp 95) 43 43 rfl (.slice (some ⟨gr, 0, none⟩) 0 0) (.slice a0 k c0) rfl rfl _ _ (hr _) ?_
            replace H := (⟨X2.out.below I.out.hb, XX.out.below I.out.hb⟩ : (Box2 y2 w.heap.size 46 (.slice a0 b.nr c0) (.slice a1 b.ns c1)) ∧ (Box3 y2 (po + 1) 54 (.int .i64 q.x.v) (.int .i64 q.x.c) (.string q.x.r)))
            refine hK.out _ _ H (fun _ => ?_)
            clear hK KK hr ho hg hl
            change wpAnyH _ _ _ _ _ _ _ { tmps := #[_,_,_,_,_,_,_,_,_,_,_,_,_,_,_,_,_,_,_,_,_,_,_,_,_,_,_,_,_,_,_,_,_,_,_,_,_,_,_,_,_,_,_,_,_,_,_,_,_,_,_,_,_,_,_,_,_,_,_,_,_,_,_,_,_,_,_,_,_,_,_,_,_,_,_,_,_,_,_,_,_,_,_,_,_,_,_,_,_,_,_,_,_,_,_,_,_,_,_,_,_,_,_,_,_,_,_,_,_], defers := _ } _
            refine wpAnyH_ready (rs := [7]) (by kernel_rfl) (by simp) ?_
            refine (AllReadyH.cons rfl (fun KK hK => ?_) AllReadyH.nil)
            replace I : Hid (InsJ u (y2.alloc (.cells #[.int .i64 q.x.v, .int .i64 q.x.c, .string q.x.r] 54)) 54 3 (.slice ara k cra) k (rgF b.R) (some y2.heap.size) (rgV q.x)) := I.out.lit1 #[.int .i64 q.x.v, .int .i64 q.x.c, .string q.x.r] (fun j hj => by rcases (show j = 0 ∨ j = 1 ∨ j = 2 by omega) with rfl | rfl | rfl <;> rfl)
            go_simp
            replace H := (⟨X2.out.below I.out.hb, XX.out.below I.out.hb⟩ : (Box2 (y2.alloc (.cells #[.int .i64 q.x.v, .int .i64 q.x.c, .string q.x.r] 54)) w.heap.size 46 (.slice a0 b.nr c0) (.slice a1 b.ns c1)) ∧ (Box3 (y2.alloc (.cells #[.int .i64 q.x.v, .int .i64 q.x.c, .string q.x.r] 54)) (po + 1) 54 (.int .i64 q.x.v) (.int .i64 q.x.c) (.string q.x.r)))
            refine hK.out _ _ H (fun _ => ?_)
            clear hK KK
            generalize (y2.alloc (.cells #[.int .i64 q.x.v, .int .i64 q.x.c, .string q.x.r] 54)) = y3 at *
            generalize y2.heap.size = gl at *
            change wpAnyH _ _ _ _ _ _ _ { tmps := #[_,_,_,_,_,_,_,_,_,_,_,_,_,_,_,_,_,_,_,_,_,_,_,_,_,_,_,_,_,_,_,_,_,_,_,_,_,_,_,_,_,_,_,_,_,_,_,_,_,_,_,_,_,_,_,_,_,_,_,_,_,_,_,_,_,_,_,_,_,_,_,_,_,_,_,_,_,_,_,_,_,_,_,_,_,_,_,_,_,_,_,_,_,_,_,_,_,_,_,_,_,_,_,_,_,_,_,_,_], defers := _ } _
            refine wpAnyH_ready (rs := [8]) (by kernel_rfl) (by simp) ?_
            refine (AllReadyH.cons rfl (fun KK hK => ?_) AllReadyH.nil)
            obtain ⟨vr, y4, hr, ho, hg, hl⟩ := appRg y3 u.heap.size _ k gl b.R q.x I.out.hb.size (by omega) I.out.row (I.out.lit _ rfl).1
            obtain ⟨arb, crb, rfl⟩ := ho.form
            replace I : Hid (InsJ u y4 54 3 (.slice arb (k + 1) crb) (k + 1) (rgF (updE b.R k q.x)) (some gl) (rgV q.x)) := I.out.grow ho hg hl
            rw [if_pos (by rfl)]
            refine Lib.wp_append_run _ (.tmp 96) (.tmp 98) 43 43 rfl (.slice ara k cra) (.slice (some ⟨gl, 0, none⟩) 1 1) rfl rfl _ _ (hr _) ?_
            replace H := (⟨X2.out.below I.out.hb, XX.out.below I.out.hb⟩ : (Box2 y4 w.heap.size 46 (.slice a0 b.nr c0) (.slice a1 b.ns c1)) ∧ (Box3 y4 (po + 1) 54 (.int .i64 q.x.v) (.int .i64 q.x.c) (.string q.x.r)))
            refine hK.out _ _ H (fun _ => ?_)
            clear hK KK hr ho hg hl
            change wpAnyH _ _ _ _ _ _ _ { tmps := #[_,_,_,_,_,_,_,_,_,_,_,_,_,_,_,_,_,_,_,_,_,_,_,_,_,_,_,_,_,_,_,_,_,_,_,_,_,_,_,_,_,_,_,_,_,_,_,_,_,_,_,_,_,_,_,_,_,_,_,_,_,_,_,_,_,_,_,_,_,_,_,_,_,_,_,_,_,_,_,_,_,_,_,_,_,_,_,_,_,_,_,_,_,_,_,_,_,_,_,_,_,_,_,_,_,_,_,_,_], defers := _ } _
            refine wpAnyH_ready (rs := [13]) (by kernel_rfl) (by simp) ?_
            refine (AllReadyH.cons rfl (fun KK hK => ?_) AllReadyH.nil)
            obtain ⟨vr, y5, hr, ho, hg, hl⟩ := allRg y4 u.heap.size _ (k + 1) (updE b.R k q.x) (cutA a0 c0 k 3) (b.nr - k) (c0 - k) (fun i => b.R (k + i)) I.out.hb.size (by omega) I.out.row (EC.out.below I.out.hb) (cutA_zero SP.out _ _)
            rw [← ins_cat, show k + 1 + (b.nr - k) = b.nr + 1 by have := KN.out; omega] at ho
            obtain ⟨arc, crc, rfl⟩ := ho.form
            replace I : Hid (InsJ u y5 54 3 (.slice arc (b.nr + 1) crc) (b.nr + 1) (rgF (insE b.R k q.x)) (some gl) (rgV q.x)) := I.out.grow ho hg hl
            rw [if_pos (by rfl)]
            refine Lib.wp_append_run _ (.tmp 99) (.tmp 103) 43 43 rfl (.slice arb (k + 1) crb) (.slice (cutA a0 c0 k 3) (b.nr - k) (c0 - k)) rfl rfl _ _ (hr _) ?_
            replace H := (⟨X2.out.below I.out.hb, XX.out.below I.out.hb⟩ : (Box2 y5 w.heap.size 46 (.slice a0 b.nr c0) (.slice a1 b.ns c1)) ∧ (Box3 y5 (po + 1) 54 (.int .i64 q.x.v) (.int .i64 q.x.c) (.string q.x.r)))
            refine hK.out _ _ H (fun _ => ?_)
            clear hK KK hr ho hg hl
            change wpAnyH _ _ _ _ _ _ _ { tmps := #[_,_,_,_,_,_,_,_,_,_,_,_,_,_,_,_,_,_,_,_,_,_,_,_,_,_,_,_,_,_,_,_,_,_,_,_,_,_,_,_,_,_,_,_,_,_,_,_,_,_,_,_,_,_,_,_,_,_,_,_,_,_,_,_,_,_,_,_,_,_,_,_,_,_,_,_,_,_,_,_,_,_,_,_,_,_,_,_,_,_,_,_,_,_,_,_,_,_,_,_,_,_,_,_,_,_,_,_,_], defers := _ } _
            refine wpAnyH_take (i := 14) (v := .pointer (some ⟨po, 0, none⟩)) rfl (by kernel_rfl) (by kernel_rfl) (by kernel_rfl) (fun _ _ _ h => h) (Or.inl ⟨by rfl, ?_⟩) H ?_
            · intro w' hSw; go_simp
            change wpAnyH _ _ _ _ _ _ _ { tmps := #[_,_,_,_,_,_,_,_,_,_,_,_,_,_,_,_,_,_,_,_,_,_,_,_,_,_,_,_,_,_,_,_,_,_,_,_,_,_,_,_,_,_,_,_,_,_,_,_,_,_,_,_,_,_,_,_,_,_,_,_,_,_,_,_,_,_,_,_,_,_,_,_,_,_,_,_,_,_,_,_,_,_,_,_,_,_,_,_,_,_,_,_,_,_,_,_,_,_,_,_,_,_,_,_,_,_,_,_,_], defers := _ } _
            refine wpAnyH_ready (rs := [15]) (by kernel_rfl) (by simp) ?_
            refine (AllReadyH.cons rfl (fun KK hK => ?_) AllReadyH.nil)
            have t0 := (XO.out.below I.out.hb).c0
            have f0 := (XO.out.below I.out.hb).fr 0
            go_simp
            refine hK.out _ _ ⟨H.1.other (a := ⟨po, 0, none⟩) N2.out _, H.2.other (a := ⟨po, 0, none⟩) NX.out _⟩ (fun _ => ?_)
            clear hK KK
            change wpAnyH _ _ _ _ _ _ _ { tmps := #[_,_,_,_,_,_,_,_,_,_,_,_,_,_,_,_,_,_,_,_,_,_,_,_,_,_,_,_,_,_,_,_,_,_,_,_,_,_,_,_,_,_,_,_,_,_,_,_,_,_,_,_,_,_,_,_,_,_,_,_,_,_,_,_,_,_,_,_,_,_,_,_,_,_,_,_,_,_,_,_,_,_,_,_,_,_,_,_,_,_,_,_,_,_,_,_,_,_,_,_,_,_,_,_,_,_,_,_,_], defers := _ } _
            refine wpAnyH_done (by kernel_rfl) ?_ _
            refine NoPanic.normal ?_
            have LU : Hid (po < u.heap.size) := XO.out.lt
            have C7 : Hid (Box2 (y5.setCell ⟨po, 0, none⟩ (.slice arc (b.nr + 1) crc)) po 46 (.slice arc (b.nr + 1) crc) (.slice i1 b.ns n1)) := (XO.out.below I.out.hb).set0 _
            have Q7 : Hid (BoxQ (y5.setCell ⟨po, 0, none⟩ (.slice arc (b.nr + 1) crc)) (w.heap.size + 1) q) := (Q6.out.below I.out.hb).ofBlock (heap_setCell_other _ _ _ _ (by have := L3.out; show w.heap.size + 1 ≠ po; omega))
            have Y7 : Hid (Box2 (y5.setCell ⟨po, 0, none⟩ (.slice arc (b.nr + 1) crc)) (w.heap.size + 2) 46 (.slice none 0 0) (.slice none 0 0)) := (Y6.out.below I.out.hb).other (a := ⟨po, 0, none⟩) (by have := L3.out; show w.heap.size + 2 ≠ po; omega) _
            have R7 : Hid (EO (y5.setCell ⟨po, 0, none⟩ (.slice arc (b.nr + 1) crc)) u.heap.size 54 3 (.slice arc (b.nr + 1) crc) (b.nr + 1) (rgF (insE b.R k q.x))) := I.out.row.keep (fun g e => heap_setCell_other _ _ _ _ (by have h1 := (I.out.row.ge g e).1; have h2 := LU.out; show g ≠ po; omega))
            have E7 : Hid (EO (y5.setCell ⟨po, 0, none⟩ (.slice arc (b.nr + 1) crc)) v2.heap.size 100 4 (.slice i1 b.ns n1) b.ns (seF b.S)) := (E6.out.below I.out.hb).keep (fun g e => heap_setCell_other _ _ _ _ (by have h1 := G1.out g e; show g ≠ po; omega))
            have A7 : Hid (Below w.heap.size w (y5.setCell ⟨po, 0, none⟩ (.slice arc (b.nr + 1) crc))) := (A6.out.trans (I.out.hb.mono A6.out.size)).setCell (by have := L3.out; show w.heap.size ≤ po; omega) _
            have S7 : Hid (SlP arc (b.nr + 1) crc) := I.out.row.slp
            have HU7 : Hid (w.heap.size + 2 < u.heap.size) := by have h1 := L3.out; have h2 := LU.out; show w.heap.size + 2 < u.heap.size; omega
            clear H t0 f0 I X2 XX XO Q6 Y6 A6 E6 ER EC CT CF
            change Exit.then _ _ Exit.normal { tmps := #[_, _, _, _, _, _, _, _, _, _, _, _, _, _, _, _, _, _, _, _, _, _, _, _, _, _, _, _, _, _, _, _, _, _, _, _, _, _, _, _, _, _, _, _, _, _, _, _, _, _, _, _, _, _, _, _, _, _, _, _, _, _, _, _, _, _, _, _, _, _, _, _, _, _, _, _, _, _, _, _, _, _, _, _, _, _, _, _, _, _, _, _, _, _, _, _, _, _, _, _, _, _, _, _, _, _, _, _, _], defers := _ } _
            generalize (y5.setCell ⟨po, 0, none⟩ (.slice arc (b.nr + 1) crc)) = z at *
            go_wp2_with fail
            have b0 := C7.out.c0
            have b1 := C7.out.c1
            have q3 := Q7.out.c3
            have y0 := Y7.out.c0
            have y1 := Y7.out.c1
            have f0 := Y7.out.fr 0
            have f1 := Y7.out.fr 1
            have O6 : OnlyB (w.heap.size + 2) z ((z.setCell ⟨w.heap.size + 1 + 1, 0, none⟩ (.slice arc (b.nr + 1) crc)).setCell ⟨w.heap.size + 1 + 1, 1, none⟩ (.slice i1 b.ns n1)) := ((OnlyB.refl _ z).setCell 0 _).setCell 1 _
            have D6 : Below ((z.setCell ⟨w.heap.size + 1 + 1, 0, none⟩ (.slice arc (b.nr + 1) crc)).setCell ⟨w.heap.size + 1 + 1, 1, none⟩ (.slice i1 b.ns n1)).heap.size ((z.setCell ⟨w.heap.size + 1 + 1, 0, none⟩ (.slice arc (b.nr + 1) crc)).setCell ⟨w.heap.size + 1 + 1, 1, none⟩ (.slice i1 b.ns n1)) ((z.setCell ⟨w.heap.size + 1 + 1, 0, none⟩ (.slice arc (b.nr + 1) crc)).setCell ⟨w.heap.size + 1 + 1, 1, none⟩ (.slice i1 b.ns n1)).drew := (Below.refl _ _).drew
            have R8 : Hid (Els ((z.setCell ⟨w.heap.size + 1 + 1, 0, none⟩ (.slice arc (b.nr + 1) crc)).setCell ⟨w.heap.size + 1 + 1, 1, none⟩ (.slice i1 b.ns n1)).drew 3 arc (b.nr + 1) (rgF (insE b.R k q.x))) := ((R7.out.onlyB O6 HU7.out).below D6).els
            have E8 : Hid (Els ((z.setCell ⟨w.heap.size + 1 + 1, 0, none⟩ (.slice arc (b.nr + 1) crc)).setCell ⟨w.heap.size + 1 + 1, 1, none⟩ (.slice i1 b.ns n1)).drew 4 i1 b.ns (seF b.S)) := ((E7.out.onlyB O6 HL.out).below D6).els
            have B8 : Hid (Box2 ((z.setCell ⟨w.heap.size + 1 + 1, 0, none⟩ (.slice arc (b.nr + 1) crc)).setCell ⟨w.heap.size + 1 + 1, 1, none⟩ (.slice i1 b.ns n1)).drew (w.heap.size + 2) 46 (.slice arc (b.nr + 1) crc) (.slice i1 b.ns n1)) := ((Y7.out.set0 _).set1 _).below D6
            have A8 : Hid (Below w.heap.size w ((z.setCell ⟨w.heap.size + 1 + 1, 0, none⟩ (.slice arc (b.nr + 1) crc)).setCell ⟨w.heap.size + 1 + 1, 1, none⟩ (.slice i1 b.ns n1)).drew) := (A7.out.trans (O6.toBelow (by omega) A7.out.size)).drew
            have FQ0 : Hid (FrQ Q w.heap.size ((z.setCell ⟨w.heap.size + 1 + 1, 0, none⟩ (.slice arc (b.nr + 1) crc)).setCell ⟨w.heap.size + 1 + 1, 1, none⟩ (.slice i1 b.ns n1)).drew arc) := R7.out.fresh (by have := HU7.out; omega) Q (by show z.heap.size ≤ ((z.setCell _ _).setCell _ _).heap.size; simp)
            have FQ1 : Hid (FrQ Q w.heap.size ((z.setCell ⟨w.heap.size + 1 + 1, 0, none⟩ (.slice arc (b.nr + 1) crc)).setCell ⟨w.heap.size + 1 + 1, 1, none⟩ (.slice i1 b.ns n1)).drew i1) := E7.out.fresh (by have := HL.out; omega) Q (by show z.heap.size ≤ ((z.setCell _ _).setCell _ _).heap.size; simp)
            clear O6 D6 R7 E7
            go_region
            generalize ((z.setCell ⟨w.heap.size + 1 + 1, 0, none⟩ (.slice arc (b.nr + 1) crc)).setCell ⟨w.heap.size + 1 + 1, 1, none⟩ (.slice i1 b.ns n1)).drew = z2 at *
            clear b0 b1 q3 y0 y1 f0 f1 Y7 A7 C7 Q7
            go_wp2
            exact ret_cellTT (b := w.heap.size + 2) Tryd.results93 rfl rfl rfl (Box2.loadbk B8.out) ⟨⟨_, _, _, _, rfl, ⟨by rw [KS.out]; exact R8.out, E8.out⟩, S7.out, SP1.out, FQ0.out, FQ1.out⟩, A8.out⟩
          · skip
            replace I : Hid (InsJ u (y1.alloc (.cells #[.int .i64 q.x.v, .int .i64 q.x.c, .string q.x.r] 54)) 54 3 (.slice (some ⟨gr, 0, none⟩) 0 0) 0 (rgF b.R) (some y1.heap.size) (rgV q.x)) := I.out.lit1 #[.int .i64 q.x.v, .int .i64 q.x.c, .string q.x.r] (fun j hj => by rcases (show j = 0 ∨ j = 1 ∨ j = 2 by omega) with rfl | rfl | rfl <;> rfl)
            go_simp
            replace H := (⟨X2.out.below I.out.hb, XX.out.below I.out.hb⟩ : (Box2 (y1.alloc (.cells #[.int .i64 q.x.v, .int .i64 q.x.c, .string q.x.r] 54)) w.heap.size 46 (.slice a0 b.nr c0) (.slice a1 b.ns c1)) ∧ (Box3 (y1.alloc (.cells #[.int .i64 q.x.v, .int .i64 q.x.c, .string q.x.r] 54)) (po + 1) 54 (.int .i64 q.x.v) (.int .i64 q.x.c) (.string q.x.r)))
            refine hK.out _ _ H (fun _ => ?_)
            clear hK KK
            generalize (y1.alloc (.cells #[.int .i64 q.x.v, .int .i64 q.x.c, .string q.x.r] 54)) = y2 at *
            generalize y1.heap.size = gl at *
            change wpAnyH _ _ _ _ _ _ _ { tmps := #[_,_,_,_,_,_,_,_,_,_,_,_,_,_,_,_,_,_,_,_,_,_,_,_,_,_,_,_,_,_,_,_,_,_,_,_,_,_,_,_,_,_,_,_,_,_,_,_,_,_,_,_,_,_,_,_,_,_,_,_,_,_,_,_,_,_,_,_,_,_,_,_,_,_,_,_,_,_,_,_,_,_,_,_,_,_,_,_,_,_,_,_,_,_,_,_,_,_,_,_,_,_,_,_,_,_,_,_,_], defers := _ } _
            refine wpAnyH_ready (rs := [5]) (by kernel_rfl) (by simp) ?_
            refine (AllReadyH.cons rfl (fun KK hK => ?_) AllReadyH.nil)
            obtain ⟨vr, y3, hr, ho, hg, hl⟩ := allRg y2 u.heap.size _ 0 b.R a0 k c0 b.R I.out.hb.size (by omega) I.out.row ((ER.out.less KN.out).below I.out.hb) SP.out.z
            rw [Nat.zero_add, catE_zero] at ho
            obtain ⟨ara, cra, rfl⟩ := ho.form
            replace I : Hid (InsJ u y3 54 3 (.slice ara k cra) k (rgF b.R) (some gl) (rgV q.x)) := I.out.grow ho hg hl
            rw [if_pos (by rfl)]
            refine Lib.wp_append_run _ (.tmp 91) (.tmp 95) 43 43 rfl (.slice (some ⟨gr, 0, none⟩) 0 0) (.slice a0 k c0) rfl rfl _ _ (hr _) ?_
            replace H := (⟨X2.out.below I.out.hb, XX.out.below I.out.hb⟩ : (Box2 y3 w.heap.size 46 (.slice a0 b.nr c0) (.slice a1 b.ns c1)) ∧ (Box3 y3 (po + 1) 54 (.int .i64 q.x.v) (.int .i64 q.x.c) (.string q.x.r)))
            refine hK.out _ _ H (fun _ => ?_)
            clear hK KK hr ho hg hl
            change wpAnyH _ _ _ _ _ _ _ { tmps := #[_,_,_,_,_,_,_,_,_,_,_,_,_,_,_,_,_,_,_,_,_,_,_,_,_,_,_,_,_,_,_,_,_,_,_,_,_,_,_,_,_,_,_,_,_,_,_,_,_,_,_,_,_,_,_,_,_,_,_,_,_,_,_,_,_,_,_,_,_,_,_,_,_,_,_,_,_,_,_,_,_,_,_,_,_,_,_,_,_,_,_,_,_,_,_,_,_,_,_,_,_,_,_,_,_,_,_,_,_], defers := _ } _
            refine wpAnyH_ready (rs := [8]) (by kernel_rfl) (by simp) ?_
            refine (AllReadyH.cons rfl (fun KK hK => ?_) AllReadyH.nil)
            obtain ⟨vr, y4, hr, ho, hg, hl⟩ := appRg y3 u.heap.size _ k gl b.R q.x I.out.hb.size (by omega) I.out.row (I.out.lit _ rfl).1
            obtain ⟨arb, crb, rfl⟩ := ho.form
            replace I : Hid (InsJ u y4 54 3 (.slice arb (k + 1) crb) (k + 1) (rgF (updE b.R k q.x)) (some gl) (rgV q.x)) := I.out.grow ho hg hl
            rw [if_pos (by rfl)]
            refine Lib.wp_append_run _ (.tmp 96) (.tmp 98) 43 43 rfl (.slice ara k cra) (.slice (some ⟨gl, 0, none⟩) 1 1) rfl rfl _ _ (hr _) ?_
            replace H := (⟨X2.out.below I.out.hb, XX.out.below I.out.hb⟩ : (Box2 y4 w.heap.size 46 (.slice a0 b.nr c0) (.slice a1 b.ns c1)) ∧ (Box3 y4 (po + 1) 54 (.int .i64 q.x.v) (.int .i64 q.x.c) (.string q.x.r)))
            refine hK.out _ _ H (fun _ => ?_)
            clear hK KK hr ho hg hl
            change wpAnyH _ _ _ _ _ _ _ { tmps := #[_,_,_,_,_,_,_,_,_,_,_,_,_,_,_,_,_,_,_,_,_,_,_,_,_,_,_,_,_,_,_,_,_,_,_,_,_,_,_,_,_,_,_,_,_,_,_,_,_,_,_,_,_,_,_,_,_,_,_,_,_,_,_,_,_,_,_,_,_,_,_,_,_,_,_,_,_,_,_,_,_,_,_,_,_,_,_,_,_,_,_,_,_,_,_,_,_,_,_,_,_,_,_,_,_,_,_,_,_], defers := _ } _
            refine wpAnyH_ready (rs := [13]) (by kernel_rfl) (by simp) ?_
            refine (AllReadyH.cons rfl (fun KK hK => ?_) AllReadyH.nil)
            obtain ⟨vr, y5, hr, ho, hg, hl⟩ := allRg y4 u.heap.size _ (k + 1) (updE b.R k q.x) (cutA a0 c0 k 3) (b.nr - k) (c0 - k) (fun i => b.R (k + i)) I.out.hb.size (by omega) I.out.row (EC.out.below I.out.hb) (cutA_zero SP.out _ _)
            rw [← ins_cat, show k + 1 + (b.nr - k) = b.nr + 1 by have := KN.out; omega] at ho
            obtain ⟨arc, crc, rfl⟩ := ho.form
            replace I : Hid (InsJ u y5 54 3 (.slice arc (b.nr + 1) crc) (b.nr + 1) (rgF (insE b.R k q.x)) (some gl) (rgV q.x)) := I.out.grow ho hg hl
            rw [if_pos (by rfl)]
            refine Lib.wp_append_run _ (.tmp 99) (.tmp 103) 43 43 rfl (.slice arb (k + 1) crb) (.slice (cutA a0 c0 k 3) (b.nr - k) (c0 - k)) rfl rfl _ _ (hr _) ?_
            replace H := (⟨X2.out.below I.out.hb, XX.out.below I.out.hb⟩ : (Box2 y5 w.heap.size 46 (.slice a0 b.nr c0) (.slice a1 b.ns c1)) ∧ (Box3 y5 (po + 1) 54 (.int .i64 q.x.v) (.int .i64 q.x.c) (.string q.x.r)))
            refine hK.out _ _ H (fun _ => ?_)
            clear hK KK hr ho hg hl
            change wpAnyH _ _ _ _ _ _ _ { tmps := #[_,_,_,_,_,_,_,_,_,_,_,_,_,_,_,_,_,_,_,_,_,_,_,_,_,_,_,_,_,_,_,_,_,_,_,_,_,_,_,_,_,_,_,_,_,_,_,_,_,_,_,_,_,_,_,_,_,_,_,_,_,_,_,_,_,_,_,_,_,_,_,_,_,_,_,_,_,_,_,_,_,_,_,_,_,_,_,_,_,_,_,_,_,_,_,_,_,_,_,_,_,_,_,_,_,_,_,_,_], defers := _ } _
            refine wpAnyH_take (i := 14) (v := .pointer (some ⟨po, 0, none⟩)) rfl (by kernel_rfl) (by kernel_rfl) (by kernel_rfl) (fun _ _ _ h => h) (Or.inl ⟨by rfl, ?_⟩) H ?_
            · intro w' hSw; go_simp
            change wpAnyH _ _ _ _ _ _ _ { tmps := #[_,_,_,_,_,_,_,_,_,_,_,_,_,_,_,_,_,_,_,_,_,_,_,_,_,_,_,_,_,_,_,_,_,_,_,_,_,_,_,_,_,_,_,_,_,_,_,_,_,_,_,_,_,_,_,_,_,_,_,_,_,_,_,_,_,_,_,_,_,_,_,_,_,_,_,_,_,_,_,_,_,_,_,_,_,_,_,_,_,_,_,_,_,_,_,_,_,_,_,_,_,_,_,_,_,_,_,_,_], defers := _ } _
            refine wpAnyH_ready (rs := [15]) (by kernel_rfl) (by simp) ?_
            refine (AllReadyH.cons rfl (fun KK hK => ?_) AllReadyH.nil)
            have t0 := (XO.out.below I.out.hb).c0
            have f0 := (XO.out.below I.out.hb).fr 0
            go_simp
            refine hK.out _ _ ⟨H.1.other (a := ⟨po, 0, none⟩) N2.out _, H.2.other (a := ⟨po, 0, none⟩) NX.out _⟩ (fun _ => ?_)
            clear hK KK
            change wpAnyH _ _ _ _ _ _ _ { tmps := #[_,_,_,_,_,_,_,_,_,_,_,_,_,_,_,_,_,_,_,_,_,_,_,_,_,_,_,_,_,_,_,_,_,_,_,_,_,_,_,_,_,_,_,_,_,_,_,_,_,_,_,_,_,_,_,_,_,_,_,_,_,_,_,_,_,_,_,_,_,_,_,_,_,_,_,_,_,_,_,_,_,_,_,_,_,_,_,_,_,_,_,_,_,_,_,_,_,_,_,_,_,_,_,_,_,_,_,_,_], defers := _ } _
            refine wpAnyH_done (by kernel_rfl) ?_ _
            refine NoPanic.normal ?_
            have LU : Hid (po < u.heap.size) := XO.out.lt
            have C7 : Hid (Box2 (y5.setCell ⟨po, 0, none⟩ (.slice arc (b.nr + 1) crc)) po 46 (.slice arc (b.nr + 1) crc) (.slice i1 b.ns n1)) := (XO.out.below I.out.hb).set0 _
            have Q7 : Hid (BoxQ (y5.setCell ⟨po, 0, none⟩ (.slice arc (b.nr + 1) crc)) (w.heap.size + 1) q) := (Q6.out.below I.out.hb).ofBlock (heap_setCell_other _ _ _ _ (by have := L3.out; show w.heap.size + 1 ≠ po; omega))
            have Y7 : Hid (Box2 (y5.setCell ⟨po, 0, none⟩ (.slice arc (b.nr + 1) crc)) (w.heap.size + 2) 46 (.slice none 0 0) (.slice none 0 0)) := (Y6.out.below I.out.hb).other (a := ⟨po, 0, none⟩) (by have := L3.out; show w.heap.size + 2 ≠ po; omega) _
            have R7 : Hid (EO (y5.setCell ⟨po, 0, none⟩ (.slice arc (b.nr + 1) crc)) u.heap.size 54 3 (.slice arc (b.nr + 1) crc) (b.nr + 1) (rgF (insE b.R k q.x))) := I.out.row.keep (fun g e => heap_setCell_other _ _ _ _ (by have h1 := (I.out.row.ge g e).1; have h2 := LU.out; show g ≠ po; omega))
            have E7 : Hid (EO (y5.setCell ⟨po, 0, none⟩ (.slice arc (b.nr + 1) crc)) v2.heap.size 100 4 (.slice i1 b.ns n1) b.ns (seF b.S)) := (E6.out.below I.out.hb).keep (fun g e => heap_setCell_other _ _ _ _ (by have h1 := G1.out g e; show g ≠ po; omega))
            have A7 : Hid (Below w.heap.size w (y5.setCell ⟨po, 0, none⟩ (.slice arc (b.nr + 1) crc))) := (A6.out.trans (I.out.hb.mono A6.out.size)).setCell (by have := L3.out; show w.heap.size ≤ po; omega) _
            have S7 : Hid (SlP arc (b.nr + 1) crc) := I.out.row.slp
            have HU7 : Hid (w.heap.size + 2 < u.heap.size) := by have h1 := L3.out; have h2 := LU.out; show w.heap.size + 2 < u.heap.size; omega
            clear H t0 f0 I X2 XX XO Q6 Y6 A6 E6 ER EC CT CF
            change Exit.then _ _ Exit.normal { tmps := #[_, _, _, _, _, _, _, _, _, _, _, _, _, _, _, _, _, _, _, _, _, _, _, _, _, _, _, _, _, _, _, _, _, _, _, _, _, _, _, _, _, _, _, _, _, _, _, _, _, _, _, _, _, _, _, _, _, _, _, _, _, _, _, _, _, _, _, _, _, _, _, _, _, _, _, _, _, _, _, _, _, _, _, _, _, _, _, _, _, _, _, _, _, _, _, _, _, _, _, _, _, _, _, _, _, _, _, _, _], defers := _ } _
            generalize (y5.setCell ⟨po, 0, none⟩ (.slice arc (b.nr + 1) crc)) = z at *
            go_wp2_with fail
            have b0 := C7.out.c0
            have b1 := C7.out.c1
            have q3 := Q7.out.c3
            have y0 := Y7.out.c0
            have y1 := Y7.out.c1
            have f0 := Y7.out.fr 0
            have f1 := Y7.out.fr 1
            have O6 : OnlyB (w.heap.size + 2) z ((z.setCell ⟨w.heap.size + 1 + 1, 0, none⟩ (.slice arc (b.nr + 1) crc)).setCell ⟨w.heap.size + 1 + 1, 1, none⟩ (.slice i1 b.ns n1)) := ((OnlyB.refl _ z).setCell 0 _).setCell 1 _
            have D6 : Below ((z.setCell ⟨w.heap.size + 1 + 1, 0, none⟩ (.slice arc (b.nr + 1) crc)).setCell ⟨w.heap.size + 1 + 1, 1, none⟩ (.slice i1 b.ns n1)).heap.size ((z.setCell ⟨w.heap.size + 1 + 1, 0, none⟩ (.slice arc (b.nr + 1) crc)).setCell ⟨w.heap.size + 1 + 1, 1, none⟩ (.slice i1 b.ns n1)) ((z.setCell ⟨w.heap.size + 1 + 1, 0, none⟩ (.slice arc (b.nr + 1) crc)).setCell ⟨w.heap.size + 1 + 1, 1, none⟩ (.slice i1 b.ns n1)).drew := (Below.refl _ _).drew
            have R8 : Hid (Els ((z.setCell ⟨w.heap.size + 1 + 1, 0, none⟩ (.slice arc (b.nr + 1) crc)).setCell ⟨w.heap.size + 1 + 1, 1, none⟩ (.slice i1 b.ns n1)).drew 3 arc (b.nr + 1) (rgF (insE b.R k q.x))) := ((R7.out.onlyB O6 HU7.out).below D6).els
            have E8 : Hid (Els ((z.setCell ⟨w.heap.size + 1 + 1, 0, none⟩ (.slice arc (b.nr + 1) crc)).setCell ⟨w.heap.size + 1 + 1, 1, none⟩ (.slice i1 b.ns n1)).drew 4 i1 b.ns (seF b.S)) := ((E7.out.onlyB O6 HL.out).below D6).els
            have B8 : Hid (Box2 ((z.setCell ⟨w.heap.size + 1 + 1, 0, none⟩ (.slice arc (b.nr + 1) crc)).setCell ⟨w.heap.size + 1 + 1, 1, none⟩ (.slice i1 b.ns n1)).drew (w.heap.size + 2) 46 (.slice arc (b.nr + 1) crc) (.slice i1 b.ns n1)) := ((Y7.out.set0 _).set1 _).below D6
            have A8 : Hid (Below w.heap.size w ((z.setCell ⟨w.heap.size + 1 + 1, 0, none⟩ (.slice arc (b.nr + 1) crc)).setCell ⟨w.heap.size + 1 + 1, 1, none⟩ (.slice i1 b.ns n1)).drew) := (A7.out.trans (O6.toBelow (by omega) A7.out.size)).drew
            have FQ0 : Hid (FrQ Q w.heap.size ((z.setCell ⟨w.heap.size + 1 + 1, 0, none⟩ (.slice arc (b.nr + 1) crc)).setCell ⟨w.heap.size + 1 + 1, 1, none⟩ (.slice i1 b.ns n1)).drew arc) := R7.out.fresh (by have := HU7.out; omega) Q (by show z.heap.size ≤ ((z.setCell _ _).setCell _ _).heap.size; simp)
            have FQ1 : Hid (FrQ Q w.heap.size ((z.setCell ⟨w.heap.size + 1 + 1, 0, none⟩ (.slice arc (b.nr + 1) crc)).setCell ⟨w.heap.size + 1 + 1, 1, none⟩ (.slice i1 b.ns n1)).drew i1) := E7.out.fresh (by have := HL.out; omega) Q (by show z.heap.size ≤ ((z.setCell _ _).setCell _ _).heap.size; simp)
            clear O6 D6 R7 E7
            go_region
            generalize ((z.setCell ⟨w.heap.size + 1 + 1, 0, none⟩ (.slice arc (b.nr + 1) crc)).setCell ⟨w.heap.size + 1 + 1, 1, none⟩ (.slice i1 b.ns n1)).drew = z2 at *
            clear b0 b1 q3 y0 y1 f0 f1 Y7 A7 C7 Q7
            go_wp2
            exact ret_cellTT (b := w.heap.size + 2) Tryd.results93 rfl rfl rfl (Box2.loadbk B8.out) ⟨⟨_, _, _, _, rfl, ⟨by rw [KS.out]; exact R8.out, E8.out⟩, S7.out, SP1.out, FQ0.out, FQ1.out⟩, A8.out⟩
        · skip
          replace I : Hid (InsJ u (y0.alloc (.cells #[.int .i64 q.x.v, .int .i64 q.x.c, .string q.x.r] 54)) 54 3 (.slice none 0 0) 0 (rgF b.R) (some y0.heap.size) (rgV q.x)) := I.out.lit1 #[.int .i64 q.x.v, .int .i64 q.x.c, .string q.x.r] (fun j hj => by rcases (show j = 0 ∨ j = 1 ∨ j = 2 by omega) with rfl | rfl | rfl <;> rfl)
          go_simp
          replace H := (⟨X2.out.below I.out.hb, XX.out.below I.out.hb⟩ : (Box2 (y0.alloc (.cells #[.int .i64 q.x.v, .int .i64 q.x.c, .string q.x.r] 54)) w.heap.size 46 (.slice a0 b.nr c0) (.slice a1 b.ns c1)) ∧ (Box3 (y0.alloc (.cells #[.int .i64 q.x.v, .int .i64 q.x.c, .string q.x.r] 54)) (po + 1) 54 (.int .i64 q.x.v) (.int .i64 q.x.c) (.string q.x.r)))
          refine hK.out _ _ H (fun _ => ?_)
          clear hK KK
          generalize (y0.alloc (.cells #[.int .i64 q.x.v, .int .i64 q.x.c, .string q.x.r] 54)) = y1 at *
          generalize y0.heap.size = gl at *
          change wpAnyH _ _ _ _ _ _ _ { tmps := #[_,_,_,_,_,_,_,_,_,_,_,_,_,_,_,_,_,_,_,_,_,_,_,_,_,_,_,_,_,_,_,_,_,_,_,_,_,_,_,_,_,_,_,_,_,_,_,_,_,_,_,_,_,_,_,_,_,_,_,_,_,_,_,_,_,_,_,_,_,_,_,_,_,_,_,_,_,_,_,_,_,_,_,_,_,_,_,_,_,_,_,_,_,_,_,_,_,_,_,_,_,_,_,_,_,_,_,_,_], defers := _ } _
          refine wpAnyH_ready (rs := [0]) (by kernel_rfl) (by simp) ?_
          refine (AllReadyH.cons rfl (fun KK hK => ?_) AllReadyH.nil)
          replace I : Hid (InsJ u (y1.alloc (.cells #[] 54)) 54 3 (.slice (some ⟨y1.heap.size, 0, none⟩) 0 0) 0 (rgF b.R) (some gl) (rgV q.x)) := I.out.lit0
          go_simp
          replace H := (⟨X2.out.below I.out.hb, XX.out.below I.out.hb⟩ : (Box2 (y1.alloc (.cells #[] 54)) w.heap.size 46 (.slice a0 b.nr c0) (.slice a1 b.ns c1)) ∧ (Box3 (y1.alloc (.cells #[] 54)) (po + 1) 54 (.int .i64 q.x.v) (.int .i64 q.x.c) (.string q.x.r)))
          refine hK.out _ _ H (fun _ => ?_)
          clear hK KK
          generalize (y1.alloc (.cells #[] 54)) = y2 at *
          generalize y1.heap.size = gr at *
          change wpAnyH _ _ _ _ _ _ _ { tmps := #[_,_,_,_,_,_,_,_,_,_,_,_,_,_,_,_,_,_,_,_,_,_,_,_,_,_,_,_,_,_,_,_,_,_,_,_,_,_,_,_,_,_,_,_,_,_,_,_,_,_,_,_,_,_,_,_,_,_,_,_,_,_,_,_,_,_,_,_,_,_,_,_,_,_,_,_,_,_,_,_,_,_,_,_,_,_,_,_,_,_,_,_,_,_,_,_,_,_,_,_,_,_,_,_,_,_,_,_,_], defers := _ } _
          refine wpAnyH_ready (rs := [5]) (by kernel_rfl) (by simp) ?_
          refine (AllReadyH.cons rfl (fun KK hK => ?_) AllReadyH.nil)
          obtain ⟨vr, y3, hr, ho, hg, hl⟩ := allRg y2 u.heap.size _ 0 b.R a0 k c0 b.R I.out.hb.size (by omega) I.out.row ((ER.out.less KN.out).below I.out.hb) SP.out.z
          rw [Nat.zero_add, catE_zero] at ho
          obtain ⟨ara, cra, rfl⟩ := ho.form
          replace I : Hid (InsJ u y3 54 3 (.slice ara k cra) k (rgF b.R) (some gl) (rgV q.x)) := I.out.grow ho hg hl
          rw [if_pos (by rfl)]
          refine Lib.wp_append_run _ (.tmp 91) (.tmp 95) 43 43 rfl (.slice (some ⟨gr, 0, none⟩) 0 0) (.slice a0 k c0) rfl rfl _ _ (hr _) ?_
          replace H := (⟨X2.out.below I.out.hb, XX.out.below I.out.hb⟩ : (Box2 y3 w.heap.size 46 (.slice a0 b.nr c0) (.slice a1 b.ns c1)) ∧ (Box3 y3 (po + 1) 54 (.int .i64 q.x.v) (.int .i64 q.x.c) (.string q.x.r)))
          refine hK.out _ _ H (fun _ => ?_)
          clear hK KK hr ho hg hl
          change wpAnyH _ _ _ _ _ _ _ { tmps := #[_,_,_,_,_,_,_,_,_,_,_,_,_,_,_,_,_,_,_,_,_,_,_,_,_,_,_,_,_,_,_,_,_,_,_,_,_,_,_,_,_,_,_,_,_,_,_,_,_,_,_,_,_,_,_,_,_,_,_,_,_,_,_,_,_,_,_,_,_,_,_,_,_,_,_,_,_,_,_,_,_,_,_,_,_,_,_,_,_,_,_,_,_,_,_,_,_,_,_,_,_,_,_,_,_,_,_,_,_], defers := _ } _
          refine wpAnyH_ready (rs := [8]) (by kernel_rfl) (by simp) ?_
          refine (AllReadyH.cons rfl (fun KK hK => ?_) AllReadyH.nil)
          obtain ⟨vr, y4, hr, ho, hg, hl⟩ := appRg y3 u.heap.size _ k gl b.R q.x I.out.hb.size (by omega) I.out.row (I.out.lit _ rfl).1
          obtain ⟨arb, crb, rfl⟩ := ho.form
          replace I : Hid (InsJ u y4 54 3 (.slice arb (k + 1) crb) (k + 1) (rgF (updE b.R k q.x)) (some gl) (rgV q.x)) := I.out.grow ho hg hl
          rw [if_pos (by rfl)]
          refine Lib.wp_append_run _ (.tmp 96) (.tmp 98) 43 43 rfl (.slice ara k cra) (.slice (some ⟨gl, 0, none⟩) 1 1) rfl rfl _ _ (hr _) ?_
          replace H := (⟨X2.out.below I.out.hb, XX.out.below I.out.hb⟩ : (Box2 y4 w.heap.size 46 (.slice a0 b.nr c0) (.slice a1 b.ns c1)) ∧ (Box3 y4 (po + 1) 54 (.int .i64 q.x.v) (.int .i64 q.x.c) (.string q.x.r)))
          refine hK.out _ _ H (fun _ => ?_)
          clear hK KK hr ho hg hl
          change wpAnyH _ _ _ _ _ _ _ { tmps := #[_,_,_,_,_,_,_,_,_,_,_,_,_,_,_,_,_,_,_,_,_,_,_,_,_,_,_,_,_,_,_,_,_,_,_,_,_,_,_,_,_,_,_,_,_,_,_,_,_,_,_,_,_,_,_,_,_,_,_,_,_,_,_,_,_,_,_,_,_,_,_,_,_,_,_,_,_,_,_,_,_,_,_,_,_,_,_,_,_,_,_,_,_,_,_,_,_,_,_,_,_,_,_,_,_,_,_,_,_], defers := _ } _
          refine wpAnyH_ready (rs := [13]) (by kernel_rfl) (by simp) ?_
          refine (AllReadyH.cons rfl (fun KK hK => ?_) AllReadyH.nil)
          obtain ⟨vr, y5, hr, ho, hg, hl⟩ := allRg y4 u.heap.size _ (k + 1) (updE b.R k q.x) (cutA a0 c0 k 3) (b.nr - k) (c0 - k) (fun i => b.R (k + i)) I.out.hb.size (by omega) I.out.row (EC.out.below I.out.hb) (cutA_zero SP.out _ _)
          rw [← ins_cat, show k + 1 + (b.nr - k) = b.nr + 1 by have := KN.out; omega] at ho
          obtain ⟨arc, crc, rfl⟩ := ho.form
          replace I : Hid (InsJ u y5 54 3 (.slice arc (b.nr + 1) crc) (b.nr + 1) (rgF (insE b.R k q.x)) (some gl) (rgV q.x)) := I.out.grow ho hg hl
          rw [if_pos (by rfl)]
          refine Lib.wp_append_run _ (.tmp 99) (.tmp 103) 43 43 rfl (.slice arb (k + 1) crb) (.slice (cutA a0 c0 k 3) (b.nr - k) (c0 - k)) rfl rfl _ _ (hr _) ?_
          replace H := (⟨X2.out.below I.out.hb, XX.out.below I.out.hb⟩ : (Box2 y5 w.heap.size 46 (.slice a0 b.nr c0) (.slice a1 b.ns c1)) ∧ (Box3 y5 (po + 1) 54 (.int .i64 q.x.v) (.int .i64 q.x.c) (.string q.x.r)))
          refine hK.out _ _ H (fun _ => ?_)
          clear hK KK hr ho hg hl
          change wpAnyH _ _ _ _ _ _ _ { tmps := #[_,_,_,_,_,_,_,_,_,_,_,_,_,_,_,_,_,_,_,_,_,_,_,_,_,_,_,_,_,_,_,_,_,_,_,_,_,_,_,_,_,_,_,_,_,_,_,_,_,_,_,_,_,_,_,_,_,_,_,_,_,_,_,_,_,_,_,_,_,_,_,_,_,_,_,_,_,_,_,_,_,_,_,_,_,_,_,_,_,_,_,_,_,_,_,_,_,_,_,_,_,_,_,_,_,_,_,_,_], defers := _ } _
          refine wpAnyH_take (i := 14) (v := .pointer (some ⟨po, 0, none⟩)) rfl (by kernel_rfl) (by kernel_rfl) (by kernel_rfl) (fun _ _ _ h => h) (Or.inl ⟨by rfl, ?_⟩) H ?_
          · intro w' hSw; go_simp
          change wpAnyH _ _ _ _ _ _ _ { tmps := #[_,_,_,_,_,_,_,_,_,_,_,_,_,_,_,_,_,_,_,_,_,_,_,_,_,_,_,_,_,_,_,_,_,_,_,_,_,_,_,_,_,_,_,_,_,_,_,_,_,_,_,_,_,_,_,_,_,_,_,_,_,_,_,_,_,_,_,_,_,_,_,_,_,_,_,_,_,_,_,_,_,_,_,_,_,_,_,_,_,_,_,_,_,_,_,_,_,_,_,_,_,_,_,_,_,_,_,_,_], defers := _ } _
          refine wpAnyH_ready (rs := [15]) (by kernel_rfl) (by simp) ?_
          refine (AllReadyH.cons rfl (fun KK hK => ?_) AllReadyH.nil)
          have t0 := (XO.out.below I.out.hb).c0
          have f0 := (XO.out.below I.out.hb).fr 0
          go_simp
          refine hK.out _ _ ⟨H.1.other (a := ⟨po, 0, none⟩) N2.out _, H.2.other (a := ⟨po, 0, none⟩) NX.out _⟩ (fun _ => ?_)
          clear hK KK
          change wpAnyH _ _ _ _ _ _ _ { tmps := #[_,_,_,_,_,_,_,_,_,_,_,_,_,_,_,_,_,_,_,_,_,_,_,_,_,_,_,_,_,_,_,_,_,_,_,_,_,_,_,_,_,_,_,_,_,_,_,_,_,_,_,_,_,_,_,_,_,_,_,_,_,_,_,_,_,_,_,_,_,_,_,_,_,_,_,_,_,_,_,_,_,_,_,_,_,_,_,_,_,_,_,_,_,_,_,_,_,_,_,_,_,_,_,_,_,_,_,_,_], defers := _ } _
          refine wpAnyH_done (by kernel_rfl) ?_ _
          refine NoPanic.normal ?_
          have LU : Hid (po < u.heap.size) := XO.out.lt
          have C7 : Hid (Box2 (y5.setCell ⟨po, 0, none⟩ (.slice arc (b.nr + 1) crc)) po 46 (.slice arc (b.nr + 1) crc) (.slice i1 b.ns n1)) := (XO.out.below I.out.hb).set0 _
          have Q7 : Hid (BoxQ (y5.setCell ⟨po, 0, none⟩ (.slice arc (b.nr + 1) crc)) (w.heap.size + 1) q) := (Q6.out.below I.out.hb).ofBlock (heap_setCell_other _ _ _ _ (by have := L3.out; show w.heap.size + 1 ≠ po; omega))
          have Y7 : Hid (Box2 (y5.setCell ⟨po, 0, none⟩ (.slice arc (b.nr + 1) crc)) (w.heap.size + 2) 46 (.slice none 0 0) (.slice none 0 0)) := (Y6.out.below I.out.hb).other (a := ⟨po, 0, none⟩) (by have := L3.out; show w.heap.size + 2 ≠ po; omega) _
          have R7 : Hid (EO (y5.setCell ⟨po, 0, none⟩ (.slice arc (b.nr + 1) crc)) u.heap.size 54 3 (.slice arc (b.nr + 1) crc) (b.nr + 1) (rgF (insE b.R k q.x))) := I.out.row.keep (fun g e => heap_setCell_other _ _ _ _ (by have h1 := (I.out.row.ge g e).1; have h2 := LU.out; show g ≠ po; omega))
          have E7 : Hid (EO (y5.setCell ⟨po, 0, none⟩ (.slice arc (b.nr + 1) crc)) v2.heap.size 100 4 (.slice i1 b.ns n1) b.ns (seF b.S)) := (E6.out.below I.out.hb).keep (fun g e => heap_setCell_other _ _ _ _ (by have h1 := G1.out g e; show g ≠ po; omega))
          have A7 : Hid (Below w.heap.size w (y5.setCell ⟨po, 0, none⟩ (.slice arc (b.nr + 1) crc))) := (A6.out.trans (I.out.hb.mono A6.out.size)).setCell (by have := L3.out; show w.heap.size ≤ po; omega) _
          have S7 : Hid (SlP arc (b.nr + 1) crc) := I.out.row.slp
          have HU7 : Hid (w.heap.size + 2 < u.heap.size) := by have h1 := L3.out; have h2 := LU.out; show w.heap.size + 2 < u.heap.size; omega
          clear H t0 f0 I X2 XX XO Q6 Y6 A6 E6 ER EC CT CF
          change Exit.then _ _ Exit.normal { tmps := #[_, _, _, _, _, _, _, _, _, _, _, _, _, _, _, _, _, _, _, _, _, _, _, _, _, _, _, _, _, _, _, _, _, _, _, _, _, _, _, _, _, _, _, _, _, _, _, _, _, _, _, _, _, _, _, _, _, _, _, _, _, _, _, _, _, _, _, _, _, _, _, _, _, _, _, _, _, _, _, _, _, _, _, _, _, _, _, _, _, _, _, _, _, _, _, _, _, _, _, _, _, _, _, _, _, _, _, _, _], defers := _ } _
          generalize (y5.setCell ⟨po, 0, none⟩ (.slice arc (b.nr + 1) crc)) = z at *
          go_wp2_with fail
          have b0 := C7.out.c0
          have b1 := C7.out.c1
          have q3 := Q7.out.c3
          have y0 := Y7.out.c0
          have y1 := Y7.out.c1
          have f0 := Y7.out.fr 0
          have f1 := Y7.out.fr 1
          have O6 : OnlyB (w.heap.size + 2) z ((z.setCell ⟨w.heap.size + 1 + 1, 0, none⟩ (.slice arc (b.nr + 1) crc)).setCell ⟨w.heap.size + 1 + 1, 1, none⟩ (.slice i1 b.ns n1)) := ((OnlyB.refl _ z).setCell 0 _).setCell 1 _
          have D6 : Below ((z.setCell ⟨w.heap.size + 1 + 1, 0, none⟩ (.slice arc (b.nr + 1) crc)).setCell ⟨w.heap.size + 1 + 1, 1, none⟩ (.slice i1 b.ns n1)).heap.size ((z.setCell ⟨w.heap.size + 1 + 1, 0, none⟩ (.slice arc (b.nr + 1) crc)).setCell ⟨w.heap.size + 1 + 1, 1, none⟩ (.slice i1 b.ns n1)) ((z.setCell ⟨w.heap.size + 1 + 1, 0, none⟩ (.slice arc (b.nr + 1) crc)).setCell ⟨w.heap.size + 1 + 1, 1, none⟩ (.slice i1 b.ns n1)).drew := (Below.refl _ _).drew
          have R8 : Hid (Els ((z.setCell ⟨w.heap.size + 1 + 1, 0, none⟩ (.slice arc (b.nr + 1) crc)).setCell ⟨w.heap.size + 1 + 1, 1, none⟩ (.slice i1 b.ns n1)).drew 3 arc (b.nr + 1) (rgF (insE b.R k q.x))) := ((R7.out.onlyB O6 HU7.out).below D6).els
          have E8 : Hid (Els ((z.setCell ⟨w.heap.size + 1 + 1, 0, none⟩ (.slice arc (b.nr + 1) crc)).setCell ⟨w.heap.size + 1 + 1, 1, none⟩ (.slice i1 b.ns n1)).drew 4 i1 b.ns (seF b.S)) := ((E7.out.onlyB O6 HL.out).below D6).els
          have B8 : Hid (Box2 ((z.setCell ⟨w.heap.size + 1 + 1, 0, none⟩ (.slice arc (b.nr + 1) crc)).setCell ⟨w.heap.size + 1 + 1, 1, none⟩ (.slice i1 b.ns n1)).drew (w.heap.size + 2) 46 (.slice arc (b.nr + 1) crc) (.slice i1 b.ns n1)) := ((Y7.out.set0 _).set1 _).below D6
          have A8 : Hid (Below w.heap.size w ((z.setCell ⟨w.heap.size + 1 + 1, 0, none⟩ (.slice arc (b.nr + 1) crc)).setCell ⟨w.heap.size + 1 + 1, 1, none⟩ (.slice i1 b.ns n1)).drew) := (A7.out.trans (O6.toBelow (by omega) A7.out.size)).drew
          have FQ0 : Hid (FrQ Q w.heap.size ((z.setCell ⟨w.heap.size + 1 + 1, 0, none⟩ (.slice arc (b.nr + 1) crc)).setCell ⟨w.heap.size + 1 + 1, 1, none⟩ (.slice i1 b.ns n1)).drew arc) := R7.out.fresh (by have := HU7.out; omega) Q (by show z.heap.size ≤ ((z.setCell _ _).setCell _ _).heap.size; simp)
          have FQ1 : Hid (FrQ Q w.heap.size ((z.setCell ⟨w.heap.size + 1 + 1, 0, none⟩ (.slice arc (b.nr + 1) crc)).setCell ⟨w.heap.size + 1 + 1, 1, none⟩ (.slice i1 b.ns n1)).drew i1) := E7.out.fresh (by have := HL.out; omega) Q (by show z.heap.size ≤ ((z.setCell _ _).setCell _ _).heap.size; simp)
          clear O6 D6 R7 E7
          go_region
          generalize ((z.setCell ⟨w.heap.size + 1 + 1, 0, none⟩ (.slice arc (b.nr + 1) crc)).setCell ⟨w.heap.size + 1 + 1, 1, none⟩ (.slice i1 b.ns n1)).drew = z2 at *
          clear b0 b1 q3 y0 y1 f0 f1 Y7 A7 C7 Q7
          go_wp2
          exact ret_cellTT (b := w.heap.size + 2) Tryd.results93 rfl rfl rfl (Box2.loadbk B8.out) ⟨⟨_, _, _, _, rfl, ⟨by rw [KS.out]; exact R8.out, E8.out⟩, S7.out, SP1.out, FQ0.out, FQ1.out⟩, A8.out⟩
end Go.Proofs.YtpngjkhncfbnpaaDoor
namespace Go.Proofs.YtpngjkhncfbnpaaDoor
open Go.ChangeShapes Go.WideShapes Go.ChangeAt Go.RowKit
set_option linter.unusedVariables false
theorem l08Step_any (Q : Nat → Prop) (b b' : Bk) (q : Rq) (cd mk : Int) (hk : b.Ok) (hs : StepIs b q.x b' cd mk) (a0 a1 : Option Addr) (c0 c1 : Nat) (s0 : SlP a0 b.nr c0) (s1 : SlP a1 b.ns c1) (hQ0 : ∀ p, a0 = some p → Q p.block) (hQ1 : ∀ p, a1 = some p → Q p.block) (w : World) (h : BankV w b a0 a1) :
    Calls Tryd.prog 93 #[.agg #[.slice a0 b.nr c0, .slice a1 b.ns c1], .agg #[.int .i64 q.se, .int .i64 q.sq, .int .i64 q.x.v, .int .i64 q.x.c, .string q.x.r]] w fun e w' => RetSt Q w.heap.size b' cd mk e w' ∧ Below w.heap.size w w' := by
  have no : ∀ (now cd : Int), NowIs b q.x.v now → NoIs b q.x now cd → Calls Tryd.prog 93 #[.agg #[.slice a0 b.nr c0, .slice a1 b.ns c1], .agg #[.int .i64 q.se, .int .i64 q.sq, .int .i64 q.x.v, .int .i64 q.x.c, .string q.x.r]] w fun e w' => RetSt Q w.heap.size b cd now e w' ∧ Below w.heap.size w w' := fun now cd hn hno =>
    (l08Step_no b q now cd hk hn hno a0 a1 c0 c1 w h).mono fun e w' g => ⟨⟨_, _, _, _, g.1, ⟨h.1.below g.2, h.2.below g.2⟩, s0, s1, fun p e => .inl (hQ0 p e), fun p e => .inl (hQ1 p e)⟩, g.2⟩
  obtain ⟨now, hn, hc⟩ := hs
  rcases hc with ⟨k1, rfl, rfl, rfl⟩ | ⟨k1, k2, rfl, rfl, rfl⟩ | ⟨k1, k2, rfl, rfl, rfl⟩ | ⟨k1, k2, g, n6, rfl, rfl, rfl⟩ | ⟨k1, k2, g, rfl, rfl, rfl⟩ | ⟨k1, k2, g, n6, rfl, rfl, rfl⟩
  · exact no _ _ hn (.inl ⟨k1, rfl⟩)
  · exact no _ _ hn (.inr (.inl ⟨k1, k2, rfl⟩))
  · exact no _ _ hn (.inr (.inr (.inl ⟨k1, k2, rfl⟩)))
  · exact no _ _ hn (.inr (.inr (.inr ⟨k1, k2, g, n6, rfl⟩)))
  · have e : now = (b.R (b.kR q.x.v)).c := by
      rcases hn with ⟨_, e⟩ | ⟨g2, _⟩
      · exact e
      · exact absurd g g2
    exact l08Step_set Q b q now hk g e k1 k2 a0 a1 c0 c1 s0.z s1.z w h
  · have e : now = 0 := by
      rcases hn with ⟨g2, _⟩ | ⟨_, e⟩
      · exact absurd g2 g
      · exact e
    exact l08Step_ins Q b q hk g n6 (by omega) a0 a1 c0 c1 s0 s1 w h
end Go.Proofs.YtpngjkhncfbnpaaDoor
