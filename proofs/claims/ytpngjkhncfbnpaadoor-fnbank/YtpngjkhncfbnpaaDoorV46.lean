/-
  Texts of the proof, joined: BankAd.
-/
import Derived.Test.YtpngjkhncfbnpaaDoorV45
import Derived.Test.YtpngjkhncfbnpaaDoorV34
namespace Go.Proofs.YtpngjkhncfbnpaaDoor
open Go.ChangeShapes Go.WideShapes Go.ChangeAt Go.RowKit
set_option linter.unusedVariables false
set_option maxRecDepth 100000 in
set_option maxHeartbeats 8000000 in
theorem l08Adv_again (b : Bk) (q : Rq) (hk : b.Ok) (hq : q.Ok) (g : b.hasS q.se) (e : (b.S (b.kS q.se)).sq = q.sq) (a0 a1 : Option Addr) (c0 c1 : Nat) (s0 : SlP a0 b.nr c0) (s1 : SlP a1 b.ns c1) (w : World) (h : BankV w b a0 a1) :
    Calls Tryd.prog 53 #[.agg #[.slice a0 b.nr c0, .slice a1 b.ns c1], .agg #[.int .i64 q.se, .int .i64 q.sq, .int .i64 q.x.v, .int .i64 q.x.c, .string q.x.r]] w fun e w' => e = .returned (.tuple #[.agg #[.slice a0 b.nr c0, .slice a1 b.ns c1], .int .i64 (b.S (b.kS q.se)).cd, .int .i64 (b.S (b.kS q.se)).ma]) ∧ Below w.heap.size w w' := by
  have HV : Hid (BankV w b a0 a1) := h
  have A1 : Hid (Below w.heap.size w (((w.alloc (.cells #[.slice a0 b.nr c0, .slice a1 b.ns c1] 46)).alloc (.cells #[.int .i64 q.se, .int .i64 q.sq, .int .i64 q.x.v, .int .i64 q.x.c, .string q.x.r] 52)).alloc (.cells #[.slice none 0 0, .slice none 0 0] 46))) := (((Below.refl _ _).alloc (Nat.le_refl _) _).alloc (by simp) _).alloc (by simp; omega) _
  have X : Hid (Box2 (((w.alloc (.cells #[.slice a0 b.nr c0, .slice a1 b.ns c1] 46)).alloc (.cells #[.int .i64 q.se, .int .i64 q.sq, .int .i64 q.x.v, .int .i64 q.x.c, .string q.x.r] 52)).alloc (.cells #[.slice none 0 0, .slice none 0 0] 46)) w.heap.size 46 (.slice a0 b.nr c0) (.slice a1 b.ns c1)) := ((Box2.made _ _ _ _).alloc _).alloc _
  have XQ : Hid (BoxQ (((w.alloc (.cells #[.slice a0 b.nr c0, .slice a1 b.ns c1] 46)).alloc (.cells #[.int .i64 q.se, .int .i64 q.sq, .int .i64 q.x.v, .int .i64 q.x.c, .string q.x.r] 52)).alloc (.cells #[.slice none 0 0, .slice none 0 0] 46)) (w.heap.size + 1) q) := (BoxQ.madeAt (by simp) q).alloc _
  have Y : Hid (Box2 (((w.alloc (.cells #[.slice a0 b.nr c0, .slice a1 b.ns c1] 46)).alloc (.cells #[.int .i64 q.se, .int .i64 q.sq, .int .i64 q.x.v, .int .i64 q.x.c, .string q.x.r] 52)).alloc (.cells #[.slice none 0 0, .slice none 0 0] 46)) (w.heap.size + 2) 46 (.slice none 0 0) (.slice none 0 0)) := Box2.madeAt (by simp) _ _ _
  have PS : Hid (Pos (fun i => (b.S i).id) b.ns q.se (b.kS q.se)) := hk.posS q.se
  have KN : Hid (b.kS q.se ≤ b.ns) := PS.out.1
  have n6 := hk.2.1
  have GH : Hid (b.kS q.se < b.ns ∧ (b.S (b.kS q.se)).id = q.se) := g
  have ES : Hid ((b.S (b.kS q.se)).sq = q.sq) := e
  clear g e
  clear h
  generalize hu : b.kS q.se = K at *
  clear hu
  go_enter Tryd.func53, Tryd.ntmps53
  go_wp2_with fail
  have V5 : Hid (Els (((w.alloc (.cells #[.slice a0 b.nr c0, .slice a1 b.ns c1] 46)).alloc (.cells #[.int .i64 q.se, .int .i64 q.sq, .int .i64 q.x.v, .int .i64 q.x.c, .string q.x.r] 52)).alloc (.cells #[.slice none 0 0, .slice none 0 0] 46)) 4 a1 b.ns (seF b.S)) := HV.out.2.below A1.out
  generalize (((w.alloc (.cells #[.slice a0 b.nr c0, .slice a1 b.ns c1] 46)).alloc (.cells #[.int .i64 q.se, .int .i64 q.sq, .int .i64 q.x.v, .int .i64 q.x.c, .string q.x.r] 52)).alloc (.cells #[.slice none 0 0, .slice none 0 0] 46)) = v at *
  have x0 := X.out.c0
  have x1 := X.out.c1
  have q0 := XQ.out.c0
  have q1 := XQ.out.c1
  go_loopw [7] (fun kv wr => ∃ k : Nat, k ≤ K ∧ kv = .int .i64 (k : Int) ∧ ∃ n, wr = v.drewN n) (fun kv _ => K - (intOf kv).toNat)
  case atStart => exact ⟨0, by omega, rfl, 0, rfl⟩
  case round =>
    obtain ⟨k, hk, rfl, n, rfl⟩ := hrel
    by_cases hlt : k < K
    · have KN' := KN.out
      obtain ⟨p, off, ha, hcc⟩ := V5.out.opened (by omega)
      obtain ⟨d0, d1, d2, d3⟩ := Els.seC hcc k (by omega)
      have hd : (b.S k).id < q.se := PS.out.2.1 k hlt
      have hlt' : (k : Int) < (b.ns : Int) := by omega
      have hk0 : (0 : Int) ≤ (k : Int) := by omega
      clear hcc d1 d2 d3
      subst ha
      go_wp2_with fail
      go_quiet (fail)
      go_wp2
      go_roundw
      case rel => exact ⟨k + 1, by omega, by go_num, _, rfl⟩
      case measure => simp [intOf]; omega
    · obtain rfl : k = K := by omega
      clear hlt
      have hlt := GH.out.1
      have he : ((b.S k).id == q.se) = true := by simp [GH.out.2]
      have hd : ¬ (b.S k).id < q.se := by have := GH.out.2; omega
      have es : ((b.S k).sq == q.sq) = true := by simp [ES.out]
      skip
      obtain ⟨p, off, ha, hcc⟩ := V5.out.opened (by omega)
      obtain ⟨d0, d1, d2, d3⟩ := Els.seC hcc k hlt
      have hlt' : (k : Int) < (b.ns : Int) := by omega
      have hk0 : (0 : Int) ≤ (k : Int) := by omega
      clear hcc
      subst ha
      go_wp2_with fail
      go_quiet (fail)
      go_wp2_with fail
      go_quiet (fail)
      go_wp2_with fail
      go_quiet (fail)
      go_wp2_with fail
      generalize hU : (((v.drewN _).drewN _).drewN _).drewN _ = z at *
      have hbz : Below v.heap.size v z := hU ▸ ((((below_dN v _).trans (below_dN (v.drewN _) _)).trans (below_dN ((v.drewN _).drewN _) _)).trans (below_dN (((v.drewN _).drewN _).drewN _) _))
      clear hU
      have x0' := (X.out.below hbz).c0
      have x1' := (X.out.below hbz).c1
      have e2 : z.cell? ⟨p, off + k * 4 + 2, none⟩ = some (.int .i64 (b.S k).cd) := (hbz.cell (strBlock d2)).trans d2
      have e3 : z.cell? ⟨p, off + k * 4 + 3, none⟩ = some (.int .i64 (b.S k).ma) := (hbz.cell (strBlock d3)).trans d3
      have Y7 : Hid (Box2 z (w.heap.size + 2) 46 (.slice none 0 0) (.slice none 0 0)) := Y.out.below hbz
      have A7 : Hid (Below w.heap.size w z) := A1.out.trans (hbz.mono A1.out.size)
      have y0 := Y7.out.c0
      have y1 := Y7.out.c1
      have f0 := Y7.out.fr 0
      have f1 := Y7.out.fr 1
      have B8 : Hid (Box2 ((z.setCell ⟨w.heap.size + 1 + 1, 0, none⟩ (.slice a0 b.nr c0)).setCell ⟨w.heap.size + 1 + 1, 1, none⟩ (.slice (some ⟨p, off, none⟩) b.ns c1)).drew (w.heap.size + 2) 46 (.slice a0 b.nr c0) (.slice (some ⟨p, off, none⟩) b.ns c1)) := ((Y7.out.set0 _).set1 _).below (Below.refl _ _).drew
      have A8 : Hid (Below w.heap.size w ((z.setCell ⟨w.heap.size + 1 + 1, 0, none⟩ (.slice a0 b.nr c0)).setCell ⟨w.heap.size + 1 + 1, 1, none⟩ (.slice (some ⟨p, off, none⟩) b.ns c1)).drew) := ((A7.out.setCell (by show w.heap.size ≤ w.heap.size + 2; omega) _).setCell (by show w.heap.size ≤ w.heap.size + 2; omega) _).drew
      clear d0 d1 d2 d3 x0 x1 q0 q1 A1 X XQ Y V5 hbz Y7 A7 HV
      go_region
      generalize ((z.setCell ⟨w.heap.size + 1 + 1, 0, none⟩ (.slice a0 b.nr c0)).setCell ⟨w.heap.size + 1 + 1, 1, none⟩ (.slice (some ⟨p, off, none⟩) b.ns c1)).drew = z2 at *
      clear x0' x1' e2 e3 y0 y1 f0 f1
      go_wp2
      exact ret_cellTT (b := w.heap.size + 2) Tryd.results53 rfl rfl rfl (Box2.loadbk B8.out) ⟨rfl, A8.out⟩
set_option maxRecDepth 100000 in
set_option maxHeartbeats 8000000 in
theorem l08Adv_elder (b : Bk) (q : Rq) (hk : b.Ok) (hq : q.Ok) (g : b.hasS q.se) (e : q.sq < (b.S (b.kS q.se)).sq) (a0 a1 : Option Addr) (c0 c1 : Nat) (s0 : SlP a0 b.nr c0) (s1 : SlP a1 b.ns c1) (w : World) (h : BankV w b a0 a1) :
    Calls Tryd.prog 53 #[.agg #[.slice a0 b.nr c0, .slice a1 b.ns c1], .agg #[.int .i64 q.se, .int .i64 q.sq, .int .i64 q.x.v, .int .i64 q.x.c, .string q.x.r]] w fun e w' => e = .returned (.tuple #[.agg #[.slice a0 b.nr c0, .slice a1 b.ns c1], .int .i64 14, .int .i64 0]) ∧ Below w.heap.size w w' := by
  have HV : Hid (BankV w b a0 a1) := h
  have A1 : Hid (Below w.heap.size w (((w.alloc (.cells #[.slice a0 b.nr c0, .slice a1 b.ns c1] 46)).alloc (.cells #[.int .i64 q.se, .int .i64 q.sq, .int .i64 q.x.v, .int .i64 q.x.c, .string q.x.r] 52)).alloc (.cells #[.slice none 0 0, .slice none 0 0] 46))) := (((Below.refl _ _).alloc (Nat.le_refl _) _).alloc (by simp) _).alloc (by simp; omega) _
  have X : Hid (Box2 (((w.alloc (.cells #[.slice a0 b.nr c0, .slice a1 b.ns c1] 46)).alloc (.cells #[.int .i64 q.se, .int .i64 q.sq, .int .i64 q.x.v, .int .i64 q.x.c, .string q.x.r] 52)).alloc (.cells #[.slice none 0 0, .slice none 0 0] 46)) w.heap.size 46 (.slice a0 b.nr c0) (.slice a1 b.ns c1)) := ((Box2.made _ _ _ _).alloc _).alloc _
  have XQ : Hid (BoxQ (((w.alloc (.cells #[.slice a0 b.nr c0, .slice a1 b.ns c1] 46)).alloc (.cells #[.int .i64 q.se, .int .i64 q.sq, .int .i64 q.x.v, .int .i64 q.x.c, .string q.x.r] 52)).alloc (.cells #[.slice none 0 0, .slice none 0 0] 46)) (w.heap.size + 1) q) := (BoxQ.madeAt (by simp) q).alloc _
  have Y : Hid (Box2 (((w.alloc (.cells #[.slice a0 b.nr c0, .slice a1 b.ns c1] 46)).alloc (.cells #[.int .i64 q.se, .int .i64 q.sq, .int .i64 q.x.v, .int .i64 q.x.c, .string q.x.r] 52)).alloc (.cells #[.slice none 0 0, .slice none 0 0] 46)) (w.heap.size + 2) 46 (.slice none 0 0) (.slice none 0 0)) := Box2.madeAt (by simp) _ _ _
  have PS : Hid (Pos (fun i => (b.S i).id) b.ns q.se (b.kS q.se)) := hk.posS q.se
  have KN : Hid (b.kS q.se ≤ b.ns) := PS.out.1
  have n6 := hk.2.1
  have GH : Hid (b.kS q.se < b.ns ∧ (b.S (b.kS q.se)).id = q.se) := g
  have ES : Hid (q.sq < (b.S (b.kS q.se)).sq) := e
  clear g e
  clear h
  generalize hu : b.kS q.se = K at *
  clear hu
  go_enter Tryd.func53, Tryd.ntmps53
  go_wp2_with fail
  have V5 : Hid (Els (((w.alloc (.cells #[.slice a0 b.nr c0, .slice a1 b.ns c1] 46)).alloc (.cells #[.int .i64 q.se, .int .i64 q.sq, .int .i64 q.x.v, .int .i64 q.x.c, .string q.x.r] 52)).alloc (.cells #[.slice none 0 0, .slice none 0 0] 46)) 4 a1 b.ns (seF b.S)) := HV.out.2.below A1.out
  generalize (((w.alloc (.cells #[.slice a0 b.nr c0, .slice a1 b.ns c1] 46)).alloc (.cells #[.int .i64 q.se, .int .i64 q.sq, .int .i64 q.x.v, .int .i64 q.x.c, .string q.x.r] 52)).alloc (.cells #[.slice none 0 0, .slice none 0 0] 46)) = v at *
  have x0 := X.out.c0
  have x1 := X.out.c1
  have q0 := XQ.out.c0
  have q1 := XQ.out.c1
  go_loopw [7] (fun kv wr => ∃ k : Nat, k ≤ K ∧ kv = .int .i64 (k : Int) ∧ ∃ n, wr = v.drewN n) (fun kv _ => K - (intOf kv).toNat)
  case atStart => exact ⟨0, by omega, rfl, 0, rfl⟩
  case round =>
    obtain ⟨k, hk, rfl, n, rfl⟩ := hrel
    by_cases hlt : k < K
    · have KN' := KN.out
      obtain ⟨p, off, ha, hcc⟩ := V5.out.opened (by omega)
      obtain ⟨d0, d1, d2, d3⟩ := Els.seC hcc k (by omega)
      have hd : (b.S k).id < q.se := PS.out.2.1 k hlt
      have hlt' : (k : Int) < (b.ns : Int) := by omega
      have hk0 : (0 : Int) ≤ (k : Int) := by omega
      clear hcc d1 d2 d3
      subst ha
      go_wp2_with fail
      go_quiet (fail)
      go_wp2
      go_roundw
      case rel => exact ⟨k + 1, by omega, by go_num, _, rfl⟩
      case measure => simp [intOf]; omega
    · obtain rfl : k = K := by omega
      clear hlt
      have hlt := GH.out.1
      have he : ((b.S k).id == q.se) = true := by simp [GH.out.2]
      have hd : ¬ (b.S k).id < q.se := by have := GH.out.2; omega
      have es : ((b.S k).sq == q.sq) = false := by have := ES.out; simp; omega
      have eg : q.sq < (b.S k).sq := ES.out
      obtain ⟨p, off, ha, hcc⟩ := V5.out.opened (by omega)
      obtain ⟨d0, d1, d2, d3⟩ := Els.seC hcc k hlt
      have hlt' : (k : Int) < (b.ns : Int) := by omega
      have hk0 : (0 : Int) ≤ (k : Int) := by omega
      clear hcc
      subst ha
      go_wp2_with fail
      go_quiet (fail)
      go_wp2_with fail
      go_quiet (fail)
      go_wp2_with fail
      go_quiet (fail)
      go_wp2_with fail
      go_quiet (fail)
      generalize hU : ((((v.drewN _).drewN _).drewN _).drewN _).drewN _ = z at *
      have hbz : Below v.heap.size v z := hU ▸ (((((below_dN v _).trans (below_dN (v.drewN _) _)).trans (below_dN ((v.drewN _).drewN _) _)).trans (below_dN (((v.drewN _).drewN _).drewN _) _)).trans (below_dN ((((v.drewN _).drewN _).drewN _).drewN _) _))
      clear hU
      have x0' := (X.out.below hbz).c0
      have x1' := (X.out.below hbz).c1
      have Y7 : Hid (Box2 z (w.heap.size + 2) 46 (.slice none 0 0) (.slice none 0 0)) := Y.out.below hbz
      have A7 : Hid (Below w.heap.size w z) := A1.out.trans (hbz.mono A1.out.size)
      have y0 := Y7.out.c0
      have y1 := Y7.out.c1
      have f0 := Y7.out.fr 0
      have f1 := Y7.out.fr 1
      clear d0 d1 d2 d3 x0 x1 q0 q1 A1 X XQ Y V5 hbz HV
      go_wp2
      exact ret_cellTT (b := w.heap.size + 2) Tryd.results53 rfl rfl rfl (Box2.loadbk ((Y7.out.set0 _).set1 _)) ⟨rfl, (A7.out.setCell (by show w.heap.size ≤ w.heap.size + 2; omega) _).setCell (by show w.heap.size ≤ w.heap.size + 2; omega) _⟩
set_option maxRecDepth 100000 in
set_option maxHeartbeats 8000000 in
theorem l08Adv_many (b : Bk) (q : Rq) (hk : b.Ok) (hq : q.Ok) (g : ¬ b.hasS q.se) (e : b.ns = 6) (Q : Nat → Prop) (a0 a1 : Option Addr) (c0 c1 : Nat) (s0 : SlP a0 b.nr c0) (s1 : SlP a1 b.ns c1) (hQ0 : ∀ p, a0 = some p → Q p.block) (hQ1 : ∀ p, a1 = some p → Q p.block) (w : World) (h : BankV w b a0 a1) :
    Calls Tryd.prog 53 #[.agg #[.slice a0 b.nr c0, .slice a1 b.ns c1], .agg #[.int .i64 q.se, .int .i64 q.sq, .int .i64 q.x.v, .int .i64 q.x.c, .string q.x.r]] w fun e w' => RetSt Q w.heap.size b 6 0 e w' ∧ Below w.heap.size w w' := by
  have HV : Hid (BankV w b a0 a1) := h
  have A1 : Hid (Below w.heap.size w (((w.alloc (.cells #[.slice a0 b.nr c0, .slice a1 b.ns c1] 46)).alloc (.cells #[.int .i64 q.se, .int .i64 q.sq, .int .i64 q.x.v, .int .i64 q.x.c, .string q.x.r] 52)).alloc (.cells #[.slice none 0 0, .slice none 0 0] 46))) := (((Below.refl _ _).alloc (Nat.le_refl _) _).alloc (by simp) _).alloc (by simp; omega) _
  have X : Hid (Box2 (((w.alloc (.cells #[.slice a0 b.nr c0, .slice a1 b.ns c1] 46)).alloc (.cells #[.int .i64 q.se, .int .i64 q.sq, .int .i64 q.x.v, .int .i64 q.x.c, .string q.x.r] 52)).alloc (.cells #[.slice none 0 0, .slice none 0 0] 46)) w.heap.size 46 (.slice a0 b.nr c0) (.slice a1 b.ns c1)) := ((Box2.made _ _ _ _).alloc _).alloc _
  have XQ : Hid (BoxQ (((w.alloc (.cells #[.slice a0 b.nr c0, .slice a1 b.ns c1] 46)).alloc (.cells #[.int .i64 q.se, .int .i64 q.sq, .int .i64 q.x.v, .int .i64 q.x.c, .string q.x.r] 52)).alloc (.cells #[.slice none 0 0, .slice none 0 0] 46)) (w.heap.size + 1) q) := (BoxQ.madeAt (by simp) q).alloc _
  have Y : Hid (Box2 (((w.alloc (.cells #[.slice a0 b.nr c0, .slice a1 b.ns c1] 46)).alloc (.cells #[.int .i64 q.se, .int .i64 q.sq, .int .i64 q.x.v, .int .i64 q.x.c, .string q.x.r] 52)).alloc (.cells #[.slice none 0 0, .slice none 0 0] 46)) (w.heap.size + 2) 46 (.slice none 0 0) (.slice none 0 0)) := Box2.madeAt (by simp) _ _ _
  have PS : Hid (Pos (fun i => (b.S i).id) b.ns q.se (b.kS q.se)) := hk.posS q.se
  have KN : Hid (b.kS q.se ≤ b.ns) := PS.out.1
  have n6 := hk.2.1
  have NG : Hid (¬ (b.kS q.se < b.ns ∧ (b.S (b.kS q.se)).id = q.se)) := g
  have m4 : ((b.ns : Int) == 6) = true := by simp; omega
  have E6 : Hid (b.ns = 6) := e
  have S0 : Hid (SlP a0 b.nr c0) := s0
  have S1 : Hid (SlP a1 b.ns c1) := s1
  have HQ0 : Hid (∀ p, a0 = some p → Q p.block) := hQ0
  have HQ1 : Hid (∀ p, a1 = some p → Q p.block) := hQ1
  clear g e s0 s1 hQ0 hQ1
  clear h
  generalize hu : b.kS q.se = K at *
  clear hu
  go_enter Tryd.func53, Tryd.ntmps53
  go_wp2_with fail
  have V5 : Hid (Els (((w.alloc (.cells #[.slice a0 b.nr c0, .slice a1 b.ns c1] 46)).alloc (.cells #[.int .i64 q.se, .int .i64 q.sq, .int .i64 q.x.v, .int .i64 q.x.c, .string q.x.r] 52)).alloc (.cells #[.slice none 0 0, .slice none 0 0] 46)) 4 a1 b.ns (seF b.S)) := HV.out.2.below A1.out
  generalize (((w.alloc (.cells #[.slice a0 b.nr c0, .slice a1 b.ns c1] 46)).alloc (.cells #[.int .i64 q.se, .int .i64 q.sq, .int .i64 q.x.v, .int .i64 q.x.c, .string q.x.r] 52)).alloc (.cells #[.slice none 0 0, .slice none 0 0] 46)) = v at *
  have x0 := X.out.c0
  have x1 := X.out.c1
  have q0 := XQ.out.c0
  have q1 := XQ.out.c1
  go_loopw [7] (fun kv wr => ∃ k : Nat, k ≤ K ∧ kv = .int .i64 (k : Int) ∧ ∃ n, wr = v.drewN n) (fun kv _ => K - (intOf kv).toNat)
  case atStart => exact ⟨0, by omega, rfl, 0, rfl⟩
  case round =>
    obtain ⟨k, hk, rfl, n, rfl⟩ := hrel
    by_cases hlt : k < K
    · have KN' := KN.out
      obtain ⟨p, off, ha, hcc⟩ := V5.out.opened (by omega)
      obtain ⟨d0, d1, d2, d3⟩ := Els.seC hcc k (by omega)
      have hd : (b.S k).id < q.se := PS.out.2.1 k hlt
      have hlt' : (k : Int) < (b.ns : Int) := by omega
      have hk0 : (0 : Int) ≤ (k : Int) := by omega
      clear hcc d1 d2 d3
      subst ha
      go_wp2_with fail
      go_quiet (fail)
      go_wp2
      go_roundw
      case rel => exact ⟨k + 1, by omega, by go_num, _, rfl⟩
      case measure => simp [intOf]; omega
    · obtain rfl : k = K := by omega
      clear hlt
      have hke : k < b.ns → ¬ (b.S k).id < q.se ∧ ((b.S k).id == q.se) = false := fun h => by
        have h1 := PS.out.2.2 k (Nat.le_refl _) h
        have h2 : (b.S k).id ≠ q.se := fun e => NG.out ⟨h, e⟩
        dsimp only at h1
        exact ⟨by omega, by simpa using h2⟩
      rcases Nat.lt_or_ge k b.ns with hlt | hlt
      all_goals
        first
          | (have hlt2 : k < b.ns := hlt
             obtain ⟨p, off, ha, hcc⟩ := V5.out.opened (by omega)
             obtain ⟨d0, d1, d2, d3⟩ := Els.seC hcc k hlt
             obtain ⟨hd, he⟩ := hke hlt
             have hlt' : (k : Int) < (b.ns : Int) := by omega
             have hk0 : (0 : Int) ≤ (k : Int) := by omega
             clear hcc hlt2 d1 d2 d3
             subst ha
             go_wp2_with fail
             go_quiet (fail)
             go_wp2_with fail
             go_quiet (fail)
             go_wp2_with fail
             go_quiet (fail)
             go_wp2_with fail
             go_quiet (fail)
             clear d0 hd he hlt' hk0
             generalize hA : (some (⟨p, off, none⟩ : Addr)) = a1 at *
             clear hA)
          | (have hlt' : ¬ (k : Int) < (b.ns : Int) := by omega
             have hd : decide (k < b.ns) = false := by simp; omega
             have hd2 : ¬ k < b.ns := by omega
             go_wp2_with fail
             go_quiet (fail)
             go_wp2_with fail
             go_quiet (fail)
             go_wp2_with fail
             go_quiet (fail)
             go_wp2_with fail
             go_quiet (fail)
             clear hd hd2 hlt')
        generalize hU : ((((v.drewN _).drewN _).drewN _).drewN _).drewN _ = z at *
        have hbz : Below v.heap.size v z := hU ▸ (((((below_dN v _).trans (below_dN (v.drewN _) _)).trans (below_dN ((v.drewN _).drewN _) _)).trans (below_dN (((v.drewN _).drewN _).drewN _) _)).trans (below_dN ((((v.drewN _).drewN _).drewN _).drewN _) _))
        clear hU
        have x0' := (X.out.below hbz).c0
        have x1' := (X.out.below hbz).c1
        have Y7 : Hid (Box2 z (w.heap.size + 2) 46 (.slice none 0 0) (.slice none 0 0)) := Y.out.below hbz
        have A7 : Hid (Below w.heap.size w z) := A1.out.trans (hbz.mono A1.out.size)
        have y0 := Y7.out.c0
        have y1 := Y7.out.c1
        have f0 := Y7.out.fr 0
        have f1 := Y7.out.fr 1
        have A8 : Hid (Below w.heap.size w ((z.setCell ⟨w.heap.size + 2, 0, none⟩ (.slice a0 b.nr c0)).setCell ⟨w.heap.size + 2, 1, none⟩ (.slice a1 b.ns c1))) := (A7.out.setCell (by show w.heap.size ≤ w.heap.size + 2; omega) _).setCell (by show w.heap.size ≤ w.heap.size + 2; omega) _
        clear x0 x1 q0 q1 A1 X XQ Y V5 hbz hke
        go_wp2
        exact ret_cellTT (b := w.heap.size + 2) Tryd.results53 rfl rfl rfl (Box2.loadbk ((Y7.out.set0 _).set1 _)) ⟨⟨_, _, _, _, rfl, HV.out.below A8.out, S0.out, S1.out, fun p e => .inl (HQ0.out p e), fun p e => .inl (HQ1.out p e)⟩, A8.out⟩
set_option maxRecDepth 100000 in
set_option maxHeartbeats 8000000 in
theorem l08Adv_set (b : Bk) (q : Rq) (hk : b.Ok) (hq : q.Ok) (g : b.hasS q.se) (e : (b.S (b.kS q.se)).sq < q.sq) (b1 : Bk) (cd mk : Int) (k1 : b1.Ok) (hns : b1.ns = b.ns) (hS : b1.S = b.S) (hs : StepIs b q.x b1 cd mk) (Q : Nat → Prop) (a0 a1 : Option Addr) (c0 c1 : Nat) (s0 : SlP a0 b.nr c0) (s1 : SlP a1 b.ns c1) (hQ0 : ∀ p, a0 = some p → Q p.block) (hQ1 : ∀ p, a1 = some p → Q p.block) (w : World) (h : BankV w b a0 a1) :
    Calls Tryd.prog 53 #[.agg #[.slice a0 b.nr c0, .slice a1 b.ns c1], .agg #[.int .i64 q.se, .int .i64 q.sq, .int .i64 q.x.v, .int .i64 q.x.c, .string q.x.r]] w fun e w' => RetSt Q w.heap.size (b1.setS ⟨q.se, q.sq, cd, mk⟩) cd mk e w' ∧ Below w.heap.size w w' := by
  have HV : Hid (BankV w b a0 a1) := h
  have A1 : Hid (Below w.heap.size w (((w.alloc (.cells #[.slice a0 b.nr c0, .slice a1 b.ns c1] 46)).alloc (.cells #[.int .i64 q.se, .int .i64 q.sq, .int .i64 q.x.v, .int .i64 q.x.c, .string q.x.r] 52)).alloc (.cells #[.slice none 0 0, .slice none 0 0] 46))) := (((Below.refl _ _).alloc (Nat.le_refl _) _).alloc (by simp) _).alloc (by simp; omega) _
  have X : Hid (Box2 (((w.alloc (.cells #[.slice a0 b.nr c0, .slice a1 b.ns c1] 46)).alloc (.cells #[.int .i64 q.se, .int .i64 q.sq, .int .i64 q.x.v, .int .i64 q.x.c, .string q.x.r] 52)).alloc (.cells #[.slice none 0 0, .slice none 0 0] 46)) w.heap.size 46 (.slice a0 b.nr c0) (.slice a1 b.ns c1)) := ((Box2.made _ _ _ _).alloc _).alloc _
  have XQ : Hid (BoxQ (((w.alloc (.cells #[.slice a0 b.nr c0, .slice a1 b.ns c1] 46)).alloc (.cells #[.int .i64 q.se, .int .i64 q.sq, .int .i64 q.x.v, .int .i64 q.x.c, .string q.x.r] 52)).alloc (.cells #[.slice none 0 0, .slice none 0 0] 46)) (w.heap.size + 1) q) := (BoxQ.madeAt (by simp) q).alloc _
  have Y : Hid (Box2 (((w.alloc (.cells #[.slice a0 b.nr c0, .slice a1 b.ns c1] 46)).alloc (.cells #[.int .i64 q.se, .int .i64 q.sq, .int .i64 q.x.v, .int .i64 q.x.c, .string q.x.r] 52)).alloc (.cells #[.slice none 0 0, .slice none 0 0] 46)) (w.heap.size + 2) 46 (.slice none 0 0) (.slice none 0 0)) := Box2.madeAt (by simp) _ _ _
  have PS : Hid (Pos (fun i => (b.S i).id) b.ns q.se (b.kS q.se)) := hk.posS q.se
  have KN : Hid (b.kS q.se ≤ b.ns) := PS.out.1
  have n6 := hk.2.1
  have GH : Hid (b.kS q.se < b.ns ∧ (b.S (b.kS q.se)).id = q.se) := g
  have ES : Hid ((b.S (b.kS q.se)).sq < q.sq) := e
  have KS : Hid (b1.setS ⟨q.se, q.sq, cd, mk⟩ = { b1 with S := updE b1.S (b.kS q.se) ⟨q.se, q.sq, cd, mk⟩ }) := by
    unfold Bk.setS
    rw [(hasS_of hns hS _).1]
    exact rfl
  have OW : Hid (∀ (j0 j1 : Option Addr) (d0 d1 : Nat), (j0 = none → d0 = 0) → (j1 = none → d1 = 0) → ∀ (w : World), BankV w b1 j0 j1 → Calls Tryd.prog 54 #[.agg #[.slice j0 b1.nr d0, .slice j1 b1.ns d1]] w fun e w' => RetOwn b1 w.heap.size e w' ∧ Below w.heap.size w w') := fun j0 j1 d0 d1 z0 z1 w h => l08Own_any b1 j0 j1 d0 d1 (by have := k1.1.1; omega) (by have := k1.2.1; omega) z0 z1 w h
  have ST : Hid (∀ (w : World), BankV w b a0 a1 → Calls Tryd.prog 93 #[.agg #[.slice a0 b.nr c0, .slice a1 b.ns c1], .agg #[.int .i64 q.se, .int .i64 q.sq, .int .i64 q.x.v, .int .i64 q.x.c, .string q.x.r]] w fun e w' => RetSt Q w.heap.size b1 cd mk e w' ∧ Below w.heap.size w w') := fun w h => l08Step_any Q b b1 q cd mk hk hs a0 a1 c0 c1 s0 s1 hQ0 hQ1 w h
  have SP : Hid (SlP a1 b.ns c1) := s1
  have V0 : Hid (Els w 4 a1 b.ns (seF b.S)) := h.2
  have KQ : Hid (b1.ns = b.ns ∧ b1.S = b.S) := ⟨hns, hS⟩
  clear g e k1 hns hS hs s0 s1 hQ0 hQ1
  clear h
  generalize hu : b.kS q.se = K at *
  clear hu
  go_enter Tryd.func53, Tryd.ntmps53
  go_wp2_with fail
  have V5 : Hid (Els (((w.alloc (.cells #[.slice a0 b.nr c0, .slice a1 b.ns c1] 46)).alloc (.cells #[.int .i64 q.se, .int .i64 q.sq, .int .i64 q.x.v, .int .i64 q.x.c, .string q.x.r] 52)).alloc (.cells #[.slice none 0 0, .slice none 0 0] 46)) 4 a1 b.ns (seF b.S)) := HV.out.2.below A1.out
  generalize (((w.alloc (.cells #[.slice a0 b.nr c0, .slice a1 b.ns c1] 46)).alloc (.cells #[.int .i64 q.se, .int .i64 q.sq, .int .i64 q.x.v, .int .i64 q.x.c, .string q.x.r] 52)).alloc (.cells #[.slice none 0 0, .slice none 0 0] 46)) = v at *
  have x0 := X.out.c0
  have x1 := X.out.c1
  have q0 := XQ.out.c0
  have q1 := XQ.out.c1
  go_loopw [7] (fun kv wr => ∃ k : Nat, k ≤ K ∧ kv = .int .i64 (k : Int) ∧ ∃ n, wr = v.drewN n) (fun kv _ => K - (intOf kv).toNat)
  case atStart => exact ⟨0, by omega, rfl, 0, rfl⟩
  case round =>
    obtain ⟨k, hk, rfl, n, rfl⟩ := hrel
    by_cases hlt : k < K
    · have KN' := KN.out
      obtain ⟨p, off, ha, hcc⟩ := V5.out.opened (by omega)
      obtain ⟨d0, d1, d2, d3⟩ := Els.seC hcc k (by omega)
      have hd : (b.S k).id < q.se := PS.out.2.1 k hlt
      have hlt' : (k : Int) < (b.ns : Int) := by omega
      have hk0 : (0 : Int) ≤ (k : Int) := by omega
      clear hcc d1 d2 d3
      subst ha
      go_wp2_with fail
      go_quiet (fail)
      go_wp2
      go_roundw
      case rel => exact ⟨k + 1, by omega, by go_num, _, rfl⟩
      case measure => simp [intOf]; omega
    · obtain rfl : k = K := by omega
      clear hlt
      have hlt := GH.out.1
      have he : ((b.S k).id == q.se) = true := by simp [GH.out.2]
      have hd : ¬ (b.S k).id < q.se := by have := GH.out.2; omega
      have es : ((b.S k).sq == q.sq) = false := by have := ES.out; simp; omega
      have eg : ¬ q.sq < (b.S k).sq := by have := ES.out; omega
      obtain ⟨p, off, ha, hcc⟩ := V5.out.opened (by omega)
      obtain ⟨d0, d1, d2, d3⟩ := Els.seC hcc k hlt
      have hlt' : (k : Int) < (b.ns : Int) := by omega
      have hk0 : (0 : Int) ≤ (k : Int) := by omega
      clear hcc
      subst ha
      go_wp2_with fail
      go_quiet (fail)
      go_wp2_with fail
      go_quiet (fail)
      go_wp2_with fail
      go_quiet (fail)
      go_wp2_with fail
      go_quiet (fail)
      generalize hU : ((((v.drewN _).drewN _).drewN _).drewN _).drewN _ = u at *
      have hbz : Below v.heap.size v u := hU ▸ (((((below_dN v _).trans (below_dN (v.drewN _) _)).trans (below_dN ((v.drewN _).drewN _) _)).trans (below_dN (((v.drewN _).drewN _).drewN _) _)).trans (below_dN ((((v.drewN _).drewN _).drewN _).drewN _) _))
      clear hU
      have X2 : Hid (Box2 u w.heap.size 46 (.slice a0 b.nr c0) (.slice (some ⟨p, off, none⟩) b.ns c1)) := X.out.below hbz
      have Q2 : Hid (BoxQ u (w.heap.size + 1) q) := XQ.out.below hbz
      have Y2 : Hid (Box2 u (w.heap.size + 2) 46 (.slice none 0 0) (.slice none 0 0)) := Y.out.below hbz
      have A2 : Hid (Below w.heap.size w u) := A1.out.trans (hbz.mono A1.out.size)
      have V2 : Hid (BankV u b a0 (some ⟨p, off, none⟩)) := HV.out.below A2.out
      clear x0 x1 q0 q1 A1 X XQ Y V5 hbz HV
      have x0 := X2.out.c0
      have x1 := X2.out.c1
      have q0 := Q2.out.c0
      have q1 := Q2.out.c1
      have q2 := Q2.out.c2
      have q3 := Q2.out.c3
      have q4 := Q2.out.c4
      go_wp2_with fail
      refine (ST.out _ V2.out).mono ?_
      rintro e u1 ⟨⟨j0, d0, j1, d1, rfl, bv, sp0, sp1, -, -⟩, hb⟩
      have hbA : Below u1.heap.size u1 (u1.alloc (.cells #[.slice j0 b1.nr d0, .slice j1 b1.ns d1] 46)) := (Below.refl _ _).alloc (Nat.le_refl _) _
      have hb2 : Below u.heap.size u (u1.alloc (.cells #[.slice j0 b1.nr d0, .slice j1 b1.ns d1] 46)) := hb.trans (hbA.mono hb.size)
      have XO : Hid (Box2 (u1.alloc (.cells #[.slice j0 b1.nr d0, .slice j1 b1.ns d1] 46)) u1.heap.size 46 (.slice j0 b1.nr d0) (.slice j1 b1.ns d1)) := Box2.made _ _ _ _
      have BV : Hid (BankV (u1.alloc (.cells #[.slice j0 b1.nr d0, .slice j1 b1.ns d1] 46)) b1 j0 j1) := bv.below hbA
      have SZ : Hid (j0 = none → d0 = 0) := sp0.z
      have SZ1 : Hid (j1 = none → d1 = 0) := sp1.z
      have LO : Hid (w.heap.size + 2 < u1.heap.size) := Nat.lt_of_lt_of_le Y2.out.lt hb.size
      replace X2 : Hid (Box2 (u1.alloc (.cells #[.slice j0 b1.nr d0, .slice j1 b1.ns d1] 46)) w.heap.size 46 (.slice a0 b.nr c0) (.slice (some ⟨p, off, none⟩) b.ns c1)) := X2.out.below hb2
      replace Q2 : Hid (BoxQ (u1.alloc (.cells #[.slice j0 b1.nr d0, .slice j1 b1.ns d1] 46)) (w.heap.size + 1) q) := Q2.out.below hb2
      replace Y2 : Hid (Box2 (u1.alloc (.cells #[.slice j0 b1.nr d0, .slice j1 b1.ns d1] 46)) (w.heap.size + 2) 46 (.slice none 0 0) (.slice none 0 0)) := Y2.out.below hb2
      have V3 : Hid (Els (u1.alloc (.cells #[.slice j0 b1.nr d0, .slice j1 b1.ns d1] 46)) 4 (some ⟨p, off, none⟩) b.ns (seF b.S)) := V2.out.2.below hb2
      replace A2 : Hid (Below w.heap.size w (u1.alloc (.cells #[.slice j0 b1.nr d0, .slice j1 b1.ns d1] 46))) := A2.out.trans (hb2.mono A2.out.size)
      clear hb hbA hb2 bv sp0 sp1 x0 x1 q0 q1 q2 q3 q4 ST V2
      have xo0 := XO.out.c0
      have xo1 := XO.out.c1
      go_wp2_with fail
      generalize (u1.alloc (.cells #[.slice j0 b1.nr d0, .slice j1 b1.ns d1] 46)) = ua at *
      generalize u1.heap.size = po at *
      have LA : Hid (po < ua.heap.size) := XO.out.lt
      refine (OW.out j0 j1 d0 d1 SZ.out SZ1.out _ BV.out).mono ?_
      rintro e u2 ⟨⟨i0, n0, i1, n1, rfl, RE⟩, hb⟩
      replace XO : Hid (Box2 u2 po 46 (.slice j0 b1.nr d0) (.slice j1 b1.ns d1)) := XO.out.below hb
      replace X2 : Hid (Box2 u2 w.heap.size 46 (.slice a0 b.nr c0) (.slice (some ⟨p, off, none⟩) b.ns c1)) := X2.out.below hb
      replace Q2 : Hid (BoxQ u2 (w.heap.size + 1) q) := Q2.out.below hb
      replace Y2 : Hid (Box2 u2 (w.heap.size + 2) 46 (.slice none 0 0) (.slice none 0 0)) := Y2.out.below hb
      replace V3 : Hid (Els u2 4 (some ⟨p, off, none⟩) b.ns (seF b.S)) := V3.out.below hb
      replace A2 : Hid (Below w.heap.size w u2) := A2.out.trans (hb.mono A2.out.size)
      have HBU : Hid (ua.heap.size ≤ u2.heap.size) := hb.size
      clear xo0 xo1 hb BV SZ SZ1
      have RG0 : Hid (∀ g, (Value.slice i0 b1.nr n0).ownBlock = some g → po < g) := fun g e => Nat.lt_of_lt_of_le LA.out (RE.e0.ge g e).1
      have RG1 : Hid (∀ g, (Value.slice i1 b1.ns n1).ownBlock = some g → po < g) := fun g e => Nat.lt_of_lt_of_le LA.out (RE.e1.ge g e).1
      have O3 : OnlyB po u2 ((u2.setCell ⟨po, 0, none⟩ (.slice i0 b1.nr n0)).setCell ⟨po, 1, none⟩ (.slice i1 b1.ns n1)) := ((OnlyB.refl _ u2).setCell 0 _).setCell 1 _
      have hs3 : ((u2.setCell ⟨po, 0, none⟩ (.slice i0 b1.nr n0)).setCell ⟨po, 1, none⟩ (.slice i1 b1.ns n1)).heap.size = u2.heap.size := by simp
      have hb4 : Below ((u2.setCell ⟨po, 0, none⟩ (.slice i0 b1.nr n0)).setCell ⟨po, 1, none⟩ (.slice i1 b1.ns n1)).heap.size ((u2.setCell ⟨po, 0, none⟩ (.slice i0 b1.nr n0)).setCell ⟨po, 1, none⟩ (.slice i1 b1.ns n1)) (((u2.setCell ⟨po, 0, none⟩ (.slice i0 b1.nr n0)).setCell ⟨po, 1, none⟩ (.slice i1 b1.ns n1)).alloc (.cells #[.int .i64 q.se, .int .i64 q.sq, .int .i64 cd, .int .i64 mk] 100)) := (Below.refl _ _).alloc (Nat.le_refl _) _
      have X4 : Hid (Box2 (((u2.setCell ⟨po, 0, none⟩ (.slice i0 b1.nr n0)).setCell ⟨po, 1, none⟩ (.slice i1 b1.ns n1)).alloc (.cells #[.int .i64 q.se, .int .i64 q.sq, .int .i64 cd, .int .i64 mk] 100)) w.heap.size 46 (.slice a0 b.nr c0) (.slice (some ⟨p, off, none⟩) b.ns c1)) := (X2.out.onlyB O3 (by have := LO.out; omega)).below hb4
      have Q4 : Hid (BoxQ (((u2.setCell ⟨po, 0, none⟩ (.slice i0 b1.nr n0)).setCell ⟨po, 1, none⟩ (.slice i1 b1.ns n1)).alloc (.cells #[.int .i64 q.se, .int .i64 q.sq, .int .i64 cd, .int .i64 mk] 100)) (w.heap.size + 1) q) := (Q2.out.ofBlock (O3.block _ Q2.out.lt (by have := LO.out; omega))).below hb4
      have Y4 : Hid (Box2 (((u2.setCell ⟨po, 0, none⟩ (.slice i0 b1.nr n0)).setCell ⟨po, 1, none⟩ (.slice i1 b1.ns n1)).alloc (.cells #[.int .i64 q.se, .int .i64 q.sq, .int .i64 cd, .int .i64 mk] 100)) (w.heap.size + 2) 46 (.slice none 0 0) (.slice none 0 0)) := (Y2.out.onlyB O3 (by have := LO.out; omega)).below hb4
      have O4 : Hid (Box2 (((u2.setCell ⟨po, 0, none⟩ (.slice i0 b1.nr n0)).setCell ⟨po, 1, none⟩ (.slice i1 b1.ns n1)).alloc (.cells #[.int .i64 q.se, .int .i64 q.sq, .int .i64 cd, .int .i64 mk] 100)) po 46 (.slice i0 b1.nr n0) (.slice i1 b1.ns n1)) := ((XO.out.set0 _).set1 _).below hb4
      have Z4 : Hid (Box4 (((u2.setCell ⟨po, 0, none⟩ (.slice i0 b1.nr n0)).setCell ⟨po, 1, none⟩ (.slice i1 b1.ns n1)).alloc (.cells #[.int .i64 q.se, .int .i64 q.sq, .int .i64 cd, .int .i64 mk] 100)) u2.heap.size 100 (.int .i64 q.se) (.int .i64 q.sq) (.int .i64 cd) (.int .i64 mk)) := Box4.madeAt hs3 _ _ _ _ _
      have E40 : Hid (EO (((u2.setCell ⟨po, 0, none⟩ (.slice i0 b1.nr n0)).setCell ⟨po, 1, none⟩ (.slice i1 b1.ns n1)).alloc (.cells #[.int .i64 q.se, .int .i64 q.sq, .int .i64 cd, .int .i64 mk] 100)) ua.heap.size 54 3 (.slice i0 b1.nr n0) b1.nr (rgF b1.R)) := (RE.e0.keep (fun g e => O3.block g (RE.e0.ge g e).2 (by have := RG0.out g e; omega))).below hb4
      have E41 : Hid (EO (((u2.setCell ⟨po, 0, none⟩ (.slice i0 b1.nr n0)).setCell ⟨po, 1, none⟩ (.slice i1 b1.ns n1)).alloc (.cells #[.int .i64 q.se, .int .i64 q.sq, .int .i64 cd, .int .i64 mk] 100)) ua.heap.size 100 4 (.slice i1 b1.ns n1) b1.ns (seF b1.S)) := (RE.e1.keep (fun g e => O3.block g (RE.e1.ge g e).2 (by have := RG1.out g e; omega))).below hb4
      have N41 : Hid (∀ g, (Value.slice i0 b1.nr n0).ownBlock = some g → (Value.slice i1 b1.ns n1).ownBlock ≠ some g) := RE.n01
      have A4 : Hid (Below w.heap.size w (((u2.setCell ⟨po, 0, none⟩ (.slice i0 b1.nr n0)).setCell ⟨po, 1, none⟩ (.slice i1 b1.ns n1)).alloc (.cells #[.int .i64 q.se, .int .i64 q.sq, .int .i64 cd, .int .i64 mk] 100))) := (A2.out.trans (O3.toBelow (by have := LO.out; omega) A2.out.size)).trans (hb4.mono (by rw [hs3]; exact A2.out.size))
      have V4 : Hid (Els (((u2.setCell ⟨po, 0, none⟩ (.slice i0 b1.nr n0)).setCell ⟨po, 1, none⟩ (.slice i1 b1.ns n1)).alloc (.cells #[.int .i64 q.se, .int .i64 q.sq, .int .i64 cd, .int .i64 mk] 100)) 4 (some ⟨p, off, none⟩) b.ns (seF b.S)) := V0.out.below A4.out
      have xo0 := XO.out.c0
      have xo1 := XO.out.c1
      have fo0 := XO.out.fr 0
      have fo1 := XO.out.fr 1
      have q0 := Q2.out.c0
      have q1 := Q2.out.c1
      have lo1 : w.heap.size + 1 ≠ po := by have := LO.out; omega
      have lq := Q2.out.lt
      have lpo := XO.out.lt
      clear O3 hs3 hb4 X2 Q2 Y2 XO RE A2 V3
      go_upto_region 14 with fail
      generalize (((u2.setCell ⟨po, 0, none⟩ (.slice i0 b1.nr n0)).setCell ⟨po, 1, none⟩ (.slice i1 b1.ns n1)).alloc (.cells #[.int .i64 q.se, .int .i64 q.sq, .int .i64 cd, .int .i64 mk] 100)) = u4 at *
      generalize hpx : u2.heap.size = px at *
      have LPX : Hid (ua.heap.size ≤ px) := HBU.out
      have LUA : Hid (ua.heap.size ≤ u4.heap.size) := Nat.le_trans LPX.out (Nat.le_of_lt Z4.out.lt)
      clear xo0 xo1 fo0 fo1 q0 q1 lo1 lq lpo hpx
      have hkn : k < b1.ns := by rw [KQ.out.1]; exact hlt
      obtain ⟨G1, r1, -⟩ := E41.out.rowE
      obtain rfl := r1.a (by omega)
      have t0 := r1.c k hkn 0 (by omega)
      have t1 := r1.c k hkn 1 (by omega)
      have t2 := r1.c k hkn 2 (by omega)
      have t3 := r1.c k hkn 3 (by omega)
      rw [Nat.add_zero] at t0
      have u0 := r1.z (k * 4) (by omega)
      have u1' := r1.z (k * 4 + 1) (by omega)
      have u2' := r1.z (k * 4 + 2) (by omega)
      have u3' := r1.z (k * 4 + 3) (by omega)
      have o1 := O4.out.c1
      have z0 := Z4.out.c0
      have z1 := Z4.out.c1
      have z2 := Z4.out.c2
      have z3 := Z4.out.c3
      have hkl : (k : Int) < (b1.ns : Int) := by omega
      have hpg : po < G1 := RG1.out G1 rfl
      have O5 : OnlyB G1 u4 ((((u4.setCell ⟨G1, k * 4, none⟩ (.int .i64 q.se)).setCell ⟨G1, k * 4 + 1, none⟩ (.int .i64 q.sq)).setCell ⟨G1, k * 4 + 2, none⟩ (.int .i64 cd)).setCell ⟨G1, k * 4 + 3, none⟩ (.int .i64 mk)) := ((((OnlyB.refl _ u4).setCell (k * 4) _).setCell (k * 4 + 1) _).setCell (k * 4 + 2) _).setCell (k * 4 + 3) _
      have B5 : Hid (Box2 ((((u4.setCell ⟨G1, k * 4, none⟩ (.int .i64 q.se)).setCell ⟨G1, k * 4 + 1, none⟩ (.int .i64 q.sq)).setCell ⟨G1, k * 4 + 2, none⟩ (.int .i64 cd)).setCell ⟨G1, k * 4 + 3, none⟩ (.int .i64 mk)) po 46 (.slice i0 b1.nr n0) (.slice (some ⟨G1, 0, none⟩) b1.ns n1)) := O4.out.onlyB O5 (by omega)
      have Y5 : Hid (Box2 ((((u4.setCell ⟨G1, k * 4, none⟩ (.int .i64 q.se)).setCell ⟨G1, k * 4 + 1, none⟩ (.int .i64 q.sq)).setCell ⟨G1, k * 4 + 2, none⟩ (.int .i64 cd)).setCell ⟨G1, k * 4 + 3, none⟩ (.int .i64 mk)) (w.heap.size + 2) 46 (.slice none 0 0) (.slice none 0 0)) := Y4.out.onlyB O5 (by have := LO.out; omega)
      have E50 : Hid (EO ((((u4.setCell ⟨G1, k * 4, none⟩ (.int .i64 q.se)).setCell ⟨G1, k * 4 + 1, none⟩ (.int .i64 q.sq)).setCell ⟨G1, k * 4 + 2, none⟩ (.int .i64 cd)).setCell ⟨G1, k * 4 + 3, none⟩ (.int .i64 mk)) ua.heap.size 54 3 (.slice i0 b1.nr n0) b1.nr (rgF b1.R)) := E40.out.keep (fun g e => O5.block g (E40.out.ge g e).2 (fun e2 => N41.out g e (by rw [e2]; rfl)))
      have E51 : Hid (EO ((((u4.setCell ⟨G1, k * 4, none⟩ (.int .i64 q.se)).setCell ⟨G1, k * 4 + 1, none⟩ (.int .i64 q.sq)).setCell ⟨G1, k * 4 + 2, none⟩ (.int .i64 cd)).setCell ⟨G1, k * 4 + 3, none⟩ (.int .i64 mk)) ua.heap.size 100 4 (.slice (some ⟨G1, 0, none⟩) b1.ns n1) b1.ns (seF (updE b1.S k ⟨q.se, q.sq, cd, mk⟩))) := by
        have h4 := (((E41.out.set (k := k) (l := 0) hkn (by omega) (.int .i64 q.se)).set (k := k) (l := 1) hkn (by omega) (.int .i64 q.sq)).set (k := k) (l := 2) hkn (by omega) (.int .i64 cd)).set (k := k) (l := 3) hkn (by omega) (.int .i64 mk)
        exact h4.congr (fun i hi j hj => by
          unfold setF seF updE
          by_cases ei : i = k
          · subst ei
            rcases (show j = 0 ∨ j = 1 ∨ j = 2 ∨ j = 3 by omega) with rfl | rfl | rfl | rfl <;> simp [seV]
          · simp [ei])
      have A5 : Hid (Below w.heap.size w ((((u4.setCell ⟨G1, k * 4, none⟩ (.int .i64 q.se)).setCell ⟨G1, k * 4 + 1, none⟩ (.int .i64 q.sq)).setCell ⟨G1, k * 4 + 2, none⟩ (.int .i64 cd)).setCell ⟨G1, k * 4 + 3, none⟩ (.int .i64 mk))) := A4.out.trans (O5.toBelow (by have := LO.out; omega) A4.out.size)
      clear O5 r1 E40 E41 A4 Y4 X4 Q4
      go_upto_region 17 with fail
      generalize ((((u4.setCell ⟨G1, k * 4, none⟩ (.int .i64 q.se)).setCell ⟨G1, k * 4 + 1, none⟩ (.int .i64 q.sq)).setCell ⟨G1, k * 4 + 2, none⟩ (.int .i64 cd)).setCell ⟨G1, k * 4 + 3, none⟩ (.int .i64 mk)) = u5 at *
      clear t0 t1 t2 t3 u0 u1' u2' u3' o1 z0 z1 z2 z3 O4 Z4
      have o0 := B5.out.c0
      have o1 := B5.out.c1
      have y0 := Y5.out.c0
      have y1 := Y5.out.c1
      have g0 := Y5.out.fr 0
      have g1 := Y5.out.fr 1
      have LW : Hid (w.heap.size + 2 < ua.heap.size) := by have h1 := LO.out; have h2 := LA.out; show w.heap.size + 2 < ua.heap.size; omega
      have O6 : OnlyB (w.heap.size + 2) u5 ((u5.setCell ⟨w.heap.size + 2, 0, none⟩ (.slice i0 b1.nr n0)).setCell ⟨w.heap.size + 2, 1, none⟩ (.slice (some ⟨G1, 0, none⟩) b1.ns n1)) := ((OnlyB.refl _ u5).setCell 0 _).setCell 1 _
      have A6 : Hid (Below w.heap.size w ((u5.setCell ⟨w.heap.size + 2, 0, none⟩ (.slice i0 b1.nr n0)).setCell ⟨w.heap.size + 2, 1, none⟩ (.slice (some ⟨G1, 0, none⟩) b1.ns n1))) := A5.out.trans (O6.toBelow (by omega) A5.out.size)
      have R6 : Hid (Els ((u5.setCell ⟨w.heap.size + 2, 0, none⟩ (.slice i0 b1.nr n0)).setCell ⟨w.heap.size + 2, 1, none⟩ (.slice (some ⟨G1, 0, none⟩) b1.ns n1)) 3 i0 b1.nr (rgF b1.R)) := (E50.out.onlyB O6 LW.out).els
      have S6 : Hid (Els ((u5.setCell ⟨w.heap.size + 2, 0, none⟩ (.slice i0 b1.nr n0)).setCell ⟨w.heap.size + 2, 1, none⟩ (.slice (some ⟨G1, 0, none⟩) b1.ns n1)) 4 (some ⟨G1, 0, none⟩) b1.ns (seF (updE b1.S k ⟨q.se, q.sq, cd, mk⟩))) := (E51.out.onlyB O6 LW.out).els
      have P0 : Hid (SlP i0 b1.nr n0) := E50.out.slp
      have FQ0 : Hid (FrQ Q w.heap.size ((u5.setCell ⟨w.heap.size + 2, 0, none⟩ (.slice i0 b1.nr n0)).setCell ⟨w.heap.size + 2, 1, none⟩ (.slice (some ⟨G1, 0, none⟩) b1.ns n1)) i0) := E50.out.fresh (by have := LW.out; omega) Q (by simp)
      have FQ1 : Hid (FrQ Q w.heap.size ((u5.setCell ⟨w.heap.size + 2, 0, none⟩ (.slice i0 b1.nr n0)).setCell ⟨w.heap.size + 2, 1, none⟩ (.slice (some ⟨G1, 0, none⟩) b1.ns n1)) (some ⟨G1, 0, none⟩)) := E51.out.fresh (by have := LW.out; omega) Q (by simp)
      have P1 : Hid (SlP (some ⟨G1, 0, none⟩) b1.ns n1) := E51.out.slp
      clear O6 E50 E51
      go_wp2
      exact ret_cellTT (b := w.heap.size + 2) Tryd.results53 rfl rfl rfl (Box2.loadbk ((Y5.out.set0 _).set1 _)) ⟨⟨_, _, _, _, by rw [KS.out]; rfl, ⟨R6.out, by rw [KS.out]; exact S6.out⟩, P0.out, by rw [KS.out]; exact P1.out, FQ0.out, FQ1.out⟩, A6.out⟩
set_option maxRecDepth 100000 in
set_option maxHeartbeats 8000000 in
theorem l08Adv_ins (b : Bk) (q : Rq) (hk : b.Ok) (hq : q.Ok) (g : ¬ b.hasS q.se) (e : b.ns < 6) (b1 : Bk) (cd mk : Int) (k1 : b1.Ok) (hns : b1.ns = b.ns) (hS : b1.S = b.S) (hs : StepIs b q.x b1 cd mk) (Q : Nat → Prop) (a0 a1 : Option Addr) (c0 c1 : Nat) (s0 : SlP a0 b.nr c0) (s1 : SlP a1 b.ns c1) (hQ0 : ∀ p, a0 = some p → Q p.block) (hQ1 : ∀ p, a1 = some p → Q p.block) (w : World) (h : BankV w b a0 a1) :
    Calls Tryd.prog 53 #[.agg #[.slice a0 b.nr c0, .slice a1 b.ns c1], .agg #[.int .i64 q.se, .int .i64 q.sq, .int .i64 q.x.v, .int .i64 q.x.c, .string q.x.r]] w fun e w' => RetSt Q w.heap.size (b1.insS ⟨q.se, q.sq, cd, mk⟩) cd mk e w' ∧ Below w.heap.size w w' := by
  have HV : Hid (BankV w b a0 a1) := h
  have A1 : Hid (Below w.heap.size w (((w.alloc (.cells #[.slice a0 b.nr c0, .slice a1 b.ns c1] 46)).alloc (.cells #[.int .i64 q.se, .int .i64 q.sq, .int .i64 q.x.v, .int .i64 q.x.c, .string q.x.r] 52)).alloc (.cells #[.slice none 0 0, .slice none 0 0] 46))) := (((Below.refl _ _).alloc (Nat.le_refl _) _).alloc (by simp) _).alloc (by simp; omega) _
  have X : Hid (Box2 (((w.alloc (.cells #[.slice a0 b.nr c0, .slice a1 b.ns c1] 46)).alloc (.cells #[.int .i64 q.se, .int .i64 q.sq, .int .i64 q.x.v, .int .i64 q.x.c, .string q.x.r] 52)).alloc (.cells #[.slice none 0 0, .slice none 0 0] 46)) w.heap.size 46 (.slice a0 b.nr c0) (.slice a1 b.ns c1)) := ((Box2.made _ _ _ _).alloc _).alloc _
  have XQ : Hid (BoxQ (((w.alloc (.cells #[.slice a0 b.nr c0, .slice a1 b.ns c1] 46)).alloc (.cells #[.int .i64 q.se, .int .i64 q.sq, .int .i64 q.x.v, .int .i64 q.x.c, .string q.x.r] 52)).alloc (.cells #[.slice none 0 0, .slice none 0 0] 46)) (w.heap.size + 1) q) := (BoxQ.madeAt (by simp) q).alloc _
  have Y : Hid (Box2 (((w.alloc (.cells #[.slice a0 b.nr c0, .slice a1 b.ns c1] 46)).alloc (.cells #[.int .i64 q.se, .int .i64 q.sq, .int .i64 q.x.v, .int .i64 q.x.c, .string q.x.r] 52)).alloc (.cells #[.slice none 0 0, .slice none 0 0] 46)) (w.heap.size + 2) 46 (.slice none 0 0) (.slice none 0 0)) := Box2.madeAt (by simp) _ _ _
  have PS : Hid (Pos (fun i => (b.S i).id) b.ns q.se (b.kS q.se)) := hk.posS q.se
  have KN : Hid (b.kS q.se ≤ b.ns) := PS.out.1
  have n6 := hk.2.1
  have NG : Hid (¬ (b.kS q.se < b.ns ∧ (b.S (b.kS q.se)).id = q.se)) := g
  have m4 : ((b.ns : Int) == 6) = false := by simp; omega
  have E6 : Hid (b.ns < 6) := e
  have KS : Hid (b1.insS ⟨q.se, q.sq, cd, mk⟩ = { b1 with ns := b.ns + 1, S := insE b.S (b.kS q.se) ⟨q.se, q.sq, cd, mk⟩ }) := by
    unfold Bk.insS
    rw [(hasS_of hns hS _).1, hns, hS]
    exact rfl
  have OW : Hid (∀ (j0 j1 : Option Addr) (d0 d1 : Nat), (j0 = none → d0 = 0) → (j1 = none → d1 = 0) → ∀ (w : World), BankV w b1 j0 j1 → Calls Tryd.prog 54 #[.agg #[.slice j0 b1.nr d0, .slice j1 b1.ns d1]] w fun e w' => RetOwn b1 w.heap.size e w' ∧ Below w.heap.size w w') := fun j0 j1 d0 d1 z0 z1 w h => l08Own_any b1 j0 j1 d0 d1 (by have := k1.1.1; omega) (by have := k1.2.1; omega) z0 z1 w h
  have ST : Hid (∀ (w : World), BankV w b a0 a1 → Calls Tryd.prog 93 #[.agg #[.slice a0 b.nr c0, .slice a1 b.ns c1], .agg #[.int .i64 q.se, .int .i64 q.sq, .int .i64 q.x.v, .int .i64 q.x.c, .string q.x.r]] w fun e w' => RetSt Q w.heap.size b1 cd mk e w' ∧ Below w.heap.size w w') := fun w h => l08Step_any Q b b1 q cd mk hk hs a0 a1 c0 c1 s0 s1 hQ0 hQ1 w h
  have SP : Hid (SlP a1 b.ns c1) := s1
  have V0 : Hid (Els w 4 a1 b.ns (seF b.S)) := h.2
  have KQ : Hid (b1.ns = b.ns ∧ b1.S = b.S) := ⟨hns, hS⟩
  clear g e k1 hns hS hs s0 s1 hQ0 hQ1
  clear h
  generalize hu : b.kS q.se = K at *
  clear hu
  go_enter Tryd.func53, Tryd.ntmps53
  go_wp2_with fail
  have V5 : Hid (Els (((w.alloc (.cells #[.slice a0 b.nr c0, .slice a1 b.ns c1] 46)).alloc (.cells #[.int .i64 q.se, .int .i64 q.sq, .int .i64 q.x.v, .int .i64 q.x.c, .string q.x.r] 52)).alloc (.cells #[.slice none 0 0, .slice none 0 0] 46)) 4 a1 b.ns (seF b.S)) := HV.out.2.below A1.out
  generalize (((w.alloc (.cells #[.slice a0 b.nr c0, .slice a1 b.ns c1] 46)).alloc (.cells #[.int .i64 q.se, .int .i64 q.sq, .int .i64 q.x.v, .int .i64 q.x.c, .string q.x.r] 52)).alloc (.cells #[.slice none 0 0, .slice none 0 0] 46)) = v at *
  have x0 := X.out.c0
  have x1 := X.out.c1
  have q0 := XQ.out.c0
  have q1 := XQ.out.c1
  go_loopw [7] (fun kv wr => ∃ k : Nat, k ≤ K ∧ kv = .int .i64 (k : Int) ∧ ∃ n, wr = v.drewN n) (fun kv _ => K - (intOf kv).toNat)
  case atStart => exact ⟨0, by omega, rfl, 0, rfl⟩
  case round =>
    obtain ⟨k, hk, rfl, n, rfl⟩ := hrel
    by_cases hlt : k < K
    · have KN' := KN.out
      obtain ⟨p, off, ha, hcc⟩ := V5.out.opened (by omega)
      obtain ⟨d0, d1, d2, d3⟩ := Els.seC hcc k (by omega)
      have hd : (b.S k).id < q.se := PS.out.2.1 k hlt
      have hlt' : (k : Int) < (b.ns : Int) := by omega
      have hk0 : (0 : Int) ≤ (k : Int) := by omega
      clear hcc d1 d2 d3
      subst ha
      go_wp2_with fail
      go_quiet (fail)
      go_wp2
      go_roundw
      case rel => exact ⟨k + 1, by omega, by go_num, _, rfl⟩
      case measure => simp [intOf]; omega
    · obtain rfl : k = K := by omega
      clear hlt
      have hke : k < b.ns → ¬ (b.S k).id < q.se ∧ ((b.S k).id == q.se) = false := fun h => by
        have h1 := PS.out.2.2 k (Nat.le_refl _) h
        have h2 : (b.S k).id ≠ q.se := fun e => NG.out ⟨h, e⟩
        dsimp only at h1
        exact ⟨by omega, by simpa using h2⟩
      rcases Nat.lt_or_ge k b.ns with hlt | hlt
      all_goals
        first
          | (have hlt2 : k < b.ns := hlt
             obtain ⟨p, off, ha, hcc⟩ := V5.out.opened (by omega)
             obtain ⟨d0, d1, d2, d3⟩ := Els.seC hcc k hlt
             obtain ⟨hd, he⟩ := hke hlt
             have hlt' : (k : Int) < (b.ns : Int) := by omega
             have hk0 : (0 : Int) ≤ (k : Int) := by omega
             clear hcc hlt2 d1 d2 d3
             subst ha
             go_wp2_with fail
             go_quiet (fail)
             go_wp2_with fail
             go_quiet (fail)
             go_wp2_with fail
             go_quiet (fail)
             go_wp2_with fail
             go_quiet (fail)
             clear d0 hd he hlt' hk0
             generalize hA : (some (⟨p, off, none⟩ : Addr)) = a1 at *
             clear hA)
          | (have hlt' : ¬ (k : Int) < (b.ns : Int) := by omega
             have hd : decide (k < b.ns) = false := by simp; omega
             have hd2 : ¬ k < b.ns := by omega
             go_wp2_with fail
             go_quiet (fail)
             go_wp2_with fail
             go_quiet (fail)
             go_wp2_with fail
             go_quiet (fail)
             go_wp2_with fail
             go_quiet (fail)
             clear hd hd2 hlt')
        clear hke hlt
        generalize hU : ((((v.drewN _).drewN _).drewN _).drewN _).drewN _ = u at *
        have hbz : Below v.heap.size v u := hU ▸ (((((below_dN v _).trans (below_dN (v.drewN _) _)).trans (below_dN ((v.drewN _).drewN _) _)).trans (below_dN (((v.drewN _).drewN _).drewN _) _)).trans (below_dN ((((v.drewN _).drewN _).drewN _).drewN _) _))
        clear hU
        have X2 : Hid (Box2 u w.heap.size 46 (.slice a0 b.nr c0) (.slice a1 b.ns c1)) := X.out.below hbz
        have Q2 : Hid (BoxQ u (w.heap.size + 1) q) := XQ.out.below hbz
        have Y2 : Hid (Box2 u (w.heap.size + 2) 46 (.slice none 0 0) (.slice none 0 0)) := Y.out.below hbz
        have A2 : Hid (Below w.heap.size w u) := A1.out.trans (hbz.mono A1.out.size)
        have V2 : Hid (BankV u b a0 a1) := HV.out.below A2.out
        clear x0 x1 q0 q1 A1 X XQ Y V5 hbz HV
        have x0 := X2.out.c0
        have x1 := X2.out.c1
        have q0 := Q2.out.c0
        have q1 := Q2.out.c1
        have q2 := Q2.out.c2
        have q3 := Q2.out.c3
        have q4 := Q2.out.c4
        go_wp2_with fail
        refine (ST.out _ V2.out).mono ?_
        rintro e u1 ⟨⟨j0, d0, j1, d1, rfl, bv, sp0, sp1, -, -⟩, hb⟩
        have hbA : Below u1.heap.size u1 (u1.alloc (.cells #[.slice j0 b1.nr d0, .slice j1 b1.ns d1] 46)) := (Below.refl _ _).alloc (Nat.le_refl _) _
        have hb2 : Below u.heap.size u (u1.alloc (.cells #[.slice j0 b1.nr d0, .slice j1 b1.ns d1] 46)) := hb.trans (hbA.mono hb.size)
        have XO : Hid (Box2 (u1.alloc (.cells #[.slice j0 b1.nr d0, .slice j1 b1.ns d1] 46)) u1.heap.size 46 (.slice j0 b1.nr d0) (.slice j1 b1.ns d1)) := Box2.made _ _ _ _
        have BV : Hid (BankV (u1.alloc (.cells #[.slice j0 b1.nr d0, .slice j1 b1.ns d1] 46)) b1 j0 j1) := bv.below hbA
        have SZ : Hid (j0 = none → d0 = 0) := sp0.z
        have SZ1 : Hid (j1 = none → d1 = 0) := sp1.z
        have LO : Hid (w.heap.size + 2 < u1.heap.size) := Nat.lt_of_lt_of_le Y2.out.lt hb.size
        replace X2 : Hid (Box2 (u1.alloc (.cells #[.slice j0 b1.nr d0, .slice j1 b1.ns d1] 46)) w.heap.size 46 (.slice a0 b.nr c0) (.slice a1 b.ns c1)) := X2.out.below hb2
        replace Q2 : Hid (BoxQ (u1.alloc (.cells #[.slice j0 b1.nr d0, .slice j1 b1.ns d1] 46)) (w.heap.size + 1) q) := Q2.out.below hb2
        replace Y2 : Hid (Box2 (u1.alloc (.cells #[.slice j0 b1.nr d0, .slice j1 b1.ns d1] 46)) (w.heap.size + 2) 46 (.slice none 0 0) (.slice none 0 0)) := Y2.out.below hb2
        have V3 : Hid (Els (u1.alloc (.cells #[.slice j0 b1.nr d0, .slice j1 b1.ns d1] 46)) 4 a1 b.ns (seF b.S)) := V2.out.2.below hb2
        replace A2 : Hid (Below w.heap.size w (u1.alloc (.cells #[.slice j0 b1.nr d0, .slice j1 b1.ns d1] 46))) := A2.out.trans (hb2.mono A2.out.size)
        clear hb hbA hb2 bv sp0 sp1 x0 x1 q0 q1 q2 q3 q4 ST V2
        have xo0 := XO.out.c0
        have xo1 := XO.out.c1
        go_wp2_with fail
        generalize (u1.alloc (.cells #[.slice j0 b1.nr d0, .slice j1 b1.ns d1] 46)) = ua at *
        generalize u1.heap.size = po at *
        have LA : Hid (po < ua.heap.size) := XO.out.lt
        refine (OW.out j0 j1 d0 d1 SZ.out SZ1.out _ BV.out).mono ?_
        rintro e u2 ⟨⟨i0, n0, i1, n1, rfl, RE⟩, hb⟩
        replace XO : Hid (Box2 u2 po 46 (.slice j0 b1.nr d0) (.slice j1 b1.ns d1)) := XO.out.below hb
        replace X2 : Hid (Box2 u2 w.heap.size 46 (.slice a0 b.nr c0) (.slice a1 b.ns c1)) := X2.out.below hb
        replace Q2 : Hid (BoxQ u2 (w.heap.size + 1) q) := Q2.out.below hb
        replace Y2 : Hid (Box2 u2 (w.heap.size + 2) 46 (.slice none 0 0) (.slice none 0 0)) := Y2.out.below hb
        replace V3 : Hid (Els u2 4 a1 b.ns (seF b.S)) := V3.out.below hb
        replace A2 : Hid (Below w.heap.size w u2) := A2.out.trans (hb.mono A2.out.size)
        have HBU : Hid (ua.heap.size ≤ u2.heap.size) := hb.size
        clear xo0 xo1 hb BV SZ SZ1
        have RG0 : Hid (∀ g, (Value.slice i0 b1.nr n0).ownBlock = some g → po < g) := fun g e => Nat.lt_of_lt_of_le LA.out (RE.e0.ge g e).1
        have RG1 : Hid (∀ g, (Value.slice i1 b1.ns n1).ownBlock = some g → po < g) := fun g e => Nat.lt_of_lt_of_le LA.out (RE.e1.ge g e).1
        have O3 : OnlyB po u2 ((u2.setCell ⟨po, 0, none⟩ (.slice i0 b1.nr n0)).setCell ⟨po, 1, none⟩ (.slice i1 b1.ns n1)) := ((OnlyB.refl _ u2).setCell 0 _).setCell 1 _
        have hs3 : ((u2.setCell ⟨po, 0, none⟩ (.slice i0 b1.nr n0)).setCell ⟨po, 1, none⟩ (.slice i1 b1.ns n1)).heap.size = u2.heap.size := by simp
        have hb4 : Below ((u2.setCell ⟨po, 0, none⟩ (.slice i0 b1.nr n0)).setCell ⟨po, 1, none⟩ (.slice i1 b1.ns n1)).heap.size ((u2.setCell ⟨po, 0, none⟩ (.slice i0 b1.nr n0)).setCell ⟨po, 1, none⟩ (.slice i1 b1.ns n1)) (((u2.setCell ⟨po, 0, none⟩ (.slice i0 b1.nr n0)).setCell ⟨po, 1, none⟩ (.slice i1 b1.ns n1)).alloc (.cells #[.int .i64 q.se, .int .i64 q.sq, .int .i64 cd, .int .i64 mk] 100)) := (Below.refl _ _).alloc (Nat.le_refl _) _
        have X4 : Hid (Box2 (((u2.setCell ⟨po, 0, none⟩ (.slice i0 b1.nr n0)).setCell ⟨po, 1, none⟩ (.slice i1 b1.ns n1)).alloc (.cells #[.int .i64 q.se, .int .i64 q.sq, .int .i64 cd, .int .i64 mk] 100)) w.heap.size 46 (.slice a0 b.nr c0) (.slice a1 b.ns c1)) := (X2.out.onlyB O3 (by have := LO.out; omega)).below hb4
        have Q4 : Hid (BoxQ (((u2.setCell ⟨po, 0, none⟩ (.slice i0 b1.nr n0)).setCell ⟨po, 1, none⟩ (.slice i1 b1.ns n1)).alloc (.cells #[.int .i64 q.se, .int .i64 q.sq, .int .i64 cd, .int .i64 mk] 100)) (w.heap.size + 1) q) := (Q2.out.ofBlock (O3.block _ Q2.out.lt (by have := LO.out; omega))).below hb4
        have Y4 : Hid (Box2 (((u2.setCell ⟨po, 0, none⟩ (.slice i0 b1.nr n0)).setCell ⟨po, 1, none⟩ (.slice i1 b1.ns n1)).alloc (.cells #[.int .i64 q.se, .int .i64 q.sq, .int .i64 cd, .int .i64 mk] 100)) (w.heap.size + 2) 46 (.slice none 0 0) (.slice none 0 0)) := (Y2.out.onlyB O3 (by have := LO.out; omega)).below hb4
        have O4 : Hid (Box2 (((u2.setCell ⟨po, 0, none⟩ (.slice i0 b1.nr n0)).setCell ⟨po, 1, none⟩ (.slice i1 b1.ns n1)).alloc (.cells #[.int .i64 q.se, .int .i64 q.sq, .int .i64 cd, .int .i64 mk] 100)) po 46 (.slice i0 b1.nr n0) (.slice i1 b1.ns n1)) := ((XO.out.set0 _).set1 _).below hb4
        have Z4 : Hid (Box4 (((u2.setCell ⟨po, 0, none⟩ (.slice i0 b1.nr n0)).setCell ⟨po, 1, none⟩ (.slice i1 b1.ns n1)).alloc (.cells #[.int .i64 q.se, .int .i64 q.sq, .int .i64 cd, .int .i64 mk] 100)) u2.heap.size 100 (.int .i64 q.se) (.int .i64 q.sq) (.int .i64 cd) (.int .i64 mk)) := Box4.madeAt hs3 _ _ _ _ _
        have E40 : Hid (EO (((u2.setCell ⟨po, 0, none⟩ (.slice i0 b1.nr n0)).setCell ⟨po, 1, none⟩ (.slice i1 b1.ns n1)).alloc (.cells #[.int .i64 q.se, .int .i64 q.sq, .int .i64 cd, .int .i64 mk] 100)) ua.heap.size 54 3 (.slice i0 b1.nr n0) b1.nr (rgF b1.R)) := (RE.e0.keep (fun g e => O3.block g (RE.e0.ge g e).2 (by have := RG0.out g e; omega))).below hb4
        have E41 : Hid (EO (((u2.setCell ⟨po, 0, none⟩ (.slice i0 b1.nr n0)).setCell ⟨po, 1, none⟩ (.slice i1 b1.ns n1)).alloc (.cells #[.int .i64 q.se, .int .i64 q.sq, .int .i64 cd, .int .i64 mk] 100)) ua.heap.size 100 4 (.slice i1 b1.ns n1) b1.ns (seF b1.S)) := (RE.e1.keep (fun g e => O3.block g (RE.e1.ge g e).2 (by have := RG1.out g e; omega))).below hb4
        have N41 : Hid (∀ g, (Value.slice i0 b1.nr n0).ownBlock = some g → (Value.slice i1 b1.ns n1).ownBlock ≠ some g) := RE.n01
        have A4 : Hid (Below w.heap.size w (((u2.setCell ⟨po, 0, none⟩ (.slice i0 b1.nr n0)).setCell ⟨po, 1, none⟩ (.slice i1 b1.ns n1)).alloc (.cells #[.int .i64 q.se, .int .i64 q.sq, .int .i64 cd, .int .i64 mk] 100))) := (A2.out.trans (O3.toBelow (by have := LO.out; omega) A2.out.size)).trans (hb4.mono (by rw [hs3]; exact A2.out.size))
        have V4 : Hid (Els (((u2.setCell ⟨po, 0, none⟩ (.slice i0 b1.nr n0)).setCell ⟨po, 1, none⟩ (.slice i1 b1.ns n1)).alloc (.cells #[.int .i64 q.se, .int .i64 q.sq, .int .i64 cd, .int .i64 mk] 100)) 4 a1 b.ns (seF b.S)) := V0.out.below A4.out
        have xo0 := XO.out.c0
        have xo1 := XO.out.c1
        have fo0 := XO.out.fr 0
        have fo1 := XO.out.fr 1
        have q0 := Q2.out.c0
        have q1 := Q2.out.c1
        have lo1 : w.heap.size + 1 ≠ po := by have := LO.out; omega
        have lq := Q2.out.lt
        have lpo := XO.out.lt
        clear O3 hs3 hb4 X2 Q2 Y2 XO RE A2 V3
        go_upto_region 14 with fail
        generalize (((u2.setCell ⟨po, 0, none⟩ (.slice i0 b1.nr n0)).setCell ⟨po, 1, none⟩ (.slice i1 b1.ns n1)).alloc (.cells #[.int .i64 q.se, .int .i64 q.sq, .int .i64 cd, .int .i64 mk] 100)) = u4 at *
        generalize hpx : u2.heap.size = px at *
        have LPX : Hid (ua.heap.size ≤ px) := HBU.out
        have LUA : Hid (ua.heap.size ≤ u4.heap.size) := Nat.le_trans LPX.out (Nat.le_of_lt Z4.out.lt)
        clear xo0 xo1 fo0 fo1 q0 q1 lo1 lq lpo hpx
        have X2 : Hid (Box2 u4 w.heap.size 46 (.slice a0 b.nr c0) (.slice a1 b.ns c1)) := X4.out
        have XX : Hid (Box4 u4 px 100 (.int .i64 q.se) (.int .i64 q.sq) (.int .i64 cd) (.int .i64 mk)) := Z4.out
        have XO : Hid (Box2 u4 po 46 (.slice i0 b1.nr n0) (.slice i1 b1.ns n1)) := O4.out
        have ER : Hid (Els u4 4 a1 b.ns (seF b.S)) := V4.out
        have EC : Hid (Els u4 4 (cutA a1 c1 k 4) (b.ns - k) (seF (fun i => b.S (k + i)))) := ER.out.cut SP.out.le k KN.out
        have hsz : ∀ w, (sizeOf (Tryd.prog.elem 44)).run Tryd.prog w = .ok 4 w := fun w => by
          obtain ⟨i, hi, hz, hsz, hby⟩ := info_parts Tryd.infoSe
          rw [show Tryd.prog.elem 44 = 100 by kernel_rfl]
          simp [sizeOf, typeInfo, hi, hsz]
        have hun : Tryd.prog.underlying 44 = some (.slice (Tryd.prog.elem 44)) := by kernel_rfl
        have CT : Hid (∀ w : World, (Instr.slice 44 (.slice a1 b.ns c1) none (some (.int .i64 (k : Int))) none).run Tryd.prog w = .ok (.slice a1 k c1) w) := run_cut_to 44 hun 4 hsz SP.out k (Nat.le_trans KN.out SP.out.le)
        have CF : Hid (∀ w : World, (Instr.slice 44 (.slice a1 b.ns c1) (some (.int .i64 (k : Int))) none none).run Tryd.prog w = .ok (.slice (cutA a1 c1 k 4) (b.ns - k) (c1 - k)) w) := run_cut_from 44 hun 4 hsz SP.out k KN.out
        have N2 : Hid (w.heap.size ≠ po) := by have := LO.out; show w.heap.size ≠ po; omega
        have NX : Hid (px ≠ po) := by have h1 := LA.out; have h2 := LPX.out; show px ≠ po; omega
        have KN' := KN.out
        clear hsz hun X4 Z4 O4 V4 Q4 PS V0 RG0 RG1 N41
        go_wp2_with fail
        have I : Hid (InsJ u4 u4.drew 100 4 (.slice none 0 0) 0 (seF b.S) none (seV ⟨q.se, q.sq, cd, mk⟩)) := InsJ.start _ _ _ _ _
        have H : (Box2 u4.drew w.heap.size 46 (.slice a0 b.nr c0) (.slice a1 b.ns c1)) ∧ (Box4 u4.drew px 100 (.int .i64 q.se) (.int .i64 q.sq) (.int .i64 cd) (.int .i64 mk)) := ⟨X2.out.below I.out.hb, XX.out.below I.out.hb⟩
        refine wp_region_noPanic ?_
        refine wp_region_held_drew (S := fun w' => (Box2 w' w.heap.size 46 (.slice a0 b.nr c0) (.slice a1 b.ns c1)) ∧ (Box4 w' px 100 (.int .i64 q.se) (.int .i64 q.sq) (.int .i64 cd) (.int .i64 mk))) (by kernel_rfl) H (fun _ => ?_)
        generalize u4.drew = y0 at *
        refine wpAnyH_take (i := 1) (v := .pointer (some ⟨w.heap.size, 1, none⟩)) rfl (by kernel_rfl) (by kernel_rfl) (by kernel_rfl) (fun _ _ _ h => h) (Or.inl ⟨by rfl, ?_⟩) H ?_
        · intro w' hSw; go_simp
        change wpAnyH _ _ _ _ _ _ _ { tmps := #[_,_,_,_,_,_,_,_,_,_,_,_,_,_,_,_,_,_,_,_,_,_,_,_,_,_,_,_,_,_,_,_,_,_,_,_,_,_,_,_,_,_,_,_,_,_,_,_,_,_,_,_,_,_,_,_,_,_,_,_,_,_,_,_,_,_,_,_,_,_,_,_,_,_,_,_,_,_,_,_,_,_,_,_,_,_,_,_,_,_,_,_,_,_,_,_,_,_,_,_,_,_,_,_,_,_,_,_,_,_,_,_,_,_,_,_,_,_,_,_,_,_,_,_,_,_,_,_,_,_,_,_,_,_,_,_,_], defers := _ } _
        refine wpAnyH_take (i := 2) (v := .slice a1 b.ns c1) rfl (by kernel_rfl) (by kernel_rfl) (by kernel_rfl) (fun _ _ _ h => h) (Or.inl ⟨by rfl, ?_⟩) H ?_
        · intro w' hSw; have t0 := hSw.1.c1; clear hSw; go_simp
        change wpAnyH _ _ _ _ _ _ _ { tmps := #[_,_,_,_,_,_,_,_,_,_,_,_,_,_,_,_,_,_,_,_,_,_,_,_,_,_,_,_,_,_,_,_,_,_,_,_,_,_,_,_,_,_,_,_,_,_,_,_,_,_,_,_,_,_,_,_,_,_,_,_,_,_,_,_,_,_,_,_,_,_,_,_,_,_,_,_,_,_,_,_,_,_,_,_,_,_,_,_,_,_,_,_,_,_,_,_,_,_,_,_,_,_,_,_,_,_,_,_,_,_,_,_,_,_,_,_,_,_,_,_,_,_,_,_,_,_,_,_,_,_,_,_,_,_,_,_,_], defers := _ } _
        refine wpAnyH_take (i := 3) (v := .int .i64 (k : Int)) rfl (by kernel_rfl) (by kernel_rfl) (by kernel_rfl) (fun _ _ _ h => h) (Or.inl ⟨by rfl, ?_⟩) H ?_
        · intro w' hSw; go_simp
        change wpAnyH _ _ _ _ _ _ _ { tmps := #[_,_,_,_,_,_,_,_,_,_,_,_,_,_,_,_,_,_,_,_,_,_,_,_,_,_,_,_,_,_,_,_,_,_,_,_,_,_,_,_,_,_,_,_,_,_,_,_,_,_,_,_,_,_,_,_,_,_,_,_,_,_,_,_,_,_,_,_,_,_,_,_,_,_,_,_,_,_,_,_,_,_,_,_,_,_,_,_,_,_,_,_,_,_,_,_,_,_,_,_,_,_,_,_,_,_,_,_,_,_,_,_,_,_,_,_,_,_,_,_,_,_,_,_,_,_,_,_,_,_,_,_,_,_,_,_,_], defers := _ } _
        refine wpAnyH_take (i := 4) (v := .slice a1 k c1) rfl (by kernel_rfl) (by kernel_rfl) (by kernel_rfl) (fun _ _ _ h => h) (Or.inl ⟨by rfl, ?_⟩) H ?_
        · intro w' hSw; have hs := CT.out w'; clear hSw; go_simp
        change wpAnyH _ _ _ _ _ _ _ { tmps := #[_,_,_,_,_,_,_,_,_,_,_,_,_,_,_,_,_,_,_,_,_,_,_,_,_,_,_,_,_,_,_,_,_,_,_,_,_,_,_,_,_,_,_,_,_,_,_,_,_,_,_,_,_,_,_,_,_,_,_,_,_,_,_,_,_,_,_,_,_,_,_,_,_,_,_,_,_,_,_,_,_,_,_,_,_,_,_,_,_,_,_,_,_,_,_,_,_,_,_,_,_,_,_,_,_,_,_,_,_,_,_,_,_,_,_,_,_,_,_,_,_,_,_,_,_,_,_,_,_,_,_,_,_,_,_,_,_], defers := _ } _
        refine wpAnyH_take (i := 6) (v := .agg #[.int .i64 q.se, .int .i64 q.sq, .int .i64 cd, .int .i64 mk]) rfl (by kernel_rfl) (by kernel_rfl) (by kernel_rfl) (fun _ _ _ h => h) (Or.inl ⟨by rfl, ?_⟩) H ?_
        · intro w' hSw; have t0 := hSw.2.c0; have t1 := hSw.2.c1; have t2 := hSw.2.c2; have t3 := hSw.2.c3; clear hSw; go_simp
        change wpAnyH _ _ _ _ _ _ _ { tmps := #[_,_,_,_,_,_,_,_,_,_,_,_,_,_,_,_,_,_,_,_,_,_,_,_,_,_,_,_,_,_,_,_,_,_,_,_,_,_,_,_,_,_,_,_,_,_,_,_,_,_,_,_,_,_,_,_,_,_,_,_,_,_,_,_,_,_,_,_,_,_,_,_,_,_,_,_,_,_,_,_,_,_,_,_,_,_,_,_,_,_,_,_,_,_,_,_,_,_,_,_,_,_,_,_,_,_,_,_,_,_,_,_,_,_,_,_,_,_,_,_,_,_,_,_,_,_,_,_,_,_,_,_,_,_,_,_,_], defers := _ } _
        refine wpAnyH_take (i := 9) (v := .pointer (some ⟨w.heap.size, 1, none⟩)) rfl (by kernel_rfl) (by kernel_rfl) (by kernel_rfl) (fun _ _ _ h => h) (Or.inl ⟨by rfl, ?_⟩) H ?_
        · intro w' hSw; go_simp
        change wpAnyH _ _ _ _ _ _ _ { tmps := #[_,_,_,_,_,_,_,_,_,_,_,_,_,_,_,_,_,_,_,_,_,_,_,_,_,_,_,_,_,_,_,_,_,_,_,_,_,_,_,_,_,_,_,_,_,_,_,_,_,_,_,_,_,_,_,_,_,_,_,_,_,_,_,_,_,_,_,_,_,_,_,_,_,_,_,_,_,_,_,_,_,_,_,_,_,_,_,_,_,_,_,_,_,_,_,_,_,_,_,_,_,_,_,_,_,_,_,_,_,_,_,_,_,_,_,_,_,_,_,_,_,_,_,_,_,_,_,_,_,_,_,_,_,_,_,_,_], defers := _ } _
        refine wpAnyH_take (i := 10) (v := .slice a1 b.ns c1) rfl (by kernel_rfl) (by kernel_rfl) (by kernel_rfl) (fun _ _ _ h => h) (Or.inl ⟨by rfl, ?_⟩) H ?_
        · intro w' hSw; have t0 := hSw.1.c1; clear hSw; go_simp
        change wpAnyH _ _ _ _ _ _ _ { tmps := #[_,_,_,_,_,_,_,_,_,_,_,_,_,_,_,_,_,_,_,_,_,_,_,_,_,_,_,_,_,_,_,_,_,_,_,_,_,_,_,_,_,_,_,_,_,_,_,_,_,_,_,_,_,_,_,_,_,_,_,_,_,_,_,_,_,_,_,_,_,_,_,_,_,_,_,_,_,_,_,_,_,_,_,_,_,_,_,_,_,_,_,_,_,_,_,_,_,_,_,_,_,_,_,_,_,_,_,_,_,_,_,_,_,_,_,_,_,_,_,_,_,_,_,_,_,_,_,_,_,_,_,_,_,_,_,_,_], defers := _ } _
        refine wpAnyH_take (i := 11) (v := .int .i64 (k : Int)) rfl (by kernel_rfl) (by kernel_rfl) (by kernel_rfl) (fun _ _ _ h => h) (Or.inl ⟨by rfl, ?_⟩) H ?_
        · intro w' hSw; go_simp
        change wpAnyH _ _ _ _ _ _ _ { tmps := #[_,_,_,_,_,_,_,_,_,_,_,_,_,_,_,_,_,_,_,_,_,_,_,_,_,_,_,_,_,_,_,_,_,_,_,_,_,_,_,_,_,_,_,_,_,_,_,_,_,_,_,_,_,_,_,_,_,_,_,_,_,_,_,_,_,_,_,_,_,_,_,_,_,_,_,_,_,_,_,_,_,_,_,_,_,_,_,_,_,_,_,_,_,_,_,_,_,_,_,_,_,_,_,_,_,_,_,_,_,_,_,_,_,_,_,_,_,_,_,_,_,_,_,_,_,_,_,_,_,_,_,_,_,_,_,_,_], defers := _ } _
        refine wpAnyH_take (i := 12) (v := .slice (cutA a1 c1 k 4) (b.ns - k) (c1 - k)) rfl (by kernel_rfl) (by kernel_rfl) (by kernel_rfl) (fun _ _ _ h => h) (Or.inl ⟨by rfl, ?_⟩) H ?_
        · intro w' hSw; have hs := CF.out w'; clear hSw; go_simp
        change wpAnyH _ _ _ _ _ _ _ { tmps := #[_,_,_,_,_,_,_,_,_,_,_,_,_,_,_,_,_,_,_,_,_,_,_,_,_,_,_,_,_,_,_,_,_,_,_,_,_,_,_,_,_,_,_,_,_,_,_,_,_,_,_,_,_,_,_,_,_,_,_,_,_,_,_,_,_,_,_,_,_,_,_,_,_,_,_,_,_,_,_,_,_,_,_,_,_,_,_,_,_,_,_,_,_,_,_,_,_,_,_,_,_,_,_,_,_,_,_,_,_,_,_,_,_,_,_,_,_,_,_,_,_,_,_,_,_,_,_,_,_,_,_,_,_,_,_,_,_], defers := _ } _
        refine wpAnyH_ready (rs := [0, 7]) (by kernel_rfl) (by simp) ?_
        refine (AllReadyH.cons rfl (fun KK hK => ?_) (AllReadyH.cons rfl (fun KK hK => ?_) AllReadyH.nil))
        · skip
          replace I : Hid (InsJ u4 (y0.alloc (.cells #[] 100)) 100 4 (.slice (some ⟨y0.heap.size, 0, none⟩) 0 0) 0 (seF b.S) none (seV ⟨q.se, q.sq, cd, mk⟩)) := I.out.lit0
          go_simp
          replace H := (⟨X2.out.below I.out.hb, XX.out.below I.out.hb⟩ : (Box2 (y0.alloc (.cells #[] 100)) w.heap.size 46 (.slice a0 b.nr c0) (.slice a1 b.ns c1)) ∧ (Box4 (y0.alloc (.cells #[] 100)) px 100 (.int .i64 q.se) (.int .i64 q.sq) (.int .i64 cd) (.int .i64 mk)))
          refine hK.out _ _ H (fun _ => ?_)
          clear hK KK
          generalize (y0.alloc (.cells #[] 100)) = y1 at *
          generalize y0.heap.size = gr at *
          change wpAnyH _ _ _ _ _ _ _ { tmps := #[_,_,_,_,_,_,_,_,_,_,_,_,_,_,_,_,_,_,_,_,_,_,_,_,_,_,_,_,_,_,_,_,_,_,_,_,_,_,_,_,_,_,_,_,_,_,_,_,_,_,_,_,_,_,_,_,_,_,_,_,_,_,_,_,_,_,_,_,_,_,_,_,_,_,_,_,_,_,_,_,_,_,_,_,_,_,_,_,_,_,_,_,_,_,_,_,_,_,_,_,_,_,_,_,_,_,_,_,_,_,_,_,_,_,_,_,_,_,_,_,_,_,_,_,_,_,_,_,_,_,_,_,_,_,_,_,_], defers := _ } _
          refine wpAnyH_ready (rs := [5, 7]) (by kernel_rfl) (by simp) ?_
          refine (AllReadyH.cons rfl (fun KK hK => ?_) (AllReadyH.cons rfl (fun KK hK => ?_) AllReadyH.nil))
          · skip
            obtain ⟨vr, y2, hr, ho, hg, hl⟩ := allSe y1 u4.heap.size _ 0 b.S a1 k c1 b.S I.out.hb.size (by omega) I.out.row ((ER.out.less KN.out).below I.out.hb) SP.out.z
            rw [Nat.zero_add, catE_zero] at ho
            obtain ⟨ara, cra, rfl⟩ := ho.form
            replace I : Hid (InsJ u4 y2 100 4 (.slice ara k cra) k (seF b.S) none (seV ⟨q.se, q.sq, cd, mk⟩)) := I.out.grow ho hg hl
            rw [if_pos (by rfl)]
            refine Lib.wp_append_run _ (.tmp 119) (.tmp 123) 44 44 rfl (.slice (some ⟨gr, 0, none⟩) 0 0) (.slice a1 k c1) rfl rfl _ _ (hr _) ?_
            replace H := (⟨X2.out.below I.out.hb, XX.out.below I.out.hb⟩ : (Box2 y2 w.heap.size 46 (.slice a0 b.nr c0) (.slice a1 b.ns c1)) ∧ (Box4 y2 px 100 (.int .i64 q.se) (.int .i64 q.sq) (.int .i64 cd) (.int .i64 mk)))
            refine hK.out _ _ H (fun _ => ?_)
            clear hK KK hr ho hg hl
            change wpAnyH _ _ _ _ _ _ _ { tmps := #[_,_,_,_,_,_,_,_,_,_,_,_,_,_,_,_,_,_,_,_,_,_,_,_,_,_,_,_,_,_,_,_,_,_,_,_,_,_,_,_,_,_,_,_,_,_,_,_,_,_,_,_,_,_,_,_,_,_,_,_,_,_,_,_,_,_,_,_,_,_,_,_,_,_,_,_,_,_,_,_,_,_,_,_,_,_,_,_,_,_,_,_,_,_,_,_,_,_,_,_,_,_,_,_,_,_,_,_,_,_,_,_,_,_,_,_,_,_,_,_,_,_,_,_,_,_,_,_,_,_,_,_,_,_,_,_,_], defers := _ } _
            refine wpAnyH_ready (rs := [7]) (by kernel_rfl) (by simp) ?_
            refine (AllReadyH.cons rfl (fun KK hK => ?_) AllReadyH.nil)
            replace I : Hid (InsJ u4 (y2.alloc (.cells #[.int .i64 q.se, .int .i64 q.sq, .int .i64 cd, .int .i64 mk] 100)) 100 4 (.slice ara k cra) k (seF b.S) (some y2.heap.size) (seV ⟨q.se, q.sq, cd, mk⟩)) := I.out.lit1 #[.int .i64 q.se, .int .i64 q.sq, .int .i64 cd, .int .i64 mk] (fun j hj => by rcases (show j = 0 ∨ j = 1 ∨ j = 2 ∨ j = 3 by omega) with rfl | rfl | rfl | rfl <;> rfl)
            go_simp
            replace H := (⟨X2.out.below I.out.hb, XX.out.below I.out.hb⟩ : (Box2 (y2.alloc (.cells #[.int .i64 q.se, .int .i64 q.sq, .int .i64 cd, .int .i64 mk] 100)) w.heap.size 46 (.slice a0 b.nr c0) (.slice a1 b.ns c1)) ∧ (Box4 (y2.alloc (.cells #[.int .i64 q.se, .int .i64 q.sq, .int .i64 cd, .int .i64 mk] 100)) px 100 (.int .i64 q.se) (.int .i64 q.sq) (.int .i64 cd) (.int .i64 mk)))
            refine hK.out _ _ H (fun _ => ?_)
            clear hK KK
            generalize (y2.alloc (.cells #[.int .i64 q.se, .int .i64 q.sq, .int .i64 cd, .int .i64 mk] 100)) = y3 at *
            generalize y2.heap.size = gl at *
            change wpAnyH _ _ _ _ _ _ _ { tmps := #[_,_,_,_,_,_,_,_,_,_,_,_,_,_,_,_,_,_,_,_,_,_,_,_,_,_,_,_,_,_,_,_,_,_,_,_,_,_,_,_,_,_,_,_,_,_,_,_,_,_,_,_,_,_,_,_,_,_,_,_,_,_,_,_,_,_,_,_,_,_,_,_,_,_,_,_,_,_,_,_,_,_,_,_,_,_,_,_,_,_,_,_,_,_,_,_,_,_,_,_,_,_,_,_,_,_,_,_,_,_,_,_,_,_,_,_,_,_,_,_,_,_,_,_,_,_,_,_,_,_,_,_,_,_,_,_,_], defers := _ } _
            refine wpAnyH_ready (rs := [8]) (by kernel_rfl) (by simp) ?_
            refine (AllReadyH.cons rfl (fun KK hK => ?_) AllReadyH.nil)
            obtain ⟨vr, y4, hr, ho, hg, hl⟩ := appSe y3 u4.heap.size _ k gl b.S ⟨q.se, q.sq, cd, mk⟩ I.out.hb.size (by omega) I.out.row (I.out.lit _ rfl).1
            obtain ⟨arb, crb, rfl⟩ := ho.form
            replace I : Hid (InsJ u4 y4 100 4 (.slice arb (k + 1) crb) (k + 1) (seF (updE b.S k ⟨q.se, q.sq, cd, mk⟩)) (some gl) (seV ⟨q.se, q.sq, cd, mk⟩)) := I.out.grow ho hg hl
            rw [if_pos (by rfl)]
            refine Lib.wp_append_run _ (.tmp 124) (.tmp 126) 44 44 rfl (.slice ara k cra) (.slice (some ⟨gl, 0, none⟩) 1 1) rfl rfl _ _ (hr _) ?_
            replace H := (⟨X2.out.below I.out.hb, XX.out.below I.out.hb⟩ : (Box2 y4 w.heap.size 46 (.slice a0 b.nr c0) (.slice a1 b.ns c1)) ∧ (Box4 y4 px 100 (.int .i64 q.se) (.int .i64 q.sq) (.int .i64 cd) (.int .i64 mk)))
            refine hK.out _ _ H (fun _ => ?_)
            clear hK KK hr ho hg hl
            change wpAnyH _ _ _ _ _ _ _ { tmps := #[_,_,_,_,_,_,_,_,_,_,_,_,_,_,_,_,_,_,_,_,_,_,_,_,_,_,_,_,_,_,_,_,_,_,_,_,_,_,_,_,_,_,_,_,_,_,_,_,_,_,_,_,_,_,_,_,_,_,_,_,_,_,_,_,_,_,_,_,_,_,_,_,_,_,_,_,_,_,_,_,_,_,_,_,_,_,_,_,_,_,_,_,_,_,_,_,_,_,_,_,_,_,_,_,_,_,_,_,_,_,_,_,_,_,_,_,_,_,_,_,_,_,_,_,_,_,_,_,_,_,_,_,_,_,_,_,_], defers := _ } _
            refine wpAnyH_ready (rs := [13]) (by kernel_rfl) (by simp) ?_
            refine (AllReadyH.cons rfl (fun KK hK => ?_) AllReadyH.nil)
            obtain ⟨vr, y5, hr, ho, hg, hl⟩ := allSe y4 u4.heap.size _ (k + 1) (updE b.S k ⟨q.se, q.sq, cd, mk⟩) (cutA a1 c1 k 4) (b.ns - k) (c1 - k) (fun i => b.S (k + i)) I.out.hb.size (by omega) I.out.row (EC.out.below I.out.hb) (cutA_zero SP.out _ _)
            rw [← ins_cat, show k + 1 + (b.ns - k) = b.ns + 1 by have := KN.out; omega] at ho
            obtain ⟨arc, crc, rfl⟩ := ho.form
            replace I : Hid (InsJ u4 y5 100 4 (.slice arc (b.ns + 1) crc) (b.ns + 1) (seF (insE b.S k ⟨q.se, q.sq, cd, mk⟩)) (some gl) (seV ⟨q.se, q.sq, cd, mk⟩)) := I.out.grow ho hg hl
            rw [if_pos (by rfl)]
            refine Lib.wp_append_run _ (.tmp 127) (.tmp 131) 44 44 rfl (.slice arb (k + 1) crb) (.slice (cutA a1 c1 k 4) (b.ns - k) (c1 - k)) rfl rfl _ _ (hr _) ?_
            replace H := (⟨X2.out.below I.out.hb, XX.out.below I.out.hb⟩ : (Box2 y5 w.heap.size 46 (.slice a0 b.nr c0) (.slice a1 b.ns c1)) ∧ (Box4 y5 px 100 (.int .i64 q.se) (.int .i64 q.sq) (.int .i64 cd) (.int .i64 mk)))
            refine hK.out _ _ H (fun _ => ?_)
            clear hK KK hr ho hg hl
            change wpAnyH _ _ _ _ _ _ _ { tmps := #[_,_,_,_,_,_,_,_,_,_,_,_,_,_,_,_,_,_,_,_,_,_,_,_,_,_,_,_,_,_,_,_,_,_,_,_,_,_,_,_,_,_,_,_,_,_,_,_,_,_,_,_,_,_,_,_,_,_,_,_,_,_,_,_,_,_,_,_,_,_,_,_,_,_,_,_,_,_,_,_,_,_,_,_,_,_,_,_,_,_,_,_,_,_,_,_,_,_,_,_,_,_,_,_,_,_,_,_,_,_,_,_,_,_,_,_,_,_,_,_,_,_,_,_,_,_,_,_,_,_,_,_,_,_,_,_,_], defers := _ } _
            refine wpAnyH_take (i := 14) (v := .pointer (some ⟨po, 1, none⟩)) rfl (by kernel_rfl) (by kernel_rfl) (by kernel_rfl) (fun _ _ _ h => h) (Or.inl ⟨by rfl, ?_⟩) H ?_
            · intro w' hSw; go_simp
            change wpAnyH _ _ _ _ _ _ _ { tmps := #[_,_,_,_,_,_,_,_,_,_,_,_,_,_,_,_,_,_,_,_,_,_,_,_,_,_,_,_,_,_,_,_,_,_,_,_,_,_,_,_,_,_,_,_,_,_,_,_,_,_,_,_,_,_,_,_,_,_,_,_,_,_,_,_,_,_,_,_,_,_,_,_,_,_,_,_,_,_,_,_,_,_,_,_,_,_,_,_,_,_,_,_,_,_,_,_,_,_,_,_,_,_,_,_,_,_,_,_,_,_,_,_,_,_,_,_,_,_,_,_,_,_,_,_,_,_,_,_,_,_,_,_,_,_,_,_,_], defers := _ } _
            refine wpAnyH_ready (rs := [15]) (by kernel_rfl) (by simp) ?_
            refine (AllReadyH.cons rfl (fun KK hK => ?_) AllReadyH.nil)
            have t0 := (XO.out.below I.out.hb).c1
            have f0 := (XO.out.below I.out.hb).fr 1
            go_simp
            refine hK.out _ _ ⟨H.1.other (a := ⟨po, 1, none⟩) N2.out _, H.2.other (a := ⟨po, 1, none⟩) NX.out _⟩ (fun _ => ?_)
            clear hK KK
            change wpAnyH _ _ _ _ _ _ _ { tmps := #[_,_,_,_,_,_,_,_,_,_,_,_,_,_,_,_,_,_,_,_,_,_,_,_,_,_,_,_,_,_,_,_,_,_,_,_,_,_,_,_,_,_,_,_,_,_,_,_,_,_,_,_,_,_,_,_,_,_,_,_,_,_,_,_,_,_,_,_,_,_,_,_,_,_,_,_,_,_,_,_,_,_,_,_,_,_,_,_,_,_,_,_,_,_,_,_,_,_,_,_,_,_,_,_,_,_,_,_,_,_,_,_,_,_,_,_,_,_,_,_,_,_,_,_,_,_,_,_,_,_,_,_,_,_,_,_,_], defers := _ } _
            refine wpAnyH_done (by kernel_rfl) ?_ _
            refine NoPanic.normal ?_
            have LU : Hid (po < u4.heap.size) := XO.out.lt
            have B5 : Hid (Box2 (y5.setCell ⟨po, 1, none⟩ (.slice arc (b.ns + 1) crc)) po 46 (.slice i0 b1.nr n0) (.slice arc (b.ns + 1) crc)) := (XO.out.below I.out.hb).set1 _
            have Y5 : Hid (Box2 (y5.setCell ⟨po, 1, none⟩ (.slice arc (b.ns + 1) crc)) (w.heap.size + 2) 46 (.slice none 0 0) (.slice none 0 0)) := (Y4.out.below I.out.hb).other (a := ⟨po, 1, none⟩) (by have := LO.out; show w.heap.size + 2 ≠ po; omega) _
            have E50 : Hid (EO (y5.setCell ⟨po, 1, none⟩ (.slice arc (b.ns + 1) crc)) ua.heap.size 54 3 (.slice i0 b1.nr n0) b1.nr (rgF b1.R)) := (E40.out.below I.out.hb).keep (fun g e => heap_setCell_other _ _ _ _ (by have h1 := (E40.out.ge g e).1; have h2 := LA.out; show g ≠ po; omega))
            have E51 : Hid (EO (y5.setCell ⟨po, 1, none⟩ (.slice arc (b.ns + 1) crc)) ua.heap.size 100 4 (.slice arc (b.ns + 1) crc) (b.ns + 1) (seF (insE b.S k ⟨q.se, q.sq, cd, mk⟩))) := (I.out.row.keep (fun g e => heap_setCell_other _ _ _ _ (by have h1 := (I.out.row.ge g e).1; have h2 := LU.out; show g ≠ po; omega))).mono LUA.out
            have A5 : Hid (Below w.heap.size w (y5.setCell ⟨po, 1, none⟩ (.slice arc (b.ns + 1) crc))) := (A4.out.trans (I.out.hb.mono A4.out.size)).setCell (by have := LO.out; show w.heap.size ≤ po; omega) _
            clear H t0 f0 I X2 XX XO Y4 A4 E40 E41 ER EC CT CF
            change Exit.then _ _ Exit.normal { tmps := #[_, _, _, _, _, _, _, _, _, _, _, _, _, _, _, _, _, _, _, _, _, _, _, _, _, _, _, _, _, _, _, _, _, _, _, _, _, _, _, _, _, _, _, _, _, _, _, _, _, _, _, _, _, _, _, _, _, _, _, _, _, _, _, _, _, _, _, _, _, _, _, _, _, _, _, _, _, _, _, _, _, _, _, _, _, _, _, _, _, _, _, _, _, _, _, _, _, _, _, _, _, _, _, _, _, _, _, _, _, _, _, _, _, _, _, _, _, _, _, _, _, _, _, _, _, _, _, _, _, _, _, _, _, _, _, _, _], defers := _ } _
            generalize (y5.setCell ⟨po, 1, none⟩ (.slice arc (b.ns + 1) crc)) = u5 at *
            have o0 := B5.out.c0
            have o1 := B5.out.c1
            have y0 := Y5.out.c0
            have y1 := Y5.out.c1
            have g0 := Y5.out.fr 0
            have g1 := Y5.out.fr 1
            have LW : Hid (w.heap.size + 2 < ua.heap.size) := by have h1 := LO.out; have h2 := LA.out; show w.heap.size + 2 < ua.heap.size; omega
            have O6 : OnlyB (w.heap.size + 2) u5 ((u5.setCell ⟨w.heap.size + 2, 0, none⟩ (.slice i0 b1.nr n0)).setCell ⟨w.heap.size + 2, 1, none⟩ (.slice arc (b.ns + 1) crc)) := ((OnlyB.refl _ u5).setCell 0 _).setCell 1 _
            have A6 : Hid (Below w.heap.size w ((u5.setCell ⟨w.heap.size + 2, 0, none⟩ (.slice i0 b1.nr n0)).setCell ⟨w.heap.size + 2, 1, none⟩ (.slice arc (b.ns + 1) crc))) := A5.out.trans (O6.toBelow (by omega) A5.out.size)
            have R6 : Hid (Els ((u5.setCell ⟨w.heap.size + 2, 0, none⟩ (.slice i0 b1.nr n0)).setCell ⟨w.heap.size + 2, 1, none⟩ (.slice arc (b.ns + 1) crc)) 3 i0 b1.nr (rgF b1.R)) := (E50.out.onlyB O6 LW.out).els
            have S6 : Hid (Els ((u5.setCell ⟨w.heap.size + 2, 0, none⟩ (.slice i0 b1.nr n0)).setCell ⟨w.heap.size + 2, 1, none⟩ (.slice arc (b.ns + 1) crc)) 4 arc (b.ns + 1) (seF (insE b.S k ⟨q.se, q.sq, cd, mk⟩))) := (E51.out.onlyB O6 LW.out).els
            have P0 : Hid (SlP i0 b1.nr n0) := E50.out.slp
            have FQ0 : Hid (FrQ Q w.heap.size ((u5.setCell ⟨w.heap.size + 2, 0, none⟩ (.slice i0 b1.nr n0)).setCell ⟨w.heap.size + 2, 1, none⟩ (.slice arc (b.ns + 1) crc)) i0) := E50.out.fresh (by have := LW.out; omega) Q (by simp)
            have FQ1 : Hid (FrQ Q w.heap.size ((u5.setCell ⟨w.heap.size + 2, 0, none⟩ (.slice i0 b1.nr n0)).setCell ⟨w.heap.size + 2, 1, none⟩ (.slice arc (b.ns + 1) crc)) arc) := E51.out.fresh (by have := LW.out; omega) Q (by simp)
            have P1 : Hid (SlP arc (b.ns + 1) crc) := E51.out.slp
            clear O6 E50 E51
            go_wp2
            exact ret_cellTT (b := w.heap.size + 2) Tryd.results53 rfl rfl rfl (Box2.loadbk ((Y5.out.set0 _).set1 _)) ⟨⟨_, _, _, _, by rw [KS.out]; rfl, ⟨R6.out, by rw [KS.out]; exact S6.out⟩, P0.out, by rw [KS.out]; exact P1.out, FQ0.out, FQ1.out⟩, A6.out⟩
          · skip
            replace I : Hid (InsJ u4 (y1.alloc (.cells #[.int .i64 q.se, .int .i64 q.sq, .int .i64 cd, .int .i64 mk] 100)) 100 4 (.slice (some ⟨gr, 0, none⟩) 0 0) 0 (seF b.S) (some y1.heap.size) (seV ⟨q.se, q.sq, cd, mk⟩)) := I.out.lit1 #[.int .i64 q.se, .int .i64 q.sq, .int .i64 cd, .int .i64 mk] (fun j hj => by rcases (show j = 0 ∨ j = 1 ∨ j = 2 ∨ j = 3 by omega) with rfl | rfl | rfl | rfl <;> rfl)
            go_simp
            replace H := (⟨X2.out.below I.out.hb, XX.out.below I.out.hb⟩ : (Box2 (y1.alloc (.cells #[.int .i64 q.se, .int .i64 q.sq, .int .i64 cd, .int .i64 mk] 100)) w.heap.size 46 (.slice a0 b.nr c0) (.slice a1 b.ns c1)) ∧ (Box4 (y1.alloc (.cells #[.int .i64 q.se, .int .i64 q.sq, .int .i64 cd, .int .i64 mk] 100)) px 100 (.int .i64 q.se) (.int .i64 q.sq) (.int .i64 cd) (.int .i64 mk)))
            refine hK.out _ _ H (fun _ => ?_)
            clear hK KK
            generalize (y1.alloc (.cells #[.int .i64 q.se, .int .i64 q.sq, .int .i64 cd, .int .i64 mk] 100)) = y2 at *
            generalize y1.heap.size = gl at *
            change wpAnyH _ _ _ _ _ _ _ { tmps := #[_,_,_,_,_,_,_,_,_,_,_,_,_,_,_,_,_,_,_,_,_,_,_,_,_,_,_,_,_,_,_,_,_,_,_,_,_,_,_,_,_,_,_,_,_,_,_,_,_,_,_,_,_,_,_,_,_,_,_,_,_,_,_,_,_,_,_,_,_,_,_,_,_,_,_,_,_,_,_,_,_,_,_,_,_,_,_,_,_,_,_,_,_,_,_,_,_,_,_,_,_,_,_,_,_,_,_,_,_,_,_,_,_,_,_,_,_,_,_,_,_,_,_,_,_,_,_,_,_,_,_,_,_,_,_,_,_], defers := _ } _
            refine wpAnyH_ready (rs := [5]) (by kernel_rfl) (by simp) ?_
            refine (AllReadyH.cons rfl (fun KK hK => ?_) AllReadyH.nil)
            obtain ⟨vr, y3, hr, ho, hg, hl⟩ := allSe y2 u4.heap.size _ 0 b.S a1 k c1 b.S I.out.hb.size (by omega) I.out.row ((ER.out.less KN.out).below I.out.hb) SP.out.z
            rw [Nat.zero_add, catE_zero] at ho
            obtain ⟨ara, cra, rfl⟩ := ho.form
            replace I : Hid (InsJ u4 y3 100 4 (.slice ara k cra) k (seF b.S) (some gl) (seV ⟨q.se, q.sq, cd, mk⟩)) := I.out.grow ho hg hl
            rw [if_pos (by rfl)]
            refine Lib.wp_append_run _ (.tmp 119) (.tmp 123) 44 44 rfl (.slice (some ⟨gr, 0, none⟩) 0 0) (.slice a1 k c1) rfl rfl _ _ (hr _) ?_
            replace H := (⟨X2.out.below I.out.hb, XX.out.below I.out.hb⟩ : (Box2 y3 w.heap.size 46 (.slice a0 b.nr c0) (.slice a1 b.ns c1)) ∧ (Box4 y3 px 100 (.int .i64 q.se) (.int .i64 q.sq) (.int .i64 cd) (.int .i64 mk)))
            refine hK.out _ _ H (fun _ => ?_)
            clear hK KK hr ho hg hl
            change wpAnyH _ _ _ _ _ _ _ { tmps := #[_,_,_,_,_,_,_,_,_,_,_,_,_,_,_,_,_,_,_,_,_,_,_,_,_,_,_,_,_,_,_,_,_,_,_,_,_,_,_,_,_,_,_,_,_,_,_,_,_,_,_,_,_,_,_,_,_,_,_,_,_,_,_,_,_,_,_,_,_,_,_,_,_,_,_,_,_,_,_,_,_,_,_,_,_,_,_,_,_,_,_,_,_,_,_,_,_,_,_,_,_,_,_,_,_,_,_,_,_,_,_,_,_,_,_,_,_,_,_,_,_,_,_,_,_,_,_,_,_,_,_,_,_,_,_,_,_], defers := _ } _
            refine wpAnyH_ready (rs := [8]) (by kernel_rfl) (by simp) ?_
            refine (AllReadyH.cons rfl (fun KK hK => ?_) AllReadyH.nil)
            obtain ⟨vr, y4, hr, ho, hg, hl⟩ := appSe y3 u4.heap.size _ k gl b.S ⟨q.se, q.sq, cd, mk⟩ I.out.hb.size (by omega) I.out.row (I.out.lit _ rfl).1
            obtain ⟨arb, crb, rfl⟩ := ho.form
            replace I : Hid (InsJ u4 y4 100 4 (.slice arb (k + 1) crb) (k + 1) (seF (updE b.S k ⟨q.se, q.sq, cd, mk⟩)) (some gl) (seV ⟨q.se, q.sq, cd, mk⟩)) := I.out.grow ho hg hl
            rw [if_pos (by rfl)]
            refine Lib.wp_append_run _ (.tmp 124) (.tmp 126) 44 44 rfl (.slice ara k cra) (.slice (some ⟨gl, 0, none⟩) 1 1) rfl rfl _ _ (hr _) ?_
            replace H := (⟨X2.out.below I.out.hb, XX.out.below I.out.hb⟩ : (Box2 y4 w.heap.size 46 (.slice a0 b.nr c0) (.slice a1 b.ns c1)) ∧ (Box4 y4 px 100 (.int .i64 q.se) (.int .i64 q.sq) (.int .i64 cd) (.int .i64 mk)))
            refine hK.out _ _ H (fun _ => ?_)
            clear hK KK hr ho hg hl
            change wpAnyH _ _ _ _ _ _ _ { tmps := #[_,_,_,_,_,_,_,_,_,_,_,_,_,_,_,_,_,_,_,_,_,_,_,_,_,_,_,_,_,_,_,_,_,_,_,_,_,_,_,_,_,_,_,_,_,_,_,_,_,_,_,_,_,_,_,_,_,_,_,_,_,_,_,_,_,_,_,_,_,_,_,_,_,_,_,_,_,_,_,_,_,_,_,_,_,_,_,_,_,_,_,_,_,_,_,_,_,_,_,_,_,_,_,_,_,_,_,_,_,_,_,_,_,_,_,_,_,_,_,_,_,_,_,_,_,_,_,_,_,_,_,_,_,_,_,_,_], defers := _ } _
            refine wpAnyH_ready (rs := [13]) (by kernel_rfl) (by simp) ?_
            refine (AllReadyH.cons rfl (fun KK hK => ?_) AllReadyH.nil)
            obtain ⟨vr, y5, hr, ho, hg, hl⟩ := allSe y4 u4.heap.size _ (k + 1) (updE b.S k ⟨q.se, q.sq, cd, mk⟩) (cutA a1 c1 k 4) (b.ns - k) (c1 - k) (fun i => b.S (k + i)) I.out.hb.size (by omega) I.out.row (EC.out.below I.out.hb) (cutA_zero SP.out _ _)
            rw [← ins_cat, show k + 1 + (b.ns - k) = b.ns + 1 by have := KN.out; omega] at ho
            obtain ⟨arc, crc, rfl⟩ := ho.form
            replace I : Hid (InsJ u4 y5 100 4 (.slice arc (b.ns + 1) crc) (b.ns + 1) (seF (insE b.S k ⟨q.se, q.sq, cd, mk⟩)) (some gl) (seV ⟨q.se, q.sq, cd, mk⟩)) := I.out.grow ho hg hl
            rw [if_pos (by rfl)]
            refine Lib.wp_append_run _ (.tmp 127) (.tmp 131) 44 44 rfl (.slice arb (k + 1) crb) (.slice (cutA a1 c1 k 4) (b.ns - k) (c1 - k)) rfl rfl _ _ (hr _) ?_
            replace H := (⟨X2.out.below I.out.hb, XX.out.below I.out.hb⟩ : (Box2 y5 w.heap.size 46 (.slice a0 b.nr c0) (.slice a1 b.ns c1)) ∧ (Box4 y5 px 100 (.int .i64 q.se) (.int .i64 q.sq) (.int .i64 cd) (.int .i64 mk)))
            refine hK.out _ _ H (fun _ => ?_)
            clear hK KK hr ho hg hl
            change wpAnyH _ _ _ _ _ _ _ { tmps := #[_,_,_,_,_,_,_,_,_,_,_,_,_,_,_,_,_,_,_,_,_,_,_,_,_,_,_,_,_,_,_,_,_,_,_,_,_,_,_,_,_,_,_,_,_,_,_,_,_,_,_,_,_,_,_,_,_,_,_,_,_,_,_,_,_,_,_,_,_,_,_,_,_,_,_,_,_,_,_,_,_,_,_,_,_,_,_,_,_,_,_,_,_,_,_,_,_,_,_,_,_,_,_,_,_,_,_,_,_,_,_,_,_,_,_,_,_,_,_,_,_,_,_,_,_,_,_,_,_,_,_,_,_,_,_,_,_], defers := _ } _
            refine wpAnyH_take (i := 14) (v := .pointer (some ⟨po, 1, none⟩)) rfl (by kernel_rfl) (by kernel_rfl) (by kernel_rfl) (fun _ _ _ h => h) (Or.inl ⟨by rfl, ?_⟩) H ?_
            · intro w' hSw; go_simp
            change wpAnyH _ _ _ _ _ _ _ { tmps := #[_,_,_,_,_,_,_,_,_,_,_,_,_,_,_,_,_,_,_,_,_,_,_,_,_,_,_,_,_,_,_,_,_,_,_,_,_,_,_,_,_,_,_,_,_,_,_,_,_,_,_,_,_,_,_,_,_,_,_,_,_,_,_,_,_,_,_,_,_,_,_,_,_,_,_,_,_,_,_,_,_,_,_,_,_,_,_,_,_,_,_,_,_,_,_,_,_,_,_,_,_,_,_,_,_,_,_,_,_,_,_,_,_,_,_,_,_,_,_,_,_,_,_,_,_,_,_,_,_,_,_,_,_,_,_,_,_], defers := _ } _
            refine wpAnyH_ready (rs := [15]) (by kernel_rfl) (by simp) ?_
            refine (AllReadyH.cons rfl (fun KK hK => ?_) AllReadyH.nil)
            have t0 := (XO.out.below I.out.hb).c1
            have f0 := (XO.out.below I.out.hb).fr 1
            go_simp
            refine hK.out _ _ ⟨H.1.other (a := ⟨po, 1, none⟩) N2.out _, H.2.other (a := ⟨po, 1, none⟩) NX.out _⟩ (fun _ => ?_)
            clear hK KK
            change wpAnyH _ _ _ _ _ _ _ { tmps := #[_,_,_,_,_,_,_,_,_,_,_,_,_,_,_,_,_,_,_,_,_,_,_,_,_,_,_,_,_,_,_,_,_,_,_,_,_,_,_,_,_,_,_,_,_,_,_,_,_,_,_,_,_,_,_,_,_,_,_,_,_,_,_,_,_,_,_,_,_,_,_,_,_,_,_,_,_,_,_,_,_,_,_,_,_,_,_,_,_,_,_,_,_,_,_,_,_,_,_,_,_,_,_,_,_,_,_,_,_,_,_,_,_,_,_,_,_,_,_,_,_,_,_,_,_,_,_,_,_,_,_,_,_,_,_,_,_], defers := _ } _
            refine wpAnyH_done (by kernel_rfl) ?_ _
            refine NoPanic.normal ?_
            have LU : Hid (po < u4.heap.size) := XO.out.lt
            have B5 : Hid (Box2 (y5.setCell ⟨po, 1, none⟩ (.slice arc (b.ns + 1) crc)) po 46 (.slice i0 b1.nr n0) (.slice arc (b.ns + 1) crc)) := (XO.out.below I.out.hb).set1 _
            have Y5 : Hid (Box2 (y5.setCell ⟨po, 1, none⟩ (.slice arc (b.ns + 1) crc)) (w.heap.size + 2) 46 (.slice none 0 0) (.slice none 0 0)) := (Y4.out.below I.out.hb).other (a := ⟨po, 1, none⟩) (by have := LO.out; show w.heap.size + 2 ≠ po; omega) _
            have E50 : Hid (EO (y5.setCell ⟨po, 1, none⟩ (.slice arc (b.ns + 1) crc)) ua.heap.size 54 3 (.slice i0 b1.nr n0) b1.nr (rgF b1.R)) := (E40.out.below I.out.hb).keep (fun g e => heap_setCell_other _ _ _ _ (by have h1 := (E40.out.ge g e).1; have h2 := LA.out; show g ≠ po; omega))
            have E51 : Hid (EO (y5.setCell ⟨po, 1, none⟩ (.slice arc (b.ns + 1) crc)) ua.heap.size 100 4 (.slice arc (b.ns + 1) crc) (b.ns + 1) (seF (insE b.S k ⟨q.se, q.sq, cd, mk⟩))) := (I.out.row.keep (fun g e => heap_setCell_other _ _ _ _ (by have h1 := (I.out.row.ge g e).1; have h2 := LU.out; show g ≠ po; omega))).mono LUA.out
            have A5 : Hid (Below w.heap.size w (y5.setCell ⟨po, 1, none⟩ (.slice arc (b.ns + 1) crc))) := (A4.out.trans (I.out.hb.mono A4.out.size)).setCell (by have := LO.out; show w.heap.size ≤ po; omega) _
            clear H t0 f0 I X2 XX XO Y4 A4 E40 E41 ER EC CT CF
            change Exit.then _ _ Exit.normal { tmps := #[_, _, _, _, _, _, _, _, _, _, _, _, _, _, _, _, _, _, _, _, _, _, _, _, _, _, _, _, _, _, _, _, _, _, _, _, _, _, _, _, _, _, _, _, _, _, _, _, _, _, _, _, _, _, _, _, _, _, _, _, _, _, _, _, _, _, _, _, _, _, _, _, _, _, _, _, _, _, _, _, _, _, _, _, _, _, _, _, _, _, _, _, _, _, _, _, _, _, _, _, _, _, _, _, _, _, _, _, _, _, _, _, _, _, _, _, _, _, _, _, _, _, _, _, _, _, _, _, _, _, _, _, _, _, _, _, _], defers := _ } _
            generalize (y5.setCell ⟨po, 1, none⟩ (.slice arc (b.ns + 1) crc)) = u5 at *
            have o0 := B5.out.c0
            have o1 := B5.out.c1
            have y0 := Y5.out.c0
            have y1 := Y5.out.c1
            have g0 := Y5.out.fr 0
            have g1 := Y5.out.fr 1
            have LW : Hid (w.heap.size + 2 < ua.heap.size) := by have h1 := LO.out; have h2 := LA.out; show w.heap.size + 2 < ua.heap.size; omega
            have O6 : OnlyB (w.heap.size + 2) u5 ((u5.setCell ⟨w.heap.size + 2, 0, none⟩ (.slice i0 b1.nr n0)).setCell ⟨w.heap.size + 2, 1, none⟩ (.slice arc (b.ns + 1) crc)) := ((OnlyB.refl _ u5).setCell 0 _).setCell 1 _
            have A6 : Hid (Below w.heap.size w ((u5.setCell ⟨w.heap.size + 2, 0, none⟩ (.slice i0 b1.nr n0)).setCell ⟨w.heap.size + 2, 1, none⟩ (.slice arc (b.ns + 1) crc))) := A5.out.trans (O6.toBelow (by omega) A5.out.size)
            have R6 : Hid (Els ((u5.setCell ⟨w.heap.size + 2, 0, none⟩ (.slice i0 b1.nr n0)).setCell ⟨w.heap.size + 2, 1, none⟩ (.slice arc (b.ns + 1) crc)) 3 i0 b1.nr (rgF b1.R)) := (E50.out.onlyB O6 LW.out).els
            have S6 : Hid (Els ((u5.setCell ⟨w.heap.size + 2, 0, none⟩ (.slice i0 b1.nr n0)).setCell ⟨w.heap.size + 2, 1, none⟩ (.slice arc (b.ns + 1) crc)) 4 arc (b.ns + 1) (seF (insE b.S k ⟨q.se, q.sq, cd, mk⟩))) := (E51.out.onlyB O6 LW.out).els
            have P0 : Hid (SlP i0 b1.nr n0) := E50.out.slp
            have FQ0 : Hid (FrQ Q w.heap.size ((u5.setCell ⟨w.heap.size + 2, 0, none⟩ (.slice i0 b1.nr n0)).setCell ⟨w.heap.size + 2, 1, none⟩ (.slice arc (b.ns + 1) crc)) i0) := E50.out.fresh (by have := LW.out; omega) Q (by simp)
            have FQ1 : Hid (FrQ Q w.heap.size ((u5.setCell ⟨w.heap.size + 2, 0, none⟩ (.slice i0 b1.nr n0)).setCell ⟨w.heap.size + 2, 1, none⟩ (.slice arc (b.ns + 1) crc)) arc) := E51.out.fresh (by have := LW.out; omega) Q (by simp)
            have P1 : Hid (SlP arc (b.ns + 1) crc) := E51.out.slp
            clear O6 E50 E51
            go_wp2
            exact ret_cellTT (b := w.heap.size + 2) Tryd.results53 rfl rfl rfl (Box2.loadbk ((Y5.out.set0 _).set1 _)) ⟨⟨_, _, _, _, by rw [KS.out]; rfl, ⟨R6.out, by rw [KS.out]; exact S6.out⟩, P0.out, by rw [KS.out]; exact P1.out, FQ0.out, FQ1.out⟩, A6.out⟩
        · skip
          replace I : Hid (InsJ u4 (y0.alloc (.cells #[.int .i64 q.se, .int .i64 q.sq, .int .i64 cd, .int .i64 mk] 100)) 100 4 (.slice none 0 0) 0 (seF b.S) (some y0.heap.size) (seV ⟨q.se, q.sq, cd, mk⟩)) := I.out.lit1 #[.int .i64 q.se, .int .i64 q.sq, .int .i64 cd, .int .i64 mk] (fun j hj => by rcases (show j = 0 ∨ j = 1 ∨ j = 2 ∨ j = 3 by omega) with rfl | rfl | rfl | rfl <;> rfl)
          go_simp
          replace H := (⟨X2.out.below I.out.hb, XX.out.below I.out.hb⟩ : (Box2 (y0.alloc (.cells #[.int .i64 q.se, .int .i64 q.sq, .int .i64 cd, .int .i64 mk] 100)) w.heap.size 46 (.slice a0 b.nr c0) (.slice a1 b.ns c1)) ∧ (Box4 (y0.alloc (.cells #[.int .i64 q.se, .int .i64 q.sq, .int .i64 cd, .int .i64 mk] 100)) px 100 (.int .i64 q.se) (.int .i64 q.sq) (.int .i64 cd) (.int .i64 mk)))
          refine hK.out _ _ H (fun _ => ?_)
          clear hK KK
          generalize (y0.alloc (.cells #[.int .i64 q.se, .int .i64 q.sq, .int .i64 cd, .int .i64 mk] 100)) = y1 at *
          generalize y0.heap.size = gl at *
          change wpAnyH _ _ _ _ _ _ _ { tmps := #[_,_,_,_,_,_,_,_,_,_,_,_,_,_,_,_,_,_,_,_,_,_,_,_,_,_,_,_,_,_,_,_,_,_,_,_,_,_,_,_,_,_,_,_,_,_,_,_,_,_,_,_,_,_,_,_,_,_,_,_,_,_,_,_,_,_,_,_,_,_,_,_,_,_,_,_,_,_,_,_,_,_,_,_,_,_,_,_,_,_,_,_,_,_,_,_,_,_,_,_,_,_,_,_,_,_,_,_,_,_,_,_,_,_,_,_,_,_,_,_,_,_,_,_,_,_,_,_,_,_,_,_,_,_,_,_,_], defers := _ } _
          refine wpAnyH_ready (rs := [0]) (by kernel_rfl) (by simp) ?_
          refine (AllReadyH.cons rfl (fun KK hK => ?_) AllReadyH.nil)
          replace I : Hid (InsJ u4 (y1.alloc (.cells #[] 100)) 100 4 (.slice (some ⟨y1.heap.size, 0, none⟩) 0 0) 0 (seF b.S) (some gl) (seV ⟨q.se, q.sq, cd, mk⟩)) := I.out.lit0
          go_simp
          replace H := (⟨X2.out.below I.out.hb, XX.out.below I.out.hb⟩ : (Box2 (y1.alloc (.cells #[] 100)) w.heap.size 46 (.slice a0 b.nr c0) (.slice a1 b.ns c1)) ∧ (Box4 (y1.alloc (.cells #[] 100)) px 100 (.int .i64 q.se) (.int .i64 q.sq) (.int .i64 cd) (.int .i64 mk)))
          refine hK.out _ _ H (fun _ => ?_)
          clear hK KK
          generalize (y1.alloc (.cells #[] 100)) = y2 at *
          generalize y1.heap.size = gr at *
          change wpAnyH _ _ _ _ _ _ _ { tmps := #[_,_,_,_,_,_,_,_,_,_,_,_,_,_,_,_,_,_,_,_,_,_,_,_,_,_,_,_,_,_,_,_,_,_,_,_,_,_,_,_,_,_,_,_,_,_,_,_,_,_,_,_,_,_,_,_,_,_,_,_,_,_,_,_,_,_,_,_,_,_,_,_,_,_,_,_,_,_,_,_,_,_,_,_,_,_,_,_,_,_,_,_,_,_,_,_,_,_,_,_,_,_,_,_,_,_,_,_,_,_,_,_,_,_,_,_,_,_,_,_,_,_,_,_,_,_,_,_,_,_,_,_,_,_,_,_,_], defers := _ } _
          refine wpAnyH_ready (rs := [5]) (by kernel_rfl) (by simp) ?_
          refine (AllReadyH.cons rfl (fun KK hK => ?_) AllReadyH.nil)
          obtain ⟨vr, y3, hr, ho, hg, hl⟩ := allSe y2 u4.heap.size _ 0 b.S a1 k c1 b.S I.out.hb.size (by omega) I.out.row ((ER.out.less KN.out).below I.out.hb) SP.out.z
          rw [Nat.zero_add, catE_zero] at ho
          obtain ⟨ara, cra, rfl⟩ := ho.form
          replace I : Hid (InsJ u4 y3 100 4 (.slice ara k cra) k (seF b.S) (some gl) (seV ⟨q.se, q.sq, cd, mk⟩)) := I.out.grow ho hg hl
          rw [if_pos (by rfl)]
          refine Lib.wp_append_run _ (.tmp 119) (.tmp 123) 44 44 rfl (.slice (some ⟨gr, 0, none⟩) 0 0) (.slice a1 k c1) rfl rfl _ _ (hr _) ?_
          replace H := (⟨X2.out.below I.out.hb, XX.out.below I.out.hb⟩ : (Box2 y3 w.heap.size 46 (.slice a0 b.nr c0) (.slice a1 b.ns c1)) ∧ (Box4 y3 px 100 (.int .i64 q.se) (.int .i64 q.sq) (.int .i64 cd) (.int .i64 mk)))
          refine hK.out _ _ H (fun _ => ?_)
          clear hK KK hr ho hg hl
          change wpAnyH _ _ _ _ _ _ _ { tmps := #[_,_,_,_,_,_,_,_,_,_,_,_,_,_,_,_,_,_,_,_,_,_,_,_,_,_,_,_,_,_,_,_,_,_,_,_,_,_,_,_,_,_,_,_,_,_,_,_,_,_,_,_,_,_,_,_,_,_,_,_,_,_,_,_,_,_,_,_,_,_,_,_,_,_,_,_,_,_,_,_,_,_,_,_,_,_,_,_,_,_,_,_,_,_,_,_,_,_,_,_,_,_,_,_,_,_,_,_,_,_,_,_,_,_,_,_,_,_,_,_,_,_,_,_,_,_,_,_,_,_,_,_,_,_,_,_,_], defers := _ } _
          refine wpAnyH_ready (rs := [8]) (by kernel_rfl) (by simp) ?_
          refine (AllReadyH.cons rfl (fun KK hK => ?_) AllReadyH.nil)
          obtain ⟨vr, y4, hr, ho, hg, hl⟩ := appSe y3 u4.heap.size _ k gl b.S ⟨q.se, q.sq, cd, mk⟩ I.out.hb.size (by omega) I.out.row (I.out.lit _ rfl).1
          obtain ⟨arb, crb, rfl⟩ := ho.form
          replace I : Hid (InsJ u4 y4 100 4 (.slice arb (k + 1) crb) (k + 1) (seF (updE b.S k ⟨q.se, q.sq, cd, mk⟩)) (some gl) (seV ⟨q.se, q.sq, cd, mk⟩)) := I.out.grow ho hg hl
          rw [if_pos (by rfl)]
          refine Lib.wp_append_run _ (.tmp 124) (.tmp 126) 44 44 rfl (.slice ara k cra) (.slice (some ⟨gl, 0, none⟩) 1 1) rfl rfl _ _ (hr _) ?_
          replace H := (⟨X2.out.below I.out.hb, XX.out.below I.out.hb⟩ : (Box2 y4 w.heap.size 46 (.slice a0 b.nr c0) (.slice a1 b.ns c1)) ∧ (Box4 y4 px 100 (.int .i64 q.se) (.int .i64 q.sq) (.int .i64 cd) (.int .i64 mk)))
          refine hK.out _ _ H (fun _ => ?_)
          clear hK KK hr ho hg hl
          change wpAnyH _ _ _ _ _ _ _ { tmps := #[_,_,_,_,_,_,_,_,_,_,_,_,_,_,_,_,_,_,_,_,_,_,_,_,_,_,_,_,_,_,_,_,_,_,_,_,_,_,_,_,_,_,_,_,_,_,_,_,_,_,_,_,_,_,_,_,_,_,_,_,_,_,_,_,_,_,_,_,_,_,_,_,_,_,_,_,_,_,_,_,_,_,_,_,_,_,_,_,_,_,_,_,_,_,_,_,_,_,_,_,_,_,_,_,_,_,_,_,_,_,_,_,_,_,_,_,_,_,_,_,_,_,_,_,_,_,_,_,_,_,_,_,_,_,_,_,_], defers := _ } _
          refine wpAnyH_ready (rs := [13]) (by kernel_rfl) (by simp) ?_
          refine (AllReadyH.cons rfl (fun KK hK => ?_) AllReadyH.nil)
          obtain ⟨vr, y5, hr, ho, hg, hl⟩ := allSe y4 u4.heap.size _ (k + 1) (updE b.S k ⟨q.se, q.sq, cd, mk⟩) (cutA a1 c1 k 4) (b.ns - k) (c1 - k) (fun i => b.S (k + i)) I.out.hb.size (by omega) I.out.row (EC.out.below I.out.hb) (cutA_zero SP.out _ _)
          rw [← ins_cat, show k + 1 + (b.ns - k) = b.ns + 1 by have := KN.out; omega] at ho
          obtain ⟨arc, crc, rfl⟩ := ho.form
          replace I : Hid (InsJ u4 y5 100 4 (.slice arc (b.ns + 1) crc) (b.ns + 1) (seF (insE b.S k ⟨q.se, q.sq, cd, mk⟩)) (some gl) (seV ⟨q.se, q.sq, cd, mk⟩)) := I.out.grow ho hg hl
          rw [if_pos (by rfl)]
          refine Lib.wp_append_run _ (.tmp 127) (.tmp 131) 44 44 rfl (.slice arb (k + 1) crb) (.slice (cutA a1 c1 k 4) (b.ns - k) (c1 - k)) rfl rfl _ _ (hr _) ?_
          replace H := (⟨X2.out.below I.out.hb, XX.out.below I.out.hb⟩ : (Box2 y5 w.heap.size 46 (.slice a0 b.nr c0) (.slice a1 b.ns c1)) ∧ (Box4 y5 px 100 (.int .i64 q.se) (.int .i64 q.sq) (.int .i64 cd) (.int .i64 mk)))
          refine hK.out _ _ H (fun _ => ?_)
          clear hK KK hr ho hg hl
          change wpAnyH _ _ _ _ _ _ _ { tmps := #[_,_,_,_,_,_,_,_,_,_,_,_,_,_,_,_,_,_,_,_,_,_,_,_,_,_,_,_,_,_,_,_,_,_,_,_,_,_,_,_,_,_,_,_,_,_,_,_,_,_,_,_,_,_,_,_,_,_,_,_,_,_,_,_,_,_,_,_,_,_,_,_,_,_,_,_,_,_,_,_,_,_,_,_,_,_,_,_,_,_,_,_,_,_,_,_,_,_,_,_,_,_,_,_,_,_,_,_,_,_,_,_,_,_,_,_,_,_,_,_,_,_,_,_,_,_,_,_,_,_,_,_,_,_,_,_,_], defers := _ } _
          refine wpAnyH_take (i := 14) (v := .pointer (some ⟨po, 1, none⟩)) rfl (by kernel_rfl) (by kernel_rfl) (by kernel_rfl) (fun _ _ _ h => h) (Or.inl ⟨by rfl, ?_⟩) H ?_
          · intro w' hSw; go_simp
          change wpAnyH _ _ _ _ _ _ _ { tmps := #[_,_,_,_,_,_,_,_,_,_,_,_,_,_,_,_,_,_,_,_,_,_,_,_,_,_,_,_,_,_,_,_,_,_,_,_,_,_,_,_,_,_,_,_,_,_,_,_,_,_,_,_,_,_,_,_,_,_,_,_,_,_,_,_,_,_,_,_,_,_,_,_,_,_,_,_,_,_,_,_,_,_,_,_,_,_,_,_,_,_,_,_,_,_,_,_,_,_,_,_,_,_,_,_,_,_,_,_,_,_,_,_,_,_,_,_,_,_,_,_,_,_,_,_,_,_,_,_,_,_,_,_,_,_,_,_,_], defers := _ } _
          refine wpAnyH_ready (rs := [15]) (by kernel_rfl) (by simp) ?_
          refine (AllReadyH.cons rfl (fun KK hK => ?_) AllReadyH.nil)
          have t0 := (XO.out.below I.out.hb).c1
          have f0 := (XO.out.below I.out.hb).fr 1
          go_simp
          refine hK.out _ _ ⟨H.1.other (a := ⟨po, 1, none⟩) N2.out _, H.2.other (a := ⟨po, 1, none⟩) NX.out _⟩ (fun _ => ?_)
          clear hK KK
          change wpAnyH _ _ _ _ _ _ _ { tmps := #[_,_,_,_,_,_,_,_,_,_,_,_,_,_,_,_,_,_,_,_,_,_,_,_,_,_,_,_,_,_,_,_,_,_,_,_,_,_,_,_,_,_,_,_,_,_,_,_,_,_,_,_,_,_,_,_,_,_,_,_,_,_,_,_,_,_,_,_,_,_,_,_,_,_,_,_,_,_,_,_,_,_,_,_,_,_,_,_,_,_,_,_,_,_,_,_,_,_,_,_,_,_,_,_,_,_,_,_,_,_,_,_,_,_,_,_,_,_,_,_,_,_,_,_,_,_,_,_,_,_,_,_,_,_,_,_,_], defers := _ } _
          refine wpAnyH_done (by kernel_rfl) ?_ _
          refine NoPanic.normal ?_
          have LU : Hid (po < u4.heap.size) := XO.out.lt
          have B5 : Hid (Box2 (y5.setCell ⟨po, 1, none⟩ (.slice arc (b.ns + 1) crc)) po 46 (.slice i0 b1.nr n0) (.slice arc (b.ns + 1) crc)) := (XO.out.below I.out.hb).set1 _
          have Y5 : Hid (Box2 (y5.setCell ⟨po, 1, none⟩ (.slice arc (b.ns + 1) crc)) (w.heap.size + 2) 46 (.slice none 0 0) (.slice none 0 0)) := (Y4.out.below I.out.hb).other (a := ⟨po, 1, none⟩) (by have := LO.out; show w.heap.size + 2 ≠ po; omega) _
          have E50 : Hid (EO (y5.setCell ⟨po, 1, none⟩ (.slice arc (b.ns + 1) crc)) ua.heap.size 54 3 (.slice i0 b1.nr n0) b1.nr (rgF b1.R)) := (E40.out.below I.out.hb).keep (fun g e => heap_setCell_other _ _ _ _ (by have h1 := (E40.out.ge g e).1; have h2 := LA.out; show g ≠ po; omega))
          have E51 : Hid (EO (y5.setCell ⟨po, 1, none⟩ (.slice arc (b.ns + 1) crc)) ua.heap.size 100 4 (.slice arc (b.ns + 1) crc) (b.ns + 1) (seF (insE b.S k ⟨q.se, q.sq, cd, mk⟩))) := (I.out.row.keep (fun g e => heap_setCell_other _ _ _ _ (by have h1 := (I.out.row.ge g e).1; have h2 := LU.out; show g ≠ po; omega))).mono LUA.out
          have A5 : Hid (Below w.heap.size w (y5.setCell ⟨po, 1, none⟩ (.slice arc (b.ns + 1) crc))) := (A4.out.trans (I.out.hb.mono A4.out.size)).setCell (by have := LO.out; show w.heap.size ≤ po; omega) _
          clear H t0 f0 I X2 XX XO Y4 A4 E40 E41 ER EC CT CF
          change Exit.then _ _ Exit.normal { tmps := #[_, _, _, _, _, _, _, _, _, _, _, _, _, _, _, _, _, _, _, _, _, _, _, _, _, _, _, _, _, _, _, _, _, _, _, _, _, _, _, _, _, _, _, _, _, _, _, _, _, _, _, _, _, _, _, _, _, _, _, _, _, _, _, _, _, _, _, _, _, _, _, _, _, _, _, _, _, _, _, _, _, _, _, _, _, _, _, _, _, _, _, _, _, _, _, _, _, _, _, _, _, _, _, _, _, _, _, _, _, _, _, _, _, _, _, _, _, _, _, _, _, _, _, _, _, _, _, _, _, _, _, _, _, _, _, _, _], defers := _ } _
          generalize (y5.setCell ⟨po, 1, none⟩ (.slice arc (b.ns + 1) crc)) = u5 at *
          have o0 := B5.out.c0
          have o1 := B5.out.c1
          have y0 := Y5.out.c0
          have y1 := Y5.out.c1
          have g0 := Y5.out.fr 0
          have g1 := Y5.out.fr 1
          have LW : Hid (w.heap.size + 2 < ua.heap.size) := by have h1 := LO.out; have h2 := LA.out; show w.heap.size + 2 < ua.heap.size; omega
          have O6 : OnlyB (w.heap.size + 2) u5 ((u5.setCell ⟨w.heap.size + 2, 0, none⟩ (.slice i0 b1.nr n0)).setCell ⟨w.heap.size + 2, 1, none⟩ (.slice arc (b.ns + 1) crc)) := ((OnlyB.refl _ u5).setCell 0 _).setCell 1 _
          have A6 : Hid (Below w.heap.size w ((u5.setCell ⟨w.heap.size + 2, 0, none⟩ (.slice i0 b1.nr n0)).setCell ⟨w.heap.size + 2, 1, none⟩ (.slice arc (b.ns + 1) crc))) := A5.out.trans (O6.toBelow (by omega) A5.out.size)
          have R6 : Hid (Els ((u5.setCell ⟨w.heap.size + 2, 0, none⟩ (.slice i0 b1.nr n0)).setCell ⟨w.heap.size + 2, 1, none⟩ (.slice arc (b.ns + 1) crc)) 3 i0 b1.nr (rgF b1.R)) := (E50.out.onlyB O6 LW.out).els
          have S6 : Hid (Els ((u5.setCell ⟨w.heap.size + 2, 0, none⟩ (.slice i0 b1.nr n0)).setCell ⟨w.heap.size + 2, 1, none⟩ (.slice arc (b.ns + 1) crc)) 4 arc (b.ns + 1) (seF (insE b.S k ⟨q.se, q.sq, cd, mk⟩))) := (E51.out.onlyB O6 LW.out).els
          have P0 : Hid (SlP i0 b1.nr n0) := E50.out.slp
          have FQ0 : Hid (FrQ Q w.heap.size ((u5.setCell ⟨w.heap.size + 2, 0, none⟩ (.slice i0 b1.nr n0)).setCell ⟨w.heap.size + 2, 1, none⟩ (.slice arc (b.ns + 1) crc)) i0) := E50.out.fresh (by have := LW.out; omega) Q (by simp)
          have FQ1 : Hid (FrQ Q w.heap.size ((u5.setCell ⟨w.heap.size + 2, 0, none⟩ (.slice i0 b1.nr n0)).setCell ⟨w.heap.size + 2, 1, none⟩ (.slice arc (b.ns + 1) crc)) arc) := E51.out.fresh (by have := LW.out; omega) Q (by simp)
          have P1 : Hid (SlP arc (b.ns + 1) crc) := E51.out.slp
          clear O6 E50 E51
          go_wp2
          exact ret_cellTT (b := w.heap.size + 2) Tryd.results53 rfl rfl rfl (Box2.loadbk ((Y5.out.set0 _).set1 _)) ⟨⟨_, _, _, _, by rw [KS.out]; rfl, ⟨R6.out, by rw [KS.out]; exact S6.out⟩, P0.out, by rw [KS.out]; exact P1.out, FQ0.out, FQ1.out⟩, A6.out⟩
end Go.Proofs.YtpngjkhncfbnpaaDoor
