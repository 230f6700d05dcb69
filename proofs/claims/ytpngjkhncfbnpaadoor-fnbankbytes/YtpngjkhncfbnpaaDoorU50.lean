/-
  Texts of the proof, joined: SameB.
-/
import Derived.Test.YtpngjkhncfbnpaaDoorU24
namespace Go.Proofs.YtpngjkhncfbnpaaDoor
open Go.ChangeShapes Go.WideShapes Go.ChangeAt Go.RowKit
set_option linter.unusedVariables false
theorem below_drewNS {B n : Nat} {w w' : World} (h : Below B w w') : Below B w (w'.drewN n) := ⟨h.os, h.tape, h.output, h.size, h.block⟩
theorem neqRg (x : Rg) (w : World) : (binOp .neq 54 (.agg #[.int .i64 x.v, .int .i64 x.c, .string x.r]) (.agg #[.int .i64 x.v, .int .i64 x.c, .string x.r])).run Tryd.prog w = .ok (.bool false) w := by go_simp
theorem neqSe (x : Se) (w : World) : (binOp .neq 100 (.agg #[.int .i64 x.id, .int .i64 x.sq, .int .i64 x.cd, .int .i64 x.ma]) (.agg #[.int .i64 x.id, .int .i64 x.sq, .int .i64 x.cd, .int .i64 x.ma])).run Tryd.prog w = .ok (.bool false) w := by go_simp
set_option maxRecDepth 100000 in
set_option maxHeartbeats 4000000 in
theorem sameBank_yes (d : Bk) (a0 a1 b0 b1 : Option Addr) (c0 c1 e0 e1 : Nat) (hr : d.nr ≤ 1000) (hs : d.ns ≤ 1000) (w : World) (h : BankV w d a0 a1) (h' : BankV w d b0 b1) :
    Calls Tryd.prog 21 #[.agg #[.slice a0 d.nr c0, .slice a1 d.ns c1], .agg #[.slice b0 d.nr e0, .slice b1 d.ns e1]] w fun e w' => e = .returned (.bool true) ∧ Below w.heap.size w w' := by
  obtain ⟨n, R, m, S⟩ := d
  have A0 : Below w.heap.size w ((w.alloc (.cells #[.slice a0 n c0, .slice a1 m c1] 46)).alloc (.cells #[.slice b0 n e0, .slice b1 m e1] 46)) := ((Below.refl _ _).alloc (Nat.le_refl _) _).alloc (by simp) _
  have X1 : Hid (Box2 ((w.alloc (.cells #[.slice a0 n c0, .slice a1 m c1] 46)).alloc (.cells #[.slice b0 n e0, .slice b1 m e1] 46)) w.heap.size 46 (.slice a0 n c0) (.slice a1 m c1)) := (Box2.made _ _ _ _).alloc _
  have X2 : Hid (Box2 ((w.alloc (.cells #[.slice a0 n c0, .slice a1 m c1] 46)).alloc (.cells #[.slice b0 n e0, .slice b1 m e1] 46)) (w.heap.size + 1) 46 (.slice b0 n e0) (.slice b1 m e1)) := Box2.madeAt (by simp) _ _ _
  have HA : Hid (Els ((w.alloc (.cells #[.slice a0 n c0, .slice a1 m c1] 46)).alloc (.cells #[.slice b0 n e0, .slice b1 m e1] 46)) 3 a0 n (rgF R) ∧ Els ((w.alloc (.cells #[.slice a0 n c0, .slice a1 m c1] 46)).alloc (.cells #[.slice b0 n e0, .slice b1 m e1] 46)) 4 a1 m (seF S)) := h.below A0
  have HB : Hid (Els ((w.alloc (.cells #[.slice a0 n c0, .slice a1 m c1] 46)).alloc (.cells #[.slice b0 n e0, .slice b1 m e1] 46)) 3 b0 n (rgF R) ∧ Els ((w.alloc (.cells #[.slice a0 n c0, .slice a1 m c1] 46)).alloc (.cells #[.slice b0 n e0, .slice b1 m e1] 46)) 4 b1 m (seF S)) := h'.below A0
  have HZ : Hid (Below w.heap.size w ((w.alloc (.cells #[.slice a0 n c0, .slice a1 m c1] 46)).alloc (.cells #[.slice b0 n e0, .slice b1 m e1] 46))) := A0
  have k0 := X1.out.c0
  have k1 := X1.out.c1
  have j0 := X2.out.c0
  have j1 := X2.out.c1
  have hne : ((n : Int) != (n : Int)) = false := by simp
  have hne2 : ((m : Int) != (m : Int)) = false := by simp
  have hr' : n ≤ 1000 := hr
  have hs' : m ≤ 1000 := hs
  have NR : ∀ (x : Rg) (w : World), (binOp .neq 54 (.agg #[.int .i64 x.v, .int .i64 x.c, .string x.r]) (.agg #[.int .i64 x.v, .int .i64 x.c, .string x.r])).run Tryd.prog w = .ok (.bool false) w := neqRg
  clear h h' A0 hr hs
  go_enter Tryd.func21, Tryd.ntmps21
  go_wp2
  generalize ((w.alloc (.cells #[.slice a0 n c0, .slice a1 m c1] 46)).alloc (.cells #[.slice b0 n e0, .slice b1 m e1] 46)) = v at *
  obtain ⟨p1, hp1⟩ : ∃ x, x = w.heap.size := ⟨_, rfl⟩
  obtain ⟨p2, hp2⟩ : ∃ x, x = w.heap.size + 1 := ⟨_, rfl⟩
  rw [← hp2] at X2 ⊢
  rw [← hp1] at X1 ⊢
  clear hp1 hp2 k0 k1 j0 j1
  go_loopw [5] (fun i wr => ∃ k : Nat, k ≤ n ∧ i = .int .i64 k ∧ Below v.heap.size v wr) (fun i _ => n - (intOf i).toNat)
  case atStart => exact ⟨0, by omega, rfl, Below.refl _ _⟩
  case round =>
    obtain ⟨k, hk, rfl, hb⟩ := hrel
    have HW : Hid (Below v.heap.size v wr) := hb
    have k0 := (X1.out.below hb).c0
    have j0 := (X2.out.below hb).c0
    by_cases hlt : k < n
    · obtain ⟨g1, o1, rfl, hc⟩ := (HA.out.1.below hb).opened (by omega)
      obtain ⟨g2, o2, rfl, hc'⟩ := (HB.out.1.below hb).opened (by omega)
      obtain ⟨x0, x1, x2⟩ := Els.rgC hc k hlt
      obtain ⟨y0, y1, y2⟩ := Els.rgC hc' k hlt
      have hlt' : (k : Int) < (n : Int) := by omega
      have NQ := NR (R k)
      generalize R k = y at *
      clear hc hc' hb NR
      go_wp2
      go_quiet (fail)
      clear x0 x1 x2 y0 y1 y2 k0 j0
      go_wp2
      go_roundw
      case rel => exact ⟨k + 1, by omega, by go_num, below_drewNS HW.out⟩
      case measure => simp [intOf]; omega
    · clear NR
      have k1 := (X1.out.below hb).c1
      have j1 := (X2.out.below hb).c1
      clear hb
      go_wp2
      clear k1 j1 k0 j0
      obtain ⟨u, hu⟩ : ∃ u, u = wr := ⟨_, rfl⟩
      go_loopw [6] (fun i wr' => ∃ k : Nat, k ≤ m ∧ i = .int .i64 k ∧ Below v.heap.size v wr') (fun i _ => m - (intOf i).toNat)
      case atStart => exact ⟨0, by omega, rfl, HW.out⟩
      case round =>
        clear HW hk hlt
        obtain ⟨q, hk, rfl, hb⟩ := hrel
        rename_i wq
        have HW : Hid (Below v.heap.size v wr) := hb
        have k0 := (X1.out.below hb).c1
        have j0 := (X2.out.below hb).c1
        by_cases hlt : q < m
        · obtain ⟨g1, o1, rfl, hc⟩ := (HA.out.2.below hb).opened (by omega)
          obtain ⟨g2, o2, rfl, hc'⟩ := (HB.out.2.below hb).opened (by omega)
          obtain ⟨x0, x1, x2, x3⟩ := Els.seC hc q hlt
          obtain ⟨y0, y1, y2, y3⟩ := Els.seC hc' q hlt
          have hlt' : (q : Int) < (m : Int) := by omega
          have NQ := neqSe (S q)
          generalize S q = y at *
          clear hc hc' hb
          go_wp2
          go_quiet (fail)
          clear x0 x1 x2 x3 y0 y1 y2 y3 k0 j0
          go_wp2
          go_roundw
          case rel => exact ⟨q + 1, by omega, by go_num, below_drewNS HW.out⟩
          case measure => simp [intOf]; omega
        · clear hb
          go_wp2
          go_ret
          exact ⟨rfl, HZ.out.trans (HW.out.mono HZ.out.size)⟩
end Go.Proofs.YtpngjkhncfbnpaaDoor
