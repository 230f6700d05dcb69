/-
  The exact law of LinkSend.
-/
import Derived.Test.YtkhglllicblbbabDoorPkTo
namespace Go.Proofs.YtkhglllicblbbabDoor
open Go.ChangeShapes Go.WideShapes Go.ChangeAt Go.RowKit
set_option linter.unusedVariables false
set_option maxRecDepth 100000 in
set_option maxHeartbeats 20000000 in
theorem law_linkSend (K : ByteArray) (se tp : Int) (a : Option Addr) (n c : Nat) (f : Nat → Bool) (body : ByteArray) (hn : n ≤ maxLen) (hs : K.size ≤ maxLen) (w : World) (h : Bools w a n f) (ht : Tabs w) :
    Calls Tryd.prog 4 #[.agg #[.string K, .int .i64 se, .int .i64 tp, .slice a n c], .string body] w fun e w' => e = .returned (.bool true) ∧ Below w.heap.size w w' := by
  obtain ⟨K', se', tp', n', f', q, B, T, code, hA⟩ := sdA_ex K body se tp n f
  have SS : Hid (∀ (g c : Nat) (w : World), Bools w (some ⟨g, 0, none⟩) n f → Calls Tryd.prog 9 #[.agg #[.string K, .int .i64 se, .int .i64 tp, .slice (some ⟨g, 0, none⟩) n c], .string body] w fun e w' => RetS w w' e K' se' tp' n' f' q B T code ∧ Below w.heap.size w w') := fun g c w h => specSend_any K body se tp _ n c f K' se' tp' n' f' q B T code hA w h
  have IS : Hid (∀ (g c : Nat) (w : World), Bools w (some ⟨g, 0, none⟩) n f → Tabs w → Calls Tryd.prog 11 #[.agg #[.string K, .int .i64 se, .int .i64 tp, .slice (some ⟨g, 0, none⟩) n c], .string body] w fun e w' => RetS w w' e K' se' tp' n' f' q B T code ∧ Below w.heap.size w w') := fun g c w h ht => implSend_any K body se tp _ n c f K' se' tp' n' f' q B T code hA w h ht
  have HN : Hid (n' ≤ 32) := hA.le
  have SZ : Hid (∀ w : World, Calls Tryd.prog 8 #[.agg #[.string K, .int .i64 se, .int .i64 tp, .slice a n c], .int .i64 1048576] w fun e w' => (∃ y : Int, e = .returned (.int .i64 y) ∧ y ≤ 1048576 ∧ (0 ≤ y → n ≤ 1048576 ∧ K.size ≤ 1048576)) ∧ Below w.heap.size w w') := fun w => szLink_x K se tp a n c w hn hs
  have LA : Hid (0 < n → ∀ p, a = some p → p.block < w.heap.size) := h.ltB
  have HT : Hid (Tabs w) := ht
  have HX : Hid (Bools w a n f) := h
  have k1 : ¬ ((1 + n' : Nat) : Int) < 0 := by omega
  clear h hA hn hs ht
  have A1 : Hid (Below w.heap.size w (w.alloc (.cells #[.string K, .int .i64 se, .int .i64 tp, .slice a n c] 27))) := (Below.refl w.heap.size w).alloc (Nat.le_refl _) _
  by_cases hbo : (1048576 : Int) < (body.size : Int)
  · clear SS IS HN SZ LA HT HX k1
    go_enter Tryd.func4, Tryd.ntmps4
    go_wp2
    go_ret
    exact ⟨rfl, A1.out⟩
  · have RA : Hid (Box4 (w.alloc (.cells #[.string K, .int .i64 se, .int .i64 tp, .slice a n c] 27)) w.heap.size 27 (.string K) (.int .i64 se) (.int .i64 tp) (.slice a n c)) := Box4.madeAt rfl _ _ _ _ _
    have HB : Hid (Bools (w.alloc (.cells #[.string K, .int .i64 se, .int .i64 tp, .slice a n c] 27)) a n f) := HX.out.below A1.out
    clear HX
    go_enter Tryd.func4, Tryd.ntmps4
    go_wp2_with fail
    generalize (w.alloc (.cells #[.string K, .int .i64 se, .int .i64 tp, .slice a n c] 27)) = v1 at *
    refine (SZ.out _).mono ?_
    rintro e v2 ⟨⟨y, rfl, hy, hy2⟩, hb⟩
    replace A1 : Hid (Below w.heap.size w v2) := A1.out.trans (hb.mono A1.out.size)
    replace RA : Hid (Box4 v2 w.heap.size 27 (.string K) (.int .i64 se) (.int .i64 tp) (.slice a n c)) := RA.out.below hb
    replace HB : Hid (Bools v2 a n f) := HB.out.below hb
    clear hb SZ
    by_cases hy0 : y < 0
    · clear hy2
      go_wp2
      go_ret
      exact ⟨rfl, A1.out⟩
    · obtain ⟨h0, h1⟩ := hy2 (by omega)
      clear hy2
      have TL : Hid (∀ w : World, Bools w a n f → Calls Tryd.prog 10 #[.agg #[.string K, .int .i64 se, .int .i64 tp, .slice a n c]] w fun e w' => (∃ g, w.heap.size ≤ g ∧ e = .returned (.agg #[.string K, .int .i64 se, .int .i64 tp, .slice (some ⟨g, 0, none⟩) n n]) ∧ w'.rowIs g 4 n (fun i => .bool (f i))) ∧ Below w.heap.size w w') := fun w h => (toLink_any K se tp a n c f h0 w h).mono fun _ _ q => ⟨⟨_, by omega, q.1, q.2.1⟩, q.2.2⟩
      have h0' : Hid (n ≤ 1048576) := h0
      have k0 : ¬ ((1 + n : Nat) : Int) < 0 := by omega
      clear h0 h1
      have t0 := RA.out.c0
      have t1 := RA.out.c1
      have t2 := RA.out.c2
      have t3 := RA.out.c3
      go_wp2_with fail
      clear t0 t1 t2 t3
      refine (TL.out _ HB.out).mono ?_
      rintro e v3 ⟨⟨g0, hg0, rfl, hr0⟩, hb⟩
      replace A1 : Hid (Below w.heap.size w v3) := A1.out.trans (hb.mono A1.out.size)
      replace RA : Hid (Box4 v3 w.heap.size 27 (.string K) (.int .i64 se) (.int .i64 tp) (.slice a n c)) := RA.out.below hb
      replace HB : Hid (Bools v3 a n f) := HB.out.below hb
      have X0 : Hid (Bools v3 (some ⟨g0, 0, none⟩) n f) := Bools.ofRow hr0
      clear hb hr0 hg0
      go_wp2_with fail
      refine (SS.out g0 n _ X0.out).mono ?_
      rintro e v4 ⟨⟨aw, cw, rfl, ow⟩, hb⟩
      replace A1 : Hid (Below w.heap.size w v4) := A1.out.trans (hb.mono A1.out.size)
      replace RA : Hid (Box4 v4 w.heap.size 27 (.string K) (.int .i64 se) (.int .i64 tp) (.slice a n c)) := RA.out.below hb
      replace HB : Hid (Bools v4 a n f) := HB.out.below hb
      replace X0 : Hid (Bools v4 (some ⟨g0, 0, none⟩) n f) := X0.out.below hb
      have XW : Hid (Bools v4 aw n' f') := ow.bools
      clear hb ow SS
      clear X0
      have hb : Below v4.heap.size v4 ((v4.alloc (.cells #[.string K', .int .i64 se', .int .i64 tp', .slice aw n' cw] 29)).alloc (.cells #[.int .i64 q, .string B, .string T] 31)) := ((Below.refl v4.heap.size v4).alloc (Nat.le_refl _) _).alloc (by simp) _
      have PW : Hid (Box4 ((v4.alloc (.cells #[.string K', .int .i64 se', .int .i64 tp', .slice aw n' cw] 29)).alloc (.cells #[.int .i64 q, .string B, .string T] 31)) v4.heap.size 29 (.string K') (.int .i64 se') (.int .i64 tp') (.slice aw n' cw)) := (Box4.madeAt rfl _ _ _ _ _).alloc _
      have QW : Hid (BoxP ((v4.alloc (.cells #[.string K', .int .i64 se', .int .i64 tp', .slice aw n' cw] 29)).alloc (.cells #[.int .i64 q, .string B, .string T] 31)) (v4.heap.size + 1) 31 (.int .i64 q) (.string B) (.string T)) := BoxP.madeAt (by simp) _ _ _ _
      have vis00 := (RA.out.below hb).c0
      have vis01 := (RA.out.below hb).c1
      have vis02 := (RA.out.below hb).c2
      have vis03 := (RA.out.below hb).c3
      go_wp2_with fail
      generalize ((v4.alloc (.cells #[.string K', .int .i64 se', .int .i64 tp', .slice aw n' cw] 29)).alloc (.cells #[.int .i64 q, .string B, .string T] 31)) = v5 at *
      replace A1 : Hid (Below w.heap.size w v5) := A1.out.trans (hb.mono A1.out.size)
      replace RA : Hid (Box4 v5 w.heap.size 27 (.string K) (.int .i64 se) (.int .i64 tp) (.slice a n c)) := RA.out.below hb
      replace HB : Hid (Bools v5 a n f) := HB.out.below hb
      replace XW : Hid (Bools v5 aw n' f') := XW.out.below hb
      clear hb vis00 vis01 vis02 vis03
      obtain ⟨b6, hb6⟩ : ∃ bx, bx = v4.heap.size := ⟨_, rfl⟩
      rw [← hb6] at PW QW ⊢
      clear hb6
      obtain ⟨bs1, hbs⟩ : ∃ x, x = v5.heap.size := ⟨_, rfl⟩
      have LW : Hid (0 < n' → ∀ p, aw = some p → p.block < bs1) := by rw [hbs]; exact XW.out.ltB
      have P6 : Hid (b6 + 1 < bs1) := by rw [hbs]; exact QW.out.lt
      have WB : Hid (w.heap.size < bs1) := by rw [hbs]; exact RA.out.lt
      refine (TL.out _ HB.out).mono ?_
      rintro e v6 ⟨⟨gx, hgx, rfl, hrx⟩, hb⟩
      replace A1 : Hid (Below w.heap.size w v6) := A1.out.trans (hb.mono A1.out.size)
      replace RA : Hid (Box4 v6 w.heap.size 27 (.string K) (.int .i64 se) (.int .i64 tp) (.slice a n c)) := RA.out.below hb
      replace HB : Hid (Bools v6 a n f) := HB.out.below hb
      replace XW : Hid (Bools v6 aw n' f') := XW.out.below hb
      replace PW : Hid (Box4 v6 b6 29 (.string K') (.int .i64 se') (.int .i64 tp') (.slice aw n' cw)) := PW.out.below hb
      replace QW : Hid (BoxP v6 (b6 + 1) 31 (.int .i64 q) (.string B) (.string T)) := QW.out.below hb
      have OX : Hid (OwnB v6 bs1 (some ⟨gx, 0, none⟩) n f) := OwnB.ofRow (by rw [hbs]; exact hgx) hrx
      have GX : Hid (bs1 ≤ gx) := by rw [hbs]; exact hgx
      have S1 : Hid (bs1 ≤ v6.heap.size) := by rw [hbs]; exact hb.size
      have LX : Hid (gx < v6.heap.size) := World.rowIs.lt hrx
      clear hb hrx hgx hbs
      have hb : Below v6.heap.size v6 (v6.alloc (.cells #[.string K, .int .i64 se, .int .i64 tp, .slice (some ⟨gx, 0, none⟩) n n] 29)) := (Below.refl _ _).alloc (Nat.le_refl _) _
      have PX : Hid (Box4 (v6.alloc (.cells #[.string K, .int .i64 se, .int .i64 tp, .slice (some ⟨gx, 0, none⟩) n n] 29)) v6.heap.size 29 (.string K) (.int .i64 se) (.int .i64 tp) (.slice (some ⟨gx, 0, none⟩) n n)) := Box4.madeAt rfl _ _ _ _ _
      go_wp2_with fail
      generalize (v6.alloc (.cells #[.string K, .int .i64 se, .int .i64 tp, .slice (some ⟨gx, 0, none⟩) n n] 29)) = v7 at *
      replace A1 : Hid (Below w.heap.size w v7) := A1.out.trans (hb.mono A1.out.size)
      replace RA : Hid (Box4 v7 w.heap.size 27 (.string K) (.int .i64 se) (.int .i64 tp) (.slice a n c)) := RA.out.below hb
      replace HB : Hid (Bools v7 a n f) := HB.out.below hb
      replace XW : Hid (Bools v7 aw n' f') := XW.out.below hb
      replace PW : Hid (Box4 v7 b6 29 (.string K') (.int .i64 se') (.int .i64 tp') (.slice aw n' cw)) := PW.out.below hb
      replace QW : Hid (BoxP v7 (b6 + 1) 31 (.int .i64 q) (.string B) (.string T)) := QW.out.below hb
      replace OX : Hid (OwnB v7 bs1 (some ⟨gx, 0, none⟩) n f) := OX.out.below hb
      replace S1 : Hid (bs1 ≤ (v7).heap.size) := Nat.le_trans S1.out hb.size
      replace LX : Hid (gx < (v7).heap.size) := Nat.lt_of_lt_of_le LX.out hb.size
      clear hb 
      obtain ⟨bx, hbx⟩ : ∃ bx, bx = v6.heap.size := ⟨_, rfl⟩
      rw [← hbx] at PX ⊢
      clear hbx
      obtain ⟨bs2, hbs⟩ : ∃ x, x = v7.heap.size := ⟨_, rfl⟩
      have LX2 : Hid (gx < bs2) := by rw [hbs]; exact LX.out
      have S12 : Hid (bs1 ≤ bs2) := by rw [hbs]; exact S1.out
      clear LX
      refine (IS.out gx n _ OX.out.bools (HT.out.below A1.out)).mono ?_
      rintro e v8 ⟨⟨ag, cg, rfl, og⟩, hb⟩
      replace A1 : Hid (Below w.heap.size w v8) := A1.out.trans (hb.mono A1.out.size)
      replace RA : Hid (Box4 v8 w.heap.size 27 (.string K) (.int .i64 se) (.int .i64 tp) (.slice a n c)) := RA.out.below hb
      replace HB : Hid (Bools v8 a n f) := HB.out.below hb
      replace XW : Hid (Bools v8 aw n' f') := XW.out.below hb
      replace PW : Hid (Box4 v8 b6 29 (.string K') (.int .i64 se') (.int .i64 tp') (.slice aw n' cw)) := PW.out.below hb
      replace QW : Hid (BoxP v8 (b6 + 1) 31 (.int .i64 q) (.string B) (.string T)) := QW.out.below hb
      replace OX : Hid (OwnB v8 bs1 (some ⟨gx, 0, none⟩) n f) := OX.out.below hb
      replace S1 : Hid (bs1 ≤ (v8).heap.size) := Nat.le_trans S1.out hb.size
      replace PX : Hid (Box4 v8 bx 29 (.string K) (.int .i64 se) (.int .i64 tp) (.slice (some ⟨gx, 0, none⟩) n n)) := PX.out.below hb
      have OG : Hid (OwnB v8 bs2 ag n' f') := by rw [hbs]; exact og
      have S2 : Hid (bs2 ≤ v8.heap.size) := by rw [hbs]; exact hb.size
      have LG : Hid (0 < n' → ∀ p, ag = some p → p.block < v8.heap.size) := og.bools.ltB
      have GB : Hid (bs2 ≤ v8.heap.size) := by rw [hbs]; exact hb.size
      clear hb og hbs
      have hb : Below v8.heap.size v8 ((v8.alloc (.cells #[.string K', .int .i64 se', .int .i64 tp', .slice ag n' cg] 29)).alloc (.cells #[.int .i64 q, .string B, .string T] 31)) := ((Below.refl v8.heap.size v8).alloc (Nat.le_refl _) _).alloc (by simp) _
      have PG : Hid (Box4 ((v8.alloc (.cells #[.string K', .int .i64 se', .int .i64 tp', .slice ag n' cg] 29)).alloc (.cells #[.int .i64 q, .string B, .string T] 31)) v8.heap.size 29 (.string K') (.int .i64 se') (.int .i64 tp') (.slice ag n' cg)) := (Box4.madeAt rfl _ _ _ _ _).alloc _
      have QG : Hid (BoxP ((v8.alloc (.cells #[.string K', .int .i64 se', .int .i64 tp', .slice ag n' cg] 29)).alloc (.cells #[.int .i64 q, .string B, .string T] 31)) (v8.heap.size + 1) 31 (.int .i64 q) (.string B) (.string T)) := BoxP.madeAt (by simp) _ _ _ _
      have vis00 := (PW.out.below hb).c0
      have vis01 := (PW.out.below hb).c1
      have vis02 := (PW.out.below hb).c2
      have vis03 := (PW.out.below hb).c3
      go_wp2_with fail
      generalize ((v8.alloc (.cells #[.string K', .int .i64 se', .int .i64 tp', .slice ag n' cg] 29)).alloc (.cells #[.int .i64 q, .string B, .string T] 31)) = v9 at *
      replace A1 : Hid (Below w.heap.size w v9) := A1.out.trans (hb.mono A1.out.size)
      replace RA : Hid (Box4 v9 w.heap.size 27 (.string K) (.int .i64 se) (.int .i64 tp) (.slice a n c)) := RA.out.below hb
      replace HB : Hid (Bools v9 a n f) := HB.out.below hb
      replace XW : Hid (Bools v9 aw n' f') := XW.out.below hb
      replace PW : Hid (Box4 v9 b6 29 (.string K') (.int .i64 se') (.int .i64 tp') (.slice aw n' cw)) := PW.out.below hb
      replace QW : Hid (BoxP v9 (b6 + 1) 31 (.int .i64 q) (.string B) (.string T)) := QW.out.below hb
      replace OX : Hid (OwnB v9 bs1 (some ⟨gx, 0, none⟩) n f) := OX.out.below hb
      replace S1 : Hid (bs1 ≤ (v9).heap.size) := Nat.le_trans S1.out hb.size
      replace PX : Hid (Box4 v9 bx 29 (.string K) (.int .i64 se) (.int .i64 tp) (.slice (some ⟨gx, 0, none⟩) n n)) := PX.out.below hb
      replace OG : Hid (OwnB v9 bs2 ag n' f') := OG.out.below hb
      replace S2 : Hid (bs2 ≤ (v9).heap.size) := Nat.le_trans S2.out hb.size
      clear hb vis00 vis01 vis02 vis03
      obtain ⟨b10, hb10⟩ : ∃ bx, bx = v8.heap.size := ⟨_, rfl⟩
      rw [← hb10] at PG QG LG GB ⊢
      clear hb10
      refine (eqLink_yes K' se' tp' ag aw n' cg cw f' (by have := HN.out; omega) _ OG.out.bools XW.out).mono ?_
      rintro e v10 ⟨rfl, hb⟩
      replace A1 : Hid (Below w.heap.size w v10) := A1.out.trans (hb.mono A1.out.size)
      replace RA : Hid (Box4 v10 w.heap.size 27 (.string K) (.int .i64 se) (.int .i64 tp) (.slice a n c)) := RA.out.below hb
      replace HB : Hid (Bools v10 a n f) := HB.out.below hb
      replace XW : Hid (Bools v10 aw n' f') := XW.out.below hb
      replace PW : Hid (Box4 v10 b6 29 (.string K') (.int .i64 se') (.int .i64 tp') (.slice aw n' cw)) := PW.out.below hb
      replace QW : Hid (BoxP v10 (b6 + 1) 31 (.int .i64 q) (.string B) (.string T)) := QW.out.below hb
      replace OX : Hid (OwnB v10 bs1 (some ⟨gx, 0, none⟩) n f) := OX.out.below hb
      replace S1 : Hid (bs1 ≤ (v10).heap.size) := Nat.le_trans S1.out hb.size
      replace PX : Hid (Box4 v10 bx 29 (.string K) (.int .i64 se) (.int .i64 tp) (.slice (some ⟨gx, 0, none⟩) n n)) := PX.out.below hb
      replace OG : Hid (OwnB v10 bs2 ag n' f') := OG.out.below hb
      replace S2 : Hid (bs2 ≤ (v10).heap.size) := Nat.le_trans S2.out hb.size
      replace PG : Hid (Box4 v10 b10 29 (.string K') (.int .i64 se') (.int .i64 tp') (.slice ag n' cg)) := PG.out.below hb
      replace QG : Hid (BoxP v10 (b10 + 1) 31 (.int .i64 q) (.string B) (.string T)) := QG.out.below hb
      clear hb 
      have s0 := QG.out.c0
      have s1 := QG.out.c1
      have s2 := QG.out.c2
      have r0 := QW.out.c0
      have r1 := QW.out.c1
      have r2 := QW.out.c2
      go_wp2_with fail
      clear s0 s1 s2 r0 r1 r2
      refine (eqPacket_yes q B T _).mono ?_
      rintro e v11 ⟨rfl, hb⟩
      replace A1 : Hid (Below w.heap.size w v11) := A1.out.trans (hb.mono A1.out.size)
      replace RA : Hid (Box4 v11 w.heap.size 27 (.string K) (.int .i64 se) (.int .i64 tp) (.slice a n c)) := RA.out.below hb
      replace HB : Hid (Bools v11 a n f) := HB.out.below hb
      replace XW : Hid (Bools v11 aw n' f') := XW.out.below hb
      replace PW : Hid (Box4 v11 b6 29 (.string K') (.int .i64 se') (.int .i64 tp') (.slice aw n' cw)) := PW.out.below hb
      replace QW : Hid (BoxP v11 (b6 + 1) 31 (.int .i64 q) (.string B) (.string T)) := QW.out.below hb
      replace OX : Hid (OwnB v11 bs1 (some ⟨gx, 0, none⟩) n f) := OX.out.below hb
      replace S1 : Hid (bs1 ≤ (v11).heap.size) := Nat.le_trans S1.out hb.size
      replace PX : Hid (Box4 v11 bx 29 (.string K) (.int .i64 se) (.int .i64 tp) (.slice (some ⟨gx, 0, none⟩) n n)) := PX.out.below hb
      replace OG : Hid (OwnB v11 bs2 ag n' f') := OG.out.below hb
      replace S2 : Hid (bs2 ≤ (v11).heap.size) := Nat.le_trans S2.out hb.size
      replace PG : Hid (Box4 v11 b10 29 (.string K') (.int .i64 se') (.int .i64 tp') (.slice ag n' cg)) := PG.out.below hb
      replace QG : Hid (BoxP v11 (b10 + 1) 31 (.int .i64 q) (.string B) (.string T)) := QG.out.below hb
      clear hb 
      go_wp2_with fail
      have hb : Below v11.heap.size v11 v11.drew := (Below.refl _ _).drew
      have H : (Box4 v11.drew w.heap.size 27 (.string K) (.int .i64 se) (.int .i64 tp) (.slice a n c)) ∧ (Box4 v11.drew bx 29 (.string K) (.int .i64 se) (.int .i64 tp) (.slice (some ⟨gx, 0, none⟩) n n)) := ⟨RA.out.below hb, PX.out.below hb⟩
      replace A1 : Hid (Below w.heap.size w v11.drew) := A1.out.trans (hb.mono A1.out.size)
      replace HB : Hid (Bools v11.drew a n f) := HB.out.below hb
      replace XW : Hid (Bools v11.drew aw n' f') := XW.out.below hb
      replace PW : Hid (Box4 v11.drew b6 29 (.string K') (.int .i64 se') (.int .i64 tp') (.slice aw n' cw)) := PW.out.below hb
      replace QW : Hid (BoxP v11.drew (b6 + 1) 31 (.int .i64 q) (.string B) (.string T)) := QW.out.below hb
      replace OX : Hid (OwnB v11.drew bs1 (some ⟨gx, 0, none⟩) n f) := OX.out.below hb
      replace S1 : Hid (bs1 ≤ (v11.drew).heap.size) := Nat.le_trans S1.out hb.size
      replace OG : Hid (OwnB v11.drew bs2 ag n' f') := OG.out.below hb
      replace S2 : Hid (bs2 ≤ (v11.drew).heap.size) := Nat.le_trans S2.out hb.size
      replace PG : Hid (Box4 v11.drew b10 29 (.string K') (.int .i64 se') (.int .i64 tp') (.slice ag n' cg)) := PG.out.below hb
      replace QG : Hid (BoxP v11.drew (b10 + 1) 31 (.int .i64 q) (.string B) (.string T)) := QG.out.below hb
      clear hb RA PX
      refine wp_region_noPanic ?_
      refine wp_region_held_drew (S := fun w' => (Box4 w' w.heap.size 27 (.string K) (.int .i64 se) (.int .i64 tp) (.slice a n c)) ∧ (Box4 w' bx 29 (.string K) (.int .i64 se) (.int .i64 tp) (.slice (some ⟨gx, 0, none⟩) n n))) (by kernel_rfl) H (fun _ => ?_)
      generalize v11.drew = v12 at *
      refine wpAnyH_take (i := 0) (v := .agg #[.string K, .int .i64 se, .int .i64 tp, .slice (some ⟨gx, 0, none⟩) n n]) rfl (by kernel_rfl) (by kernel_rfl) (by kernel_rfl) (fun _ _ _ h => h) (Or.inl ⟨by rfl, ?_⟩) H ?_
      · intro w' hSw; have t0 := hSw.2.c0; have t1 := hSw.2.c1; have t2 := hSw.2.c2; have t3 := hSw.2.c3; clear hSw; go_simp
      change wpAnyH _ _ _ _ _ _ _ { tmps := #[_, _, _, _, _, _, _, _, _, _, _, _, _, _, _, _, _, _, _, _, _, _, _, _, _, _, _, _, _, _, _, _, _, _, _, _, _, _, _, _, _, _, _, _, _, _, _, _, _, _, _, _, _, _, _, _, _, _, _, _, _, _, _, _, _, _, _, _, _, _, _, _, _, _, _, _, _, _, _, _, _, _, _, _, _, _, _, _, _, _, _, _, _, _, _, _, _, _, _, _, _, _, _, _, _, _, _, _, _, _, _, _, _, _, _, _, _, _, _, _, _, _, _, _, _, _, _, _], defers := _ } _
      refine wpAnyH_take (i := 1) (v := .agg #[.string K, .int .i64 se, .int .i64 tp, .slice a n c]) rfl (by kernel_rfl) (by kernel_rfl) (by kernel_rfl) (fun _ _ _ h => h) (Or.inl ⟨by rfl, ?_⟩) H ?_
      · intro w' hSw; have t0 := hSw.1.c0; have t1 := hSw.1.c1; have t2 := hSw.1.c2; have t3 := hSw.1.c3; clear hSw; go_simp
      change wpAnyH _ _ _ _ _ _ _ { tmps := #[_, _, _, _, _, _, _, _, _, _, _, _, _, _, _, _, _, _, _, _, _, _, _, _, _, _, _, _, _, _, _, _, _, _, _, _, _, _, _, _, _, _, _, _, _, _, _, _, _, _, _, _, _, _, _, _, _, _, _, _, _, _, _, _, _, _, _, _, _, _, _, _, _, _, _, _, _, _, _, _, _, _, _, _, _, _, _, _, _, _, _, _, _, _, _, _, _, _, _, _, _, _, _, _, _, _, _, _, _, _, _, _, _, _, _, _, _, _, _, _, _, _, _, _, _, _, _, _], defers := _ } _
      refine wpAnyH_ready (rs := [2]) (by kernel_rfl) (by simp) ?_
      refine AllReadyH.cons rfl (fun KK hK => ?_) AllReadyH.nil
      go_simp
      refine (TL.out _ HB.out).mono ?_
      rintro e v13 ⟨⟨g2, hg2, rfl, hr2⟩, hb⟩
      replace A1 : Hid (Below w.heap.size w v13) := A1.out.trans (hb.mono A1.out.size)
      replace HB : Hid (Bools v13 a n f) := HB.out.below hb
      replace XW : Hid (Bools v13 aw n' f') := XW.out.below hb
      replace PW : Hid (Box4 v13 b6 29 (.string K') (.int .i64 se') (.int .i64 tp') (.slice aw n' cw)) := PW.out.below hb
      replace QW : Hid (BoxP v13 (b6 + 1) 31 (.int .i64 q) (.string B) (.string T)) := QW.out.below hb
      replace OX : Hid (OwnB v13 bs1 (some ⟨gx, 0, none⟩) n f) := OX.out.below hb
      replace S1 : Hid (bs1 ≤ (v13).heap.size) := Nat.le_trans S1.out hb.size
      replace OG : Hid (OwnB v13 bs2 ag n' f') := OG.out.below hb
      replace S2 : Hid (bs2 ≤ (v13).heap.size) := Nat.le_trans S2.out hb.size
      replace PG : Hid (Box4 v13 b10 29 (.string K') (.int .i64 se') (.int .i64 tp') (.slice ag n' cg)) := PG.out.below hb
      replace QG : Hid (BoxP v13 (b10 + 1) 31 (.int .i64 q) (.string B) (.string T)) := QG.out.below hb
      replace H : (Box4 v13 w.heap.size 27 (.string K) (.int .i64 se) (.int .i64 tp) (.slice a n c)) ∧ (Box4 v13 bx 29 (.string K) (.int .i64 se) (.int .i64 tp) (.slice (some ⟨gx, 0, none⟩) n n)) := ⟨H.1.below hb, H.2.below hb⟩
      have X2 : Hid (Bools v13 (some ⟨g2, 0, none⟩) n f) := Bools.ofRow hr2
      clear hb hr2 hg2
      refine hK.out _ _ H (fun _ => ?_)
      clear hK KK
      change wpAnyH _ _ _ _ _ _ _ { tmps := #[_, _, _, _, _, _, _, _, _, _, _, _, _, _, _, _, _, _, _, _, _, _, _, _, _, _, _, _, _, _, _, _, _, _, _, _, _, _, _, _, _, _, _, _, _, _, _, _, _, _, _, _, _, _, _, _, _, _, _, _, _, _, _, _, _, _, _, _, _, _, _, _, _, _, _, _, _, _, _, _, _, _, _, _, _, _, _, _, _, _, _, _, _, _, _, _, _, _, _, _, _, _, _, _, _, _, _, _, _, _, _, _, _, _, _, _, _, _, _, _, _, _, _, _, _, _, _, _], defers := _ } _
      refine wpAnyH_ready (rs := [3]) (by kernel_rfl) (by simp) ?_
      refine AllReadyH.cons rfl (fun KK hK => ?_) AllReadyH.nil
      go_simp
      refine (eqLink_yes K se tp (some ⟨gx, 0, none⟩) (some ⟨g2, 0, none⟩) n n n f h0'.out _ OX.out.bools X2.out).mono ?_
      rintro e v14 ⟨rfl, hb⟩
      replace A1 : Hid (Below w.heap.size w v14) := A1.out.trans (hb.mono A1.out.size)
      replace HB : Hid (Bools v14 a n f) := HB.out.below hb
      replace XW : Hid (Bools v14 aw n' f') := XW.out.below hb
      replace PW : Hid (Box4 v14 b6 29 (.string K') (.int .i64 se') (.int .i64 tp') (.slice aw n' cw)) := PW.out.below hb
      replace QW : Hid (BoxP v14 (b6 + 1) 31 (.int .i64 q) (.string B) (.string T)) := QW.out.below hb
      replace OX : Hid (OwnB v14 bs1 (some ⟨gx, 0, none⟩) n f) := OX.out.below hb
      replace S1 : Hid (bs1 ≤ (v14).heap.size) := Nat.le_trans S1.out hb.size
      replace OG : Hid (OwnB v14 bs2 ag n' f') := OG.out.below hb
      replace S2 : Hid (bs2 ≤ (v14).heap.size) := Nat.le_trans S2.out hb.size
      replace PG : Hid (Box4 v14 b10 29 (.string K') (.int .i64 se') (.int .i64 tp') (.slice ag n' cg)) := PG.out.below hb
      replace QG : Hid (BoxP v14 (b10 + 1) 31 (.int .i64 q) (.string B) (.string T)) := QG.out.below hb
      replace X2 : Hid (Bools v14 (some ⟨g2, 0, none⟩) n f) := X2.out.below hb
      replace H : (Box4 v14 w.heap.size 27 (.string K) (.int .i64 se) (.int .i64 tp) (.slice a n c)) ∧ (Box4 v14 bx 29 (.string K) (.int .i64 se) (.int .i64 tp) (.slice (some ⟨gx, 0, none⟩) n n)) := ⟨H.1.below hb, H.2.below hb⟩
      clear hb 
      refine hK.out _ _ H (fun _ => ?_)
      clear hK KK
      change wpAnyH _ _ _ _ _ _ _ { tmps := #[_, _, _, _, _, _, _, _, _, _, _, _, _, _, _, _, _, _, _, _, _, _, _, _, _, _, _, _, _, _, _, _, _, _, _, _, _, _, _, _, _, _, _, _, _, _, _, _, _, _, _, _, _, _, _, _, _, _, _, _, _, _, _, _, _, _, _, _, _, _, _, _, _, _, _, _, _, _, _, _, _, _, _, _, _, _, _, _, _, _, _, _, _, _, _, _, _, _, _, _, _, _, _, _, _, _, _, _, _, _, _, _, _, _, _, _, _, _, _, _, _, _, _, _, _, _, _, _], defers := _ } _
      refine wpAnyH_take (i := 4) (v := .bool false) rfl (by kernel_rfl) (by kernel_rfl) (by kernel_rfl) (fun _ _ _ h => h) (Or.inl ⟨by rfl, ?_⟩) H ?_
      · intro w' hSw; go_simp
      change wpAnyH _ _ _ _ _ _ _ { tmps := #[_, _, _, _, _, _, _, _, _, _, _, _, _, _, _, _, _, _, _, _, _, _, _, _, _, _, _, _, _, _, _, _, _, _, _, _, _, _, _, _, _, _, _, _, _, _, _, _, _, _, _, _, _, _, _, _, _, _, _, _, _, _, _, _, _, _, _, _, _, _, _, _, _, _, _, _, _, _, _, _, _, _, _, _, _, _, _, _, _, _, _, _, _, _, _, _, _, _, _, _, _, _, _, _, _, _, _, _, _, _, _, _, _, _, _, _, _, _, _, _, _, _, _, _, _, _, _, _], defers := _ } _
      have RA : Hid (Box4 v14 w.heap.size 27 (.string K) (.int .i64 se) (.int .i64 tp) (.slice a n c)) := H.1
      have PX : Hid (Box4 v14 bx 29 (.string K) (.int .i64 se) (.int .i64 tp) (.slice (some ⟨gx, 0, none⟩) n n)) := H.2
      clear H
      refine wpAnyH_done (by kernel_rfl) ?_ _
      refine NoPanic.normal ?_
      clear X2
      have t0 := PX.out.c0
      have t1 := PX.out.c1
      have t2 := PX.out.c2
      have t3 := PX.out.c3
      go_wp2_with fail
      clear t0 t1 t2 t3
      refine (markLink_own (.string K) (.int .i64 se) (.int .i64 tp) (some ⟨gx, 0, none⟩) n n bs1 f h0'.out _ OX.out).mono ?_
      rintro e v15 ⟨rfl, om, hO⟩
      have GE := OX.out.ge
      have BB : Below bs1 v14 v15 := hO.toBelow GE S1.out
      replace A1 : Hid (Below w.heap.size w v15) := A1.out.trans (BB.mono (Nat.le_of_lt WB.out))
      replace HB : Hid (Bools v15 a n f) := HB.out.onlyA2 hO (fun h0 _ x y hx hy e => by cases hy; have h1 := LA.out h0 x hx; have h2 := GX.out; have h3 := WB.out; have e' : gx = _ := e; omega)
      replace XW : Hid (Bools v15 aw n' f') := XW.out.onlyA2 hO (fun h0 _ x y hx hy e => by cases hy; have h1 := LW.out h0 x hx; have h2 := GX.out; have e' : gx = _ := e; omega)
      replace PW : Hid (Box4 v15 b6 29 (.string K') (.int .i64 se') (.int .i64 tp') (.slice aw n' cw)) := hO.keep4 PW.out (fun h0 p hp e => by cases hp; have h1 := P6.out; have h2 := GX.out; have h3 := LX2.out; have h4 := S12.out; have e' : gx = _ := e; omega)
      replace QW : Hid (BoxP v15 (b6 + 1) 31 (.int .i64 q) (.string B) (.string T)) := hO.keepP QW.out (fun h0 p hp e => by cases hp; have h1 := P6.out; have h2 := GX.out; have h3 := LX2.out; have h4 := S12.out; have e' : gx = _ := e; omega)
      replace S1 : Hid (bs1 ≤ (v15).heap.size) := Nat.le_trans S1.out hO.size
      replace OG : Hid (OwnB v15 bs2 ag n' f') := OG.out.onlyA hO (fun h0 _ x y hx hy e => by cases hy; have h1 := OG.out.ge h0 x hx; have h2 := LX2.out; have e' : gx = _ := e; omega)
      replace S2 : Hid (bs2 ≤ (v15).heap.size) := Nat.le_trans S2.out hO.size
      replace PG : Hid (Box4 v15 b10 29 (.string K') (.int .i64 se') (.int .i64 tp') (.slice ag n' cg)) := hO.keep4 PG.out (fun h0 p hp e => by cases hp; have h1 := GB.out; have h2 := GX.out; have h3 := LX2.out; have h4 := S12.out; have e' : gx = _ := e; omega)
      replace QG : Hid (BoxP v15 (b10 + 1) 31 (.int .i64 q) (.string B) (.string T)) := hO.keepP QG.out (fun h0 p hp e => by cases hp; have h1 := GB.out; have h2 := GX.out; have h3 := LX2.out; have h4 := S12.out; have e' : gx = _ := e; omega)
      replace RA : Hid (Box4 v15 w.heap.size 27 (.string K) (.int .i64 se) (.int .i64 tp) (.slice a n c)) := hO.keep4 RA.out (fun h0 p hp e => by cases hp; have h1 := WB.out; have h2 := GX.out; have h3 := LX2.out; have h4 := S12.out; have e' : gx = _ := e; omega)
      clear om hO BB GE PX OX
      generalize ((1 + n : Nat) : Int) = NX at *
      have t0 := PG.out.c0
      have t1 := PG.out.c1
      have t2 := PG.out.c2
      have t3 := PG.out.c3
      have u0 := PW.out.c0
      have u1 := PW.out.c1
      have u2 := PW.out.c2
      have u3 := PW.out.c3
      go_wp2_with fail
      clear t0 t1 t2 t3 u0 u1 u2 u3
      refine (eqLink_yes K' se' tp' ag aw n' cg cw f' (by have := HN.out; omega) _ OG.out.bools XW.out).mono ?_
      rintro e v16 ⟨rfl, hb⟩
      replace A1 : Hid (Below w.heap.size w v16) := A1.out.trans (hb.mono A1.out.size)
      replace HB : Hid (Bools v16 a n f) := HB.out.below hb
      replace XW : Hid (Bools v16 aw n' f') := XW.out.below hb
      replace PW : Hid (Box4 v16 b6 29 (.string K') (.int .i64 se') (.int .i64 tp') (.slice aw n' cw)) := PW.out.below hb
      replace QW : Hid (BoxP v16 (b6 + 1) 31 (.int .i64 q) (.string B) (.string T)) := QW.out.below hb
      replace S1 : Hid (bs1 ≤ (v16).heap.size) := Nat.le_trans S1.out hb.size
      replace OG : Hid (OwnB v16 bs2 ag n' f') := OG.out.below hb
      replace S2 : Hid (bs2 ≤ (v16).heap.size) := Nat.le_trans S2.out hb.size
      replace PG : Hid (Box4 v16 b10 29 (.string K') (.int .i64 se') (.int .i64 tp') (.slice ag n' cg)) := PG.out.below hb
      replace QG : Hid (BoxP v16 (b10 + 1) 31 (.int .i64 q) (.string B) (.string T)) := QG.out.below hb
      replace RA : Hid (Box4 v16 w.heap.size 27 (.string K) (.int .i64 se) (.int .i64 tp) (.slice a n c)) := RA.out.below hb
      clear hb 
      have s0 := QG.out.c0
      have s1 := QG.out.c1
      have s2 := QG.out.c2
      have r0 := QW.out.c0
      have r1 := QW.out.c1
      have r2 := QW.out.c2
      go_wp2_with fail
      clear s0 s1 s2 r0 r1 r2
      refine (eqPacket_yes q B T _).mono ?_
      rintro e v17 ⟨rfl, hb⟩
      replace A1 : Hid (Below w.heap.size w v17) := A1.out.trans (hb.mono A1.out.size)
      replace HB : Hid (Bools v17 a n f) := HB.out.below hb
      replace XW : Hid (Bools v17 aw n' f') := XW.out.below hb
      replace PW : Hid (Box4 v17 b6 29 (.string K') (.int .i64 se') (.int .i64 tp') (.slice aw n' cw)) := PW.out.below hb
      replace QW : Hid (BoxP v17 (b6 + 1) 31 (.int .i64 q) (.string B) (.string T)) := QW.out.below hb
      replace S1 : Hid (bs1 ≤ (v17).heap.size) := Nat.le_trans S1.out hb.size
      replace OG : Hid (OwnB v17 bs2 ag n' f') := OG.out.below hb
      replace S2 : Hid (bs2 ≤ (v17).heap.size) := Nat.le_trans S2.out hb.size
      replace PG : Hid (Box4 v17 b10 29 (.string K') (.int .i64 se') (.int .i64 tp') (.slice ag n' cg)) := PG.out.below hb
      replace QG : Hid (BoxP v17 (b10 + 1) 31 (.int .i64 q) (.string B) (.string T)) := QG.out.below hb
      replace RA : Hid (Box4 v17 w.heap.size 27 (.string K) (.int .i64 se) (.int .i64 tp) (.slice a n c)) := RA.out.below hb
      clear hb 
      have t0 := PG.out.c0
      have t1 := PG.out.c1
      have t2 := PG.out.c2
      have t3 := PG.out.c3
      go_wp2_with fail
      clear t0 t1 t2 t3
      refine (markLink_own (.string K') (.int .i64 se') (.int .i64 tp') ag n' cg bs2 f' (by have := HN.out; omega) _ OG.out).mono ?_
      rintro e v18 ⟨rfl, om, hO⟩
      have GE := OG.out.ge
      have BB : Below bs2 v17 v18 := hO.toBelow GE S2.out
      replace A1 : Hid (Below w.heap.size w v18) := A1.out.trans (BB.mono (Nat.le_trans (Nat.le_of_lt WB.out) S12.out))
      replace HB : Hid (Bools v18 a n f) := HB.out.onlyA2 hO (fun h0 h0x x y hx hy e => by have h1 := LA.out h0 x hx; have h2 := GE h0x y hy; have h3 := WB.out; have h4 := S12.out; omega)
      replace XW : Hid (Bools v18 aw n' f') := XW.out.onlyA2 hO (fun h0 h0x x y hx hy e => by have h1 := LW.out h0 x hx; have h2 := GE h0x y hy; have h4 := S12.out; omega)
      replace PW : Hid (Box4 v18 b6 29 (.string K') (.int .i64 se') (.int .i64 tp') (.slice aw n' cw)) := hO.keep4 PW.out (fun h0 p hp e => by have h0' := GE h0 p hp; have h1 := P6.out; have h2 := S12.out; omega)
      replace QW : Hid (BoxP v18 (b6 + 1) 31 (.int .i64 q) (.string B) (.string T)) := hO.keepP QW.out (fun h0 p hp e => by have h0' := GE h0 p hp; have h1 := P6.out; have h2 := S12.out; omega)
      replace S1 : Hid (bs1 ≤ (v18).heap.size) := Nat.le_trans S1.out hO.size
      replace S2 : Hid (bs2 ≤ (v18).heap.size) := Nat.le_trans S2.out hO.size
      replace PG : Hid (Box4 v18 b10 29 (.string K') (.int .i64 se') (.int .i64 tp') (.slice ag n' cg)) := hO.keep4 PG.out (fun h0 p hp e => by have h1 := LG.out h0 p hp; omega)
      replace QG : Hid (BoxP v18 (b10 + 1) 31 (.int .i64 q) (.string B) (.string T)) := hO.keepP QG.out (fun h0 p hp e => by have h1 := LG.out h0 p hp; omega)
      replace RA : Hid (Box4 v18 w.heap.size 27 (.string K) (.int .i64 se) (.int .i64 tp) (.slice a n c)) := hO.keep4 RA.out (fun h0 p hp e => by have h0' := GE h0 p hp; have h1 := WB.out; have h2 := S12.out; omega)
      have OM : Hid (Bools v18 ag n' (fun i => mb (1 + i))) := om.bools
      clear om hO BB GE OG
      generalize hNN : ((1 + n' : Nat) : Int) = NN at *
      have HE : Hid (∀ w : World, Bools w ag n' (fun i => mb (1 + i)) → Calls Tryd.prog 15 #[.agg #[.string K', .int .i64 se', .int .i64 tp', .slice ag n' cg], .int .i64 1] w fun e w' => e = .returned (.int .i64 NN) ∧ Below w.heap.size w w') := fun w h => by rw [← hNN]; exact heldLink_yes (.string K') (.int .i64 se') (.int .i64 tp') ag n' cg (by have := HN.out; omega) w h
      clear hNN
      have t0 := PG.out.c0
      have t1 := PG.out.c1
      have t2 := PG.out.c2
      have t3 := PG.out.c3
      go_wp2_with fail
      clear t0 t1 t2 t3
      refine (HE.out _ OM.out).mono ?_
      rintro e v19 ⟨rfl, hb⟩
      replace A1 : Hid (Below w.heap.size w v19) := A1.out.trans (hb.mono A1.out.size)
      replace HB : Hid (Bools v19 a n f) := HB.out.below hb
      replace XW : Hid (Bools v19 aw n' f') := XW.out.below hb
      replace PW : Hid (Box4 v19 b6 29 (.string K') (.int .i64 se') (.int .i64 tp') (.slice aw n' cw)) := PW.out.below hb
      replace QW : Hid (BoxP v19 (b6 + 1) 31 (.int .i64 q) (.string B) (.string T)) := QW.out.below hb
      replace S1 : Hid (bs1 ≤ (v19).heap.size) := Nat.le_trans S1.out hb.size
      replace S2 : Hid (bs2 ≤ (v19).heap.size) := Nat.le_trans S2.out hb.size
      replace PG : Hid (Box4 v19 b10 29 (.string K') (.int .i64 se') (.int .i64 tp') (.slice ag n' cg)) := PG.out.below hb
      replace QG : Hid (BoxP v19 (b10 + 1) 31 (.int .i64 q) (.string B) (.string T)) := QG.out.below hb
      replace RA : Hid (Box4 v19 w.heap.size 27 (.string K) (.int .i64 se) (.int .i64 tp) (.slice a n c)) := RA.out.below hb
      replace OM : Hid (Bools v19 ag n' (fun i => mb (1 + i))) := OM.out.below hb
      clear hb 
      have t0 := RA.out.c0
      have t1 := RA.out.c1
      have t2 := RA.out.c2
      have t3 := RA.out.c3
      go_wp2_with fail
      clear t0 t1 t2 t3
      refine (TL.out _ HB.out).mono ?_
      rintro e v20 ⟨⟨g3, hg3, rfl, hr3⟩, hb⟩
      replace A1 : Hid (Below w.heap.size w v20) := A1.out.trans (hb.mono A1.out.size)
      replace HB : Hid (Bools v20 a n f) := HB.out.below hb
      replace XW : Hid (Bools v20 aw n' f') := XW.out.below hb
      replace PW : Hid (Box4 v20 b6 29 (.string K') (.int .i64 se') (.int .i64 tp') (.slice aw n' cw)) := PW.out.below hb
      replace QW : Hid (BoxP v20 (b6 + 1) 31 (.int .i64 q) (.string B) (.string T)) := QW.out.below hb
      replace S1 : Hid (bs1 ≤ (v20).heap.size) := Nat.le_trans S1.out hb.size
      replace S2 : Hid (bs2 ≤ (v20).heap.size) := Nat.le_trans S2.out hb.size
      replace PG : Hid (Box4 v20 b10 29 (.string K') (.int .i64 se') (.int .i64 tp') (.slice ag n' cg)) := PG.out.below hb
      replace QG : Hid (BoxP v20 (b10 + 1) 31 (.int .i64 q) (.string B) (.string T)) := QG.out.below hb
      replace RA : Hid (Box4 v20 w.heap.size 27 (.string K) (.int .i64 se) (.int .i64 tp) (.slice a n c)) := RA.out.below hb
      replace OM : Hid (Bools v20 ag n' (fun i => mb (1 + i))) := OM.out.below hb
      have X3 : Hid (Bools v20 (some ⟨g3, 0, none⟩) n f) := Bools.ofRow hr3
      clear hb hr3 hg3 TL
      go_wp2_with fail
      refine (IS.out g3 n _ X3.out (HT.out.below A1.out)).mono ?_
      rintro e v21 ⟨⟨ah, ch, rfl, oh⟩, hb⟩
      replace A1 : Hid (Below w.heap.size w v21) := A1.out.trans (hb.mono A1.out.size)
      replace HB : Hid (Bools v21 a n f) := HB.out.below hb
      replace XW : Hid (Bools v21 aw n' f') := XW.out.below hb
      replace PW : Hid (Box4 v21 b6 29 (.string K') (.int .i64 se') (.int .i64 tp') (.slice aw n' cw)) := PW.out.below hb
      replace QW : Hid (BoxP v21 (b6 + 1) 31 (.int .i64 q) (.string B) (.string T)) := QW.out.below hb
      replace S1 : Hid (bs1 ≤ (v21).heap.size) := Nat.le_trans S1.out hb.size
      replace S2 : Hid (bs2 ≤ (v21).heap.size) := Nat.le_trans S2.out hb.size
      replace PG : Hid (Box4 v21 b10 29 (.string K') (.int .i64 se') (.int .i64 tp') (.slice ag n' cg)) := PG.out.below hb
      replace QG : Hid (BoxP v21 (b10 + 1) 31 (.int .i64 q) (.string B) (.string T)) := QG.out.below hb
      replace RA : Hid (Box4 v21 w.heap.size 27 (.string K) (.int .i64 se) (.int .i64 tp) (.slice a n c)) := RA.out.below hb
      replace OM : Hid (Bools v21 ag n' (fun i => mb (1 + i))) := OM.out.below hb
      replace X3 : Hid (Bools v21 (some ⟨g3, 0, none⟩) n f) := X3.out.below hb
      have XH : Hid (Bools v21 ah n' f') := oh.bools
      clear hb oh IS
      clear X3
      have hb : Below v21.heap.size v21 ((v21.alloc (.cells #[.string K', .int .i64 se', .int .i64 tp', .slice ah n' ch] 29)).alloc (.cells #[.int .i64 q, .string B, .string T] 31)) := ((Below.refl v21.heap.size v21).alloc (Nat.le_refl _) _).alloc (by simp) _
      have PH : Hid (Box4 ((v21.alloc (.cells #[.string K', .int .i64 se', .int .i64 tp', .slice ah n' ch] 29)).alloc (.cells #[.int .i64 q, .string B, .string T] 31)) v21.heap.size 29 (.string K') (.int .i64 se') (.int .i64 tp') (.slice ah n' ch)) := (Box4.madeAt rfl _ _ _ _ _).alloc _
      have QH : Hid (BoxP ((v21.alloc (.cells #[.string K', .int .i64 se', .int .i64 tp', .slice ah n' ch] 29)).alloc (.cells #[.int .i64 q, .string B, .string T] 31)) (v21.heap.size + 1) 31 (.int .i64 q) (.string B) (.string T)) := BoxP.madeAt (by simp) _ _ _ _
      have vis00 := (PW.out.below hb).c0
      have vis01 := (PW.out.below hb).c1
      have vis02 := (PW.out.below hb).c2
      have vis03 := (PW.out.below hb).c3
      go_wp2_with fail
      generalize ((v21.alloc (.cells #[.string K', .int .i64 se', .int .i64 tp', .slice ah n' ch] 29)).alloc (.cells #[.int .i64 q, .string B, .string T] 31)) = v22 at *
      replace A1 : Hid (Below w.heap.size w v22) := A1.out.trans (hb.mono A1.out.size)
      replace HB : Hid (Bools v22 a n f) := HB.out.below hb
      replace XW : Hid (Bools v22 aw n' f') := XW.out.below hb
      replace PW : Hid (Box4 v22 b6 29 (.string K') (.int .i64 se') (.int .i64 tp') (.slice aw n' cw)) := PW.out.below hb
      replace QW : Hid (BoxP v22 (b6 + 1) 31 (.int .i64 q) (.string B) (.string T)) := QW.out.below hb
      replace S1 : Hid (bs1 ≤ (v22).heap.size) := Nat.le_trans S1.out hb.size
      replace S2 : Hid (bs2 ≤ (v22).heap.size) := Nat.le_trans S2.out hb.size
      replace PG : Hid (Box4 v22 b10 29 (.string K') (.int .i64 se') (.int .i64 tp') (.slice ag n' cg)) := PG.out.below hb
      replace QG : Hid (BoxP v22 (b10 + 1) 31 (.int .i64 q) (.string B) (.string T)) := QG.out.below hb
      replace RA : Hid (Box4 v22 w.heap.size 27 (.string K) (.int .i64 se) (.int .i64 tp) (.slice a n c)) := RA.out.below hb
      replace OM : Hid (Bools v22 ag n' (fun i => mb (1 + i))) := OM.out.below hb
      replace XH : Hid (Bools v22 ah n' f') := XH.out.below hb
      clear hb vis00 vis01 vis02 vis03
      obtain ⟨b16, hb16⟩ : ∃ bx, bx = v21.heap.size := ⟨_, rfl⟩
      rw [← hb16] at PH QH ⊢
      clear hb16
      refine (eqLink_yes K' se' tp' ah aw n' ch cw f' (by have := HN.out; omega) _ XH.out XW.out).mono ?_
      rintro e v23 ⟨rfl, hb⟩
      replace A1 : Hid (Below w.heap.size w v23) := A1.out.trans (hb.mono A1.out.size)
      replace HB : Hid (Bools v23 a n f) := HB.out.below hb
      replace XW : Hid (Bools v23 aw n' f') := XW.out.below hb
      replace PW : Hid (Box4 v23 b6 29 (.string K') (.int .i64 se') (.int .i64 tp') (.slice aw n' cw)) := PW.out.below hb
      replace QW : Hid (BoxP v23 (b6 + 1) 31 (.int .i64 q) (.string B) (.string T)) := QW.out.below hb
      replace S1 : Hid (bs1 ≤ (v23).heap.size) := Nat.le_trans S1.out hb.size
      replace S2 : Hid (bs2 ≤ (v23).heap.size) := Nat.le_trans S2.out hb.size
      replace PG : Hid (Box4 v23 b10 29 (.string K') (.int .i64 se') (.int .i64 tp') (.slice ag n' cg)) := PG.out.below hb
      replace QG : Hid (BoxP v23 (b10 + 1) 31 (.int .i64 q) (.string B) (.string T)) := QG.out.below hb
      replace RA : Hid (Box4 v23 w.heap.size 27 (.string K) (.int .i64 se) (.int .i64 tp) (.slice a n c)) := RA.out.below hb
      replace OM : Hid (Bools v23 ag n' (fun i => mb (1 + i))) := OM.out.below hb
      replace XH : Hid (Bools v23 ah n' f') := XH.out.below hb
      replace PH : Hid (Box4 v23 b16 29 (.string K') (.int .i64 se') (.int .i64 tp') (.slice ah n' ch)) := PH.out.below hb
      replace QH : Hid (BoxP v23 (b16 + 1) 31 (.int .i64 q) (.string B) (.string T)) := QH.out.below hb
      clear hb 
      have s0 := QH.out.c0
      have s1 := QH.out.c1
      have s2 := QH.out.c2
      have r0 := QW.out.c0
      have r1 := QW.out.c1
      have r2 := QW.out.c2
      go_wp2_with fail
      clear s0 s1 s2 r0 r1 r2
      refine (eqPacket_yes q B T _).mono ?_
      rintro e v24 ⟨rfl, hb⟩
      replace A1 : Hid (Below w.heap.size w v24) := A1.out.trans (hb.mono A1.out.size)
      replace HB : Hid (Bools v24 a n f) := HB.out.below hb
      replace XW : Hid (Bools v24 aw n' f') := XW.out.below hb
      replace PW : Hid (Box4 v24 b6 29 (.string K') (.int .i64 se') (.int .i64 tp') (.slice aw n' cw)) := PW.out.below hb
      replace QW : Hid (BoxP v24 (b6 + 1) 31 (.int .i64 q) (.string B) (.string T)) := QW.out.below hb
      replace S1 : Hid (bs1 ≤ (v24).heap.size) := Nat.le_trans S1.out hb.size
      replace S2 : Hid (bs2 ≤ (v24).heap.size) := Nat.le_trans S2.out hb.size
      replace PG : Hid (Box4 v24 b10 29 (.string K') (.int .i64 se') (.int .i64 tp') (.slice ag n' cg)) := PG.out.below hb
      replace QG : Hid (BoxP v24 (b10 + 1) 31 (.int .i64 q) (.string B) (.string T)) := QG.out.below hb
      replace RA : Hid (Box4 v24 w.heap.size 27 (.string K) (.int .i64 se) (.int .i64 tp) (.slice a n c)) := RA.out.below hb
      replace OM : Hid (Bools v24 ag n' (fun i => mb (1 + i))) := OM.out.below hb
      replace XH : Hid (Bools v24 ah n' f') := XH.out.below hb
      replace PH : Hid (Box4 v24 b16 29 (.string K') (.int .i64 se') (.int .i64 tp') (.slice ah n' ch)) := PH.out.below hb
      replace QH : Hid (BoxP v24 (b16 + 1) 31 (.int .i64 q) (.string B) (.string T)) := QH.out.below hb
      clear hb 
      have t0 := PG.out.c0
      have t1 := PG.out.c1
      have t2 := PG.out.c2
      have t3 := PG.out.c3
      go_wp2_with fail
      clear t0 t1 t2 t3
      refine (HE.out _ OM.out).mono ?_
      rintro e v25 ⟨rfl, hb⟩
      replace A1 : Hid (Below w.heap.size w v25) := A1.out.trans (hb.mono A1.out.size)
      replace HB : Hid (Bools v25 a n f) := HB.out.below hb
      replace XW : Hid (Bools v25 aw n' f') := XW.out.below hb
      replace PW : Hid (Box4 v25 b6 29 (.string K') (.int .i64 se') (.int .i64 tp') (.slice aw n' cw)) := PW.out.below hb
      replace QW : Hid (BoxP v25 (b6 + 1) 31 (.int .i64 q) (.string B) (.string T)) := QW.out.below hb
      replace S1 : Hid (bs1 ≤ (v25).heap.size) := Nat.le_trans S1.out hb.size
      replace S2 : Hid (bs2 ≤ (v25).heap.size) := Nat.le_trans S2.out hb.size
      replace PG : Hid (Box4 v25 b10 29 (.string K') (.int .i64 se') (.int .i64 tp') (.slice ag n' cg)) := PG.out.below hb
      replace QG : Hid (BoxP v25 (b10 + 1) 31 (.int .i64 q) (.string B) (.string T)) := QG.out.below hb
      replace RA : Hid (Box4 v25 w.heap.size 27 (.string K) (.int .i64 se) (.int .i64 tp) (.slice a n c)) := RA.out.below hb
      replace OM : Hid (Bools v25 ag n' (fun i => mb (1 + i))) := OM.out.below hb
      replace XH : Hid (Bools v25 ah n' f') := XH.out.below hb
      replace PH : Hid (Box4 v25 b16 29 (.string K') (.int .i64 se') (.int .i64 tp') (.slice ah n' ch)) := PH.out.below hb
      replace QH : Hid (BoxP v25 (b16 + 1) 31 (.int .i64 q) (.string B) (.string T)) := QH.out.below hb
      clear hb 
      clear HB XW PW QW S1 S2 PG QG RA OM XH PH QH
      go_wp2
      go_ret
      exact ⟨rfl, A1.out⟩
end Go.Proofs.YtkhglllicblbbabDoor
