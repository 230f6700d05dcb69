/-
  The exact law of NewLink.
-/
import Derived.Test.YtkhglllicblbbaaNewL
namespace Go.Proofs.Ytkhglllicblbbaa
open Go.ChangeShapes Go.WideShapes Go.ChangeAt Go.RowKit
set_option linter.unusedVariables false
set_option maxRecDepth 100000 in
set_option maxHeartbeats 4000000 in
theorem law_newLink (K : ByteArray) (w : World) :
    Calls Try.prog 3 #[.string K] w fun e w' => e = .returned (.bool true) ∧ Below w.heap.size w w' := by
  obtain ⟨K', n, code, hA⟩ := nlA_ex K
  have SN : Hid (∀ w : World, Calls Try.prog 4 #[.string K] w fun e w' => RetL w w' e K' 0 0 n (fun _ => false) code ∧ Below w.heap.size w w') := fun w => specNewL_any K K' n code hA w
  have IN : Hid (∀ w : World, Calls Try.prog 5 #[.string K] w fun e w' => RetL w w' e K' 0 0 n (fun _ => false) code ∧ Below w.heap.size w w') := fun w => implNewL_any K K' n code hA w
  have HN : Hid (n ≤ 32) := hA.le
  have k0 : ¬ ((1 + n : Nat) : Int) < 0 := by omega
  clear hA
  by_cases h1 : (1048576 : Int) < (K.size : Int)
  · clear SN IN HN k0
    go_enter Try.func3, Try.ntmps3
    go_wp2
    go_ret
    exact ⟨rfl, Below.refl _ _⟩
  · have A1 : Hid (Below w.heap.size w w) := Below.refl _ _
    go_enter Try.func3, Try.ntmps3
    go_wp2_with fail
    refine (SN.out _).mono ?_
    rintro e v1 ⟨⟨aw, cw, rfl, ow⟩, hb⟩
    replace A1 : Hid (Below w.heap.size w v1) := A1.out.trans (hb.mono A1.out.size)
    have XW : Hid (Bools v1 aw n (fun _ => false)) := ow.bools
    clear hb ow SN
    have hb : Below v1.heap.size v1 (v1.alloc (.cells #[.string K', .int .i64 0, .int .i64 0, .slice aw n cw] 24)) := (Below.refl _ _).alloc (Nat.le_refl _) _
    have PW : Hid (Box4 (v1.alloc (.cells #[.string K', .int .i64 0, .int .i64 0, .slice aw n cw] 24)) v1.heap.size 24 (.string K') (.int .i64 0) (.int .i64 0) (.slice aw n cw)) := Box4.madeAt rfl _ _ _ _ _
    go_wp2_with fail
    generalize (v1.alloc (.cells #[.string K', .int .i64 0, .int .i64 0, .slice aw n cw] 24)) = v2 at *
    replace A1 : Hid (Below w.heap.size w v2) := A1.out.trans (hb.mono A1.out.size)
    replace XW : Hid (Bools v2 aw n (fun _ => false)) := XW.out.below hb
    clear hb 
    obtain ⟨b3, hb3⟩ : ∃ bx, bx = v1.heap.size := ⟨_, rfl⟩
    rw [← hb3] at PW ⊢
    clear hb3
    obtain ⟨bs, hbs⟩ : ∃ x, x = v2.heap.size := ⟨_, rfl⟩
    have LW : Hid (0 < n → ∀ p, aw = some p → p.block < bs) := by rw [hbs]; exact XW.out.ltB
    have PB : Hid (b3 < bs) := by rw [hbs]; exact PW.out.lt
    have WB : Hid (w.heap.size ≤ bs) := by rw [hbs]; exact A1.out.size
    refine (IN.out _).mono ?_
    rintro e v3 ⟨⟨ag, cg, rfl, og⟩, hb⟩
    replace A1 : Hid (Below w.heap.size w v3) := A1.out.trans (hb.mono A1.out.size)
    replace XW : Hid (Bools v3 aw n (fun _ => false)) := XW.out.below hb
    replace PW : Hid (Box4 v3 b3 24 (.string K') (.int .i64 0) (.int .i64 0) (.slice aw n cw)) := PW.out.below hb
    have OG : Hid (OwnB v3 bs ag n (fun _ => false)) := by rw [hbs]; exact og
    have BS : Hid (bs ≤ v3.heap.size) := by rw [hbs]; exact hb.size
    have LG : Hid (0 < n → ∀ p, ag = some p → p.block < v3.heap.size) := og.bools.ltB
    clear hb og hbs
    have hb : Below v3.heap.size v3 (v3.alloc (.cells #[.string K', .int .i64 0, .int .i64 0, .slice ag n cg] 24)) := (Below.refl _ _).alloc (Nat.le_refl _) _
    have PG : Hid (Box4 (v3.alloc (.cells #[.string K', .int .i64 0, .int .i64 0, .slice ag n cg] 24)) v3.heap.size 24 (.string K') (.int .i64 0) (.int .i64 0) (.slice ag n cg)) := Box4.madeAt rfl _ _ _ _ _
    have vis00 := (PW.out.below hb).c0
    have vis01 := (PW.out.below hb).c1
    have vis02 := (PW.out.below hb).c2
    have vis03 := (PW.out.below hb).c3
    go_wp2_with fail
    generalize (v3.alloc (.cells #[.string K', .int .i64 0, .int .i64 0, .slice ag n cg] 24)) = v4 at *
    replace A1 : Hid (Below w.heap.size w v4) := A1.out.trans (hb.mono A1.out.size)
    replace XW : Hid (Bools v4 aw n (fun _ => false)) := XW.out.below hb
    replace PW : Hid (Box4 v4 b3 24 (.string K') (.int .i64 0) (.int .i64 0) (.slice aw n cw)) := PW.out.below hb
    replace OG : Hid (OwnB v4 bs ag n (fun _ => false)) := OG.out.below hb
    replace BS : Hid (bs ≤ (v4).heap.size) := Nat.le_trans BS.out hb.size
    clear hb vis00 vis01 vis02 vis03
    obtain ⟨b5, hb5⟩ : ∃ bx, bx = v3.heap.size := ⟨_, rfl⟩
    rw [← hb5] at PG LG ⊢
    clear hb5
    refine (eqLink_yes K' 0 0 ag aw n cg cw (fun _ => false) (by have := HN.out; omega) _ OG.out.bools XW.out).mono ?_
    rintro e v5 ⟨rfl, hb⟩
    replace A1 : Hid (Below w.heap.size w v5) := A1.out.trans (hb.mono A1.out.size)
    replace XW : Hid (Bools v5 aw n (fun _ => false)) := XW.out.below hb
    replace PW : Hid (Box4 v5 b3 24 (.string K') (.int .i64 0) (.int .i64 0) (.slice aw n cw)) := PW.out.below hb
    replace OG : Hid (OwnB v5 bs ag n (fun _ => false)) := OG.out.below hb
    replace BS : Hid (bs ≤ (v5).heap.size) := Nat.le_trans BS.out hb.size
    replace PG : Hid (Box4 v5 b5 24 (.string K') (.int .i64 0) (.int .i64 0) (.slice ag n cg)) := PG.out.below hb
    clear hb 
    have t0 := PG.out.c0
    have t1 := PG.out.c1
    have t2 := PG.out.c2
    have t3 := PG.out.c3
    go_wp2_with fail
    clear t0 t1 t2 t3
    refine (markLink_own (.string K') (.int .i64 0) (.int .i64 0) ag n cg bs (fun _ => false) (by have := HN.out; omega) _ OG.out).mono ?_
    rintro e v6 ⟨rfl, om, hO⟩
    have BB : Below bs v5 v6 := hO.toBelow OG.out.ge BS.out
    replace A1 : Hid (Below w.heap.size w v6) := A1.out.trans (BB.mono WB.out)
    replace XW : Hid (Bools v6 aw n (fun _ => false)) := XW.out.onlyA hO (fun h0 x y hx hy e => by have h1 := LW.out h0 x hx; have h2 := OG.out.ge h0 y hy; omega)
    replace PW : Hid (Box4 v6 b3 24 (.string K') (.int .i64 0) (.int .i64 0) (.slice aw n cw)) := hO.keep4 PW.out (fun h0 p hp e => by have h1 := OG.out.ge h0 p hp; have h2 := PB.out; omega)
    replace PG : Hid (Box4 v6 b5 24 (.string K') (.int .i64 0) (.int .i64 0) (.slice ag n cg)) := hO.keep4 PG.out (fun h0 p hp e => by have h1 := LG.out h0 p hp; omega)
    replace BS : Hid (bs ≤ v6.heap.size) := Nat.le_trans BS.out hO.size
    have OM : Hid (Bools v6 ag n (fun i => mb (1 + i))) := om.bools
    clear om hO BB OG
    generalize hNN : ((1 + n : Nat) : Int) = NN at *
    have HE : Hid (∀ w : World, Bools w ag n (fun i => mb (1 + i)) → Calls Try.prog 8 #[.agg #[.string K', .int .i64 0, .int .i64 0, .slice ag n cg], .int .i64 1] w fun e w' => e = .returned (.int .i64 NN) ∧ Below w.heap.size w w') := fun w h => by rw [← hNN]; exact heldLink_yes (.string K') (.int .i64 0) (.int .i64 0) ag n cg (by have := HN.out; omega) w h
    clear hNN
    have t0 := PG.out.c0
    have t1 := PG.out.c1
    have t2 := PG.out.c2
    have t3 := PG.out.c3
    go_wp2_with fail
    clear t0 t1 t2 t3
    refine (HE.out _ OM.out).mono ?_
    rintro e v7 ⟨rfl, hb⟩
    replace A1 : Hid (Below w.heap.size w v7) := A1.out.trans (hb.mono A1.out.size)
    replace XW : Hid (Bools v7 aw n (fun _ => false)) := XW.out.below hb
    replace PW : Hid (Box4 v7 b3 24 (.string K') (.int .i64 0) (.int .i64 0) (.slice aw n cw)) := PW.out.below hb
    replace BS : Hid (bs ≤ (v7).heap.size) := Nat.le_trans BS.out hb.size
    replace PG : Hid (Box4 v7 b5 24 (.string K') (.int .i64 0) (.int .i64 0) (.slice ag n cg)) := PG.out.below hb
    replace OM : Hid (Bools v7 ag n (fun i => mb (1 + i))) := OM.out.below hb
    clear hb 
    go_wp2_with fail
    refine (IN.out _).mono ?_
    rintro e v8 ⟨⟨ah, ch, rfl, oh⟩, hb⟩
    replace A1 : Hid (Below w.heap.size w v8) := A1.out.trans (hb.mono A1.out.size)
    replace XW : Hid (Bools v8 aw n (fun _ => false)) := XW.out.below hb
    replace PW : Hid (Box4 v8 b3 24 (.string K') (.int .i64 0) (.int .i64 0) (.slice aw n cw)) := PW.out.below hb
    replace BS : Hid (bs ≤ (v8).heap.size) := Nat.le_trans BS.out hb.size
    replace PG : Hid (Box4 v8 b5 24 (.string K') (.int .i64 0) (.int .i64 0) (.slice ag n cg)) := PG.out.below hb
    replace OM : Hid (Bools v8 ag n (fun i => mb (1 + i))) := OM.out.below hb
    have XH : Hid (Bools v8 ah n (fun _ => false)) := oh.bools
    clear hb oh IN
    have hb : Below v8.heap.size v8 (v8.alloc (.cells #[.string K', .int .i64 0, .int .i64 0, .slice ah n ch] 24)) := (Below.refl _ _).alloc (Nat.le_refl _) _
    have PH : Hid (Box4 (v8.alloc (.cells #[.string K', .int .i64 0, .int .i64 0, .slice ah n ch] 24)) v8.heap.size 24 (.string K') (.int .i64 0) (.int .i64 0) (.slice ah n ch)) := Box4.madeAt rfl _ _ _ _ _
    have vis00 := (PW.out.below hb).c0
    have vis01 := (PW.out.below hb).c1
    have vis02 := (PW.out.below hb).c2
    have vis03 := (PW.out.below hb).c3
    go_wp2_with fail
    generalize (v8.alloc (.cells #[.string K', .int .i64 0, .int .i64 0, .slice ah n ch] 24)) = v9 at *
    replace A1 : Hid (Below w.heap.size w v9) := A1.out.trans (hb.mono A1.out.size)
    replace XW : Hid (Bools v9 aw n (fun _ => false)) := XW.out.below hb
    replace PW : Hid (Box4 v9 b3 24 (.string K') (.int .i64 0) (.int .i64 0) (.slice aw n cw)) := PW.out.below hb
    replace BS : Hid (bs ≤ (v9).heap.size) := Nat.le_trans BS.out hb.size
    replace PG : Hid (Box4 v9 b5 24 (.string K') (.int .i64 0) (.int .i64 0) (.slice ag n cg)) := PG.out.below hb
    replace OM : Hid (Bools v9 ag n (fun i => mb (1 + i))) := OM.out.below hb
    replace XH : Hid (Bools v9 ah n (fun _ => false)) := XH.out.below hb
    clear hb vis00 vis01 vis02 vis03
    obtain ⟨b9, hb9⟩ : ∃ bx, bx = v8.heap.size := ⟨_, rfl⟩
    rw [← hb9] at PH ⊢
    clear hb9
    refine (eqLink_yes K' 0 0 ah aw n ch cw (fun _ => false) (by have := HN.out; omega) _ XH.out XW.out).mono ?_
    rintro e v10 ⟨rfl, hb⟩
    replace A1 : Hid (Below w.heap.size w v10) := A1.out.trans (hb.mono A1.out.size)
    replace XW : Hid (Bools v10 aw n (fun _ => false)) := XW.out.below hb
    replace PW : Hid (Box4 v10 b3 24 (.string K') (.int .i64 0) (.int .i64 0) (.slice aw n cw)) := PW.out.below hb
    replace BS : Hid (bs ≤ (v10).heap.size) := Nat.le_trans BS.out hb.size
    replace PG : Hid (Box4 v10 b5 24 (.string K') (.int .i64 0) (.int .i64 0) (.slice ag n cg)) := PG.out.below hb
    replace OM : Hid (Bools v10 ag n (fun i => mb (1 + i))) := OM.out.below hb
    replace XH : Hid (Bools v10 ah n (fun _ => false)) := XH.out.below hb
    replace PH : Hid (Box4 v10 b9 24 (.string K') (.int .i64 0) (.int .i64 0) (.slice ah n ch)) := PH.out.below hb
    clear hb 
    have t0 := PG.out.c0
    have t1 := PG.out.c1
    have t2 := PG.out.c2
    have t3 := PG.out.c3
    go_wp2_with fail
    clear t0 t1 t2 t3
    refine (HE.out _ OM.out).mono ?_
    rintro e v11 ⟨rfl, hb⟩
    replace A1 : Hid (Below w.heap.size w v11) := A1.out.trans (hb.mono A1.out.size)
    replace XW : Hid (Bools v11 aw n (fun _ => false)) := XW.out.below hb
    replace PW : Hid (Box4 v11 b3 24 (.string K') (.int .i64 0) (.int .i64 0) (.slice aw n cw)) := PW.out.below hb
    replace BS : Hid (bs ≤ (v11).heap.size) := Nat.le_trans BS.out hb.size
    replace PG : Hid (Box4 v11 b5 24 (.string K') (.int .i64 0) (.int .i64 0) (.slice ag n cg)) := PG.out.below hb
    replace OM : Hid (Bools v11 ag n (fun i => mb (1 + i))) := OM.out.below hb
    replace XH : Hid (Bools v11 ah n (fun _ => false)) := XH.out.below hb
    replace PH : Hid (Box4 v11 b9 24 (.string K') (.int .i64 0) (.int .i64 0) (.slice ah n ch)) := PH.out.below hb
    clear hb 
    clear XW PW PG PH XH OM LW LG PB WB HE HN
    go_wp2
    go_ret
    exact ⟨rfl, A1.out⟩
end Go.Proofs.Ytkhglllicblbbaa
