/-
  The exact law of NewService.
-/
import Derived.Test.YtnhlnneicnkmeabSvcL
namespace Go.Proofs.Ytnhlnneicnkmeab
open Go.ChangeShapes Go.WideShapes Go.ChangeAt Go.RowKit
set_option linter.unusedVariables false
set_option maxRecDepth 100000 in
set_option maxHeartbeats 4000000 in
theorem law_newService (x : Int) (w : World) :
    Calls Try.prog 5 #[.int .i64 x] w fun e w' => e = .returned (.bool true) ∧ Below w.heap.size w w' := by
  obtain ⟨n, code, hn, sn, im⟩ := newService_both x
  have SN : Hid (∀ w : World, Calls Try.prog 20 #[.int .i64 x] w fun e w' => RetS w.heap.size n code e w' ∧ Below w.heap.size w w') := sn
  have IN : Hid (∀ w : World, Calls Try.prog 21 #[.int .i64 x] w fun e w' => RetS w.heap.size n code e w' ∧ Below w.heap.size w w') := im
  have HN : Hid (n ≤ 1000) := by show n ≤ 1000; omega
  have k0 : ¬ ((1 + 7 * n : Nat) : Int) < 0 := by omega
  clear sn im hn
  have A1 : Hid (Below w.heap.size w w) := Below.refl _ _
  go_enter Try.func5, Try.ntmps5
  go_wp2_with fail
  refine (SN.out _).mono ?_
  rintro e v1 ⟨⟨aw, cw, Aw, eww, erw, rfl, ow, zw⟩, hb⟩
  replace A1 : Hid (Below w.heap.size w v1) := A1.out.trans (hb.mono A1.out.size)
  have XW : Hid (NwE v1 0 aw n (fun _ => rpZ) Aw) := ow.at0
  clear hb ow zw SN
  have hb : Below v1.heap.size v1 (v1.alloc (.cells #[.slice aw n cw, .int .i64 0, .slice eww 0 0, .slice erw 0 0] 47)) := (Below.refl _ _).alloc (Nat.le_refl _) _
  have PW : Hid (Box4 (v1.alloc (.cells #[.slice aw n cw, .int .i64 0, .slice eww 0 0, .slice erw 0 0] 47)) v1.heap.size 47 (.slice aw n cw) (.int .i64 0) (.slice eww 0 0) (.slice erw 0 0)) := Box4.madeAt rfl _ _ _ _ _
  go_wp2_with fail
  generalize (v1.alloc (.cells #[.slice aw n cw, .int .i64 0, .slice eww 0 0, .slice erw 0 0] 47)) = v2 at *
  replace A1 : Hid (Below w.heap.size w v2) := A1.out.trans (hb.mono A1.out.size)
  replace XW : Hid (NwE v2 0 aw n (fun _ => rpZ) Aw) := XW.out.below hb
  clear hb 
  obtain ⟨b3, hb3⟩ : ∃ bx, bx = v1.heap.size := ⟨_, rfl⟩
  rw [← hb3] at PW ⊢
  clear hb3
  obtain ⟨bs, hbs⟩ : ∃ x, x = v2.heap.size := ⟨_, rfl⟩
  have LW : Hid (∀ p, aw = some p → p.block < bs) := by rw [hbs]; exact XW.out.lt
  have PB : Hid (b3 < bs) := by rw [hbs]; exact PW.out.lt
  have WB : Hid (w.heap.size ≤ bs) := by rw [hbs]; exact A1.out.size
  refine (IN.out _).mono ?_
  rintro e v3 ⟨⟨ag, cg, Ag, ewg, erg, rfl, og, zg⟩, hb⟩
  replace A1 : Hid (Below w.heap.size w v3) := A1.out.trans (hb.mono A1.out.size)
  replace XW : Hid (NwE v3 0 aw n (fun _ => rpZ) Aw) := XW.out.below hb
  replace PW : Hid (Box4 v3 b3 47 (.slice aw n cw) (.int .i64 0) (.slice eww 0 0) (.slice erw 0 0)) := PW.out.below hb
  have OG : Hid (NwE v3 bs ag n (fun _ => rpZ) Ag) := by rw [hbs]; exact og
  have BS : Hid (bs ≤ v3.heap.size) := by rw [hbs]; exact hb.size
  have LG : Hid (∀ p, ag = some p → p.block < v3.heap.size) := og.lt
  have ZG : Hid (n = 0 → cg = 0) := zg
  clear hb og zg hbs
  have hb : Below v3.heap.size v3 (v3.alloc (.cells #[.slice ag n cg, .int .i64 0, .slice ewg 0 0, .slice erg 0 0] 47)) := (Below.refl _ _).alloc (Nat.le_refl _) _
  have PG : Hid (Box4 (v3.alloc (.cells #[.slice ag n cg, .int .i64 0, .slice ewg 0 0, .slice erg 0 0] 47)) v3.heap.size 47 (.slice ag n cg) (.int .i64 0) (.slice ewg 0 0) (.slice erg 0 0)) := Box4.madeAt rfl _ _ _ _ _
  have vis00 := (PW.out.below hb).c0
  have vis01 := (PW.out.below hb).c1
  have vis02 := (PW.out.below hb).c2
  have vis03 := (PW.out.below hb).c3
  go_wp2_with fail
  generalize (v3.alloc (.cells #[.slice ag n cg, .int .i64 0, .slice ewg 0 0, .slice erg 0 0] 47)) = v4 at *
  replace A1 : Hid (Below w.heap.size w v4) := A1.out.trans (hb.mono A1.out.size)
  replace XW : Hid (NwE v4 0 aw n (fun _ => rpZ) Aw) := XW.out.below hb
  replace PW : Hid (Box4 v4 b3 47 (.slice aw n cw) (.int .i64 0) (.slice eww 0 0) (.slice erw 0 0)) := PW.out.below hb
  replace OG : Hid (NwE v4 bs ag n (fun _ => rpZ) Ag) := OG.out.below hb
  replace BS : Hid (bs ≤ (v4).heap.size) := Nat.le_trans BS.out hb.size
  clear hb vis00 vis01 vis02 vis03
  obtain ⟨b5, hb5⟩ : ∃ bx, bx = v3.heap.size := ⟨_, rfl⟩
  rw [← hb5] at PG LG ⊢
  clear hb5
  refine (eqService_new ag aw n cg cw Ag Aw ewg erg eww erw HN.out _ OG.out.rpV XW.out.rpV).mono ?_
  rintro e v5 ⟨rfl, hb⟩
  replace A1 : Hid (Below w.heap.size w v5) := A1.out.trans (hb.mono A1.out.size)
  replace XW : Hid (NwE v5 0 aw n (fun _ => rpZ) Aw) := XW.out.below hb
  replace PW : Hid (Box4 v5 b3 47 (.slice aw n cw) (.int .i64 0) (.slice eww 0 0) (.slice erw 0 0)) := PW.out.below hb
  replace OG : Hid (NwE v5 bs ag n (fun _ => rpZ) Ag) := OG.out.below hb
  replace BS : Hid (bs ≤ (v5).heap.size) := Nat.le_trans BS.out hb.size
  replace PG : Hid (Box4 v5 b5 47 (.slice ag n cg) (.int .i64 0) (.slice ewg 0 0) (.slice erg 0 0)) := PG.out.below hb
  clear hb 
  have t0 := PG.out.c0
  have t1 := PG.out.c1
  have t2 := PG.out.c2
  have t3 := PG.out.c3
  go_wp2_with fail
  clear t0 t1 t2 t3
  refine (markService_new bs ag n cg Ag ewg erg HN.out ZG.out _ OG.out).mono ?_
  rintro e v6 ⟨rfl, om, hO⟩
  have BB : Below bs v5 v6 := hO.toBelow OG.out.ge BS.out
  replace A1 : Hid (Below w.heap.size w v6) := A1.out.trans (BB.mono WB.out)
  replace XW : Hid (NwE v6 0 aw n (fun _ => rpZ) Aw) := XW.out.onlyQ hO (fun x y hx hy e => by have h1 := LW.out x hx; have h2 := OG.out.ge y hy; omega)
  replace PW : Hid (Box4 v6 b3 47 (.slice aw n cw) (.int .i64 0) (.slice eww 0 0) (.slice erw 0 0)) := hO.keep4 PW.out (fun p hp e => by have h1 := OG.out.ge p hp; have h2 := PB.out; omega)
  replace PG : Hid (Box4 v6 b5 47 (.slice ag n cg) (.int .i64 0) (.slice ewg 0 0) (.slice erg 0 0)) := hO.keep4 PG.out (fun p hp e => by have h1 := LG.out p hp; omega)
  replace BS : Hid (bs ≤ v6.heap.size) := Nat.le_trans BS.out hO.size
  have OM : Hid (NwE v6 bs ag n (rpM 1) Ag) := om
  clear om hO BB OG
  generalize hNN : ((1 + 7 * n : Nat) : Int) = NN at *
  have HE : Hid (∀ w : World, NwE w bs ag n (rpM 1) Ag → Calls Try.prog 24 #[.agg #[.slice ag n cg, .int .i64 0, .slice ewg 0 0, .slice erg 0 0], .int .i64 1] w fun e w' => e = .returned (.int .i64 NN) ∧ Below w.heap.size w w') := fun w h => by rw [← hNN]; exact heldService_new bs ag n cg Ag ewg erg HN.out ZG.out w h
  clear hNN
  have t0 := PG.out.c0
  have t1 := PG.out.c1
  have t2 := PG.out.c2
  have t3 := PG.out.c3
  go_wp2_with fail
  clear t0 t1 t2 t3
  refine (HE.out _ OM.out).mono ?_
  rintro e v7 ⟨rfl, hb⟩
  replace A1 : Hid (Below w.heap.size w v7) := A1.out.trans (hb.mono A1.out.size)
  replace XW : Hid (NwE v7 0 aw n (fun _ => rpZ) Aw) := XW.out.below hb
  replace PW : Hid (Box4 v7 b3 47 (.slice aw n cw) (.int .i64 0) (.slice eww 0 0) (.slice erw 0 0)) := PW.out.below hb
  replace BS : Hid (bs ≤ (v7).heap.size) := Nat.le_trans BS.out hb.size
  replace PG : Hid (Box4 v7 b5 47 (.slice ag n cg) (.int .i64 0) (.slice ewg 0 0) (.slice erg 0 0)) := PG.out.below hb
  replace OM : Hid (NwE v7 bs ag n (rpM 1) Ag) := OM.out.below hb
  clear hb 
  go_wp2_with fail
  refine (IN.out _).mono ?_
  rintro e v8 ⟨⟨ah, ch, Ah, ewh, erh, rfl, oh, zh⟩, hb⟩
  replace A1 : Hid (Below w.heap.size w v8) := A1.out.trans (hb.mono A1.out.size)
  replace XW : Hid (NwE v8 0 aw n (fun _ => rpZ) Aw) := XW.out.below hb
  replace PW : Hid (Box4 v8 b3 47 (.slice aw n cw) (.int .i64 0) (.slice eww 0 0) (.slice erw 0 0)) := PW.out.below hb
  replace BS : Hid (bs ≤ (v8).heap.size) := Nat.le_trans BS.out hb.size
  replace PG : Hid (Box4 v8 b5 47 (.slice ag n cg) (.int .i64 0) (.slice ewg 0 0) (.slice erg 0 0)) := PG.out.below hb
  replace OM : Hid (NwE v8 bs ag n (rpM 1) Ag) := OM.out.below hb
  have XH : Hid (NwE v8 0 ah n (fun _ => rpZ) Ah) := oh.at0
  clear hb oh zh IN
  have hb : Below v8.heap.size v8 (v8.alloc (.cells #[.slice ah n ch, .int .i64 0, .slice ewh 0 0, .slice erh 0 0] 47)) := (Below.refl _ _).alloc (Nat.le_refl _) _
  have PH : Hid (Box4 (v8.alloc (.cells #[.slice ah n ch, .int .i64 0, .slice ewh 0 0, .slice erh 0 0] 47)) v8.heap.size 47 (.slice ah n ch) (.int .i64 0) (.slice ewh 0 0) (.slice erh 0 0)) := Box4.madeAt rfl _ _ _ _ _
  have vis00 := (PW.out.below hb).c0
  have vis01 := (PW.out.below hb).c1
  have vis02 := (PW.out.below hb).c2
  have vis03 := (PW.out.below hb).c3
  go_wp2_with fail
  generalize (v8.alloc (.cells #[.slice ah n ch, .int .i64 0, .slice ewh 0 0, .slice erh 0 0] 47)) = v9 at *
  replace A1 : Hid (Below w.heap.size w v9) := A1.out.trans (hb.mono A1.out.size)
  replace XW : Hid (NwE v9 0 aw n (fun _ => rpZ) Aw) := XW.out.below hb
  replace PW : Hid (Box4 v9 b3 47 (.slice aw n cw) (.int .i64 0) (.slice eww 0 0) (.slice erw 0 0)) := PW.out.below hb
  replace BS : Hid (bs ≤ (v9).heap.size) := Nat.le_trans BS.out hb.size
  replace PG : Hid (Box4 v9 b5 47 (.slice ag n cg) (.int .i64 0) (.slice ewg 0 0) (.slice erg 0 0)) := PG.out.below hb
  replace OM : Hid (NwE v9 bs ag n (rpM 1) Ag) := OM.out.below hb
  replace XH : Hid (NwE v9 0 ah n (fun _ => rpZ) Ah) := XH.out.below hb
  clear hb vis00 vis01 vis02 vis03
  obtain ⟨b9, hb9⟩ : ∃ bx, bx = v8.heap.size := ⟨_, rfl⟩
  rw [← hb9] at PH ⊢
  clear hb9
  refine (eqService_new ah aw n ch cw Ah Aw ewh erh eww erw HN.out _ XH.out.rpV XW.out.rpV).mono ?_
  rintro e v10 ⟨rfl, hb⟩
  replace A1 : Hid (Below w.heap.size w v10) := A1.out.trans (hb.mono A1.out.size)
  replace XW : Hid (NwE v10 0 aw n (fun _ => rpZ) Aw) := XW.out.below hb
  replace PW : Hid (Box4 v10 b3 47 (.slice aw n cw) (.int .i64 0) (.slice eww 0 0) (.slice erw 0 0)) := PW.out.below hb
  replace BS : Hid (bs ≤ (v10).heap.size) := Nat.le_trans BS.out hb.size
  replace PG : Hid (Box4 v10 b5 47 (.slice ag n cg) (.int .i64 0) (.slice ewg 0 0) (.slice erg 0 0)) := PG.out.below hb
  replace OM : Hid (NwE v10 bs ag n (rpM 1) Ag) := OM.out.below hb
  replace XH : Hid (NwE v10 0 ah n (fun _ => rpZ) Ah) := XH.out.below hb
  replace PH : Hid (Box4 v10 b9 47 (.slice ah n ch) (.int .i64 0) (.slice ewh 0 0) (.slice erh 0 0)) := PH.out.below hb
  clear hb 
  have t0 := PG.out.c0
  have t1 := PG.out.c1
  have t2 := PG.out.c2
  have t3 := PG.out.c3
  go_wp2_with fail
  clear t0 t1 t2 t3
  refine (HE.out _ OM.out).mono ?_
  rintro e v11 ⟨rfl, hb⟩
  replace A1 : Hid (Below w.heap.size w v11) := A1.out.trans (hb.mono A1.out.size)
  replace XW : Hid (NwE v11 0 aw n (fun _ => rpZ) Aw) := XW.out.below hb
  replace PW : Hid (Box4 v11 b3 47 (.slice aw n cw) (.int .i64 0) (.slice eww 0 0) (.slice erw 0 0)) := PW.out.below hb
  replace BS : Hid (bs ≤ (v11).heap.size) := Nat.le_trans BS.out hb.size
  replace PG : Hid (Box4 v11 b5 47 (.slice ag n cg) (.int .i64 0) (.slice ewg 0 0) (.slice erg 0 0)) := PG.out.below hb
  replace OM : Hid (NwE v11 bs ag n (rpM 1) Ag) := OM.out.below hb
  replace XH : Hid (NwE v11 0 ah n (fun _ => rpZ) Ah) := XH.out.below hb
  replace PH : Hid (Box4 v11 b9 47 (.slice ah n ch) (.int .i64 0) (.slice ewh 0 0) (.slice erh 0 0)) := PH.out.below hb
  clear hb 
  clear XW PW PG PH XH OM LW LG PB WB HE HN ZG
  go_wp2
  go_ret
  exact ⟨rfl, A1.out⟩
end Go.Proofs.Ytnhlnneicnkmeab
