/-
  The law FnPads: what is filled up is whole blocks, and is taken off again; blocks that are taken off are just those of what is left.
-/
import Derived.Test.YtggnaohigiakeaaPlain
import Derived.Test.YtggnaohigiakeaaPad
import Derived.Test.YtggnaohigiakeaaPadS
import Derived.Test.YtggnaohigiakeaaModelK
namespace Go.Proofs.Ytggnaohigiakeaa
open Go.ChangeShapes Go.WideShapes Go.ChangeAt Go.RowKit
theorem kstr_of_codeO {w : World} {a : Option Addr} {n c : Nat} {f : Nat → Nat} (h : Code8 w a n f) (hn : 0 < n) : (convert 22 9 (.slice a n c)).run Try.prog w = .ok (.string (kstr f 0 n)) w := by
  obtain ⟨b, o, rfl, _⟩ := h.opened hn
  exact kstr_of_code h
theorem isRow_cap {k : IntKind} {w : World} {a : Option Addr} {len cap : Nat} {zs : List Int} (h : IsRow k w a len cap zs) : len ≤ cap := by
  rcases h with ⟨_, h1, h2, _⟩ | ⟨x, _, hl, _⟩
  · omega
  · exact hl
set_option maxRecDepth 100000 in
set_option maxHeartbeats 4000000 in
theorem law_pads (a : Option Addr) (N C : Nat) (zs : List Int) (w : World) (h : IsRow .u8 w a N C zs) :
    Calls Try.prog 3 #[.slice a N C] w fun e w' => e = .returned (.bool true) ∧ Below w.heap.size w w' := by
  by_cases h0 : N ≤ 1048576
  · obtain ⟨z, hz, hc⟩ := code8_of_row h
    have hNC := isRow_cap h
    have e0 : ¬ (1048576 : Int) < (N : Int) := by omega
    have PO : Hid (Calls Try.prog 9 #[.slice a N C] w fun e w' => SomeOwn w.heap.size w' e 80 ∧ Below w.heap.size w w') := plainOf_ex a N C z hz (IsRow.lenLe h) w hc
    have HZ : Hid (Code8 w a N z) := hc
    have HZL : Hid (∀ i, z i < 256) := hz
    clear h hc hz
    go_enter Try.func3, Try.ntmps3
    go_wp2_with fail
    refine PO.out.mono ?_
    rintro e w1 ⟨⟨m, f, g, c, hm, hf, rfl, hown⟩, hb1⟩
    obtain ⟨g', c', ⟨hg, hmc⟩, e', ho⟩ := own8_of_own hown (by intro e; cases e)
    cases e'
    obtain ⟨M, hM⟩ : ∃ M, M = m + fillN m := ⟨_, rfl⟩
    obtain ⟨P, hP⟩ : ∃ P, P = padF m f := ⟨_, rfl⟩
    have IP : Hid (∀ w : World, Code8 w (some ⟨g, 0, none⟩) m f → Calls Try.prog 10 #[.slice (some ⟨g, 0, none⟩) m c] w fun e w' => RetB2 w w' e M P (.int .i64 0) ∧ Below w.heap.size w w') := fun w h => by rw [hM, hP]; exact implPad_yes g 0 m c f (by omega) w h
    have SPd : Hid (∀ w : World, Code8 w (some ⟨g, 0, none⟩) m f → Calls Try.prog 11 #[.slice (some ⟨g, 0, none⟩) m c] w fun e w' => RetB2 w w' e M P (.int .i64 0) ∧ Below w.heap.size w w') := fun w h => by rw [hM, hP]; exact specPad_yes g 0 m c f (by omega) w h
    have hfb := fillN_bd m
    have hlP : ∀ i, P i < 256 := fun i => by rw [hP]; exact padF_lt hf i
    have hUO : UnOK M P := by rw [hM, hP]; exact unOK_pad m f
    have hlast : M - P (M - 1) = m := by rw [hM, hP]; exact pad_last m f
    have IU : Hid (∀ (b c : Nat) (w : World), M ≤ c → Code8 w (some ⟨b, 0, none⟩) M P → Calls Try.prog 12 #[.slice (some ⟨b, 0, none⟩) M c] w fun e w' => RetB2 w w' e m P (.int .i64 0) ∧ Below w.heap.size w w') := fun b c w hc h => by
      have := implUnpad_yes (some ⟨b, 0, none⟩) M c P hlP (by omega) hc hUO w h
      rwa [hlast] at this
    have KS : Hid (kstr P 0 m = kstr f 0 m) := kstr_congr (fun i hi => by rw [hP]; unfold padF; rw [if_pos (by omega)])
    have eM : ((M : Int) % 16 != 0) = false := by rw [bne_eq_false_iff_eq]; have := padN_mod m; omega
    have lM : ¬ (M : Int) ≤ (m : Int) := by omega
    have HO1 : Hid (Own8 w1 g m f) := ho
    have HB1 : Hid (Below w.heap.size w w1) := hb1
    have HZ1 : Hid (Code8 w1 a N z) := HZ.out.below hb1
    clear hown ho hb1 hM hP hfb hlP hUO hlast HZ PO hf
    go_wp2_with fail
    refine (IP.out _ HO1.out.code).mono ?_
    rintro e w2 ⟨⟨pb, pc, ⟨hpb, hpc⟩, rfl, ho2⟩, hb2⟩
    have HP2 : Hid (Own8 w2 pb M P) := ho2
    have HO2 : Hid (Own8 w2 g m f) := HO1.out.below hb2
    have HB2 : Hid (Below w.heap.size w w2) := HB1.out.trans (hb2.mono HB1.out.size)
    have HZ2 : Hid (Code8 w2 a N z) := HZ1.out.below hb2
    clear ho2 hb2 HO1 HB1 HZ1 IP
    go_wp2_with fail
    refine (SPd.out _ HO2.out.code).mono ?_
    rintro e w3 ⟨⟨wb, wc, ⟨hwb, hwc⟩, rfl, ho3⟩, hb3⟩
    have HW3 : Hid (Own8 w3 wb M P) := ho3
    have HP3 : Hid (Own8 w3 pb M P) := HP2.out.below hb3
    have HO3 : Hid (Own8 w3 g m f) := HO2.out.below hb3
    have HB3 : Hid (Below w.heap.size w w3) := HB2.out.trans (hb3.mono HB2.out.size)
    have HZ3 : Hid (Code8 w3 a N z) := HZ2.out.below hb3
    clear ho3 hb3 HP2 HO2 HB2 HZ2 SPd
    go_wp2_with fail
    refine (IU.out _ _ _ hpc HP3.out.code).mono ?_
    rintro e w4 ⟨⟨bb, bc, ⟨hbb, hbc⟩, rfl, ho4⟩, hb4⟩
    have HB4 : Hid (Below w.heap.size w w4) := HB3.out.trans (hb4.mono HB3.out.size)
    have HZ4 : Hid (Code8 w4 a N z) := HZ3.out.below hb4
    have cv1 := kstr_of_code (c := pc) (HP3.out.below hb4).code
    have cv2 := kstr_of_code (c := wc) (HW3.out.below hb4).code
    have cv3 := kstr_of_code (c := bc) ho4.code
    have cv4 := kstr_of_code (c := c) (HO3.out.below hb4).code
    rw [KS.out] at cv3
    generalize kstr P 0 M = S1 at *
    generalize kstr f 0 m = S0 at *
    clear ho4 hb4 HP3 HW3 HO3 HB3 HZ3 IU KS
    by_cases h1 : N ≤ 65520
    · have e1 : ¬ (65520 : Int) < (N : Int) := by omega
      by_cases hu : UnOK N z
      · have hN0 := hu.1
        have IV : Hid (∀ w : World, Code8 w a N z → Calls Try.prog 12 #[.slice a N C] w fun e w' => RetB2 w w' e (N - z (N - 1)) z (.int .i64 0) ∧ Below w.heap.size w w') := fun w h => implUnpad_yes a N C z HZL.out (by omega) hNC hu w h
        have SV : Hid (∀ w : World, Code8 w a N z → Calls Try.prog 13 #[.slice a N C] w fun e w' => RetB2 w w' e (N - z (N - 1)) z (.int .i64 0) ∧ Below w.heap.size w w') := fun w h => specUnpad_yes a N C z HZL.out (by omega) hNC hu w h
        have hK : N - z (N - 1) + fillN (N - z (N - 1)) = N := unOK_size hu
        have hle : N - z (N - 1) ≤ N := Nat.sub_le _ _
        have KK : Hid (kstr (padF (N - z (N - 1)) z) 0 N = kstr z 0 N) := kstr_congr (fun i hi => by rw [Nat.zero_add]; exact unOK_again hu i (by omega))
        have IX : Hid (∀ (b c : Nat) (w : World), Code8 w (some ⟨b, 0, none⟩) (N - z (N - 1)) z → Calls Try.prog 10 #[.slice (some ⟨b, 0, none⟩) (N - z (N - 1)) c] w fun e w' => RetB2 w w' e N (padF (N - z (N - 1)) z) (.int .i64 0) ∧ Below w.heap.size w w') := fun b c w h => by
          have := implPad_yes b 0 (N - z (N - 1)) c z (by omega) w h
          rwa [hK] at this
        generalize padF (N - z (N - 1)) z = G at *
        generalize N - z (N - 1) = q at *
        clear hu hK
        go_wp2_with fail
        refine (IV.out _ HZ4.out).mono ?_
        rintro e w5 ⟨⟨xb, xc, ⟨hxb, hxc⟩, rfl, ho5⟩, hb5⟩
        have HX5 : Hid (Own8 w5 xb q z) := ho5
        have HB5 : Hid (Below w.heap.size w w5) := HB4.out.trans (hb5.mono HB4.out.size)
        have HZ5 : Hid (Code8 w5 a N z) := HZ4.out.below hb5
        clear ho5 hb5 HB4 HZ4 IV cv1 cv2 cv3 cv4
        go_wp2_with fail
        refine (SV.out _ HZ5.out).mono ?_
        rintro e w6 ⟨⟨yb, yc, ⟨hyb, hyc⟩, rfl, -⟩, hb6⟩
        have HX6 : Hid (Own8 w6 xb q z) := HX5.out.below hb6
        have HB6 : Hid (Below w.heap.size w w6) := HB5.out.trans (hb6.mono HB5.out.size)
        have HZ6 : Hid (Code8 w6 a N z) := HZ5.out.below hb6
        clear hb6 HX5 HB5 HZ5 SV
        go_wp2_with fail
        refine (IX.out _ _ _ HX6.out.code).mono ?_
        rintro e w7 ⟨⟨vb, vc, ⟨hvb, hvc⟩, rfl, ho7⟩, hb7⟩
        have HB7 : Hid (Below w.heap.size w w7) := HB6.out.trans (hb7.mono HB6.out.size)
        have cv5 := kstr_of_code (c := vc) ho7.code
        have cv6 := kstr_of_codeO (c := C) (HZ6.out.below hb7) hN0
        rw [KK.out] at cv5
        generalize kstr z 0 N = S2 at *
        clear ho7 hb7 HX6 HB6 HZ6 IX KK
        go_wp2
        go_ret
        exact ⟨rfl, HB7.out⟩
      · have IV : Hid (∀ w : World, Code8 w a N z → Calls Try.prog 12 #[.slice a N C] w fun e w' => e = .returned (.tuple #[.slice none 0 0, .int .i64 3]) ∧ w = w') := fun w h => implUnpad_no a N C z HZL.out (by omega) hNC hu w h
        have SV : Hid (∀ w : World, Code8 w a N z → Calls Try.prog 13 #[.slice a N C] w fun e w' => RetB2 w w' e 0 z (.int .i64 3) ∧ Below w.heap.size w w') := fun w h => specUnpad_no a N C z HZL.out (by omega) hNC hu w h
        clear hu
        go_wp2_with fail
        refine (IV.out _ HZ4.out).mono ?_
        rintro e w5 ⟨rfl, rfl⟩
        clear cv1 cv2 cv3 cv4
        go_wp2_with fail
        refine (SV.out _ HZ4.out).mono ?_
        rintro e w6 ⟨⟨yb, yc, ⟨hyb, hyc⟩, rfl, -⟩, hb6⟩
        have HB6 : Hid (Below w.heap.size w w6) := HB4.out.trans (hb6.mono HB4.out.size)
        clear hb6 HB4 HZ4 SV IV
        go_wp2
        go_ret
        exact ⟨rfl, HB6.out⟩
    · have e1 : (65520 : Int) < (N : Int) := by omega
      go_wp2
      go_ret
      exact ⟨rfl, HB4.out⟩
  · have e0 : (1048576 : Int) < (N : Int) := by omega
    go_enter Try.func3, Try.ntmps3
    go_wp2
    go_ret
    exact ⟨rfl, Below.refl _ _⟩
end Go.Proofs.Ytggnaohigiakeaa
