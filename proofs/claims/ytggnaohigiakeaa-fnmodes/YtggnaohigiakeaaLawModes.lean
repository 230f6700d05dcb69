/-
  The law FnModes: a stream that is put on twice is off; chained blocks are undone, and a text's first blocks do not hang on the later ones.
-/
import Derived.Test.YtggnaohigiakeaaPlain
import Derived.Test.YtggnaohigiakeaaCtr
import Derived.Test.YtggnaohigiakeaaCtrS
import Derived.Test.YtggnaohigiakeaaCbcS2
import Derived.Test.YtggnaohigiakeaaCbcD
import Derived.Test.YtggnaohigiakeaaLawPads
namespace Go.Proofs.Ytggnaohigiakeaa
open Go.ChangeShapes Go.WideShapes Go.ChangeAt Go.RowKit
theorem blob_ex (n : Nat) (hn : 1 ≤ n) (hn' : n ≤ 100000) (a : Option Addr) (len cap : Nat) (z : Nat → Nat) (hz : ∀ i, z i < 256) (hl : len ≤ maxLen) (w : World) (hc : Code8 w a len z) :
    Calls Try.prog 14 #[.slice a len cap, .int .i64 (n : Int)] w fun e w' => (∃ s : ByteArray, s.size = n ∧ e = .returned (.string s)) ∧ Below w.heap.size w w' :=
  (blobOf_any n hn hn' a len cap z hz hl w hc).mono fun _ _ hh => ⟨⟨_, kstr_size _ _ _, hh.1⟩, hh.2⟩
theorem head_text {W iv f : Nat → Nat} {R m k : Nat} (hk : k = m / 16 * 16) : kstr (cbcO W R iv (padF k f)) 0 k = kstr (cbcO W R iv (padF m f)) 0 k :=
  kstr_congr (fun x hx => by
    rw [Nat.zero_add]
    unfold cbcO
    refine cbcB_congr (x / 16 + 1) (fun y hy => ?_) (x % 16) (Nat.mod_lt _ (by omega))
    unfold padF
    rw [if_pos (by omega), if_pos (by omega)])
set_option maxRecDepth 100000 in
set_option maxHeartbeats 8000000 in
theorem law_modes (a1 a2 : Option Addr) (N1 C1 N2 C2 : Nat) (zs1 zs2 : List Int) (w : World) (h1 : IsRow .u8 w a1 N1 C1 zs1) (h2 : IsRow .u8 w a2 N2 C2 zs2) :
    Calls Try.prog 4 #[.slice a1 N1 C1, .slice a2 N2 C2] w fun e w' => e = .returned (.bool true) ∧ Below w.heap.size w w' := by
  by_cases h0 : N1 ≤ 1048576 ∧ N2 ≤ 1048576
  · obtain ⟨h01, h02⟩ := h0
    have e01 : ¬ (1048576 : Int) < (N1 : Int) := by omega
    have e02 : ¬ (1048576 : Int) < (N2 : Int) := by omega
    obtain ⟨z1, hz1, hc1⟩ := code8_of_row h1
    obtain ⟨z2, hz2, hc2⟩ := code8_of_row h2
    have B1 : Hid (∀ w : World, Code8 w a1 N1 z1 → Calls Try.prog 14 #[.slice a1 N1 C1, .int .i64 32] w fun e w' => (∃ s : ByteArray, s.size = 32 ∧ e = .returned (.string s)) ∧ Below w.heap.size w w') := fun w h => blob_ex 32 (by omega) (by omega) a1 N1 C1 z1 hz1 (IsRow.lenLe h1) w h
    have B2 : Hid (∀ w : World, Code8 w a2 N2 z2 → Calls Try.prog 14 #[.slice a2 N2 C2, .int .i64 12] w fun e w' => (∃ s : ByteArray, s.size = 12 ∧ e = .returned (.string s)) ∧ Below w.heap.size w w') := fun w h => blob_ex 12 (by omega) (by omega) a2 N2 C2 z2 hz2 (IsRow.lenLe h2) w h
    have B3 : Hid (∀ w : World, Code8 w a2 N2 z2 → Calls Try.prog 14 #[.slice a2 N2 C2, .int .i64 16] w fun e w' => (∃ s : ByteArray, s.size = 16 ∧ e = .returned (.string s)) ∧ Below w.heap.size w w') := fun w h => blob_ex 16 (by omega) (by omega) a2 N2 C2 z2 hz2 (IsRow.lenLe h2) w h
    have PO : Hid (∀ w : World, Code8 w a2 N2 z2 → Calls Try.prog 9 #[.slice a2 N2 C2] w fun e w' => SomeOwn w.heap.size w' e 80 ∧ Below w.heap.size w w') := fun w h => plainOf_ex a2 N2 C2 z2 hz2 (IsRow.lenLe h2) w h
    have Z1 : Hid (Code8 w a1 N1 z1) := hc1
    have Z2 : Hid (Code8 w a2 N2 z2) := hc2
    clear h1 h2 hc1 hc2 hz1 hz2
    go_enter Try.func4, Try.ntmps4
    go_wp2_with fail
    refine (B1.out _ Z1.out).mono ?_
    rintro e w1 ⟨⟨key, hkey, rfl⟩, hb1⟩
    have HB1 : Hid (Below w.heap.size w w1) := hb1
    have Z21 : Hid (Code8 w1 a2 N2 z2) := Z2.out.below hb1
    clear hb1 Z1 Z2 B1
    go_wp2_with fail
    refine (B2.out _ Z21.out).mono ?_
    rintro e w2 ⟨⟨nonce, hnon, rfl⟩, hb2⟩
    have HB2 : Hid (Below w.heap.size w w2) := HB1.out.trans (hb2.mono HB1.out.size)
    have Z22 : Hid (Code8 w2 a2 N2 z2) := Z21.out.below hb2
    clear hb2 HB1 Z21 B2
    go_wp2_with fail
    refine (B3.out _ Z22.out).mono ?_
    rintro e w3 ⟨⟨first, hfst, rfl⟩, hb3⟩
    have HB3 : Hid (Below w.heap.size w w3) := HB2.out.trans (hb3.mono HB2.out.size)
    have Z23 : Hid (Code8 w3 a2 N2 z2) := Z22.out.below hb3
    clear hb3 HB2 Z22 B3
    go_wp2_with fail
    refine (PO.out _ Z23.out).mono ?_
    rintro e w4 ⟨⟨m, f, g, c, hm, hf, rfl, hown⟩, hb4⟩
    obtain ⟨g', c', ⟨hg, hmc⟩, e', ho⟩ := own8_of_own hown (by intro e; cases e)
    cases e'
    have HB4 : Hid (Below w.heap.size w w4) := HB3.out.trans (hb4.mono HB3.out.size)
    have HO4 : Hid (Own8 w4 g m f) := ho
    clear hown ho hb4 HB3 Z23 PO
    obtain ⟨W, hW⟩ : ∃ W, W = Gf.ws (strB key) 8 (3 * 8 + 28) := ⟨_, rfl⟩
    have lW : ∀ j, W j < 256 := by rw [hW]; exact Gf.ws_lt (strB_lt key) _
    obtain ⟨F1, hF1⟩ : ∃ F1, F1 = ctrF W 14 (strB nonce) f := ⟨_, rfl⟩
    obtain ⟨F2, hF2⟩ : ∃ F2, F2 = ctrF W 14 (strB nonce) F1 := ⟨_, rfl⟩
    have lF1 : ∀ j, F1 j < 256 := by rw [hF1]; exact ctrF_lt lW (strB_lt nonce) hf
    have hF2f : ∀ x, F2 x = f x := fun x => by rw [hF2, hF1]; exact ctrF_twice W 14 (strB nonce) f x
    obtain ⟨M, hM⟩ : ∃ M, M = m + fillN m := ⟨_, rfl⟩
    obtain ⟨P, hP⟩ : ∃ P, P = padF m f := ⟨_, rfl⟩
    have lP : ∀ j, P j < 256 := fun j => by rw [hP]; exact padF_lt hf j
    obtain ⟨O, hO⟩ : ∃ O, O = cbcO W 14 (strB first) P := ⟨_, rfl⟩
    have lO : ∀ j, O j < 256 := fun j => by rw [hO]; exact cbcB_lt lW (strB_lt first) lP _ _
    have hMb := (fillN_bd m).2
    have hD : P = cbcD (Gf.ws (strB key) 8 (3 * 8 + 28)) (8 + 6) (strB first) O := by
      rw [← hW, hO]
      funext x
      exact (cbcD_cbcO (by omega) lW (strB_lt first) lP x).symm
    have hlast : M - P (M - 1) = m := by rw [hM, hP]; exact pad_last m f
    have CX1 : Hid (∀ w : World, Code8 w (some ⟨g, 0, none⟩) m f → Calls Try.prog 15 #[.string key, .string nonce, .slice (some ⟨g, 0, none⟩) m c] w fun e w' => RetB2 w w' e m F1 (.int .i64 0) ∧ Below w.heap.size w w') := fun w h => by rw [hF1, hW]; exact implCtr_yes key nonce 8 g 0 m c f (.inr rfl) hkey hnon (by omega) hf w h
    have SX1 : Hid (∀ w : World, Code8 w (some ⟨g, 0, none⟩) m f → Calls Try.prog 16 #[.string key, .string nonce, .slice (some ⟨g, 0, none⟩) m c] w fun e w' => RetB2 w w' e m F1 (.int .i64 0) ∧ Below w.heap.size w w') := fun w h => by rw [hF1, hW]; exact specCtr_yes key nonce 8 g 0 m c f (.inr rfl) hkey hnon (by omega) hf w h
    have CX2 : Hid (∀ (b c : Nat) (w : World), Code8 w (some ⟨b, 0, none⟩) m F1 → Calls Try.prog 15 #[.string key, .string nonce, .slice (some ⟨b, 0, none⟩) m c] w fun e w' => RetB2 w w' e m F2 (.int .i64 0) ∧ Below w.heap.size w w') := fun b c w h => by rw [hF2, hW]; exact implCtr_yes key nonce 8 b 0 m c F1 (.inr rfl) hkey hnon (by omega) lF1 w h
    have CE1 : Hid (∀ w : World, Code8 w (some ⟨g, 0, none⟩) m f → Calls Try.prog 17 #[.string key, .string first, .slice (some ⟨g, 0, none⟩) m c] w fun e w' => RetB2 w w' e M O (.int .i64 0) ∧ Below w.heap.size w w') := fun w h => by rw [hO, hM, hP, hW]; exact implCbc_yes key first 8 g 0 m c f (.inr rfl) hkey hfst (by omega) hf w h
    have SE1 : Hid (∀ w : World, Code8 w (some ⟨g, 0, none⟩) m f → Calls Try.prog 18 #[.string key, .string first, .slice (some ⟨g, 0, none⟩) m c] w fun e w' => RetB2 w w' e M O (.int .i64 0) ∧ Below w.heap.size w w') := fun w h => by rw [hO, hM, hP, hW]; exact specCbc_yes key first 8 g 0 m c f (.inr rfl) hkey hfst (by omega) hf w h
    have DC1 : Hid (∀ (b c : Nat) (w : World), M ≤ c → Code8 w (some ⟨b, 0, none⟩) M O → Calls Try.prog 19 #[.string key, .string first, .slice (some ⟨b, 0, none⟩) M c] w fun e w' => RetB2 w w' e m P (.int .i64 0) ∧ Below w.heap.size w w') := fun b c w hc h => by
      have := implDcb_yes key first 8 b 0 M c O (.inr rfl) hkey hfst (by omega) (by rw [hM]; exact padN_mod m) hc lO P hD (by rw [hM, hP]; exact unOK_pad m f) w h
      rwa [hlast] at this
    obtain ⟨k, hk⟩ : ∃ k, k = m / 16 * 16 := ⟨_, rfl⟩
    have hkm : k ≤ m := by omega
    have hkf : fillN k = 16 := by unfold fillN; omega
    obtain ⟨O2, hO2⟩ : ∃ O2, O2 = cbcO W 14 (strB first) (padF k f) := ⟨_, rfl⟩
    have CE2 : Hid (∀ w : World, Code8 w (some ⟨g, 0, none⟩) k f → Calls Try.prog 17 #[.string key, .string first, .slice (some ⟨g, 0, none⟩) k c] w fun e w' => RetB2 w w' e (k + 16) O2 (.int .i64 0) ∧ Below w.heap.size w w') := fun w h => by
      have := implCbc_yes key first 8 g 0 k c f (.inr rfl) hkey hfst (by omega) hf w h
      rw [hkf] at this
      rw [hO2, hW]; exact this
    have KH : Hid (kstr O2 0 k = kstr O 0 k) := by show kstr O2 0 k = kstr O 0 k; rw [hO2, hO, hP]; exact head_text hk
    have KY : Hid (kstr F2 0 m = kstr f 0 m) := kstr_congr (fun i _ => hF2f _)
    have KQ : Hid (kstr P 0 m = kstr f 0 m) := kstr_congr (fun i hi => by rw [hP]; unfold padF; rw [if_pos (by omega)])
    have ek : (m : Int) / 16 * 16 = (k : Int) := by omega
    have ekt : (m : Int).tdiv 16 * 16 = (k : Int) := by rw [Int.tdiv_eq_ediv_of_nonneg (by omega)]; omega
    have hMk : k ≤ M := by omega
    clear hW lW hF1 hF2 lF1 hF2f hM hP lP hO lO hMb hD hlast hk hkf hO2 hkey hnon hfst hf
    go_wp2_with fail
    refine (CX1.out _ HO4.out.code).mono ?_
    rintro e w5 ⟨⟨xb, xc, ⟨hxb, hxc⟩, rfl, ho5⟩, hb5⟩
    have HX5 : Hid (Own8 w5 xb m F1) := ho5
    have HO5 : Hid (Own8 w5 g m f) := HO4.out.below hb5
    have HB5 : Hid (Below w.heap.size w w5) := HB4.out.trans (hb5.mono HB4.out.size)
    clear ho5 hb5 HO4 HB4 CX1
    go_wp2_with fail
    refine (SX1.out _ HO5.out.code).mono ?_
    rintro e w6 ⟨⟨vb, vc, ⟨hvb, hvc⟩, rfl, ho6⟩, hb6⟩
    have HV6 : Hid (Own8 w6 vb m F1) := ho6
    have HX6 : Hid (Own8 w6 xb m F1) := HX5.out.below hb6
    have HO6 : Hid (Own8 w6 g m f) := HO5.out.below hb6
    have HB6 : Hid (Below w.heap.size w w6) := HB5.out.trans (hb6.mono HB5.out.size)
    clear ho6 hb6 HX5 HO5 HB5 SX1
    go_wp2_with fail
    refine (CX2.out _ _ _ HX6.out.code).mono ?_
    rintro e w7 ⟨⟨yb, yc, ⟨hyb, hyc⟩, rfl, ho7⟩, hb7⟩
    have HY7 : Hid (Own8 w7 yb m F2) := ho7
    have HV7 : Hid (Own8 w7 vb m F1) := HV6.out.below hb7
    have HX7 : Hid (Own8 w7 xb m F1) := HX6.out.below hb7
    have HO7 : Hid (Own8 w7 g m f) := HO6.out.below hb7
    have HB7 : Hid (Below w.heap.size w w7) := HB6.out.trans (hb7.mono HB6.out.size)
    clear ho7 hb7 HV6 HX6 HO6 HB6 CX2
    go_wp2_with fail
    refine (CE1.out _ HO7.out.code).mono ?_
    rintro e w8 ⟨⟨pb, pc, ⟨hpb, hpc⟩, rfl, ho8⟩, hb8⟩
    have HP8 : Hid (Own8 w8 pb M O) := ho8
    have HY8 : Hid (Own8 w8 yb m F2) := HY7.out.below hb8
    have HV8 : Hid (Own8 w8 vb m F1) := HV7.out.below hb8
    have HX8 : Hid (Own8 w8 xb m F1) := HX7.out.below hb8
    have HO8 : Hid (Own8 w8 g m f) := HO7.out.below hb8
    have HB8 : Hid (Below w.heap.size w w8) := HB7.out.trans (hb8.mono HB7.out.size)
    clear ho8 hb8 HY7 HV7 HX7 HO7 HB7 CE1
    go_wp2_with fail
    refine (SE1.out _ HO8.out.code).mono ?_
    rintro e w9 ⟨⟨tb, tc, ⟨htb, htc⟩, rfl, ho9⟩, hb9⟩
    have HT9 : Hid (Own8 w9 tb M O) := ho9
    have HP9 : Hid (Own8 w9 pb M O) := HP8.out.below hb9
    have HY9 : Hid (Own8 w9 yb m F2) := HY8.out.below hb9
    have HV9 : Hid (Own8 w9 vb m F1) := HV8.out.below hb9
    have HX9 : Hid (Own8 w9 xb m F1) := HX8.out.below hb9
    have HO9 : Hid (Own8 w9 g m f) := HO8.out.below hb9
    have HB9 : Hid (Below w.heap.size w w9) := HB8.out.trans (hb9.mono HB8.out.size)
    clear ho9 hb9 HP8 HY8 HV8 HX8 HO8 HB8 SE1
    go_wp2_with fail
    refine (DC1.out _ _ _ hpc HP9.out.code).mono ?_
    rintro e wa ⟨⟨qb, qc, ⟨hqb, hqc⟩, rfl, hoa⟩, hba⟩
    have HPa : Hid (Own8 wa pb M O) := HP9.out.below hba
    have HOa : Hid (Own8 wa g m f) := HO9.out.below hba
    have HBa : Hid (Below w.heap.size w wa) := HB9.out.trans (hba.mono HB9.out.size)
    have cv1 := kstr_of_code (c := xc) (HX9.out.below hba).code
    have cv2 := kstr_of_code (c := vc) (HV9.out.below hba).code
    have cv3 := kstr_of_code (c := yc) (HY9.out.below hba).code
    have cv4 := kstr_of_code (c := c) HOa.out.code
    have cv5 := kstr_of_code (c := pc) HPa.out.code
    have cv6 := kstr_of_code (c := tc) (HT9.out.below hba).code
    have cv7 := kstr_of_code (c := qc) hoa.code
    rw [KY.out] at cv3
    rw [KQ.out] at cv7
    generalize kstr F1 0 m = T1 at *
    generalize kstr f 0 m = T0 at *
    generalize kstr O 0 M = T2 at *
    clear hoa hba HT9 HP9 HY9 HV9 HX9 HO9 HB9 DC1 KY KQ
    have x0 : (0 : Int) ≤ (k : Int) := by omega
    have x1 : (k : Int) ≤ (c : Int) := by omega
    have HK : Hid (Code8 wa (some ⟨g, 0, none⟩) k f) := HOa.out.code.part hkm
    go_wp2_with fail
    refine (CE2.out _ HK.out).mono ?_
    rintro e wb ⟨⟨hb, hc, ⟨hhb, hhc⟩, rfl, hob⟩, hbb⟩
    have HBb : Hid (Below w.heap.size w wb) := HBa.out.trans (hbb.mono HBa.out.size)
    have HPb : Hid (Own8 wb pb M O) := HPa.out.below hbb
    have HHb : Hid (Own8 wb hb (k + 16) O2) := hob
    have cvh : ∀ nq, (convert 22 9 (.slice (some ⟨hb, 0, none⟩) k hc)).run Try.prog (wb.drewN nq) = .ok (.string (kstr O 0 k)) (wb.drewN nq) := fun nq => by
      have := kstr_of_code (c := hc) (((HHb.out.part (n' := k) (by omega)).drewN nq).code)
      rwa [KH.out] at this
    have cvp : ∀ nq, (convert 22 9 (.slice (some ⟨pb, 0, none⟩) k pc)).run Try.prog (wb.drewN nq) = .ok (.string (kstr O 0 k)) (wb.drewN nq) := fun nq => kstr_of_code (c := pc) (((HPb.out.part (n' := k) hMk).drewN nq).code)
    have x2 : (k : Int) ≤ (hc : Int) := by omega
    have x3 : (k : Int) ≤ (pc : Int) := by omega
    have x4 : ((k : Int) + 16 == (k : Int) + 16) = true := by simp
    generalize kstr O 0 k = T3 at *
    clear hob hbb HBa HPa HOa HK HPb HHb cv1 cv2 cv3 cv4 cv5 cv6 cv7 KH CE2
    go_wp2
    go_quiet (fail)
    go_wp2
    go_ret
    exact ⟨rfl, below_drewN8 HBb.out _⟩
  · by_cases h3 : N1 ≤ 1048576
    · have e1 : ¬ (1048576 : Int) < (N1 : Int) := by omega
      have e2 : (1048576 : Int) < (N2 : Int) := by omega
      clear h0
      go_enter Try.func4, Try.ntmps4
      go_wp2
      go_ret
      exact ⟨rfl, Below.refl _ _⟩
    · have e1 : (1048576 : Int) < (N1 : Int) := by omega
      clear h0
      go_enter Try.func4, Try.ntmps4
      go_wp2
      go_ret
      exact ⟨rfl, Below.refl _ _⟩
end Go.Proofs.Ytggnaohigiakeaa
