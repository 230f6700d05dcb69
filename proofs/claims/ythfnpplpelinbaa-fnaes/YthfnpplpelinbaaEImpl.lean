/-
  The contract of impl.EncryptBlock.
-/
import Derived.Test.YthfnpplpelinbaaEncrypt
import Derived.Test.YthfnpplpelinbaaStateOf
import Derived.Test.YthfnpplpelinbaaKImpl
namespace Go.Proofs.Ythfnpplpelinbaa
open Go.ChangeShapes Go.WideShapes Go.ChangeAt Go.RowKit
theorem fault_long (s t : ByteArray) (h : 65536 < s.size ∨ 65536 < t.size) (w : World) : Calls Try.prog 22 #[.string s, .string t] w fun e w' => e = .returned (.int .i64 2) ∧ w = w' := by
  by_cases h1 : 65536 < s.size
  · have e1 : (65536 : Int) < s.size := by omega
    go_enter Try.func22, Try.ntmps22
    go_wp2
    go_ret
    exact ⟨rfl, rfl⟩
  · have e1 : ¬ (65536 : Int) < s.size := by omega
    have e2 : (65536 : Int) < t.size := by omega
    go_enter Try.func22, Try.ntmps22
    go_wp2
    go_ret
    exact ⟨rfl, rfl⟩
theorem fault_bad (s t : ByteArray) (h1 : s.size ≤ 65536) (h2 : t.size ≤ 65536) (h : ¬ ((s.size = 16 ∨ s.size = 32) ∧ t.size = 16)) (w : World) : Calls Try.prog 22 #[.string s, .string t] w fun e w' => e = .returned (.int .i64 1) ∧ w = w' := by
  have e1 : ¬ (65536 : Int) < s.size := by omega
  have e2 : ¬ (65536 : Int) < t.size := by omega
  by_cases hk : s.size = 16 ∨ s.size = 32
  · have e3 : ((t.size : Int) != 16) = true := by rw [bne_iff_ne]; omega
    have KO : Hid (∀ w : World, Calls Try.prog 31 #[.string s] w fun e w' => e = .returned (.bool true) ∧ w = w') := fun w => (keyOK_yes s hk w).mono fun e w' h => ⟨h.1, h.2.symm⟩
    clear h hk
    go_enter Try.func22, Try.ntmps22
    go_wp2_with (go_at_call 31; refine (KO.out _).mono ?_; rintro e w' ⟨rfl, rfl⟩)
    go_ret
    exact ⟨rfl, rfl⟩
  · have KO : Hid (∀ w : World, Calls Try.prog 31 #[.string s] w fun e w' => e = .returned (.bool false) ∧ w = w') := fun w => (keyOK_no s (by omega) (by omega) w).mono fun e w' h => ⟨h.1, h.2.symm⟩
    clear h hk
    go_enter Try.func22, Try.ntmps22
    go_wp2_with (go_at_call 31; refine (KO.out _).mono ?_; rintro e w' ⟨rfl, rfl⟩)
    go_ret
    exact ⟨rfl, rfl⟩
theorem fault_ok (s t : ByteArray) (hk : s.size = 16 ∨ s.size = 32) (ht : t.size = 16) (w : World) : Calls Try.prog 22 #[.string s, .string t] w fun e w' => e = .returned (.int .i64 0) ∧ w = w' := by
  have e1 : ¬ (65536 : Int) < s.size := by omega
  have e2 : ¬ (65536 : Int) < t.size := by omega
  have e3 : ((t.size : Int) != 16) = false := by rw [bne_eq_false_iff_eq]; omega
  have KO : Hid (∀ w : World, Calls Try.prog 31 #[.string s] w fun e w' => e = .returned (.bool true) ∧ w = w') := fun w => (keyOK_yes s hk w).mono fun e w' h => ⟨h.1, h.2.symm⟩
  clear hk ht
  go_enter Try.func22, Try.ntmps22
  go_wp2_with (go_at_call 31; refine (KO.out _).mono ?_; rintro e w' ⟨rfl, rfl⟩)
  go_ret
  exact ⟨rfl, rfl⟩
theorem implEnc_no (s t : ByteArray) (code : Int) (hc : code ≠ 0) (hf : ∀ w : World, Calls Try.prog 22 #[.string s, .string t] w fun e w' => e = .returned (.int .i64 code) ∧ w = w') (w : World) :
    Calls Try.prog 10 #[.string s, .string t] w fun e w' => e = .returned (.tuple #[.string ⟨#[]⟩, .int .i64 code]) ∧ w = w' := by
  have HF : Hid (∀ w : World, Calls Try.prog 22 #[.string s, .string t] w fun e w' => e = .returned (.int .i64 code) ∧ w = w') := hf
  have e1 : (code != 0) = true := by rw [bne_iff_ne]; exact hc
  clear hf
  go_enter Try.func10, Try.ntmps10
  go_wp2_with (go_at_call 22; refine (HF.out _).mono ?_; rintro e w' ⟨rfl, rfl⟩)
  go_ret2
  exact ⟨rfl, rfl⟩
set_option maxRecDepth 100000 in
set_option maxHeartbeats 2000000 in
theorem implEnc_yes (s t : ByteArray) (n : Nat) (hn : n = 4 ∨ n = 8) (hs : s.size = n * 4) (ht : t.size = 16) (w : World) :
    Calls Try.prog 10 #[.string s, .string t] w fun e w' => e = .returned (.tuple #[.string (kstr (Gf.enc (Gf.ws (strB s) n (3 * n + 28)) (n + 6) (strB t)) 0 16), .int .i64 0]) ∧ Below w.heap.size w w' := by
  have FO : Hid (∀ w : World, Calls Try.prog 22 #[.string s, .string t] w fun e w' => e = .returned (.int .i64 0) ∧ w = w') := fault_ok s t (by omega) ht
  have NC : Hid (∀ w : World, Calls Try.prog 23 #[.string s] w fun e w' => e = .returned (.agg (cA (n + 6) (Gf.ws (strB s) n (3 * n + 28)))) ∧ Below w.heap.size w w') := newCipher_any s n hn hs
  have SO : Hid (∀ w : World, Calls Try.prog 25 #[.string t] w fun e w' => e = .returned (.agg (bA 16 (strB t))) ∧ Below w.heap.size w w') := stateOf_any t ht
  have LW : Hid (∀ j, Gf.ws (strB s) n (3 * n + 28) j < 256) := Gf.ws_lt (strB_lt s) _
  generalize Gf.ws (strB s) n (3 * n + 28) = W at *
  have EN : Hid (∀ (C : Nat) (w : World), CiphAt w C (n + 6) W → Calls Try.prog 24 #[.pointer (some ⟨C, 0, none⟩), .agg (bA 16 (strB t))] w fun e w' => e = .returned (.agg (bA 16 (Gf.enc W (n + 6) (strB t)))) ∧ Below w.heap.size w w') := fun C w h => encrypt_any C (n + 6) W (strB t) (fun i _ => strB_lt t i) LW.out (by omega) (by omega) w h
  obtain ⟨Z, z0, hZ, -⟩ := Try.zeroC
  have S2 : Hid ((Try.prog.info? 46).map (·.size) = some (cA (n + 6) W).size) := by rw [cA_size]; exact Try.sizeC
  have O2 : Hid ((cA (n + 6) W).all (·.oneCell') = true) := cA_one _ _
  have hLen : (cA (n + 6) W).toList.length = 769 := cA_len _ _
  have hAt : Hid (∀ k, k < 769 → (cA (n + 6) W).toList[k]? = some (cf (n + 6) W k)) := fun k hk => by
    have := cA_at (n := n + 6) (K := W) hk
    rwa [← Array.getElem?_toList] at this
  have HSZ : Hid ((cA (n + 6) W).size = 769) := cA_size _ _
  have LE : Hid (∀ j, Gf.enc W (n + 6) (strB t) j < 256) := Gf.enc_lt LW.out (fun i _ => strB_lt t i)
  generalize Gf.enc W (n + 6) (strB t) = E at *
  generalize cA (n + 6) W = CA at *
  generalize bA 16 (strB t) = TA at *
  clear hs ht hn
  go_enter Try.func10, Try.ntmps10
  go_upto_region 5 with (first
    | (go_at_call 22; refine (FO.out _).mono ?_; rintro e w' ⟨rfl, rfl⟩)
    | (go_at_call 23; refine (NC.out _).mono ?_; rintro e w1 ⟨rfl, hb⟩)
    | (refine wpList_store_mid rfl 46 (.tmp 7) (.tmp 16) rfl _ 0 CA rfl rfl ?_ S2.out O2.out ?_))
  · rw [HSZ.out]; exact there_big w1 Z _ hZ
  · have R1 : ((w1.alloc (.cells Z 46)).setCells w1.heap.size 0 CA.toList).rangeAt w1.heap.size 0 CA.toList := World.rangeAt_setCells_same _ _ _ _ (by rw [hLen]; exact there_big w1 Z _ hZ)
    have CC : Hid (CiphAt ((w1.alloc (.cells Z 46)).setCells w1.heap.size 0 CA.toList) w1.heap.size (n + 6) W) := fun k hk => by
      have := R1 k _ (hAt.out k hk)
      rwa [Nat.zero_add] at this
    have hsz := hb.size
    have B1 : Hid (Below w.heap.size w ((w1.alloc (.cells Z 46)).setCells w1.heap.size 0 CA.toList)) := below_setCells hsz _ _ _ (hb.alloc hsz _)
    clear R1 hb NC FO S2 O2 hLen hAt HSZ z0 hZ
    generalize (w1.alloc (.cells Z 46)).setCells w1.heap.size 0 CA.toList = wz at *
    generalize w1.heap.size = C at *
    go_wp2_with fail
    refine (SO.out _).mono ?_
    rintro e w2 ⟨rfl, hb2⟩
    have CC2 : Hid (CiphAt w2 C (n + 6) W) := CC.out.below hb2
    have B2 : Hid (Below w.heap.size w w2) := B1.out.trans (hb2.mono B1.out.size)
    clear hb2 CC B1 SO
    go_wp2_with fail
    refine (EN.out C _ CC2.out).mono ?_
    rintro e w3 ⟨rfl, hb3⟩
    have B3 : Hid (Below w.heap.size w w3) := B2.out.trans (hb3.mono B2.out.size)
    have Z3 : Hid (Row8 (w3.alloc (.cells z16 41)) w3.heap.size 41 16 (fun _ => 0)) := Row8.z16At rfl _
    clear hb3 CC2 B2 EN
    unfold z16 at Z3
    have SA : Hid ((Try.prog.info? 41).map (·.size) = some (bA 16 E).size) := by rw [bA_size]; exact Try.sizeSt
    have OA : Hid ((bA 16 E).all (·.oneCell') = true) := bA_one _ _
    have TA' : Hid ((w3.alloc (.cells #[.int .u8 0, .int .u8 0, .int .u8 0, .int .u8 0, .int .u8 0, .int .u8 0, .int .u8 0, .int .u8 0, .int .u8 0, .int .u8 0, .int .u8 0, .int .u8 0, .int .u8 0, .int .u8 0, .int .u8 0, .int .u8 0] 41)).there w3.heap.size 0 (bA 16 E).size) := by rw [bA_size]; exact Z3.out.there
    have R4 : Hid (Row8 ((w3.alloc (.cells #[.int .u8 0, .int .u8 0, .int .u8 0, .int .u8 0, .int .u8 0, .int .u8 0, .int .u8 0, .int .u8 0, .int .u8 0, .int .u8 0, .int .u8 0, .int .u8 0, .int .u8 0, .int .u8 0, .int .u8 0, .int .u8 0] 41)).setCells w3.heap.size 0 (bA 16 E).toList) w3.heap.size 41 16 E) := by rw [bA_toList]; exact Z3.out.stored _
    have B4 : Hid (Below w.heap.size w ((w3.alloc (.cells #[.int .u8 0, .int .u8 0, .int .u8 0, .int .u8 0, .int .u8 0, .int .u8 0, .int .u8 0, .int .u8 0, .int .u8 0, .int .u8 0, .int .u8 0, .int .u8 0, .int .u8 0, .int .u8 0, .int .u8 0, .int .u8 0] 41)).setCells w3.heap.size 0 (bA 16 E).toList)) := below_setCells B3.out.size _ _ _ (B3.out.alloc B3.out.size _)
    generalize bA 16 E = EA at *
    go_upto_region 6 with (refine wpList_store_mid rfl 41 (.tmp 8) (.tmp 19) rfl w3.heap.size 0 EA rfl rfl TA'.out SA.out OA.out ?_)
    generalize (w3.alloc (.cells #[.int .u8 0, .int .u8 0, .int .u8 0, .int .u8 0, .int .u8 0, .int .u8 0, .int .u8 0, .int .u8 0, .int .u8 0, .int .u8 0, .int .u8 0, .int .u8 0, .int .u8 0, .int .u8 0, .int .u8 0, .int .u8 0] 41)).setCells w3.heap.size 0 EA.toList = w4 at *
    generalize w3.heap.size = D at *
    have hcv : ∀ cap, (convert 22 9 (.slice (some ⟨D, 0, none⟩) 16 cap)).run Try.prog w4 = .ok (.string (kstr E 0 16)) w4 := fun cap => by
      refine run_convert_bytes_arg w4 22 5 Try.underlying22 Try.underlying5 D 0 16 cap ((List.range 16).map fun i => ((E (0 + i) : Nat) : Int)) (by simp) (fun i hi => ?_) 9 Try.underlying9
      rw [Nat.zero_add, World.rowIs.cell R4.out hi]
      simp [hi]
    clear R4 TA' SA OA Z3 B3
    go_wp2
    go_ret2
    exact ⟨rfl, B4.out⟩
end Go.Proofs.Ythfnpplpelinbaa
