/-
  The contract of impl.CbcDecrypt.
-/
import Derived.Test.YtggnaohigiakeaaUnchain
namespace Go.Proofs.Ytggnaohigiakeaa
open Go.ChangeShapes Go.WideShapes Go.ChangeAt Go.RowKit
theorem implDcb_no (k s : ByteArray) (a : Option Addr) (n c : Nat) (code : Int) (hc : code ≠ 0) (hf : ∀ w : World, Calls Try.prog 34 #[.string k, .string s, .int .i64 16, .int .i64 (n : Int), .int .i64 65536] w fun e w' => e = .returned (.int .i64 code) ∧ w = w') (w : World) :
    Calls Try.prog 19 #[.string k, .string s, .slice a n c] w fun e w' => e = .returned (.tuple #[.slice none 0 0, .int .i64 code]) ∧ w = w' := by
  have HF : Hid (∀ w : World, Calls Try.prog 34 #[.string k, .string s, .int .i64 16, .int .i64 (n : Int), .int .i64 65536] w fun e w' => e = .returned (.int .i64 code) ∧ w = w') := hf
  have e1 : (code != 0) = true := by rw [bne_iff_ne]; exact hc
  clear hf
  go_enter Try.func19, Try.ntmps19
  go_wp2_with (go_at_call 34; refine (HF.out _).mono ?_; rintro e w' ⟨rfl, rfl⟩)
  go_ret2
  exact ⟨rfl, rfl⟩
theorem implDcb_part (k s : ByteArray) (a : Option Addr) (n c : Nat) (hk : k.size = 16 ∨ k.size = 32) (hs : s.size = 16) (hn : n ≤ 65536) (h16 : n % 16 ≠ 0) (w : World) :
    Calls Try.prog 19 #[.string k, .string s, .slice a n c] w fun e w' => e = .returned (.tuple #[.slice none 0 0, .int .i64 3]) ∧ w = w' := by
  have HF : Hid (∀ w : World, Calls Try.prog 34 #[.string k, .string s, .int .i64 16, .int .i64 (n : Int), .int .i64 65536] w fun e w' => e = .returned (.int .i64 0) ∧ w = w') := mf_ok k s 16 n 65536 (by omega) hk (by omega) (by omega)
  have e1 : ((n : Int) % 16 != 0) = true := by rw [bne_iff_ne]; omega
  clear hk hs
  go_enter Try.func19, Try.ntmps19
  go_wp2_with (go_at_call 34; refine (HF.out _).mono ?_; rintro e w' ⟨rfl, rfl⟩)
  go_ret2
  exact ⟨rfl, rfl⟩
set_option maxRecDepth 100000 in
set_option maxHeartbeats 2000000 in
theorem implDcb_form (k s : ByteArray) (kn b o n cp : Nat) (c : Nat → Nat) (hkn : kn = 4 ∨ kn = 8) (hk : k.size = kn * 4) (hs : s.size = 16) (hn : n ≤ 65536) (h16 : n % 16 = 0) (hncp : n ≤ cp) (hc : ∀ i, c i < 256) (hu : ¬ UnOK n (cbcD (Gf.ws (strB k) kn (3 * kn + 28)) (kn + 6) (strB s) c)) (w : World) (h : Code8 w (some ⟨b, o, none⟩) n c) :
    Calls Try.prog 19 #[.string k, .string s, .slice (some ⟨b, o, none⟩) n cp] w fun e w' => e = .returned (.tuple #[.slice none 0 0, .int .i64 3]) ∧ Below w.heap.size w w' := by
  have HF : Hid (∀ w : World, Calls Try.prog 34 #[.string k, .string s, .int .i64 16, .int .i64 (n : Int), .int .i64 65536] w fun e w' => e = .returned (.int .i64 0) ∧ w = w') := mf_ok k s 16 n 65536 (by omega) (by omega) (by omega) (by omega)
  have SO : Hid (∀ w : World, Calls Try.prog 41 #[.string s] w fun e w' => e = .returned (.agg (bA 16 (strB s))) ∧ Below w.heap.size w w') := stateOf_le s (by omega)
  have UN : Hid (∀ w : World, Code8 w (some ⟨b, o, none⟩) n c → Calls Try.prog 43 #[.string k, .agg (bA 16 (strB s)), .slice (some ⟨b, o, none⟩) n cp] w fun e w' => RetB w w' e n (cbcD (Gf.ws (strB k) kn (3 * kn + 28)) (kn + 6) (strB s) c) ∧ Below w.heap.size w w') := fun w h => unchained_any k kn b o n cp (strB s) c hkn hk hn h16 hncp (strB_lt s) hc w h
  have lD : ∀ x, cbcD (Gf.ws (strB k) kn (3 * kn + 28)) (kn + 6) (strB s) c x < 256 := cbcD_lt (Gf.ws_lt (strB_lt k) _) (strB_lt s) hc
  generalize cbcD (Gf.ws (strB k) kn (3 * kn + 28)) (kn + 6) (strB s) c = D at *
  generalize bA 16 (strB s) = SA at *
  have US : Hid (∀ (g gc : Nat) (w : World), n ≤ gc → Code8 w (some ⟨g, 0, none⟩) n D → Calls Try.prog 30 #[.slice (some ⟨g, 0, none⟩) n gc] w fun e w' => e = .returned (.tuple #[.int .i64 0, .int .i64 3]) ∧ w = w') := fun g gc w hg h => unsz_any _ n gc D lD hn hg w h 0 3 (.inr ⟨hu, rfl, rfl⟩)
  have e1 : ((n : Int) % 16 != 0) = false := by rw [bne_eq_false_iff_eq]; omega
  have HC : Hid (Code8 w (some ⟨b, o, none⟩) n c) := h
  clear h hc hkn hk hs lD hu
  go_enter Try.func19, Try.ntmps19
  go_wp2_with (go_at_call 34; refine (HF.out _).mono ?_; rintro e w' ⟨rfl, rfl⟩)
  refine (SO.out _).mono ?_
  rintro e w1 ⟨rfl, hb1⟩
  have HB1 : Hid (Below w.heap.size w w1) := hb1
  have HC1 : Hid (Code8 w1 (some ⟨b, o, none⟩) n c) := HC.out.below hb1
  clear hb1 HC SO
  go_wp2_with fail
  refine (UN.out _ HC1.out).mono ?_
  rintro e w2 ⟨⟨g, gc, ⟨hg, hgc⟩, rfl, ho⟩, hb2⟩
  have HB2 : Hid (Below w.heap.size w w2) := HB1.out.trans (hb2.mono HB1.out.size)
  have HO2 : Hid (Own8 w2 g n D) := ho
  clear ho hb2 HB1 HC1 UN
  go_wp2_with fail
  refine (US.out _ _ _ hgc HO2.out.code).mono ?_
  rintro e w3 ⟨rfl, rfl⟩
  go_wp2
  go_ret2
  exact ⟨rfl, HB2.out⟩
set_option maxRecDepth 100000 in
set_option maxHeartbeats 2000000 in
theorem implDcb_yes (k s : ByteArray) (kn b o n cp : Nat) (c : Nat → Nat) (hkn : kn = 4 ∨ kn = 8) (hk : k.size = kn * 4) (hs : s.size = 16) (hn : n ≤ 65536) (h16 : n % 16 = 0) (hncp : n ≤ cp) (hc : ∀ i, c i < 256) (D : Nat → Nat) (hD : D = cbcD (Gf.ws (strB k) kn (3 * kn + 28)) (kn + 6) (strB s) c) (hu : UnOK n D) (w : World) (h : Code8 w (some ⟨b, o, none⟩) n c) :
    Calls Try.prog 19 #[.string k, .string s, .slice (some ⟨b, o, none⟩) n cp] w fun e w' => RetB2 w w' e (n - D (n - 1)) D (.int .i64 0) ∧ Below w.heap.size w w' := by
  have HF : Hid (∀ w : World, Calls Try.prog 34 #[.string k, .string s, .int .i64 16, .int .i64 (n : Int), .int .i64 65536] w fun e w' => e = .returned (.int .i64 0) ∧ w = w') := mf_ok k s 16 n 65536 (by omega) (by omega) (by omega) (by omega)
  have SO : Hid (∀ w : World, Calls Try.prog 41 #[.string s] w fun e w' => e = .returned (.agg (bA 16 (strB s))) ∧ Below w.heap.size w w') := stateOf_le s (by omega)
  have lD : ∀ x, D x < 256 := fun x => by rw [hD]; exact cbcD_lt (Gf.ws_lt (strB_lt k) _) (strB_lt s) hc x
  have UN : Hid (∀ w : World, Code8 w (some ⟨b, o, none⟩) n c → Calls Try.prog 43 #[.string k, .agg (bA 16 (strB s)), .slice (some ⟨b, o, none⟩) n cp] w fun e w' => RetB w w' e n D ∧ Below w.heap.size w w') := fun w h => by rw [hD]; exact unchained_any k kn b o n cp (strB s) c hkn hk hn h16 hncp (strB_lt s) hc w h
  generalize bA 16 (strB s) = SA at *
  have US : Hid (∀ (g gc : Nat) (w : World), n ≤ gc → Code8 w (some ⟨g, 0, none⟩) n D → Calls Try.prog 30 #[.slice (some ⟨g, 0, none⟩) n gc] w fun e w' => e = .returned (.tuple #[.int .i64 ((n - D (n - 1) : Nat) : Int), .int .i64 0]) ∧ w = w') := fun g gc w hg h => unsz_any _ n gc D lD hn hg w h _ 0 (.inl ⟨hu, rfl, rfl⟩)
  have e1 : ((n : Int) % 16 != 0) = false := by rw [bne_eq_false_iff_eq]; omega
  have HC : Hid (Code8 w (some ⟨b, o, none⟩) n c) := h
  have hq : n - D (n - 1) ≤ n := Nat.sub_le _ _
  generalize n - D (n - 1) = q at *
  clear h hc hkn hk hs lD hu hD
  go_enter Try.func19, Try.ntmps19
  go_wp2_with (go_at_call 34; refine (HF.out _).mono ?_; rintro e w' ⟨rfl, rfl⟩)
  refine (SO.out _).mono ?_
  rintro e w1 ⟨rfl, hb1⟩
  have HB1 : Hid (Below w.heap.size w w1) := hb1
  have HC1 : Hid (Code8 w1 (some ⟨b, o, none⟩) n c) := HC.out.below hb1
  have hw1 := hb1.size
  clear hb1 HC SO
  go_wp2_with fail
  refine (UN.out _ HC1.out).mono ?_
  rintro e w2 ⟨⟨g, gc, ⟨hg, hgc⟩, rfl, ho⟩, hb2⟩
  have HB2 : Hid (Below w.heap.size w w2) := HB1.out.trans (hb2.mono HB1.out.size)
  have HO2 : Hid (Own8 w2 g n D) := ho
  clear ho hb2 HB1 HC1 UN
  go_wp2_with fail
  refine (US.out _ _ _ hgc HO2.out.code).mono ?_
  rintro e w3 ⟨rfl, rfl⟩
  have x0 : (0 : Int) ≤ (q : Int) := by omega
  have x1 : (q : Int) ≤ (gc : Int) := by omega
  have HQ : Hid (Own8 w2 g q D) := HO2.out.part hq
  have hgw := Nat.le_trans hw1 hg
  go_wp2
  go_ret2
  exact ⟨⟨g, q, ⟨hgw, Nat.le_refl _⟩, rfl, HQ.out⟩, HB2.out⟩
end Go.Proofs.Ytggnaohigiakeaa
