/-
  The exact law of CbcDecrypt.
-/
import Derived.Test.YtggnaohigiakeabCbcD
import Derived.Test.YtggnaohigiakeabCbcDS
import Derived.Test.YtggnaohigiakeabOfCbcDecrypt
namespace Go.Proofs.Ytggnaohigiakeab
open Go.ChangeShapes Go.WideShapes Go.ChangeAt Go.RowKit
theorem retI_ofD {N : Nat} {args : Array Value} {w : World} {n : Nat} {f : Nat → Nat} {code : Int} (h : Calls Try.prog N args w fun e w' => RetB2 w w' e n f (.int .i64 code) ∧ Below w.heap.size w w') : Calls Try.prog N args w fun e w' => RetI w w' e n f code ∧ Below w.heap.size w w' :=
  h.mono fun _ _ hh => ⟨hh.1.retI, hh.2⟩
theorem retI_nilD {N : Nat} {args : Array Value} {w : World} {f : Nat → Nat} {code : Int} (h : Calls Try.prog N args w fun e w' => e = .returned (.tuple #[.slice none 0 0, .int .i64 code]) ∧ w = w') : Calls Try.prog N args w fun e w' => RetI w w' e 0 f code ∧ Below w.heap.size w w' :=
  h.mono fun _ _ hh => ⟨by rw [hh.1]; exact RetI.nil, by rw [← hh.2]; exact Below.refl _ _⟩
theorem retI_nilB {N : Nat} {args : Array Value} {w : World} {f : Nat → Nat} {code : Int} (h : Calls Try.prog N args w fun e w' => e = .returned (.tuple #[.slice none 0 0, .int .i64 code]) ∧ Below w.heap.size w w') : Calls Try.prog N args w fun e w' => RetI w w' e 0 f code ∧ Below w.heap.size w w' :=
  h.mono fun _ _ hh => ⟨by rw [hh.1]; exact RetI.nil, hh.2⟩
theorem law_cbcDecrypt (k s : ByteArray) (a : Option Addr) (N C : Nat) (zs : List Int) (w : World) (h : IsRow .u8 w a N C zs) :
    Calls Try.prog 4 #[.string k, .string s, .slice a N C] w fun e w' => e = .returned (.bool true) ∧ Below w.heap.size w w' := by
  by_cases h0 : k.size ≤ 1048576 ∧ s.size ≤ 1048576 ∧ N ≤ 1048576
  · obtain ⟨hk0, hs0, hN0⟩ := h0
    obtain ⟨f, hf, hc⟩ := code8_of_row h
    by_cases h1 : 65536 < k.size ∨ 65536 < s.size ∨ 65536 < N
    · exact lawCbcDecrypt_of k s a N C 0 f f 2 hk0 hs0 hN0 (by omega) (fun b w _ => retI_ofD (specDcb_long k s _ N N f h1 w)) (fun b w _ => retI_nilD (implDcb_no k s _ N N 2 (by decide) (mf_long k s 16 N 65536 (by omega)) w)) w hc
    · by_cases h2 : (k.size = 16 ∨ k.size = 32) ∧ s.size = 16
      · by_cases h16 : N % 16 = 0
        · obtain ⟨kn, hkn, hk⟩ : ∃ kn, (kn = 4 ∨ kn = 8) ∧ k.size = kn * 4 := by
            rcases h2.1 with h | h
            · exact ⟨4, .inl rfl, h⟩
            · exact ⟨8, .inr rfl, h⟩
          by_cases hu : UnOK N (cbcD (Gf.ws (strB k) kn (3 * kn + 28)) (kn + 6) (strB s) f)
          · exact lawCbcDecrypt_of k s a N C _ f _ 0 hk0 hs0 hN0 (by omega) (fun b w hw => retI_ofD (specDcb_yes k s kn b 0 N N f hkn hk h2.2 (by omega) h16 hu.1 (Nat.le_refl _) hf _ rfl _ true (.inl ⟨hu, rfl, rfl⟩) 0 rfl w hw)) (fun b w hw => retI_ofD (implDcb_yes k s kn b 0 N N f hkn hk h2.2 (by omega) h16 (Nat.le_refl _) hf _ rfl hu w hw)) w hc
          · by_cases hz : N = 0
            · exact lawCbcDecrypt_of k s a N C 0 f f 3 hk0 hs0 hN0 (by omega) (fun b w _ => retI_ofD (specDcb_part k s _ N N f h2.1 h2.2 (by omega) (.inl hz) w)) (fun b w hw => retI_nilB (implDcb_form k s kn b 0 N N f hkn hk h2.2 (by omega) h16 (Nat.le_refl _) hf hu w hw)) w hc
            · exact lawCbcDecrypt_of k s a N C 0 f _ 3 hk0 hs0 hN0 (by omega) (fun b w hw => retI_ofD (specDcb_yes k s kn b 0 N N f hkn hk h2.2 (by omega) h16 (by omega) (Nat.le_refl _) hf _ rfl 0 false (.inr ⟨hu, rfl, rfl⟩) 3 rfl w hw)) (fun b w hw => retI_nilB (implDcb_form k s kn b 0 N N f hkn hk h2.2 (by omega) h16 (Nat.le_refl _) hf hu w hw)) w hc
        · exact lawCbcDecrypt_of k s a N C 0 f f 3 hk0 hs0 hN0 (by omega) (fun b w _ => retI_ofD (specDcb_part k s _ N N f h2.1 h2.2 (by omega) (.inr h16) w)) (fun b w _ => retI_nilD (implDcb_part k s _ N N h2.1 h2.2 (by omega) h16 w)) w hc
      · exact lawCbcDecrypt_of k s a N C 0 f f 1 hk0 hs0 hN0 (by omega) (fun b w _ => retI_ofD (specDcb_bad k s _ N N f (by omega) (by omega) (by omega) h2 w)) (fun b w _ => retI_nilD (implDcb_no k s _ N N 1 (by decide) (mf_bad k s 16 N 65536 (by omega) (by omega) (by omega) (by omega)) w)) w hc
  · clear h
    by_cases h1 : k.size ≤ 1048576
    · have e1 : ¬ (1048576 : Int) < k.size := by omega
      by_cases h2 : s.size ≤ 1048576
      · have e2 : ¬ (1048576 : Int) < s.size := by omega
        have e3 : (1048576 : Int) < N := by omega
        clear h0
        go_enter Try.func4, Try.ntmps4
        go_wp2
        go_ret
        exact ⟨rfl, Below.refl _ _⟩
      · have e2 : (1048576 : Int) < s.size := by omega
        clear h0
        go_enter Try.func4, Try.ntmps4
        go_wp2
        go_ret
        exact ⟨rfl, Below.refl _ _⟩
    · have e1 : (1048576 : Int) < k.size := by omega
      clear h0
      go_enter Try.func4, Try.ntmps4
      go_wp2
      go_ret
      exact ⟨rfl, Below.refl _ _⟩
end Go.Proofs.Ytggnaohigiakeab
