/-
  The exact law of CbcEncrypt.
-/
import Derived.Test.YtggnaohigiakeabCbc
import Derived.Test.YtggnaohigiakeabCbcS2
import Derived.Test.YtggnaohigiakeabOfCbcEncrypt
namespace Go.Proofs.Ytggnaohigiakeab
open Go.ChangeShapes Go.WideShapes Go.ChangeAt Go.RowKit
theorem retI_ofE {N : Nat} {args : Array Value} {w : World} {n : Nat} {f : Nat → Nat} {code : Int} (h : Calls Try.prog N args w fun e w' => RetB2 w w' e n f (.int .i64 code) ∧ Below w.heap.size w w') : Calls Try.prog N args w fun e w' => RetI w w' e n f code ∧ Below w.heap.size w w' :=
  h.mono fun _ _ hh => ⟨hh.1.retI, hh.2⟩
theorem retI_nilE {N : Nat} {args : Array Value} {w : World} {f : Nat → Nat} {code : Int} (h : Calls Try.prog N args w fun e w' => e = .returned (.tuple #[.slice none 0 0, .int .i64 code]) ∧ w = w') : Calls Try.prog N args w fun e w' => RetI w w' e 0 f code ∧ Below w.heap.size w w' :=
  h.mono fun _ _ hh => ⟨by rw [hh.1]; exact RetI.nil, by rw [← hh.2]; exact Below.refl _ _⟩
theorem law_cbcEncrypt (k s : ByteArray) (a : Option Addr) (N C : Nat) (zs : List Int) (w : World) (h : IsRow .u8 w a N C zs) :
    Calls Try.prog 3 #[.string k, .string s, .slice a N C] w fun e w' => e = .returned (.bool true) ∧ Below w.heap.size w w' := by
  by_cases h0 : k.size ≤ 1048576 ∧ s.size ≤ 1048576 ∧ N ≤ 1048576
  · obtain ⟨hk0, hs0, hN0⟩ := h0
    obtain ⟨f, hf, hc⟩ := code8_of_row h
    by_cases h1 : 65536 < k.size ∨ 65536 < s.size ∨ 65520 < N
    · exact lawCbcEncrypt_of k s a N C 0 f f 2 hk0 hs0 hN0 (by omega) (fun b w _ => retI_ofE (specCbc_long k s _ N N f h1 w)) (fun b w _ => retI_nilE (implCbc_no k s _ N N 2 (by decide) (mf_long k s 16 N 65520 (by omega)) w)) w hc
    · by_cases h2 : (k.size = 16 ∨ k.size = 32) ∧ s.size = 16
      · obtain ⟨kn, hkn, hk⟩ : ∃ kn, (kn = 4 ∨ kn = 8) ∧ k.size = kn * 4 := by
          rcases h2.1 with h | h
          · exact ⟨4, .inl rfl, h⟩
          · exact ⟨8, .inr rfl, h⟩
        exact lawCbcEncrypt_of k s a N C (N + fillN N) f (cbcO (Gf.ws (strB k) kn (3 * kn + 28)) (kn + 6) (strB s) (padF N f)) 0 hk0 hs0 hN0 (by have := (fillN_bd N).2; omega) (fun b w hw => retI_ofE (specCbc_yes k s kn b 0 N N f hkn hk h2.2 (by omega) hf w hw)) (fun b w hw => retI_ofE (implCbc_yes k s kn b 0 N N f hkn hk h2.2 (by omega) hf w hw)) w hc
      · exact lawCbcEncrypt_of k s a N C 0 f f 1 hk0 hs0 hN0 (by omega) (fun b w _ => retI_ofE (specCbc_bad k s _ N N f (by omega) (by omega) (by omega) h2 w)) (fun b w _ => retI_nilE (implCbc_no k s _ N N 1 (by decide) (mf_bad k s 16 N 65520 (by omega) (by omega) (by omega) (by omega)) w)) w hc
  · clear h
    by_cases h1 : k.size ≤ 1048576
    · have e1 : ¬ (1048576 : Int) < k.size := by omega
      by_cases h2 : s.size ≤ 1048576
      · have e2 : ¬ (1048576 : Int) < s.size := by omega
        have e3 : (1048576 : Int) < N := by omega
        clear h0
        go_enter Try.func3, Try.ntmps3
        go_wp2
        go_ret
        exact ⟨rfl, Below.refl _ _⟩
      · have e2 : (1048576 : Int) < s.size := by omega
        clear h0
        go_enter Try.func3, Try.ntmps3
        go_wp2
        go_ret
        exact ⟨rfl, Below.refl _ _⟩
    · have e1 : (1048576 : Int) < k.size := by omega
      clear h0
      go_enter Try.func3, Try.ntmps3
      go_wp2
      go_ret
      exact ⟨rfl, Below.refl _ _⟩
end Go.Proofs.Ytggnaohigiakeab
