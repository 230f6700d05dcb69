/-
  The exact laws of PadBlocks and UnpadBlocks.
-/
import Derived.Test.YtggnaohigiakeaaPad
import Derived.Test.YtggnaohigiakeaaPadS
import Derived.Test.YtggnaohigiakeaaOfPadBlocks
import Derived.Test.YtggnaohigiakeaaOfUnpadBlocks
namespace Go.Proofs.Ytggnaohigiakeaa
open Go.ChangeShapes Go.WideShapes Go.ChangeAt Go.RowKit
theorem retI_of {N : Nat} {args : Array Value} {w : World} {n : Nat} {f : Nat → Nat} {code : Int} (h : Calls Try.prog N args w fun e w' => RetB2 w w' e n f (.int .i64 code) ∧ Below w.heap.size w w') : Calls Try.prog N args w fun e w' => RetI w w' e n f code ∧ Below w.heap.size w w' :=
  h.mono fun _ _ hh => ⟨hh.1.retI, hh.2⟩
theorem retI_nil {N : Nat} {args : Array Value} {w : World} {f : Nat → Nat} {code : Int} (h : Calls Try.prog N args w fun e w' => e = .returned (.tuple #[.slice none 0 0, .int .i64 code]) ∧ w = w') : Calls Try.prog N args w fun e w' => RetI w w' e 0 f code ∧ Below w.heap.size w w' :=
  h.mono fun _ _ hh => ⟨by rw [hh.1]; exact RetI.nil, by rw [← hh.2]; exact Below.refl _ _⟩
theorem law_padBlocks (a : Option Addr) (N C : Nat) (zs : List Int) (w : World) (h : IsRow .u8 w a N C zs) :
    Calls Try.prog 6 #[.slice a N C] w fun e w' => e = .returned (.bool true) ∧ Below w.heap.size w w' := by
  by_cases h0 : N ≤ 1048576
  · obtain ⟨f, hf, hc⟩ := code8_of_row h
    by_cases h1 : N ≤ 65520
    · exact lawPadBlocks_of a N C (N + fillN N) f (padF N f) 0 h0 (by have := (fillN_bd N).2; omega) (fun b w hw => retI_of (specPad_yes b 0 N N f h1 w hw)) (fun b w hw => retI_of (implPad_yes b 0 N N f h1 w hw)) w hc
    · exact lawPadBlocks_of a N C 0 f f 2 h0 (by omega) (fun b w _ => retI_of (specPad_no _ N N f (by omega) w)) (fun b w _ => retI_nil (implPad_no _ N N (by omega) w)) w hc
  · have e1 : (1048576 : Int) < (N : Int) := by omega
    go_enter Try.func6, Try.ntmps6
    go_wp2
    go_ret
    exact ⟨rfl, Below.refl _ _⟩
theorem law_unpadBlocks (a : Option Addr) (N C : Nat) (zs : List Int) (w : World) (h : IsRow .u8 w a N C zs) :
    Calls Try.prog 7 #[.slice a N C] w fun e w' => e = .returned (.bool true) ∧ Below w.heap.size w w' := by
  by_cases h0 : N ≤ 1048576
  · obtain ⟨f, hf, hc⟩ := code8_of_row h
    by_cases h1 : N ≤ 65536
    · by_cases h2 : UnOK N f
      · exact lawUnpadBlocks_of a N C (N - f (N - 1)) f f 0 h0 (by omega) (fun b w hw => retI_of (specUnpad_yes _ N N f hf h1 (Nat.le_refl _) h2 w hw)) (fun b w hw => retI_of (implUnpad_yes _ N N f hf h1 (Nat.le_refl _) h2 w hw)) w hc
      · exact lawUnpadBlocks_of a N C 0 f f 3 h0 (by omega) (fun b w hw => retI_of (specUnpad_no _ N N f hf h1 (Nat.le_refl _) h2 w hw)) (fun b w hw => retI_nil (implUnpad_no _ N N f hf h1 (Nat.le_refl _) h2 w hw)) w hc
    · exact lawUnpadBlocks_of a N C 0 f f 2 h0 (by omega) (fun b w _ => retI_of (specUnpad_long _ N N f (by omega) w)) (fun b w _ => retI_nil (implUnpad_long _ N N (by omega) w)) w hc
  · have e1 : (1048576 : Int) < (N : Int) := by omega
    go_enter Try.func7, Try.ntmps7
    go_wp2
    go_ret
    exact ⟨rfl, Below.refl _ _⟩
end Go.Proofs.Ytggnaohigiakeaa
