/-
  The model's Cmac with its codes.
-/
import Derived.Test.YtbajdphiaibmgaaCmacS
namespace Go.Proofs.Ytbajdphiaibmgaa
open Go.ChangeShapes Go.WideShapes Go.ChangeAt Go.RowKit
theorem specCm_long (k : ByteArray) (a : Option Addr) (n c : Nat) (h : 65536 < k.size ∨ 65536 < n) (w : World) :
    Calls Try.prog 8 #[.string k, .slice a n c] w fun e w' => e = .returned (.tuple #[.string ⟨#[]⟩, .int .i64 2]) ∧ w = w' := by
  by_cases h1 : 65536 < k.size
  · have e1 : (65536 : Int) < k.size := by omega
    go_enter Try.func8, Try.ntmps8
    go_wp2
    go_ret2
    exact ⟨rfl, rfl⟩
  · have e1 : ¬ (65536 : Int) < k.size := by omega
    have e3 : (65536 : Int) < n := by omega
    go_enter Try.func8, Try.ntmps8
    go_wp2
    go_ret2
    exact ⟨rfl, rfl⟩
theorem specCm_bad (k : ByteArray) (a : Option Addr) (n c : Nat) (h1 : k.size ≤ 65536) (h3 : n ≤ 65536) (h : ¬ (k.size = 16 ∨ k.size = 32)) (w : World) :
    Calls Try.prog 8 #[.string k, .slice a n c] w fun e w' => e = .returned (.tuple #[.string ⟨#[]⟩, .int .i64 1]) ∧ w = w' := by
  have e1 : ¬ (65536 : Int) < k.size := by omega
  have e3 : ¬ (65536 : Int) < n := by omega
  have KO : Hid (∀ w : World, Calls Try.prog 21 #[.string k] w fun e w' => e = .returned (.bool false) ∧ w = w') := l01Key_no k (by omega) (by omega)
  clear h
  go_enter Try.func8, Try.ntmps8
  go_wp2_with (go_at_call 21; refine (KO.out _).mono ?_; rintro e w' ⟨rfl, rfl⟩)
  go_ret2
  exact ⟨rfl, rfl⟩
theorem specCm_yes (k : ByteArray) (kn b o n c : Nat) (f : Nat → Nat) (hkn : kn = 4 ∨ kn = 8) (hk : k.size = kn * 4) (hn : n ≤ 65536) (hnc : n ≤ c) (hf : ∀ i, f i < 256) (w : World) (h : Code8 w (some ⟨b, o, none⟩) n f) :
    Calls Try.prog 8 #[.string k, .slice (some ⟨b, o, none⟩) n c] w fun e w' => e = .returned (.tuple #[.string (kstr (cmacB (Gf.ws (strB k) kn (3 * kn + 28)) (kn + 6) n f) 0 16), .int .i64 0]) ∧ Below w.heap.size w w' := by
  have e1 : ¬ (65536 : Int) < k.size := by omega
  have e3 : ¬ (65536 : Int) < n := by omega
  have KO : Hid (∀ w : World, Calls Try.prog 21 #[.string k] w fun e w' => e = .returned (.bool true) ∧ w = w') := l01Key_yes k (by omega)
  have LC : Hid (Calls Try.prog 22 #[.string k, .slice (some ⟨b, o, none⟩) n c] w fun e w' => e = .returned (.string (kstr (cmacB (Gf.ws (strB k) kn (3 * kn + 28)) (kn + 6) n f) 0 16)) ∧ Below w.heap.size w w') := l02Cmac_any k kn b o n c f hkn hk hn hnc hf w h
  generalize kstr (cmacB (Gf.ws (strB k) kn (3 * kn + 28)) (kn + 6) n f) 0 16 = g at *
  clear h hf hkn hk
  go_enter Try.func8, Try.ntmps8
  go_wp2_with (go_at_call 21; refine (KO.out _).mono ?_; rintro e w' ⟨rfl, rfl⟩)
  refine LC.out.mono ?_
  rintro e w1 ⟨rfl, hB⟩
  have B1 : Hid (Below w.heap.size w w1) := hB
  clear hB
  go_wp2
  go_ret2
  exact ⟨rfl, B1.out⟩
end Go.Proofs.Ytbajdphiaibmgaa
