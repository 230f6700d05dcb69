/-
  The exact law of Hash.
-/
import Derived.Test.YtbajdphiaibmgaaDoorHashS
import Derived.Test.YtbajdphiaibmgaaDoorOfHash
namespace Go.Proofs.YtbajdphiaibmgaaDoor
open Go.ChangeShapes Go.WideShapes Go.ChangeAt Go.RowKit
theorem implHash_long (a : Option Addr) (n c : Nat) (h : 65536 < n) (w : World) :
    Calls Tryd.prog 14 #[.slice a n c] w fun e w' => e = .returned (.string ⟨#[]⟩) ∧ Below w.heap.size w w' := by
  have e1 : (65536 : Int) < n := by omega
  go_enter Tryd.func14, Tryd.ntmps14
  go_wp2
  go_ret
  exact ⟨rfl, Below.refl _ _⟩
theorem specHash_long (a : Option Addr) (n c : Nat) (h : 65536 < n) (w : World) :
    Calls Tryd.prog 16 #[.slice a n c] w fun e w' => e = .returned (.string ⟨#[]⟩) ∧ Below w.heap.size w w' := by
  have e1 : (65536 : Int) < n := by omega
  go_enter Tryd.func16, Tryd.ntmps16
  go_wp2
  go_ret
  exact ⟨rfl, Below.refl _ _⟩
theorem implHash_yes (b o n c : Nat) (f : Nat → Nat) (hf : ∀ i, f i < 256) (hn : n ≤ 65536) (w : World) (h : Code8 w (some ⟨b, o, none⟩) n f) (ht : Tabs w) :
    Calls Tryd.prog 14 #[.slice (some ⟨b, o, none⟩) n c] w fun e w' => e = .returned (.string (hashS n f)) ∧ Below w.heap.size w w' := by
  have e1 : ¬ (65536 : Int) < n := by omega
  have HA : Hid (Calls Tryd.prog 29 #[.slice (some ⟨b, o, none⟩) n c] w fun e w' => e = .returned (.string (hashS n f)) ∧ Below w.heap.size w w') := hashed_any b o n c f hf (by omega) w h ht
  generalize hashS n f = g at *
  clear h ht hf
  go_enter Tryd.func14, Tryd.ntmps14
  go_wp2_with fail
  refine HA.out.mono ?_
  rintro e w1 ⟨rfl, hb⟩
  have B1 : Hid (Below w.heap.size w w1) := hb
  clear hb
  go_wp2
  go_ret
  exact ⟨rfl, B1.out⟩
theorem specHash_yes (b o n c : Nat) (f : Nat → Nat) (hf : ∀ i, f i < 256) (hn : n ≤ 65536) (w : World) (h : Code8 w (some ⟨b, o, none⟩) n f) :
    Calls Tryd.prog 16 #[.slice (some ⟨b, o, none⟩) n c] w fun e w' => e = .returned (.string (hashS n f)) ∧ Below w.heap.size w w' := by
  have e1 : ¬ (65536 : Int) < n := by omega
  have HA : Hid (Calls Tryd.prog 31 #[.slice (some ⟨b, o, none⟩) n c] w fun e w' => e = .returned (.string (hashS n f)) ∧ Below w.heap.size w w') := l03Hash_any b o n c f hf (by omega) w h
  generalize hashS n f = g at *
  clear h hf
  go_enter Tryd.func16, Tryd.ntmps16
  go_wp2_with fail
  refine HA.out.mono ?_
  rintro e w1 ⟨rfl, hb⟩
  have B1 : Hid (Below w.heap.size w w1) := hb
  clear hb
  go_wp2
  go_ret
  exact ⟨rfl, B1.out⟩
theorem law_hash (a0 : Option Addr) (N0 C0 : Nat) (z0 : List Int) (w : World) (r0 : IsRow .u8 w a0 N0 C0 z0) (ht : Tabs w) :
    Calls Tryd.prog 4 #[.slice a0 N0 C0] w fun e w' => e = .returned (.bool true) ∧ Below w.heap.size w w' := by
  by_cases h0 : N0 ≤ 1048576
  · obtain ⟨f, hf, hc⟩ := code8_of_row r0
    by_cases hl : 65536 < N0
    · exact lawHash_of a0 N0 C0 f ⟨#[]⟩ h0 (fun b0 w _ => specHash_long _ N0 N0 hl w) (fun b0 w _ _ => implHash_long _ N0 N0 hl w) w hc ht
    · exact lawHash_of a0 N0 C0 f _ h0 (fun b0 w k0 => specHash_yes b0 0 N0 N0 f hf (by omega) w k0) (fun b0 w k0 kt => implHash_yes b0 0 N0 N0 f hf (by omega) w k0 kt) w hc ht
  · exact lawHash_big a0 N0 C0 h0 w
end Go.Proofs.YtbajdphiaibmgaaDoor
