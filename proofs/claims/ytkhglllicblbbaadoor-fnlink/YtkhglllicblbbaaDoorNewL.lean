/-
  New links: NewLink of the program and of the model.
-/
import Derived.Test.YtkhglllicblbbaaDoorWin
import Derived.Test.YtkhglllicblbbaaDoorBoolM
namespace Go.Proofs.YtkhglllicblbbaaDoor
open Go.ChangeShapes Go.WideShapes Go.ChangeAt Go.RowKit
set_option linter.unusedVariables false
/-- What NewLink answers: a key, how many flags there are, and a code. -/
def NlA (K K' : ByteArray) (n : Nat) (code : Int) : Prop :=
  (65536 < K.size ∧ K' = ⟨#[]⟩ ∧ n = 0 ∧ code = 2) ∨ (K.size ≤ 65536 ∧ K.size ≠ 32 ∧ K' = ⟨#[]⟩ ∧ n = 0 ∧ code = 1) ∨ (K.size = 32 ∧ K' = K ∧ n = 32 ∧ code = 0)
theorem nlA_ex (K : ByteArray) : ∃ K' n code, NlA K K' n code := by
  by_cases h1 : 65536 < K.size
  · exact ⟨_, _, _, .inl ⟨h1, rfl, rfl, rfl⟩⟩
  · by_cases h2 : K.size = 32
    · exact ⟨_, _, _, .inr (.inr ⟨h2, rfl, rfl, rfl⟩)⟩
    · exact ⟨_, _, _, .inr (.inl ⟨by omega, h2, rfl, rfl, rfl⟩)⟩
theorem NlA.le {K K' : ByteArray} {n : Nat} {code : Int} (h : NlA K K' n code) : n ≤ 32 := by
  rcases h with ⟨_, _, rfl, _⟩ | ⟨_, _, _, rfl, _⟩ | ⟨_, _, rfl, _⟩ <;> omega
/-- A link and a code are handed back; its flags lie in a row of the call's own. -/
def RetL (w w' : World) (e : Ending) (K : ByteArray) (se to : Int) (n : Nat) (f : Nat → Bool) (code : Int) : Prop := ∃ a c, e = .returned (.tuple #[.agg #[.string K, .int .i64 se, .int .i64 to, .slice a n c], .int .i64 code]) ∧ OwnB w' w.heap.size a n f
set_option maxRecDepth 100000 in
set_option maxHeartbeats 1000000 in
theorem implNewL_any (K K' : ByteArray) (n : Nat) (code : Int) (h : NlA K K' n code) (w : World) :
    Calls Tryd.prog 23 #[.string K] w fun e w' => RetL w w' e K' 0 0 n (fun _ => false) code ∧ Below w.heap.size w w' := by
  have A1 : Hid (Below w.heap.size w (w.alloc (.cells #[.string ⟨#[]⟩, .int .i64 0, .int .i64 0, .slice none 0 0] 52))) := (Below.refl _ _).alloc (Nat.le_refl _) _
  have X1 : Hid (Box4 (w.alloc (.cells #[.string ⟨#[]⟩, .int .i64 0, .int .i64 0, .slice none 0 0] 52)) w.heap.size 52 (.string ⟨#[]⟩) (.int .i64 0) (.int .i64 0) (.slice none 0 0)) := Box4.madeAt rfl _ _ _ _ _
  rcases h with ⟨h1, rfl, rfl, rfl⟩ | ⟨h1, h2, rfl, rfl, rfl⟩ | ⟨h1, rfl, rfl, rfl⟩
  · have e1 : (65536 : Int) < (K.size : Int) := by omega
    clear h1 X1
    go_enter Tryd.func23, Tryd.ntmps23
    go_wp2
    exact ret_cell2 (b := w.heap.size) (v := .agg #[.string ⟨#[]⟩, .int .i64 0, .int .i64 0, .slice none 0 0]) (x := .int .i64 2) Tryd.results23 rfl rfl (by go_simp) ⟨⟨none, 0, rfl, .inl rfl⟩, A1.out⟩
  · have e1 : ¬ (65536 : Int) < (K.size : Int) := by omega
    have e3 : ((K.size : Int) != 32) = true := by simp; omega
    clear h1 h2 X1
    go_enter Tryd.func23, Tryd.ntmps23
    go_wp2
    exact ret_cell2 (b := w.heap.size) (v := .agg #[.string ⟨#[]⟩, .int .i64 0, .int .i64 0, .slice none 0 0]) (x := .int .i64 1) Tryd.results23 rfl rfl (by go_simp) ⟨⟨none, 0, rfl, .inl rfl⟩, A1.out⟩
  · have e1 : ¬ (65536 : Int) < (K'.size : Int) := by omega
    have e3 : ((K'.size : Int) != 32) = false := by simp; omega
    have FL : Hid (∀ w : World, Calls Tryd.prog 65 #[.int .u32 0] w fun e w' => e = .returned (.slice (some ⟨w.heap.size, 0, none⟩) 32 32) ∧ w'.rowIs w.heap.size 4 32 (fun i => .bool false) ∧ Below w.heap.size w w') := fun w => (flags_any 0 (by decide) w).mono fun e w' h => ⟨h.1, h.2.1.congr (fun i _ => by rw [Nat.zero_testBit]), h.2.2⟩
    clear h1
    go_enter Tryd.func23, Tryd.ntmps23
    go_wp2_with fail
    generalize hU : (w.alloc (.cells #[.string ⟨#[]⟩, .int .i64 0, .int .i64 0, .slice none 0 0] 52)) = u at *
    clear hU
    refine (FL.out _).mono ?_
    rintro e w1 ⟨rfl, hr, hb⟩
    have X2 := X1.out.below hb
    have ne : w.heap.size ≠ u.heap.size := by have := X1.out.lt; omega
    have m0 := X2.c0
    have m1 := X2.c1
    have m2 := X2.c2
    have m3 := X2.c3
    have f0 := X2.fr 0
    have f1 := X2.fr 1
    have f2 := X2.fr 2
    have f3 := X2.fr 3
    have GE : Hid (w.heap.size ≤ u.heap.size) := A1.out.size
    obtain ⟨U5, hU5⟩ : ∃ U5, U5 = (((w1.setCell ⟨w.heap.size, 0, none⟩ (.string K')).setCell ⟨w.heap.size, 1, none⟩ (.int .i64 0)).setCell ⟨w.heap.size, 2, none⟩ (.int .i64 0)).setCell ⟨w.heap.size, 3, none⟩ (.slice (some ⟨u.heap.size, 0, none⟩) 32 32) := ⟨_, rfl⟩
    have O2 : OnlyB w.heap.size w1 U5 := by rw [hU5]; exact ((((OnlyB.refl _ _).setCell 0 _).setCell 1 _).setCell 2 _).setCell 3 _
    have Y5 : Hid (Box4 U5 w.heap.size 52 (.string K') (.int .i64 0) (.int .i64 0) (.slice (some ⟨u.heap.size, 0, none⟩) 32 32)) := by rw [hU5]; exact (((X2.set0 _).set1 _).set2 _).set3 _
    have R5 : Hid (U5.rowIs u.heap.size 4 32 (fun i => .bool false)) := World.rowIs.of_block hr (O2.block _ (World.rowIs.lt hr) (fun e => ne e.symm))
    have B5 : Hid (Below w.heap.size w U5) := by
      have q1 := A1.out.trans (hb.mono A1.out.size)
      exact q1.trans (O2.toBelow (B := w.heap.size) (Nat.le_refl _) q1.size)
    have HU : Hid (U5 = _) := hU5
    clear O2 X2 hr hb X1 A1 FL hU5 ne
    go_wp2
    rw [← HU.out]
    clear HU m0 m1 m2 m3 f0 f1 f2 f3
    have y0 := Y5.out.c0
    have y1 := Y5.out.c1
    have y2 := Y5.out.c2
    have y3 := Y5.out.c3
    exact ret_cell2 (b := w.heap.size) (v := .agg #[.string K', .int .i64 0, .int .i64 0, .slice (some ⟨u.heap.size, 0, none⟩) 32 32]) (x := .int .i64 0) Tryd.results23 rfl rfl (by go_simp) ⟨⟨_, 32, rfl, OwnB.ofRow GE.out R5.out⟩, B5.out⟩
end Go.Proofs.YtkhglllicblbbaaDoor
