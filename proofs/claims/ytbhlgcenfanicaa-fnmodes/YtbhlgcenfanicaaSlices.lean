/-
  Contracts of the library's functions on slices of bytes that the modes call: slices.Clone, math/bits.Mul, slices.Grow.
-/
import Derived.Test.YtbhlgcenfanicaaByteS
import Derived.OwnWalk
import Derived.Lib.SliceRun
import Derived.Lib.AppendZeros
import Derived.Laws.IdiomCopy
import Derived.LoopN
import Derived.BigRegion
namespace Go.Proofs.Ytbhlgcenfanicaa
open Go.ChangeShapes Go.WideShapes Go.ChangeAt Go.RowKit
/-- A new slice of n bytes that read as f is handed back. -/
def RetB (w w' : World) (e : Ending) (n : Nat) (f : Nat → Nat) : Prop := ∃ b c, (w.heap.size ≤ b ∧ n ≤ c) ∧ e = .returned (.slice (some ⟨b, 0, none⟩) n c) ∧ Own8 w' b n f
set_option maxRecDepth 100000 in
set_option maxHeartbeats 1000000 in
/-- slices.Clone of a slice of bytes that is not nil. -/
theorem clone_any (b o n c : Nat) (f : Nat → Nat) (hn : n ≤ 100000) (w : World) (h : Code8 w (some ⟨b, o, none⟩) n f) :
    Calls Try.prog 26 #[.slice (some ⟨b, o, none⟩) n c] w fun e w' => RetB w w' e n f ∧ Below w.heap.size w w' := by
  obtain ⟨i0, hi⟩ := info_parts Try.info8
  have HI : Hid (Try.prog.info? 5 = some i0 ∧ i0.zero = some (.int .u8 0) ∧ i0.size = 1 ∧ i0.bytes = 1) := hi
  have HC : Hid (Code8 w (some ⟨b, o, none⟩) n f) := h
  have q : ∀ (w : World) (a : Option Addr) (n c n' c' : Nat), (binOp .eql 22 (.slice a n c) (.slice none n' c')).run Try.prog w = .ok (.bool a.isNone) w := fun w a n c n' c' => Lib.run_eql_slice_nil w _ _ a n c n' c' Try.underlying22
  clear h hi
  go_enter Try.func26, Try.ntmps26
  go_wp2_with (at_builtin; refine wpList_append_own _ rfl _ _ 22 rfl w.heap.size 5 i0 (.int .u8 0) 1 1 Try.underlying22 HI.out.1 HI.out.2.1 HI.out.2.2.1 HI.out.2.2.2 rfl (by decide) _ _ _ rfl (World.ownsRow_made w #[] 0 (Nat.le_refl _) (Nat.zero_le _) (by simp)) ⟨b, o, none⟩ n c (bv n f) rfl (by rw [bv_length, Nat.mul_one]) ?qc2 (bv_one n f) (by unfold maxLen; omega) (by omega) (by simp) ?_)
  case qc2 =>
    intro j u hj
    exact Lib.cell?_alloc_some _ (bv_news HC.out j u hj)
  intro v' w1 hown hgrow hnil
  have hown' : w1.ownsRow w.heap.size 5 1 v' n (bv n f) := by simpa using hown
  obtain ⟨b', c', hb', rfl, ho⟩ := own8_of_own hown' hnil
  have HB : Hid (Below w.heap.size w w1) := ((Below.refl _ w).alloc (Nat.le_refl _) _).grown hgrow (by simp) (by intro k hk; simp [Value.ownBlock] at hk; omega)
  have HO : Hid (Own8 w1 b' n f) := ho
  clear hown hgrow hnil hown' ho
  go_wp2
  go_ret
  exact ⟨⟨b', c', hb', rfl, HO.out⟩, HB.out⟩
set_option maxRecDepth 100000 in
set_option maxHeartbeats 4000000 in
theorem mul64_one (k : Nat) (hk : 1 ≤ k) (hk' : k ≤ 16) (w : World) :
    Calls Try.prog 89 #[.int .u64 1, .int .u64 (k : Int)] w fun e w' => e = .returned (.tuple #[.int .u64 0, .int .u64 (k : Int)]) ∧ w = w' := by
  obtain rfl | rfl | rfl | rfl | rfl | rfl | rfl | rfl | rfl | rfl | rfl | rfl | rfl | rfl | rfl | rfl : k = 1 ∨ k = 2 ∨ k = 3 ∨ k = 4 ∨ k = 5 ∨ k = 6 ∨ k = 7 ∨ k = 8 ∨ k = 9 ∨ k = 10 ∨ k = 11 ∨ k = 12 ∨ k = 13 ∨ k = 14 ∨ k = 15 ∨ k = 16 := by omega
  all_goals
    go_enter Try.func89, Try.ntmps89
    go_wp2
    go_ret2
    exact ⟨rfl, rfl⟩
theorem mul_one (k : Nat) (hk : 1 ≤ k) (hk' : k ≤ 16) (w : World) :
    Calls Try.prog 82 #[.int .u64 1, .int .u64 (k : Int)] w fun e w' => e = .returned (.tuple #[.int .u64 0, .int .u64 (k : Int)]) ∧ w = w' := by
  have M : Hid (∀ w : World, Calls Try.prog 89 #[.int .u64 1, .int .u64 (k : Int)] w fun e w' => e = .returned (.tuple #[.int .u64 0, .int .u64 (k : Int)]) ∧ w = w') := mul64_one k hk hk'
  go_enter Try.func82, Try.ntmps82
  go_wp2_with (go_at_call 89; refine (M.out _).mono ?_; rintro e w' ⟨rfl, rfl⟩)
  go_ret2
  exact ⟨rfl, rfl⟩
set_option maxRecDepth 100000 in
set_option maxHeartbeats 1000000 in
/-- slices.Grow of nil. -/
theorem grow_nil (n : Nat) (hn : 1 ≤ n) (hn' : n ≤ 2000000) (w : World) :
    Calls Try.prog 81 #[.slice none 0 0, .int .i64 (n : Int)] w fun e w' => (∃ b c, w.heap.size ≤ b ∧ e = .returned (.slice (some ⟨b, 0, none⟩) 0 c) ∧ w'.ownsRow w.heap.size 5 1 (.slice (some ⟨b, 0, none⟩) 0 c) 0 []) ∧ Below w.heap.size w w' := by
  obtain ⟨i0, hi, hz, hs, hb⟩ := info_parts Try.info8
  have hrz : ∀ ty, (Builtin.append_ #[22, 3] ty #[.slice none 0 0, .int .i64 (n : Int)]).run Try.prog w = _ := fun ty => Lib.run_append_nil_zeros w 22 3 ty 5 i0 (.int .u8 0) .i64 .i64 Try.underlying22 Try.underlying3 hi hz n (by omega) (by omega) (by omega) (by rw [hb]; omega)
  have hge : n ≤ grownCap w n 0 5 := grownCap_ge w _ _ _
  have hle : grownCap w n 0 5 ≤ maxLen := grownCap_le_maxLen w n 0 5 (by unfold maxLen; omega)
  generalize grownCap w n 0 5 = G at *
  have HO : Hid ((w.drew.alloc (.cells (Builtin.zeroCells (Value.int .u8 0).cells n ++ Builtin.zeroCells (Value.int .u8 0).cells (G - n)) 5)).ownsRow w.heap.size 5 1 (.slice (some ⟨w.heap.size, 0, none⟩) 0 G) 0 []) :=
    World.ownsRow_made w.drew _ G (Nat.le_refl _) hle (by rw [Array.size_append, size_zeroCells, size_zeroCells]; show n * 1 + (G - n) * 1 = G * 1; omega)
  have HB : Hid (Below w.heap.size w (w.drew.alloc (.cells (Builtin.zeroCells (Value.int .u8 0).cells n ++ Builtin.zeroCells (Value.int .u8 0).cells (G - n)) 5))) := (Below.refl _ w).drew.alloc (Nat.le_refl _) _
  generalize w.drew.alloc (.cells (Builtin.zeroCells (Value.int .u8 0).cells n ++ Builtin.zeroCells (Value.int .u8 0).cells (G - n)) 5) = wz at *
  have hGi : (G : Int) ≤ 9223372036854775807 := by unfold maxLen at hle; omega
  clear hi hz hs hb hle
  have x1 : ¬ (n : Int) < 0 := by omega
  have x2 : (0 : Int) < (n : Int) := by omega
  go_enter Try.func81, Try.ntmps81
  go_wp2_with (at_builtin; refine Lib.wpList_append_run _ rfl _ _ _ _ rfl _ _ rfl rfl _ _ (hrz _) ?_)
  go_ret
  exact ⟨⟨_, Nat.le_refl _, _, rfl, HO.out⟩, HB.out⟩
theorem size8 : (Try.prog.info? 5).map (·.size) = some 1 := by kernel_rfl
/-- A new slice of n bytes that read as f is handed back, and something beside it. -/
def RetB2 (w w' : World) (e : Ending) (n : Nat) (f : Nat → Nat) (t : Value) : Prop := ∃ b c, (w.heap.size ≤ b ∧ n ≤ c) ∧ e = .returned (.tuple #[.slice (some ⟨b, 0, none⟩) n c, t]) ∧ Own8 w' b n f
/-- A slice of n bytes of the call's own (any, of none) is handed back, and a code. -/
def RetI (w w' : World) (e : Ending) (n : Nat) (f : Nat → Nat) (code : Int) : Prop := ∃ a c, e = .returned (.tuple #[.slice a n c, .int .i64 code]) ∧ OwnS w' w.heap.size a n f
theorem RetB2.retI {w w' : World} {e : Ending} {n : Nat} {f : Nat → Nat} {code : Int} (h : RetB2 w w' e n f (.int .i64 code)) : RetI w w' e n f code := by
  obtain ⟨b, c, hb, he, ho⟩ := h
  exact ⟨_, c, he, .inr ⟨b, hb.1, rfl, ho⟩⟩
theorem RetI.nil {w w' : World} {f : Nat → Nat} {code : Int} : RetI w w' (.returned (.tuple #[.slice none 0 0, .int .i64 code])) 0 f code := ⟨none, 0, rfl, .inl rfl⟩
theorem RetB2.made (w : World) (f : Nat → Nat) (t : Value) : RetB2 w (w.alloc (.cells #[] 5)) (.returned (.tuple #[.slice (some ⟨w.heap.size, 0, none⟩) 0 0, t])) 0 f t :=
  ⟨_, 0, ⟨Nat.le_refl _, Nat.le_refl _⟩, rfl, 0, fun _ => undef, Nat.le_refl _, World.rowIs_alloc w #[] 5 _ (fun i hi => absurd hi (by simp)), fun i hi => absurd hi (by omega)⟩
end Go.Proofs.Ytbhlgcenfanicaa
