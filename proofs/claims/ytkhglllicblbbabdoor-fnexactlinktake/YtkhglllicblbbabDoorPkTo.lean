/-
  Packets in the laws: copied, sized, compared; what marks leave alone.
-/
import Derived.Test.YtkhglllicblbbabDoorLkSd2
namespace Go.Proofs.YtkhglllicblbbabDoor
open Go.ChangeShapes Go.WideShapes Go.ChangeAt Go.RowKit
set_option linter.unusedVariables false
theorem Bools.onlyA2 {w w' : World} {n : Nat} {a : Option Addr} {f : Nat → Bool} {c : Option Addr} {m : Nat} (h : Bools w a n f) (ho : OnlyA c m w w') (hd : 0 < n → 0 < m → ∀ x y, a = some x → c = some y → y.block ≠ x.block) : Bools w' a n f := fun i hi => by
  obtain ⟨b, off, ha, hc⟩ := h i hi
  refine ⟨b, off, ha, ?_⟩
  rw [World.cell?_of_block (w := w) (ho.block b (strBlock hc) (fun h0 y hy => hd (by omega) h0 _ y ha hy))]
  exact hc
theorem OnlyA.keepP {w w' : World} {b : Nat} {t : TypeId} {x y z : Value} {c : Option Addr} {k : Nat} (ho : OnlyA c k w w') (h : BoxP w b t x y z) (hd : 0 < k → ∀ p, c = some p → p.block ≠ b) : BoxP w' b t x y z := h.ofBlock (ho.block b h.lt hd)
set_option maxRecDepth 100000 in
set_option maxHeartbeats 1000000 in
theorem eqPacket_yes (q : Int) (B T : ByteArray) (w : World) :
    Calls Tryd.prog 13 #[.agg #[.int .i64 q, .string B, .string T], .agg #[.int .i64 q, .string B, .string T]] w fun e w' => e = .returned (.bool true) ∧ Below w.heap.size w w' := by
  have A1 : Hid (Below w.heap.size w ((w.alloc (.cells #[.int .i64 q, .string B, .string T] 31)).alloc (.cells #[.int .i64 q, .string B, .string T] 31))) := ((Below.refl w.heap.size w).alloc (Nat.le_refl _) _).alloc (by simp) _
  have k1 : (q == q) = true := by simp
  go_enter Tryd.func13, Tryd.ntmps13
  go_wp2
  go_ret
  exact ⟨rfl, A1.out⟩
set_option maxRecDepth 100000 in
set_option maxHeartbeats 1000000 in
theorem toPacket_any (q : Int) (B T : ByteArray) (w : World) :
    Calls Tryd.prog 18 #[.agg #[.int .i64 q, .string B, .string T]] w fun e w' => e = .returned (.agg #[.int .i64 q, .string B, .string T]) ∧ Below w.heap.size w w' := by
  go_enter Tryd.func18, Tryd.ntmps18
  go_wp2
  exact ret_cell (b := w.heap.size + 1) (v := .agg #[.int .i64 q, .string B, .string T]) Tryd.results18 rfl (by go_simp) ⟨rfl, (((Below.refl w.heap.size w).alloc (Nat.le_refl _) _).alloc (by simp) _).alloc (by simp; omega) _⟩
set_option maxRecDepth 100000 in
set_option maxHeartbeats 1000000 in
theorem szPacket_x (q : Int) (B T : ByteArray) (x : Int) (hx0 : 0 ≤ x) (hx : x ≤ 1048576) (w : World) (hs : B.size ≤ maxLen) (ht : T.size ≤ maxLen) :
    Calls Tryd.prog 16 #[.agg #[.int .i64 q, .string B, .string T], .int .i64 x] w fun e w' => (∃ y : Int, e = .returned (.int .i64 y) ∧ y ≤ 1048576 ∧ (0 ≤ y → B.size ≤ 1048576 ∧ T.size ≤ 1048576)) ∧ Below w.heap.size w w' := by
  have A1 : Hid (Below w.heap.size w (w.alloc (.cells #[.int .i64 q, .string B, .string T] 39))) := (Below.refl _ _).alloc (Nat.le_refl _) _
  unfold maxLen at hs ht
  by_cases h0 : (B.size : Int) ≤ x
  · have e0 : ¬ x - (B.size : Int) < 0 := by omega
    by_cases h1 : (T.size : Int) ≤ x - (B.size : Int)
    · have e1 : ¬ x - (B.size : Int) - (T.size : Int) < 0 := by omega
      go_enter Tryd.func16, Tryd.ntmps16
      go_wp2
      go_ret
      exact ⟨⟨_, rfl, by omega, fun _ => by omega⟩, A1.out⟩
    · have e1 : x - (B.size : Int) - (T.size : Int) < 0 := by omega
      go_enter Tryd.func16, Tryd.ntmps16
      go_wp2
      go_ret
      exact ⟨⟨-1, rfl, by omega, fun h => by omega⟩, A1.out⟩
  · have e0 : x - (B.size : Int) < 0 := by omega
    go_enter Tryd.func16, Tryd.ntmps16
    go_wp2
    go_ret
    exact ⟨⟨-1, rfl, by omega, fun h => by omega⟩, A1.out⟩
end Go.Proofs.YtkhglllicblbbabDoor
