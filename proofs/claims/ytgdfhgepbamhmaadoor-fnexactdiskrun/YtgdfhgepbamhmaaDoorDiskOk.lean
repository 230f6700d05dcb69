/-
  Whether a disk is right: DiskOK of the program and of the model.
-/
import Derived.Test.YtgdfhgepbamhmaaDoorDiskTo
import Derived.Test.YtgdfhgepbamhmaaDoorInAny
namespace Go.Proofs.YtgdfhgepbamhmaaDoor
open Go.ChangeShapes Go.WideShapes Go.ChangeAt Go.RowKit
set_option maxRecDepth 100000 in
theorem placeFault_ok (n m k : Nat) (a0 a1 a2 : Option Addr) (c0 c1 c2 : Nat) (x : Int) (s : ByteArray) (hx : 0 ≤ x) (hx' : x < n) (hs : s.size ≤ 200) (w : World) :
    Calls Tryd.prog 50 #[.agg #[.slice a0 n c0, .slice a1 m c1, .slice a2 k c2], .int .i64 x, .string s] w fun e w' => e = .returned .nilIface ∧ Below w.heap.size w w' := by
  have e1 : ¬ x < 0 := by omega
  have e2 : ¬ (n : Int) ≤ x := by omega
  have e3 : ¬ (200 : Int) < s.size := by omega
  go_enter Tryd.func50, Tryd.ntmps50
  go_wp2
  go_ret
  exact ⟨rfl, (Below.refl w.heap.size w).alloc (Nat.le_refl _) _⟩
set_option maxRecDepth 100000 in
theorem placeFault_range (n m k : Nat) (a0 a1 a2 : Option Addr) (c0 c1 c2 : Nat) (x : Int) (s : ByteArray) (hx : ¬ (0 ≤ x ∧ x < n)) (p : Addr) (w : World) (hp : ErrAt w 0 p) :
    Calls Tryd.prog 50 #[.agg #[.slice a0 n c0, .slice a1 m c1, .slice a2 k c2], .int .i64 x, .string s] w fun e w' => e = .returned (.iface 97 (.pointer (some p))) ∧ Below w.heap.size w w' := by
  have HB : Hid (Below w.heap.size w (w.alloc (.cells #[.slice a0 n c0, .slice a1 m c1, .slice a2 k c2] 27))) := (Below.refl w.heap.size w).alloc (Nat.le_refl _) _
  have hp1 : (w.alloc (.cells #[.slice a0 n c0, .slice a1 m c1, .slice a2 k c2] 27)).cell? ⟨0, 0, none⟩ = some (.iface 97 (.pointer (some p))) := hp.below HB.out
  by_cases e1 : x < 0
  · go_enter Tryd.func50, Tryd.ntmps50
    go_wp2
    go_ret
    exact ⟨rfl, HB.out⟩
  · have e2 : (n : Int) ≤ x := by omega
    go_enter Tryd.func50, Tryd.ntmps50
    go_wp2
    go_ret
    exact ⟨rfl, HB.out⟩
set_option maxRecDepth 100000 in
theorem placeFault_long (n m k : Nat) (a0 a1 a2 : Option Addr) (c0 c1 c2 : Nat) (x : Int) (s : ByteArray) (hx : 0 ≤ x) (hx' : x < n) (hs : 200 < s.size) (p : Addr) (w : World) (hp : ErrAt w 1 p) :
    Calls Tryd.prog 50 #[.agg #[.slice a0 n c0, .slice a1 m c1, .slice a2 k c2], .int .i64 x, .string s] w fun e w' => e = .returned (.iface 97 (.pointer (some p))) ∧ Below w.heap.size w w' := by
  have HB : Hid (Below w.heap.size w (w.alloc (.cells #[.slice a0 n c0, .slice a1 m c1, .slice a2 k c2] 27))) := (Below.refl w.heap.size w).alloc (Nat.le_refl _) _
  have hp1 : (w.alloc (.cells #[.slice a0 n c0, .slice a1 m c1, .slice a2 k c2] 27)).cell? ⟨1, 0, none⟩ = some (.iface 97 (.pointer (some p))) := hp.below HB.out
  have e1 : ¬ x < 0 := by omega
  have e2 : ¬ (n : Int) ≤ x := by omega
  have e3 : (200 : Int) < s.size := by omega
  go_enter Tryd.func50, Tryd.ntmps50
  go_wp2
  go_ret
  exact ⟨rfl, HB.out⟩
end Go.Proofs.YtgdfhgepbamhmaaDoor
