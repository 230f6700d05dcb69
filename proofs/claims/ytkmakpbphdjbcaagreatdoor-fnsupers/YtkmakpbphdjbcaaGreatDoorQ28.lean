/-
  Texts of the proof, joined: SrcQ.
-/
import Derived.Test.YtkmakpbphdjbcaaGreatDoorQ22
import Derived.Test.YtkmakpbphdjbcaaGreatDoorQ23
import Derived.Test.YtkmakpbphdjbcaaGreatDoorQ27
import Derived.Test.YtkmakpbphdjbcaaGreatDoorQ13
namespace Go.Proofs.YtkmakpbphdjbcaaGreatDoor
open Go.ChangeShapes Go.WideShapes Go.ChangeAt Go.RowKit
set_option linter.unusedVariables false
def SrcT (w : World) (b : Nat) (a : Option Addr) (len cap A : Nat) : Prop := ∃ at_ seed, at_ ≤ A ∧ seed < 2147483648 ∧ Src w b a len cap at_ seed
theorem SrcT.lt {w : World} {b : Nat} {a : Option Addr} {len cap A : Nat} (h : SrcT w b a len cap A) : b < w.heap.size := by
  obtain ⟨_, _, _, _, h⟩ := h
  exact h.lt
theorem SrcT.below {w w' : World} {b : Nat} {a : Option Addr} {len cap A : Nat} (h : SrcT w b a len cap A) (hb : Below w.heap.size w w') : SrcT w' b a len cap A := by
  obtain ⟨x, y, h1, h2, h3⟩ := h
  exact ⟨x, y, h1, h2, h3.below hb⟩
theorem SrcT.ofBlock {w w' : World} {b : Nat} {a : Option Addr} {len cap A : Nat} (h : SrcT w b a len cap A) (e : w'.heap[b]? = w.heap[b]?) : SrcT w' b a len cap A := by
  obtain ⟨x, y, h1, h2, h3⟩ := h
  exact ⟨x, y, h1, h2, ⟨by rw [cellE e]; exact h3.code, by rw [cellE e]; exact h3.at1, by rw [cellE e]; exact h3.seed2, by rw [frozenE e]; exact h3.free1, by rw [frozenE e]; exact h3.free2⟩⟩
structure Cd (w : World) (B b : Nat) (a : Option Addr) (len : Nat) (z : Nat → Nat) : Prop where
  hz : ∀ i, z i < 256
  hl : len ≤ maxLen
  hb : B ≤ b
  hw : B ≤ w.heap.size
  hc : Code8 w a len z
  hk : ∀ x, 0 < len → a = some x → x.block < B
theorem Cd.sep {w : World} {B b : Nat} {a : Option Addr} {len : Nat} {z : Nat → Nat} (h : Cd w B b a len z) : ∀ x, 0 < len → a = some x → x.block ≠ b := fun x h1 h2 => by have := h.hk x h1 h2; have := h.hb; omega
theorem Cd.step {w w' : World} {B b : Nat} {a : Option Addr} {len : Nat} {z : Nat → Nat} (h : Cd w B b a len z) (hb : Below B w w') : Cd w' B b a len z :=
  ⟨h.hz, h.hl, h.hb, Nat.le_trans h.hw hb.size, fun i hi => by
    obtain ⟨cb, off, e, hc⟩ := h.hc i hi
    exact ⟨cb, off, e, by rw [hb.cell (p := ⟨cb, off + i, none⟩) (h.hk ⟨cb, off, none⟩ (by omega) e)]; exact hc⟩, h.hk⟩
theorem Cd.only {w w' : World} {B b : Nat} {a : Option Addr} {len : Nat} {z : Nat → Nat} (h : Cd w B b a len z) (ho : OnlyB b w w') : Cd w' B b a len z := h.step (ho.toBelow h.hb h.hw)
theorem next_t (n : Nat) (hn : 2 ≤ n) (hn' : n ≤ 256) (B b : Nat) (a : Option Addr) (len cap A : Nat) (z : Nat → Nat) (hA : A ≤ 100000) (w : World) (h : SrcT w b a len cap A) (hc : Cd w B b a len z) :
    Calls Tryz.prog 41 #[.pointer (some ⟨b, 0, none⟩), .int .i64 (n : Int)] w fun e w' => (∃ r : Nat, r < n ∧ e = .returned (.int .i64 (r : Int))) ∧ SrcT w' b a len cap (A + 1) ∧ OnlyB b w w' := by
  obtain ⟨x, y, h1, h2, h3⟩ := h
  refine (next_any n hn hn' b a len cap x y z hc.hz (by omega) h2 hc.hl hc.sep w h3 hc.hc).mono ?_
  rintro e w' ⟨he, hs, ho⟩
  exact ⟨⟨_, Nat.mod_lt _ (by omega), he⟩, ⟨x + 1, _, by omega, (drawB_lt hc.hz h2).2, hs⟩, ho⟩
def Ret32 (e : Ending) : Prop := ∃ h : ByteArray, h.size = 32 ∧ e = .returned (.string h)
set_option maxRecDepth 100000 in
set_option maxHeartbeats 1000000 in
theorem root_t (B b : Nat) (a : Option Addr) (len cap A : Nat) (z : Nat → Nat) (hA : A ≤ 100000) (w : World) (h : SrcT w b a len cap A) (hc : Cd w B b a len z) :
    Calls Tryz.prog 42 #[.pointer (some ⟨b, 0, none⟩)] w fun e w' => Ret32 e ∧ SrcT w' b a len cap (A + 1) ∧ OnlyB b w w' := by
  have NX : Hid (Calls Tryz.prog 41 #[.pointer (some ⟨b, 0, none⟩), .int .i64 5] w fun e w' => (∃ r : Nat, r < 5 ∧ e = .returned (.int .i64 (r : Int))) ∧ SrcT w' b a len cap (A + 1) ∧ OnlyB b w w') := next_t 5 (by omega) (by omega) B b a len cap A z hA w h hc
  have LH : Hid (∀ (x g : Nat) (w : World), x < 256 → Code8 w (some ⟨g, 0, none⟩) 1 (fun _ => x) → Calls Tryz.prog 21 #[.slice (some ⟨g, 0, none⟩) 1 1] w fun e w' => Ret32 e ∧ Below w.heap.size w w') := fun x g w hx h => (l03Hash_any g 0 1 1 (fun _ => x) (fun _ => hx) (by omega) w h).mono fun _ _ q => ⟨⟨_, hashS_size _ _, q.1⟩, q.2⟩
  clear h hc
  go_enter Tryz.func42, Tryz.ntmps42
  go_wp2_with fail
  refine NX.out.mono ?_
  rintro e w1 ⟨⟨r, hr, rfl⟩, hs, ho⟩
  have HS : Hid (SrcT w1 b a len cap (A + 1)) := hs
  have HO : Hid (OnlyB b w w1) := ho
  have e1 : (r : Int) % 256 = (r : Int) := by omega
  have W2 : Hid (Below w1.heap.size w1 (w1.alloc (.cells #[.int .u8 (r : Int)] 5))) := (Below.refl _ _).alloc (Nat.le_refl _) _
  have K2 : Hid (Code8 (w1.alloc (.cells #[.int .u8 (r : Int)] 5)) (some ⟨w1.heap.size, 0, none⟩) 1 (fun _ => r)) := code8_of (fun i hi => by
    obtain rfl : i = 0 := by omega
    simp)
  have HR : Hid (r < 256) := by show _ < _; omega
  clear hs ho NX hr
  go_wp2_with fail
  generalize (w1.alloc (.cells #[.int .u8 (r : Int)] 5)) = w2 at *
  refine (LH.out r _ _ HR.out K2.out).mono ?_
  rintro e w3 ⟨⟨hh, h32, rfl⟩, hb⟩
  have Q : Hid (Ret32 (.returned (.string hh)) ∧ SrcT w3 b a len cap (A + 1) ∧ OnlyB b w w3) := ⟨⟨hh, h32, rfl⟩, (HS.out.below W2.out).below hb, (HO.out.below W2.out).below hb⟩
  clear hb HS HO W2 K2 LH HR e1 h32
  go_wp2
  go_ret
  exact Q.out
theorem OnlyB.setNew {b p : Nat} {w w' : World} (h : OnlyB b w w') (hp : w.heap.size ≤ p) (i : Nat) (v : Value) : OnlyB b w (w'.setCell ⟨p, i, none⟩ v) := ⟨h.os, h.tape, h.output, by simpa using h.size, fun k hk hn => (Below.heap_setCell w' ⟨p, i, none⟩ v k (by dsimp only; omega)).trans (h.block k hk hn)⟩
theorem cd_of {w w' : World} {b : Nat} {a : Option Addr} {len : Nat} {z : Nat → Nat} (hz : ∀ i, z i < 256) (hl : len ≤ maxLen) (h : Code8 w a len z) (hb : Below w.heap.size w w') (hB : w.heap.size ≤ b) : Cd w' w.heap.size b a len z :=
  ⟨hz, hl, hB, hb.size, h.below hb, fun x h1 h2 => by
    obtain ⟨cb, off, e, hc⟩ := h 0 h1
    rw [e] at h2
    cases h2
    exact strBlock hc⟩
def AtT (n : Nat) (e : Ending) : Prop := ∃ r : Nat, r < n ∧ e = .returned (.int .i64 (r : Int))
theorem at_t (a : Option Addr) (len cap : Nat) (zs : List Int) (w : World) (hr : IsRow .u8 w a len cap zs) (i n : Nat) (hi' : i ≤ 100000) (hn : 1 ≤ n) (hn' : n ≤ 100000) :
    Calls Tryz.prog 11 #[.slice a len cap, .int .i64 (i : Int), .int .i64 (n : Int)] w fun e w' => AtT n e ∧ Below w.heap.size w w' := by
  by_cases h1 : n = 1
  · subst h1
    clear hr
    go_enter Tryz.func11, Tryz.ntmps11
    go_wp2
    go_ret
    exact ⟨⟨0, by omega, rfl⟩, Below.refl _ _⟩
  · exact (at_is a len cap zs w hr i n hi' (by omega) hn').mono fun e w' h => ⟨⟨_, atN_lt len zs i n (by omega), h.1⟩, by obtain ⟨q, rfl⟩ := h.2; exact ⟨rfl, rfl, rfl, Nat.le_refl _, fun _ _ => rfl⟩⟩
end Go.Proofs.YtkmakpbphdjbcaaGreatDoor
