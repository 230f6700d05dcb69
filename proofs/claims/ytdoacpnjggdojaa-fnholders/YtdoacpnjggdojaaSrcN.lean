/-
  Sources as far as the laws need them: next.
-/
import Derived.Test.YtdoacpnjggdojaaSrcD
import Derived.Laws.OwnMore
import Derived.OwnWalk
namespace Go.Proofs.Ytdoacpnjggdojaa
open Go.ChangeShapes Go.WideShapes Go.ChangeAt Go.RowKit
set_option linter.unusedVariables false
/-- A source that has drawn at most A times. -/
def SrcA (w : World) (b : Nat) (a : Option Addr) (len cap A : Nat) : Prop := ∃ at_ seed, at_ ≤ A ∧ seed < 2147483648 ∧ Src w b a len cap at_ seed
theorem SrcA.lt {w : World} {b : Nat} {a : Option Addr} {len cap A : Nat} (h : SrcA w b a len cap A) : b < w.heap.size := by
  obtain ⟨_, _, _, _, h⟩ := h
  exact h.lt
theorem SrcA.mono {w : World} {b : Nat} {a : Option Addr} {len cap A A' : Nat} (h : SrcA w b a len cap A) (hA : A ≤ A') : SrcA w b a len cap A' := by
  obtain ⟨x, y, h1, h2, h3⟩ := h
  exact ⟨x, y, Nat.le_trans h1 hA, h2, h3⟩
theorem SrcA.ofBlock {w w' : World} {b : Nat} {a : Option Addr} {len cap A : Nat} (h : SrcA w b a len cap A) (hk : w'.heap[b]? = w.heap[b]?) : SrcA w' b a len cap A := by
  obtain ⟨x, y, h1, h2, hs⟩ := h
  exact ⟨x, y, h1, h2, by rw [World.cell?_of_block (w := w) hk]; exact hs.code, by rw [World.cell?_of_block (w := w) hk]; exact hs.at1, by rw [World.cell?_of_block (w := w) hk]; exact hs.seed2, by rw [World.frozen?_of_block (w := w) hk]; exact hs.free1, by rw [World.frozen?_of_block (w := w) hk]; exact hs.free2⟩
theorem SrcA.below {w w' : World} {b : Nat} {a : Option Addr} {len cap A : Nat} (h : SrcA w b a len cap A) (hb : Below w.heap.size w w') : SrcA w' b a len cap A := h.ofBlock (hb.block b h.lt)
theorem SrcA.belowAt {w w' : World} {B b : Nat} {a : Option Addr} {len cap A : Nat} (h : SrcA w b a len cap A) (hb : Below B w w') (hB : b < B) : SrcA w' b a len cap A := h.ofBlock (hb.block b hB)
theorem SrcA.load0 {w : World} {b : Nat} {a : Option Addr} {len cap A : Nat} (h : SrcA w b a len cap A) : w.cell? ⟨b, 0, none⟩ = some (.slice a len cap) := by
  obtain ⟨x, y, h1, h2, hs⟩ := h
  exact hs.code
theorem OnlyB.belowS {b : Nat} {w w' w'' : World} {B : Nat} (h : OnlyB b w w') (hb : Below B w' w'') (hB : w.heap.size ≤ B) : OnlyB b w w'' :=
  ⟨hb.os.trans h.os, hb.tape.trans h.tape, hb.output.trans h.output, Nat.le_trans h.size hb.size, fun k hk hn => (hb.block k (by omega)).trans (h.block k hk hn)⟩
theorem next_ex (n : Nat) (hn : 2 ≤ n) (hn' : n ≤ 256) (b : Nat) (a : Option Addr) (len cap A : Nat) (z : Nat → Nat) (hz : ∀ i, z i < 256) (hA : A ≤ 100000) (hl : len ≤ maxLen) (hsep : ∀ x, 0 < len → a = some x → x.block ≠ b) (w : World) (h : SrcA w b a len cap A) (hc : Code8 w a len z) :
    Calls Try.prog 71 #[.pointer (some ⟨b, 0, none⟩), .int .i64 (n : Int)] w fun e w' => (∃ r : Nat, r < n ∧ e = .returned (.int .i64 (r : Int))) ∧ SrcA w' b a len cap (A + 1) ∧ OnlyB b w w' := by
  obtain ⟨x, y, h1, h2, h3⟩ := h
  refine (next_any n hn hn' b a len cap x y z hz (by omega) h2 hl hsep w h3 hc).mono ?_
  rintro e w' ⟨he, hs, ho⟩
  exact ⟨⟨_, Nat.mod_lt _ (by omega), he⟩, ⟨x + 1, _, by omega, (drawB_lt hz h2).2, hs⟩, ho⟩
end Go.Proofs.Ytdoacpnjggdojaa
