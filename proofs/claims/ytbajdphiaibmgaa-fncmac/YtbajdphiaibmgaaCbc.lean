/-
  The contract of impl.CbcEncrypt.
-/
import Derived.Test.YtbajdphiaibmgaaModes
import Derived.Test.YtbajdphiaibmgaaStateOf2
import Derived.Test.YtbajdphiaibmgaaModelK
namespace Go.Proofs.Ytbajdphiaibmgaa
open Go.ChangeShapes Go.WideShapes Go.ChangeAt Go.RowKit
theorem Own8.stored {w : World} {b M : Nat} {F : Nat → Nat} (h : Own8 w b M F) (o n : Nat) (g : Nat → Nat) : Own8 (w.setCells b o (bv n g)) b M (fun x => if o ≤ x ∧ x < o + n then g (x - o) else F x) := by
  obtain ⟨m, G, hm, hr, hG⟩ := h
  refine ⟨m, _, hm, rowIs_setCells (bv n g) o w G hr, fun i hi => ?_⟩
  rw [bv_length]
  show _ = Value.int .u8 ((if o ≤ i ∧ i < o + n then g (i - o) else F i : Nat) : Int)
  by_cases e : o ≤ i ∧ i < o + n
  · rw [if_pos e, if_pos e, List.getD_eq_getElem?_getD, bv_at (by omega)]; rfl
  · rw [if_neg e, if_neg e]; exact hG i hi
theorem onlyB_setCells {b : Nat} {a : World} (vs : List Value) : ∀ (o : Nat) (w : World), OnlyB b a w → OnlyB b a (w.setCells b o vs) := by
  induction vs with
  | nil => intro o w h; exact h
  | cons v vs ih => intro o w h; exact ih (o + 1) _ (h.setCell o v)
theorem CiphAt.onlyBe {w w' : World} {C m b : Nat} {K : Nat → Nat} (h : CiphAt w C m K) (ho : OnlyB b w w') (hne : C ≠ b) : CiphAt w' C m K := fun k hk => by
  rw [World.cell?_of_block (w := w) (ho.block C h.lt hne)]; exact h k hk
theorem Row8.onlyB {w w' : World} {b c n : Nat} {t : TypeId} {f : Nat → Nat} (h : Row8 w b t n f) (ho : OnlyB c w w') (hne : b ≠ c) : Row8 w' b t n f := World.rowIs.of_block h (ho.block b h.lt hne)
theorem bA_same {f g : Nat → Nat} (h : Gf.Same f g) : bA 16 f = bA 16 g := bA_congr h
end Go.Proofs.Ytbajdphiaibmgaa
