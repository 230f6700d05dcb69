/-
  The model's keys and table as they lie in memory, and its encrypting with them; texts put together.
-/
import Derived.Test.YtbhlgcenfanicaaLawEnc
import Derived.Test.YtbhlgcenfanicaaByteS
import Derived.Test.YtbhlgcenfanicaaModesMath
import Derived.Test.YtbhlgcenfanicaaPadS
import Derived.Test.YtbhlgcenfanicaaTxt
namespace Go.Proofs.Ytbhlgcenfanicaa
open Go.ChangeShapes Go.WideShapes Go.ChangeAt Go.RowKit
/-- The model's round keys and table of substitutes. -/
def MK (w : World) (pb po tb m : Nat) (W : Nat → Nat) : Prop := Strs w (some ⟨pb, po, none⟩) (m + 1) (fun j => kstr W (j * 16) 16) ∧ w.rowIs tb 3 256 (fun j => .int .i64 (Gf.sub j : Nat))
theorem MK.lt {w : World} {pb po tb m : Nat} {W : Nat → Nat} (h : MK w pb po tb m W) : pb < w.heap.size ∧ tb < w.heap.size := by
  obtain ⟨b, o, ha, hc⟩ := h.1 0 (by omega)
  cases ha
  exact ⟨strBlock hc, h.2.lt⟩
theorem MK.below {w w' : World} {pb po tb m : Nat} {W : Nat → Nat} (h : MK w pb po tb m W) (hb : Below w.heap.size w w') : MK w' pb po tb m W := ⟨h.1.below hb, h.2.of_block (hb.block tb h.2.lt)⟩
theorem MK.belowAt {w w' : World} {B pb po tb m : Nat} {W : Nat → Nat} (h : MK w pb po tb m W) (hb : Below B w w') (h1 : pb < B) (h2 : tb < B) : MK w' pb po tb m W :=
  ⟨fun i hi => by
    obtain ⟨b, o, ha, hc⟩ := h.1 i hi
    cases ha
    exact ⟨pb, po, rfl, by rw [hb.cell (p := ⟨pb, po + i, none⟩) h1]; exact hc⟩, h.2.of_block (hb.block tb h2)⟩
theorem MK.onlyB {w w' : World} {b pb po tb m : Nat} {W : Nat → Nat} (h : MK w pb po tb m W) (ho : OnlyB b w w') (h1 : pb ≠ b) (h2 : tb ≠ b) : MK w' pb po tb m W := ⟨h.1.onlyB ho h1, h.2.of_block (ho.block tb h.2.lt h2)⟩
theorem MK.drewN {w : World} {pb po tb m : Nat} {W : Nat → Nat} (h : MK w pb po tb m W) (q : Nat) : MK (w.drewN q) pb po tb m W := ⟨h.1.drewN q, rowIs_drewN h.2 q⟩
theorem MK.alloc {w : World} {pb po tb m : Nat} {W : Nat → Nat} (h : MK w pb po tb m W) (o : Obj) : MK (w.alloc o) pb po tb m W := h.below ((Below.refl _ _).alloc (Nat.le_refl _) _)
theorem mEnc (pb po ck tb m : Nat) (W : Nat → Nat) (hW : ∀ j, W j < 256) (hm : 1 ≤ m) (hm' : m ≤ 14) (s : ByteArray) (hs : s.size = 16) (w : World) (h : MK w pb po tb m W) :
    Calls Try.prog 55 #[.slice (some ⟨pb, po, none⟩) (m + 1) ck, .slice (some ⟨tb, 0, none⟩) 256 256, .string s] w fun e w' => e = .returned (.string (kstr (Gf.enc W m (strB s)) 0 16)) ∧ Below w.heap.size w w' :=
  l01Encrypt_any pb po ck tb m W hW hm hm' s hs w h.1 (fun _ hx => h.2.cell hx)
/-- The keys of a key, behind the table. -/
theorem mKeys (s : ByteArray) (kn : Nat) (hn : kn = 4 ∨ kn = 8) (hs : s.size = kn * 4) (tb : Nat) (w : World) (h : w.rowIs tb 3 256 (fun j => .int .i64 (Gf.sub j : Nat))) :
    Calls Try.prog 42 #[.string s, .slice (some ⟨tb, 0, none⟩) 256 256] w fun e w' => (∃ pb po ck, e = .returned (.slice (some ⟨pb, po, none⟩) (kn + 6 + 1) ck) ∧ MK w' pb po tb (kn + 6) (Gf.ws (strB s) kn (3 * kn + 28))) ∧ Below w.heap.size w w' :=
  (l01Keys_any s kn hn hs tb w h).mono fun e w' hh => by
    obtain ⟨⟨v, rfl, hown⟩, hB⟩ := hh
    obtain ⟨p, c, rfl, hstr⟩ := strs_of_owned hown (by omega)
    obtain ⟨pb, po, rfl, _⟩ := hstr.opened (by omega)
    exact ⟨⟨pb, po, c, rfl, hstr, h.of_block (hB.block tb h.lt)⟩, hB⟩
theorem OnlyB.drewS {b : Nat} {w w' : World} (h : OnlyB b w w') : OnlyB b w w'.drew := ⟨h.os, h.tape, h.output, h.size, h.block⟩
end Go.Proofs.Ytbhlgcenfanicaa
