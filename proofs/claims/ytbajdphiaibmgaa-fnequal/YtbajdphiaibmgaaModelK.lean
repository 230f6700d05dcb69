/-
  The model's keys and table as they lie in memory, and its encrypting with them; texts put together.
-/
import Derived.Test.YtbajdphiaibmgaaLawEnc
import Derived.Test.YtbajdphiaibmgaaByteS
import Derived.Test.YtbajdphiaibmgaaModesMath
import Derived.Test.YtbajdphiaibmgaaPadS
namespace Go.Proofs.Ytbajdphiaibmgaa
open Go.ChangeShapes Go.WideShapes Go.ChangeAt Go.RowKit
/-- The model's round keys and table of substitutes. -/
def MK (w : World) (pb po tb m : Nat) (W : Nat → Nat) : Prop := Strs w (some ⟨pb, po, none⟩) (m + 1) (fun j => kstr W (j * 16) 16) ∧ w.rowIs tb 3 256 (fun j => .int .i64 (Gf.sub j : Nat))
theorem MK.lt {w : World} {pb po tb m : Nat} {W : Nat → Nat} (h : MK w pb po tb m W) : pb < w.heap.size ∧ tb < w.heap.size := by
  obtain ⟨b, o, ha, hc⟩ := h.1 0 (by omega)
  cases ha
  exact ⟨strBlock hc, h.2.lt⟩
theorem MK.below {w w' : World} {pb po tb m : Nat} {W : Nat → Nat} (h : MK w pb po tb m W) (hb : Below w.heap.size w w') : MK w' pb po tb m W := ⟨h.1.below hb, h.2.of_block (hb.block tb h.2.lt)⟩
theorem MK.belowAt {w w' : World} {B pb po tb m : Nat} {W : Nat → Nat} (h : MK w pb po tb m W) (hb : Below B w w') (h1 : pb < B) (h2 : tb < B) : MK w' pb po tb m W :=
  ⟨fun i hi => by
    obtain ⟨b, o, ha, hc⟩ := h.1 i hi
    cases ha
    exact ⟨pb, po, rfl, by rw [hb.cell (p := ⟨pb, po + i, none⟩) h1]; exact hc⟩, h.2.of_block (hb.block tb h2)⟩
theorem MK.onlyB {w w' : World} {b pb po tb m : Nat} {W : Nat → Nat} (h : MK w pb po tb m W) (ho : OnlyB b w w') (h1 : pb ≠ b) (h2 : tb ≠ b) : MK w' pb po tb m W := ⟨h.1.onlyB ho h1, h.2.of_block (ho.block tb h.2.lt h2)⟩
theorem MK.drewN {w : World} {pb po tb m : Nat} {W : Nat → Nat} (h : MK w pb po tb m W) (q : Nat) : MK (w.drewN q) pb po tb m W := ⟨h.1.drewN q, rowIs_drewN h.2 q⟩
theorem MK.alloc {w : World} {pb po tb m : Nat} {W : Nat → Nat} (h : MK w pb po tb m W) (o : Obj) : MK (w.alloc o) pb po tb m W := h.below ((Below.refl _ _).alloc (Nat.le_refl _) _)
theorem mEnc (pb po ck tb m : Nat) (W : Nat → Nat) (hW : ∀ j, W j < 256) (hm : 1 ≤ m) (hm' : m ≤ 14) (s : ByteArray) (hs : s.size = 16) (w : World) (h : MK w pb po tb m W) :
    Calls Try.prog 35 #[.slice (some ⟨pb, po, none⟩) (m + 1) ck, .slice (some ⟨tb, 0, none⟩) 256 256, .string s] w fun e w' => e = .returned (.string (kstr (Gf.enc W m (strB s)) 0 16)) ∧ Below w.heap.size w w' :=
  l01Encrypt_any pb po ck tb m W hW hm hm' s hs w h.1 (fun _ hx => h.2.cell hx)
/-- The keys of a key, behind the table. -/
theorem mKeys (s : ByteArray) (kn : Nat) (hn : kn = 4 ∨ kn = 8) (hs : s.size = kn * 4) (tb : Nat) (w : World) (h : w.rowIs tb 3 256 (fun j => .int .i64 (Gf.sub j : Nat))) :
    Calls Try.prog 33 #[.string s, .slice (some ⟨tb, 0, none⟩) 256 256] w fun e w' => (∃ pb po ck, e = .returned (.slice (some ⟨pb, po, none⟩) (kn + 6 + 1) ck) ∧ MK w' pb po tb (kn + 6) (Gf.ws (strB s) kn (3 * kn + 28))) ∧ Below w.heap.size w w' :=
  (l01Keys_any s kn hn hs tb w h).mono fun e w' hh => by
    obtain ⟨⟨v, rfl, hown⟩, hB⟩ := hh
    obtain ⟨p, c, rfl, hstr⟩ := strs_of_owned hown (by omega)
    obtain ⟨pb, po, rfl, _⟩ := hstr.opened (by omega)
    exact ⟨⟨pb, po, c, rfl, hstr, h.of_block (hB.block tb h.lt)⟩, hB⟩
theorem OnlyB.drewS {b : Nat} {w w' : World} (h : OnlyB b w w') : OnlyB b w w'.drew := ⟨h.os, h.tape, h.output, h.size, h.block⟩
theorem strB_list (s : ByteArray) (j : Nat) : strB s j = ((s.data.toList[j]?).getD 0).toNat := by
  unfold strB
  by_cases h : j < s.size
  · rw [dif_pos h]
    have h' : j < s.data.toList.length := by simpa using h
    rw [List.getElem?_eq_getElem h', Option.getD_some, ← ba_get s j h]
  · rw [dif_neg h]
    have h' : s.data.toList.length ≤ j := by
      have : s.data.toList.length = s.size := by simp
      omega
    rw [List.getElem?_eq_none h']
    rfl
theorem strB_append (s t : ByteArray) (j : Nat) : strB (s ++ t) j = if j < s.size then strB s j else strB t (j - s.size) := by
  have hl : s.data.toList.length = s.size := by simp
  rw [strB_list, strB_list, strB_list, ByteArray.data_append, Array.toList_append]
  by_cases h : j < s.size
  · rw [if_pos h, List.getElem?_append_left (by omega)]
  · rw [if_neg h, List.getElem?_append_right (by omega), hl]
theorem kstr_of_code {w : World} {b o n c : Nat} {f : Nat → Nat} (h : Code8 w (some ⟨b, o, none⟩) n f) : (convert 22 9 (.slice (some ⟨b, o, none⟩) n c)).run Try.prog w = .ok (.string (kstr f 0 n)) w := by
  refine run_convert_bytes_arg w 22 5 Try.underlying22 Try.underlying5 b o n c ((List.range n).map fun i => ((f (0 + i) : Nat) : Int)) (by simp) (fun i hi => ?_) 9 Try.underlying9
  rw [h.at hi]
  simp [hi]
end Go.Proofs.Ytbajdphiaibmgaa
