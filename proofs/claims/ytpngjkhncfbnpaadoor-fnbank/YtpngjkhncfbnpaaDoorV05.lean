/-
  Texts of the proof, joined: Bytes.
-/
import Derived.Test.YtpngjkhncfbnpaaDoorRows
import Derived.Test.YtpngjkhncfbnpaaDoorV04
import Derived.WalkKit
import Derived.ProofKit
import Derived.Below
import Derived.WalkSmall
import Derived.Deep.OwnRows
import Derived.Deep.WholeRow
import Derived.Deep.MidRow
namespace Go.Proofs.YtpngjkhncfbnpaaDoor
open Go.ChangeShapes Go.WideShapes Go.ChangeAt Go.RowKit
def bv (n : Nat) (f : Nat → Nat) : List Value := (List.range n).map fun i => .int .u8 (f i : Nat)
theorem bv_length (n : Nat) (f : Nat → Nat) : (bv n f).length = n := by simp [bv]
theorem bv_at {n : Nat} {f : Nat → Nat} {k : Nat} (h : k < n) : (bv n f)[k]? = some (.int .u8 (f k : Nat)) := by simp [bv, h]
theorem bv_congr {n : Nat} {f g : Nat → Nat} (h : ∀ i, i < n → f i = g i) : bv n f = bv n g := by
  unfold bv
  exact List.map_congr_left (fun i hi => by rw [h i (List.mem_range.1 hi)])
theorem results_cell_one {fn : Func} {p : Tmp} {ty : TypeId} (h : fn.results = #[.cell p ty]) (tmps : Array Value) (P : Program) (w : World) {b o : Nat} (hp : tmps.getD p undef = .pointer (some ⟨b, o, none⟩)) {v : Value} (hl : (loadVar ty ⟨b, o, none⟩).run P w = .ok v w) :
    (results fn tmps).run P w = .ok v w := by
  have hp' : tmps[p]?.getD undef = .pointer (some ⟨b, o, none⟩) := by simpa using hp
  simp only [results, h]
  simp [hp', asAddr, hl]
end Go.Proofs.YtpngjkhncfbnpaaDoor
