/-
  Texts of the proof, joined: SessionS.
-/
import Derived.Test.YtpngjkhncfbnpaaDoorV11
import Derived.Test.YtpngjkhncfbnpaaDoorV14
import Derived.Deep.RegionWith
namespace Go.Proofs.YtpngjkhncfbnpaaDoor
open Go.ChangeShapes Go.WideShapes Go.ChangeAt Go.RowKit
set_option linter.unusedVariables false
structure Se where
  id : Int
  sq : Int
  cd : Int
  ma : Int
def seV (x : Se) : Nat → Value
  | 0 => .int .i64 x.id
  | 1 => .int .i64 x.sq
  | 2 => .int .i64 x.cd
  | _ => .int .i64 x.ma
def seF (SE : Nat → Se) (i j : Nat) : Value := seV (SE i) j
def seZ : Se := ⟨0, 0, 0, 0⟩
theorem Els.seC {w : World} {b off n : Nat} {SE : Nat → Se} (h : ∀ i, i < n → ∀ j, j < 4 → w.cell? ⟨b, off + i * 4 + j, none⟩ = some (seF SE i j)) (k : Nat) (hk : k < n) : w.cell? ⟨b, off + k * 4, none⟩ = some (.int .i64 (SE k).id) ∧ w.cell? ⟨b, off + k * 4 + 1, none⟩ = some (.int .i64 (SE k).sq) ∧ w.cell? ⟨b, off + k * 4 + 2, none⟩ = some (.int .i64 (SE k).cd) ∧ w.cell? ⟨b, off + k * 4 + 3, none⟩ = some (.int .i64 (SE k).ma) := ⟨h k hk 0 (by omega), h k hk 1 (by omega), h k hk 2 (by omega), h k hk 3 (by omega)⟩
theorem Tryd.infoSe : (Tryd.prog.info? 100).map (fun i => (i.zero, i.size, i.bytes)) = some (some (.agg #[.int .i64 0, .int .i64 0, .int .i64 0, .int .i64 0]), 4, 32) := by kernel_rfl
end Go.Proofs.YtpngjkhncfbnpaaDoor
