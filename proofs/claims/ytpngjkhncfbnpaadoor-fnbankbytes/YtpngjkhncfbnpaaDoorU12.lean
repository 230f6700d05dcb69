/-
  Texts of the proof, joined: RegisterS.
-/
import Derived.Test.YtpngjkhncfbnpaaDoorU08
import Derived.Test.YtpngjkhncfbnpaaDoorU11
import Derived.Deep.RegionWith
namespace Go.Proofs.YtpngjkhncfbnpaaDoor
open Go.ChangeShapes Go.WideShapes Go.ChangeAt Go.RowKit
set_option linter.unusedVariables false
structure Rg where
  v : Int
  c : Int
  r : ByteArray
def rgV (x : Rg) : Nat → Value
  | 0 => .int .i64 x.v
  | 1 => .int .i64 x.c
  | _ => .string x.r
def rgF (RG : Nat → Rg) (i j : Nat) : Value := rgV (RG i) j
def rgZ : Rg := ⟨0, 0, ⟨#[]⟩⟩
theorem Els.rgC {w : World} {b off n : Nat} {RG : Nat → Rg} (h : ∀ i, i < n → ∀ j, j < 3 → w.cell? ⟨b, off + i * 3 + j, none⟩ = some (rgF RG i j)) (k : Nat) (hk : k < n) : w.cell? ⟨b, off + k * 3, none⟩ = some (.int .i64 (RG k).v) ∧ w.cell? ⟨b, off + k * 3 + 1, none⟩ = some (.int .i64 (RG k).c) ∧ w.cell? ⟨b, off + k * 3 + 2, none⟩ = some (.string (RG k).r) := ⟨h k hk 0 (by omega), h k hk 1 (by omega), h k hk 2 (by omega)⟩
theorem Tryd.infoRg : (Tryd.prog.info? 54).map (fun i => (i.zero, i.size, i.bytes)) = some (some (.agg #[.int .i64 0, .int .i64 0, .string ⟨#[]⟩]), 3, 32) := by kernel_rfl
end Go.Proofs.YtpngjkhncfbnpaaDoor
