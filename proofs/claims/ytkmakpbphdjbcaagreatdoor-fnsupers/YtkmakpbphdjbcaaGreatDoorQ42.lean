/-
  Texts of the proof, joined: Forget.
-/
import Derived.Test.YtkmakpbphdjbcaaGreatDoorQ41
import Derived.Defers
namespace Go.Proofs.YtkmakpbphdjbcaaGreatDoor
open Go.ChangeShapes Go.WideShapes Go.ChangeAt Go.RowKit
theorem onlyB_setCellsK {b : Nat} {a : World} (vs : List Value) : ∀ (o : Nat) (w : World), OnlyB b a w → OnlyB b a (w.setCells b o vs) := by
  induction vs with
  | nil => intro o w h; exact h
  | cons v vs ih => intro o w h; exact ih (o + 1) _ (h.setCell o v)
theorem zeros_one : (Array.replicate 64 (Value.int .u8 0)).all (·.oneCell') = true := by kernel_rfl
set_option maxRecDepth 100000 in
theorem forget_deferred (b : Nat) (u : FrameMode) (w : World) (hth : w.there b 0 64) :
    CallsD Tryz.prog 55 #[.pointer (some ⟨b, 0, none⟩)] u w fun e u' w' => u' = u ∧ (e = .returned (.tuple #[]) ∧ OnlyB b w w') := by
  have z1 := Tryz.zeroKp
  have zs : Hid ((Array.replicate 64 (Value.int .u8 0)).size = 64) := Array.size_replicate
  have zo : Hid ((Array.replicate 64 (Value.int .u8 0)).all (·.oneCell') = true) := zeros_one
  generalize Array.replicate 64 (Value.int .u8 0) = Z at *
  have TH : Hid (w.there b 0 Z.size) := by show w.there b 0 Z.size; rw [zs.out]; exact hth
  have SZ : Hid ((Tryz.prog.info? 85).map (·.size) = some Z.size) := by show _ = _; rw [zs.out]; exact Tryz.sizeKp
  have O : Hid (OnlyB b w (w.setCells b 0 Z.toList)) := onlyB_setCellsK _ _ _ (OnlyB.refl _ _)
  clear hth
  go_enter_d Tryz.func55, Tryz.ntmps55
  go_wp2_with (refine wpList_store_mid rfl 85 (.tmp 4) (.tmp 3) rfl b 0 Z rfl rfl TH.out SZ.out zo.out ?_; generalize w.setCells b 0 Z.toList = wf at *)
  go_end0
  exact ⟨rfl, O.out⟩
end Go.Proofs.YtkmakpbphdjbcaaGreatDoor
