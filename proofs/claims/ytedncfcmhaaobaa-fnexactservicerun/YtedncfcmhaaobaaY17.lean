/-
  Texts of the proof, joined: SvcZ.
-/
import Derived.Test.YtedncfcmhaaobaaY16
namespace Go.Proofs.Ytedncfcmhaaobaa
open Go.ChangeShapes Go.WideShapes Go.ChangeAt Go.RowKit
set_option linter.unusedVariables false
structure Wo where
 mc : Int
 mt : Int
 ne : Nat
 E : Nat → Int
 bg : Int
 en : Int
def woV (r : Wo) (v : Value) : Nat → Value
 | 0 => .int .i64 r.mc
 | 1 => .int .i64 r.mt
 | 2 => v
 | 3 => .int .i64 r.bg
 | _ => .int .i64 r.en
def woF (R : Nat → Wo) (V : Nat → Value) (i j : Nat) : Value := woV (R i) (V i) j
structure Ro where
 ne : Nat
 E : Nat → Int
 bc : Int
 bt : Int
 bg : Int
 en : Int
def roV (r : Ro) (v : Value) : Nat → Value
 | 0 => v
 | 1 => .int .i64 r.bc
 | 2 => .int .i64 r.bt
 | 3 => .int .i64 r.bg
 | _ => .int .i64 r.en
def roF (R : Nat → Ro) (V : Nat → Value) (i j : Nat) : Value := roV (R i) (V i) j
def WoV (w : World) (a : Option Addr) (n : Nat) (R : Nat → Wo) (A : Nat → Option Addr) (X : Nat → Nat) : Prop := Els w 5 a n (woF R (fun i => .slice (A i) (R i).ne (X i))) ∧ ∀ i, i < n → Num w (A i) (R i).ne (R i).E
theorem WoV.below {w w' : World} {a : Option Addr} {n : Nat} {R : Nat → Wo} {A : Nat → Option Addr} {X : Nat → Nat} (h : WoV w a n R A X) (hb : Below w.heap.size w w') : WoV w' a n R A X := ⟨h.1.below hb, fun i hi => (h.2 i hi).below hb⟩
theorem WoV.at {w : World} {a : Option Addr} {n : Nat} {R : Nat → Wo} {A : Nat → Option Addr} {X : Nat → Nat} (h : WoV w a n R A X) {k : Nat} (hk : k < n) : ∃ b off, a = some ⟨b, off, none⟩ ∧ ∀ j, j < 5 → w.cell? ⟨b, off + k * 5 + j, none⟩ = some (woV (R k) (.slice (A k) (R k).ne (X k)) j) := by
 obtain ⟨b, off, ha, hc⟩ := h.1.opened (by omega)
 exact ⟨b, off, ha, hc k hk⟩
def RoV (w : World) (a : Option Addr) (n : Nat) (R : Nat → Ro) (A : Nat → Option Addr) (X : Nat → Nat) : Prop := Els w 5 a n (roF R (fun i => .slice (A i) (R i).ne (X i))) ∧ ∀ i, i < n → Num w (A i) (R i).ne (R i).E
theorem RoV.below {w w' : World} {a : Option Addr} {n : Nat} {R : Nat → Ro} {A : Nat → Option Addr} {X : Nat → Nat} (h : RoV w a n R A X) (hb : Below w.heap.size w w') : RoV w' a n R A X := ⟨h.1.below hb, fun i hi => (h.2 i hi).below hb⟩
theorem RoV.at {w : World} {a : Option Addr} {n : Nat} {R : Nat → Ro} {A : Nat → Option Addr} {X : Nat → Nat} (h : RoV w a n R A X) {k : Nat} (hk : k < n) : ∃ b off, a = some ⟨b, off, none⟩ ∧ ∀ j, j < 5 → w.cell? ⟨b, off + k * 5 + j, none⟩ = some (roV (R k) (.slice (A k) (R k).ne (X k)) j) := by
 obtain ⟨b, off, ha, hc⟩ := h.1.opened (by omega)
 exact ⟨b, off, ha, hc k hk⟩
end Go.Proofs.Ytedncfcmhaaobaa
