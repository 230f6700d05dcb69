/-
  Texts of the proof, joined: SvcR.
-/
import Derived.Test.YtedncfcmhaaobaaV04
import Derived.Test.YtedncfcmhaaobaaV07
import Derived.Test.YtedncfcmhaaobaaV05
import Derived.Test.YtedncfcmhaaobaaV06
namespace Go.Proofs.Ytedncfcmhaaobaa
open Go.ChangeShapes Go.WideShapes Go.ChangeAt Go.RowKit
set_option linter.unusedVariables false
structure Rp where
 mute : Bool
 nc : Int
 nt : Int
 sc : Int
 st : Int
 ne : Nat
 E : Nat → Int
 bc : Int
 bt : Int
def rpZ : Rp := ⟨false, 0, 0, 0, 0, 0, fun _ => 0, 0, 0⟩
def rpV (r : Rp) (v : Value) : Nat → Value
 | 0 => .bool r.mute
 | 1 => .int .i64 r.nc
 | 2 => .int .i64 r.nt
 | 3 => .int .i64 r.sc
 | 4 => .int .i64 r.st
 | 5 => v
 | 6 => .int .i64 r.bc
 | _ => .int .i64 r.bt
def rpF (R : Nat → Rp) (V : Nat → Value) (i j : Nat) : Value := rpV (R i) (V i) j
theorem Try.infoRp : (Try.prog.info? 43).map (fun i => (i.zero, i.size, i.bytes)) = some (some (.agg #[.bool false, .int .i64 0, .int .i64 0, .int .i64 0, .int .i64 0, .slice none 0 0, .int .i64 0, .int .i64 0]), 8, 80) := by kernel_rfl
theorem mkRp (n : Nat) (hn : n ≤ 1000) (w : World) : (Instr.makeSlice 24 (.int .i64 n) (.int .i64 n)).run Try.prog w = .ok (.slice (some ⟨w.heap.size, 0, none⟩) n n) (w.alloc (.cells (madeCells #[.bool false, .int .i64 0, .int .i64 0, .int .i64 0, .int .i64 0, .slice none 0 0, .int .i64 0, .int .i64 0] (n * 8)) 43)) := by
 obtain ⟨i, hi, hzz⟩ := Option.map_eq_some_iff.1 Try.infoRp
 simp only [Prod.mk.injEq] at hzz
 obtain ⟨hz, hs, hb⟩ := hzz
 have hr := run_make (P := Try.prog) w 24 43 i _ Try.underlying24 hi hz .i64 .i64 n n (by omega) (Int.le_refl _) (by rw [hb]; omega) (by omega)
 simp only [Int.toNat_natCast, hs] at hr
 exact hr
theorem Box4.loadsv {w : World} {b : Nat} {x y z u : Value} (h : Box4 w b 28 x y z u) : (loadVar 28 ⟨b, 0, none⟩).run Try.prog w = .ok (.agg #[x, y, z, u]) w := by
 have h0 := h.c0
 have h1 := h.c1
 have h2 := h.c2
 have h3 := h.c3
 go_simp
end Go.Proofs.Ytedncfcmhaaobaa
