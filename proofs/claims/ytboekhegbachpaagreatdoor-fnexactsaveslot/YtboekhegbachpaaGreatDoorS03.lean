/-
  Texts of the proof, joined: Arr.
-/
import Derived.WalkKit
import Derived.Deep.MidRow
namespace Go.Proofs.YtboekhegbachpaaGreatDoor
theorem run_index_flat {P : Program} {t e : TypeId} {n : Nat} {d : TypeDesc} (hu : P.underlying t = some (.array n e)) (he : P.underlying e = some d) (hd : d.isRow = false)
  (hs : (P.info? e).map (·.size) = some 1) {A : Array Value} {k : Nat} {v : Value} (hk : k < n) (hv : A[k]? = some v) (w : World) :
  (Instr.index t (.agg A) (.int .i64 (k : Int))).run P w = .ok v w := by
 cases hq : P.info? e with
 | none => simp [hq] at hs
 | some i =>
  have hz : i.size = 1 := by simpa [hq] using hs
  have hagg : (isAgg e).run P w = .ok false w := by
   unfold isAgg
   rw [Sem.run_bind, run_underlying he w]
   cases d <;> simp_all
  have hk1 : (0 : Int) ≤ (k : Int) ∧ (k : Int) < (n : Int) := by omega
  simp [Instr.index, asIntOf, Sem.run_bind, run_underlying hu w, hk1, sizeOf, typeInfo, hq, hz, part, hagg, hv]
  intro h
  omega
end Go.Proofs.YtboekhegbachpaaGreatDoor
