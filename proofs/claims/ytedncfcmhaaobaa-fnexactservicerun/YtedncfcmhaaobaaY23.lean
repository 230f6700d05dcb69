/-
  Texts of the proof, joined: SvcO.
-/
import Derived.Test.YtedncfcmhaaobaaY22
import Derived.Test.YtedncfcmhaaobaaY06
namespace Go.Proofs.Ytedncfcmhaaobaa
open Go.ChangeShapes Go.WideShapes Go.ChangeAt Go.RowKit
set_option linter.unusedVariables false
open Classical in
noncomputable def sB (P : Prop) : Bool := decide P
theorem sB_yes {P : Prop} (h : P) : sB P = true := by unfold sB; simp [h]
theorem sB_no {P : Prop} (h : ¬ P) : sB P = false := by unfold sB; simp [h]
def inS (x : Int) : Prop := 0 ≤ x ∧ x ≤ 200
def mkOk (c t : Int) : Prop := inS c ∧ 0 ≤ t ∧ t ≤ 1000000
def idsOk (n m : Nat) (E : Nat → Int) : Prop := ∀ i, i < m → (0 ≤ E i ∧ E i < (n : Int)) ∧ (0 < i → E (i - 1) < E i)
def tmOk (t b e : Int) : Prop := (1 ≤ b ∧ b ≤ t) ∧ (e = -1 ∨ b ≤ e ∧ e ≤ t)
def Rp.Ok (n : Nat) (r : Rp) : Prop := ¬ (0 < r.ne ∧ r.mute = false) ∧ idsOk n r.ne r.E ∧ mkOk r.nc r.nt ∧ mkOk r.sc r.st ∧ mkOk r.bc r.bt
def Wo.Ok (n : Nat) (t : Int) (m i : Nat) (r : Wo) : Prop := ¬ (r.en = -1 ∧ i + 1 < m) ∧ r.mc = (i : Int) + 1 ∧ mkOk r.mc r.mt ∧ idsOk n r.ne r.E ∧ tmOk t r.bg r.en
def Ro.Ok (n : Nat) (t : Int) (r : Ro) : Prop := mkOk r.bc r.bt ∧ idsOk n r.ne r.E ∧ tmOk t r.bg r.en
def Sv.Ok (s : Sv) : Prop := ((1 ≤ s.n ∧ s.n ≤ 7) ∧ inS s.t ∧ s.m ≤ 200 ∧ s.l ≤ 200) ∧ (∀ i, i < s.m → (s.W i).Ok s.n s.t s.m i) ∧ (∀ i, i < s.n → (s.R i).Ok s.n) ∧ (∀ i, i < s.l → (s.Q i).Ok s.n s.t)
def BxF (w : World) (b : Nat) (t : TypeId) (m : Nat) (f : Nat → Value) : Prop := w.rowIs b t m f
theorem BxF.cell {w : World} {b : Nat} {t : TypeId} {m : Nat} {f : Nat → Value} (h : BxF w b t m f) (i : Nat) (hi : i < m) : w.cell? ⟨b, i, none⟩ = some (f i) := World.rowIs.cell h hi
theorem BxF.rp (w : World) (r : Rp) (v : Value) : BxF (w.alloc (.cells #[.bool r.mute, .int .i64 r.nc, .int .i64 r.nt, .int .i64 r.sc, .int .i64 r.st, v, .int .i64 r.bc, .int .i64 r.bt] 43)) w.heap.size 43 8 (rpV r v) := World.rowIs_alloc w #[.bool r.mute, .int .i64 r.nc, .int .i64 r.nt, .int .i64 r.sc, .int .i64 r.st, v, .int .i64 r.bc, .int .i64 r.bt] _ _ (fun i hi => by
 have : i < 8 := by simpa using hi
 rcases (show i = 0 ∨ i = 1 ∨ i = 2 ∨ i = 3 ∨ i = 4 ∨ i = 5 ∨ i = 6 ∨ i = 7 by omega) with rfl | rfl | rfl | rfl | rfl | rfl | rfl | rfl <;> rfl)
theorem BxF.wo (w : World) (r : Wo) (v : Value) : BxF (w.alloc (.cells #[.int .i64 r.mc, .int .i64 r.mt, v, .int .i64 r.bg, .int .i64 r.en] 37)) w.heap.size 37 5 (woV r v) := World.rowIs_alloc w #[.int .i64 r.mc, .int .i64 r.mt, v, .int .i64 r.bg, .int .i64 r.en] _ _ (fun i hi => by
 have : i < 5 := by simpa using hi
 rcases (show i = 0 ∨ i = 1 ∨ i = 2 ∨ i = 3 ∨ i = 4 by omega) with rfl | rfl | rfl | rfl | rfl <;> rfl)
theorem BxF.ro (w : World) (r : Ro) (v : Value) : BxF (w.alloc (.cells #[v, .int .i64 r.bc, .int .i64 r.bt, .int .i64 r.bg, .int .i64 r.en] 90)) w.heap.size 90 5 (roV r v) := World.rowIs_alloc w #[v, .int .i64 r.bc, .int .i64 r.bt, .int .i64 r.bg, .int .i64 r.en] _ _ (fun i hi => by
 have : i < 5 := by simpa using hi
 rcases (show i = 0 ∨ i = 1 ∨ i = 2 ∨ i = 3 ∨ i = 4 by omega) with rfl | rfl | rfl | rfl | rfl <;> rfl)
theorem BxF.alloc {w : World} {b : Nat} {t : TypeId} {m : Nat} {f : Nat → Value} (h : BxF w b t m f) (q : Obj) : BxF (w.alloc q) b t m f := World.rowIs.alloc h q
set_option maxRecDepth 100000 in
set_option maxHeartbeats 1000000 in
theorem has_v (s : Sv) (p : Sa) (x : Int) (z : Bool) (hz : z = sB (0 ≤ x ∧ x < (s.n : Int))) (w : World) :
  Calls Try.prog 53 #[.agg #[.slice p.a s.n p.ca, .int .i64 s.t, .slice p.b s.m p.cb, .slice p.d s.l p.cd], .int .i64 x] w fun e w' => e = .returned (.bool z) ∧ Below w.heap.size w w' := by
 by_cases h1 : 0 ≤ x
 ·by_cases h2 : x < (s.n : Int)
  ·obtain rfl : z = true := hz.trans (sB_yes ⟨h1, h2⟩)
   clear hz
   go_enter Try.func53, Try.ntmps53
   go_wp2
   go_ret
   exact ⟨rfl, (Below.refl w.heap.size w).alloc (Nat.le_refl _) _⟩
  ·obtain rfl : z = false := hz.trans (sB_no (fun q => h2 q.2))
   clear hz
   go_enter Try.func53, Try.ntmps53
   go_wp2
   go_ret
   exact ⟨rfl, (Below.refl w.heap.size w).alloc (Nat.le_refl _) _⟩
 ·obtain rfl : z = false := hz.trans (sB_no (fun q => h1 q.1))
  clear hz
  go_enter Try.func53, Try.ntmps53
  go_wp2
  go_ret
  exact ⟨rfl, (Below.refl w.heap.size w).alloc (Nat.le_refl _) _⟩
end Go.Proofs.Ytedncfcmhaaobaa
