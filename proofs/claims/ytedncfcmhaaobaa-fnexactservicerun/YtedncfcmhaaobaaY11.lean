/-
  Texts of the proof, joined: SvcR.
-/
import Derived.Test.YtedncfcmhaaobaaY04
import Derived.Test.YtedncfcmhaaobaaY06
import Derived.Test.YtedncfcmhaaobaaY09
import Derived.Test.YtedncfcmhaaobaaY10
namespace Go.Proofs.Ytedncfcmhaaobaa
open Go.ChangeShapes Go.WideShapes Go.ChangeAt Go.RowKit
set_option linter.unusedVariables false
structure Rp where
 mute : Bool
 nc : Int
 nt : Int
 sc : Int
 st : Int
 ne : Nat
 E : Nat → Int
 bc : Int
 bt : Int
def rpZ : Rp := ⟨false, 0, 0, 0, 0, 0, fun _ => 0, 0, 0⟩
def rpV (r : Rp) (v : Value) : Nat → Value
 | 0 => .bool r.mute
 | 1 => .int .i64 r.nc
 | 2 => .int .i64 r.nt
 | 3 => .int .i64 r.sc
 | 4 => .int .i64 r.st
 | 5 => v
 | 6 => .int .i64 r.bc
 | _ => .int .i64 r.bt
def rpF (R : Nat → Rp) (V : Nat → Value) (i j : Nat) : Value := rpV (R i) (V i) j
theorem Try.infoRp : (Try.prog.info? 43).map (fun i => (i.zero, i.size, i.bytes)) = some (some (.agg #[.bool false, .int .i64 0, .int .i64 0, .int .i64 0, .int .i64 0, .slice none 0 0, .int .i64 0, .int .i64 0]), 8, 80) := by kernel_rfl
theorem mkRp (n : Nat) (hn : n ≤ 1000) (w : World) : (Instr.makeSlice 24 (.int .i64 n) (.int .i64 n)).run Try.prog w = .ok (.slice (some ⟨w.heap.size, 0, none⟩) n n) (w.alloc (.cells (madeCells #[.bool false, .int .i64 0, .int .i64 0, .int .i64 0, .int .i64 0, .slice none 0 0, .int .i64 0, .int .i64 0] (n * 8)) 43)) := by
 obtain ⟨i, hi, hzz⟩ := Option.map_eq_some_iff.1 Try.infoRp
 simp only [Prod.mk.injEq] at hzz
 obtain ⟨hz, hs, hb⟩ := hzz
 have hr := run_make (P := Try.prog) w 24 43 i _ Try.underlying24 hi hz .i64 .i64 n n (by omega) (Int.le_refl _) (by rw [hb]; omega) (by omega)
 simp only [Int.toNat_natCast, hs] at hr
 exact hr
def RetNs (n : Nat) (B : Nat) (e : Ending) (w : World) : Prop := ∃ (g : Nat) (c : Nat) (V : Nat → Value) (vw vr : Value), e = .returned (.tuple #[.agg #[.slice (some ⟨g, 0, none⟩) n c, .int .i64 0, vw, vr], .int .i64 0]) ∧ B ≤ g ∧ g < w.heap.size ∧ RowE w 8 (some ⟨g, 0, none⟩) g n (rpF (fun _ => rpZ) V) ∧ (∀ i, i < n → ∃ a, V i = .slice a 0 0) ∧ (∃ a, vw = .slice a 0 0) ∧ (∃ a, vr = .slice a 0 0)
theorem Box4.loadsv {w : World} {b : Nat} {x y z u : Value} (h : Box4 w b 28 x y z u) : (loadVar 28 ⟨b, 0, none⟩).run Try.prog w = .ok (.agg #[x, y, z, u]) w := by
 have h0 := h.c0
 have h1 := h.c1
 have h2 := h.c2
 have h3 := h.c3
 go_simp
set_option maxRecDepth 100000 in
theorem implNs_no (n : Int) (h : ¬ (1 ≤ n ∧ n ≤ 7)) (w : World) : Calls Try.prog 25 #[.int .i64 n] w fun e w' => e = .returned (.tuple #[.agg #[.slice none 0 0, .int .i64 0, .slice none 0 0, .slice none 0 0], .int .i64 4]) ∧ Below w.heap.size w w' := by
 have QN : Hid (∀ w, Calls Try.prog 51 #[.int .i64 n] w fun e w' => e = .returned (.tuple #[.int .i64 0, .int .i64 4]) ∧ w = w') := implQs_no n h
 have X : Hid (Box4 (w.alloc (.cells #[.slice none 0 0, .int .i64 0, .slice none 0 0, .slice none 0 0] 28)) w.heap.size 28 (.slice none 0 0) (.int .i64 0) (.slice none 0 0) (.slice none 0 0)) := Box4.madeAt rfl _ _ _ _ _
 have A1 : Hid (Below w.heap.size w (w.alloc (.cells #[.slice none 0 0, .int .i64 0, .slice none 0 0, .slice none 0 0] 28))) := (Below.refl _ _).alloc (Nat.le_refl _) _
 clear h
 go_enter Try.func25, Try.ntmps25
 go_wp2_with fail
 refine (QN.out _).mono ?_
 rintro e w' ⟨rfl, rfl⟩
 go_wp2
 exact ret_cell2 (b := w.heap.size) Try.results25 rfl rfl (Box4.loadsv X.out) ⟨rfl, A1.out⟩
end Go.Proofs.Ytedncfcmhaaobaa
