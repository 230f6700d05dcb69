/-
  Texts of the proof, joined: QuN.
-/
import Derived.Test.YtedncfcmhaaobaaY32
import Derived.Test.YtedncfcmhaaobaaY11
namespace Go.Proofs.Ytedncfcmhaaobaa
open Go.ChangeShapes Go.WideShapes Go.ChangeAt Go.RowKit
set_option linter.unusedVariables false
def quV (a : Qa) : Nat → Value
 | 0 => .int .i64 a.k
 | 1 => .int .i64 a.r
 | _ => .int .i64 a.n
def quF (A : Nat → Qa) (i j : Nat) : Value := quV (A i) j
def sNew (n : Nat) : Sv := ⟨n, fun _ => rpZ, 0, 0, fun _ => ⟨0, 0, 0, fun _ => 0, 0, 0⟩, 0, fun _ => ⟨0, fun _ => 0, 0, 0, 0, 0⟩⟩
def RunQ (A : Nat → Qa) (s0 : Sv) (C : Nat → Int) : Nat → Sv → Prop
 | 0, s => s = s0
 | q + 1, s => ∃ s1, RunQ A s0 C q s1 ∧ StepS s1 (A q) s (C q)
theorem RunQ.congr {A : Nat → Qa} {s0 : Sv} {C D : Nat → Int} : ∀ {q : Nat} {s : Sv}, RunQ A s0 C q s → (∀ i, i < q → C i = D i) → RunQ A s0 D q s
 | 0, s, h, _ => h
 | q + 1, s, ⟨s1, h1, h2⟩, e => ⟨s1, h1.congr (fun i hi => e i (by omega)), by rw [← e q (by omega)]; exact h2⟩
theorem sNew_ok {n : Nat} (h : 1 ≤ n ∧ n ≤ 7) : RunOk (sNew n) := by
 have i0 : inS 0 := ⟨Int.le_refl _, by omega⟩
 have m0 : mkOk 0 0 := ⟨i0, Int.le_refl _, by omega⟩
 exact ⟨⟨⟨h, i0, by show 0 ≤ 200; omega, by show 0 ≤ 200; omega⟩, fun i hi => absurd hi (Nat.not_lt_zero i), fun i hi => ⟨fun q => absurd q.1 (Nat.lt_irrefl 0), fun j hj => absurd hj (Nat.not_lt_zero j), m0, m0, m0⟩, fun i hi => absurd hi (Nat.not_lt_zero i)⟩, Int.le_refl _, Int.le_refl _⟩
theorem RunQ.ok {A : Nat → Qa} {s0 : Sv} {C : Nat → Int} (h0 : RunOk s0) : ∀ {q : Nat} {s : Sv}, RunQ A s0 C q s → RunOk s
 | 0, s, h => by unfold RunQ at h; rw [h]; exact h0
 | q + 1, s, ⟨s1, h1, h2⟩ => h2.ok (RunQ.ok h0 h1)
theorem SvX.setOther {N : Nat → Prop} {w : World} {B b : Nat} {s : Sv} (h : SvX N w B b s) {g : Nat} (hg : ¬ N g) (hl : g < w.heap.size) (i : Nat) (x : Value) : SvX N (w.setCell ⟨g, i, none⟩ x) B b s := by
 obtain ⟨vr, vw, vq, VR, VW, VQ, P⟩ := h.p
 have kp : ∀ q : Nat, N q → (w.setCell ⟨g, i, none⟩ x).heap[q]? = w.heap[q]? := fun q e => Below.heap_setCell w ⟨g, i, none⟩ _ q (fun z => hg (by have z' : q = g := z; rw [← z']; exact e))
 exact ⟨vr, vw, vq, VR, VW, VQ, P.h0, P.x.ofBlock (kp b P.n.b), ⟨P.o.r.keep (fun q e => kp q (P.n.r q e)), P.o.x.keep (fun q e => kp q (P.n.x q e)), P.o.q.keep (fun q e => kp q (P.n.q q e)), fun j hj => EO.keep (P.o.e j hj) (fun q e => kp q (P.n.e j q hj e)), fun j hj => EO.keep (P.o.a j hj) (fun q e => kp q (P.n.a j q hj e)), fun j hj => EO.keep (P.o.f j hj) (fun q e => kp q (P.n.f j q hj e))⟩, P.d, ⟨fun q hq => P.n.nw q (by simpa using hq), P.n.b, P.n.r, P.n.x, P.n.q, P.n.e, P.n.a, P.n.f⟩⟩
theorem EO.made8 (w : World) (B n : Nat) (hB : B ≤ w.heap.size) (hn : n ≤ 1000) : EO (w.alloc (.cells (madeCells #[.bool false, .int .i64 0, .int .i64 0, .int .i64 0, .int .i64 0, .slice none 0 0, .int .i64 0, .int .i64 0] (n * 8)) 43)) B 43 8 (.slice (some ⟨w.heap.size, 0, none⟩) n n) n (rpF (fun _ => rpZ) (fun _ => .slice none 0 0)) := by
 refine ⟨elv_length _ _ _, .inr ⟨w.heap.size, n, madeCells #[.bool false, .int .i64 0, .int .i64 0, .int .i64 0, .int .i64 0, .slice none 0 0, .int .i64 0, .int .i64 0] (n * 8), rfl, hB, (MapKept.heap_alloc w _).1, Nat.le_refl _, by unfold maxLen; omega, by rw [size_madeCells], ?_⟩⟩
 apply List.ext_getElem?
 intro i
 unfold elv
 by_cases hi : i < n * 8
 ·rw [List.getElem?_take, if_pos (by omega), List.getElem?_map, List.getElem?_range (by omega)]
  simp [madeCells, hi]
  have h8 : i % 8 < 8 := Nat.mod_lt _ (by omega)
  generalize i % 8 = j at *
  rcases (show j = 0 ∨ j = 1 ∨ j = 2 ∨ j = 3 ∨ j = 4 ∨ j = 5 ∨ j = 6 ∨ j = 7 by omega) with rfl | rfl | rfl | rfl | rfl | rfl | rfl | rfl <;> rfl
 ·rw [List.getElem?_eq_none (by simp [size_madeCells]; omega), List.getElem?_eq_none (by simp; omega)]
def RetNo (n B : Nat) (e : Ending) (w : World) : Prop := ∃ g : Nat, e = .returned (.tuple #[.agg #[.slice (some ⟨g, 0, none⟩) n n, .int .i64 0, .slice none 0 0, .slice none 0 0], .int .i64 0]) ∧ EO w B 43 8 (.slice (some ⟨g, 0, none⟩) n n) n (rpF (fun _ => rpZ) (fun _ => .slice none 0 0))
set_option maxRecDepth 100000 in
theorem implNs_own (n : Nat) (h : 1 ≤ n ∧ n ≤ 7) (w : World) : Calls Try.prog 25 #[.int .i64 (n : Int)] w fun e w' => RetNo n w.heap.size e w' ∧ Below w.heap.size w w' := by
 have QY : Hid (∀ w, Calls Try.prog 51 #[.int .i64 (n : Int)] w fun e w' => e = .returned (.tuple #[.int .i64 ((n : Int) / 2 + 1), .int .i64 0]) ∧ w = w') := implQs_yes n (by omega)
 have hm := mkRp n (by omega) (w.alloc (.cells #[.slice none 0 0, .int .i64 0, .slice none 0 0, .slice none 0 0] 28))
 have X : Hid (Box4 ((w.alloc (.cells #[.slice (some ⟨w.heap.size + 1, 0, none⟩) n n, .int .i64 0, .slice none 0 0, .slice none 0 0] 28)).alloc (.cells (madeCells #[.bool false, .int .i64 0, .int .i64 0, .int .i64 0, .int .i64 0, .slice none 0 0, .int .i64 0, .int .i64 0] (n * 8)) 43)) w.heap.size 28 (.slice (some ⟨w.heap.size + 1, 0, none⟩) n n) (.int .i64 0) (.slice none 0 0) (.slice none 0 0)) := (Box4.madeAt (w := w) rfl 28 _ _ _ _).alloc _
 have R : Hid (EO ((w.alloc (.cells #[.slice (some ⟨w.heap.size + 1, 0, none⟩) n n, .int .i64 0, .slice none 0 0, .slice none 0 0] 28)).alloc (.cells (madeCells #[.bool false, .int .i64 0, .int .i64 0, .int .i64 0, .int .i64 0, .slice none 0 0, .int .i64 0, .int .i64 0] (n * 8)) 43)) w.heap.size 43 8 (.slice (some ⟨w.heap.size + 1, 0, none⟩) n n) n (rpF (fun _ => rpZ) (fun _ => .slice none 0 0))) := by
  have := EO.made8 (w.alloc (.cells #[.slice (some ⟨w.heap.size + 1, 0, none⟩) n n, .int .i64 0, .slice none 0 0, .slice none 0 0] 28)) w.heap.size n (by simp) (by omega)
  simp at this
  exact this
 have A1 : Hid (Below w.heap.size w ((w.alloc (.cells #[.slice (some ⟨w.heap.size + 1, 0, none⟩) n n, .int .i64 0, .slice none 0 0, .slice none 0 0] 28)).alloc (.cells (madeCells #[.bool false, .int .i64 0, .int .i64 0, .int .i64 0, .int .i64 0, .slice none 0 0, .int .i64 0, .int .i64 0] (n * 8)) 43))) := ((Below.refl _ _).alloc (Nat.le_refl _) _).alloc (by simp) _
 clear h
 go_enter Try.func25, Try.ntmps25
 go_wp2_with fail
 refine (QY.out _).mono ?_
 rintro e w' ⟨rfl, rfl⟩
 go_wp2
 exact ret_cell2 (b := w.heap.size) Try.results25 rfl rfl (Box4.loadsv X.out) ⟨⟨_, rfl, R.out⟩, A1.out⟩
end Go.Proofs.Ytedncfcmhaaobaa
