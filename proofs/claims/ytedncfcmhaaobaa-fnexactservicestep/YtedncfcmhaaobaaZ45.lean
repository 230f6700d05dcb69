/-
  Texts of the proof, joined: OpenSvc, OpenQa.
-/
import Derived.Test.YtedncfcmhaaobaaZ15
import Derived.ProofKit
import Derived.OpenShut
import Derived.ShutString
import Derived.ChangeOld
import Derived.Below
import Derived.Carry
import Derived.ChangeSame
import Derived.Deep.Slices
import Derived.Deep.SlicePairs
import Derived.Deep.Grids
namespace Go.Proofs.Ytedncfcmhaaobaa
open Go.ChangeShapes Go.WideShapes Go.ChangeAt Go.RowKit
set_option linter.unusedVariables false
set_option maxRecDepth 100000 in
theorem nm_came {H : Type} {enc : TypeId × Value → H} {W : World} {fuel : Nat} {x : Value} {y : DataW H × List MemPlace} (h : DataW.trod enc Try.prog W 0 (fun _ => true) true fuel 29 [x] = some y) :
  ∃ (a : Option Addr) (n c : Nat) (C : Nat → Int), x = .slice a n c ∧ Num W a n C ∧ n ≤ maxLen := by
 rcases Deep.open_slice1 Try.underlying29 (by kernel_rfl) h with ⟨hcs, _⟩ | ⟨a, len, cap, m, n, V, D, Pl, hcs, _, hl, hm, hmm, _, hx⟩
 ·cases hcs
  exact ⟨none, 0, 0, fun _ => 0, rfl, fun i hi => absurd hi (by omega), Nat.zero_le _⟩
 ·cases hcs
  have hmm' : m = cap := by simpa using hmm
  have each : ∀ i, i < len → ∃ r : Int, W.cell? (a.add i) = some (.int .i64 r) := fun i hi => by
   obtain ⟨h1, h2⟩ := hx i (by omega)
   obtain ⟨x0, q0, _⟩ := DataW.trod_int Try.underlying3 h2
   obtain e0 := (List.cons.inj q0).1
   exact ⟨x0, by rw [h1, e0]⟩
  obtain ⟨C, hC⟩ := Deep.choose_lt each
  refine ⟨some a, len, cap, C, rfl, fun i hi => ?_, Nat.le_trans hl hm⟩
  obtain ⟨b, off, spot⟩ := a
  have hspot : spot = none := by simpa [Addr.add] using World.cell?_spot (hC 0 (by omega))
  subst hspot
  refine ⟨b, off, rfl, fun j hj => ?_⟩
  obtain rfl : j = 0 := by omega
  have e := hC i hi
  rw [Go.WideShapes.add_plain] at e
  simpa [inF] using e
set_option maxRecDepth 100000 in
theorem mk_came {H : Type} {enc : TypeId × Value → H} {W : World} {fuel : Nat} {x x' : Value} {y : DataW H × List MemPlace} (h : DataW.trod enc Try.prog W 0 (fun _ => true) true fuel 108 [x, x'] = some y) :
  ∃ c t : Int, x = .int .i64 c ∧ x' = .int .i64 t := by
 have cI : Try.prog.cellsOf 3 = 1 := by kernel_rfl
 obtain ⟨xs, k, hk, hxy, _, hxl, hf⟩ := DataW.trod_struct Try.underlying108 h
 match xs, hxl with
 | [y0, y1], _ =>
  have g0 := hf 0 _ rfl
  have g1 := hf 1 _ rfl
  simp [cI] at g0
  simp [cI] at g1
  obtain ⟨x0, q0, _⟩ := DataW.trod_int Try.underlying3 g0
  obtain ⟨x1, q1, _⟩ := DataW.trod_int Try.underlying3 g1
  exact ⟨x0, x1, (List.cons.inj q0).1, (List.cons.inj q1).1⟩
set_option maxRecDepth 100000 in
theorem rpl_came {H : Type} {enc : TypeId × Value → H} {W : World} {fuel : Nat} {x : Value} {y : DataW H × List MemPlace} (h : DataW.trod enc Try.prog W 0 (fun _ => true) true fuel 45 [x] = some y) :
  ∃ (a : Option Addr) (n c : Nat) (R : Nat → Rp) (A : Nat → Option Addr) (X : Nat → Nat), x = .slice a n c ∧ RpV W a n R A X ∧ n ≤ maxLen ∧ ∀ i, i < n → (R i).ne ≤ maxLen := by
 rcases Deep.open_slice Try.underlying45 h with ⟨hcs, _⟩ | ⟨a, len, cap, m, n, D, Pl, hcs, _, hl, hm, hmm, _, hx⟩
 ·cases hcs
  exact ⟨none, 0, 0, fun _ => rpZ, fun _ => none, fun _ => 0, rfl, ⟨fun i hi => absurd hi (by omega), fun i hi => absurd hi (by omega)⟩, Nat.zero_le _, fun i hi => absurd hi (by omega)⟩
 ·cases hcs
  have hmm' : m = cap := by simpa using hmm
  have ce : Try.prog.cellsOf 110 = 8 := by kernel_rfl
  have cI : Try.prog.cellsOf 3 = 1 := by kernel_rfl
  have cB : Try.prog.cellsOf 4 = 1 := by kernel_rfl
  have cL : Try.prog.cellsOf 29 = 1 := by kernel_rfl
  have cM : Try.prog.cellsOf 108 = 2 := by kernel_rfl
  have each : ∀ i, i < len → ∃ r : Rp × Option Addr × Nat, (r.1.ne ≤ maxLen ∧ Num W r.2.1 r.1.ne r.1.E) ∧ ∀ j, j < 8 → W.cell? (a.add (i * 8 + j)) = some (rpV r.1 (.slice r.2.1 r.1.ne r.2.2) j) := fun i hi => by
   obtain ⟨cs', h1, h2⟩ := hx i (by omega)
   rw [ce] at h1
   obtain ⟨_, hlen, hcell⟩ := World.cells?_some h1
   obtain ⟨xs, k, hk, hxy, _, hxl, hf⟩ := DataW.trod_struct Try.underlying110 h2
   match xs, hxl, cs', hlen with
   | [y0, y1, y2, y3, y4], _, [v0, v1, v2, v3, v4, v5, v6, v7], _ =>
    have g0 := hf 0 _ rfl
    simp [cB] at g0
    have g1 := hf 1 _ rfl
    simp [cM] at g1
    have g2 := hf 2 _ rfl
    simp [cM] at g2
    have g3 := hf 3 _ rfl
    simp [cL] at g3
    have g4 := hf 4 _ rfl
    simp [cM] at g4
    obtain ⟨x0, q0, _⟩ := DataW.trod_bool Try.underlying4 g0
    obtain rfl := (List.cons.inj q0).1
    obtain ⟨c1, t1, rfl, rfl⟩ := mk_came g1
    obtain ⟨c2, t2, rfl, rfl⟩ := mk_came g2
    obtain ⟨nA, nn, nc, nC, rfl, nh, nl⟩ := nm_came g3
    obtain ⟨c4, t4, rfl, rfl⟩ := mk_came g4
    refine ⟨(⟨x0, c1, t1, c2, t2, nn, nC, c4, t4⟩, nA, nc), ⟨nl, nh⟩, fun j hj => ?_⟩
    have e := hcell j (by simpa using hj)
    rw [Deep.add_add] at e
    rw [e]
    rcases (show j = 0 ∨ j = 1 ∨ j = 2 ∨ j = 3 ∨ j = 4 ∨ j = 5 ∨ j = 6 ∨ j = 7 by omega) with rfl | rfl | rfl | rfl | rfl | rfl | rfl | rfl <;> rfl
  have : Inhabited (Rp × Option Addr × Nat) := ⟨(rpZ, none, 0)⟩
  obtain ⟨RR, hR⟩ := Deep.choose_lt each
  refine ⟨some a, len, cap, fun i => (RR i).1, fun i => (RR i).2.1, fun i => (RR i).2.2, rfl, ⟨fun i hi => ?_, fun i hi => (hR i hi).1.2⟩, Nat.le_trans hl hm, fun i hi => (hR i hi).1.1⟩
  obtain ⟨b, off, spot⟩ := a
  have hspot : spot = none := by simpa [Addr.add] using World.cell?_spot ((hR 0 (by omega)).2 0 (by omega))
  subst hspot
  refine ⟨b, off, rfl, fun j hj => ?_⟩
  have e := (hR i hi).2 j hj
  rw [Go.WideShapes.add_plain] at e
  rw [Nat.add_assoc]
  exact e
set_option maxRecDepth 100000 in
theorem wrt_came {H : Type} {enc : TypeId × Value → H} {W : World} {fuel : Nat} {x : Value} {y : DataW H × List MemPlace} (h : DataW.trod enc Try.prog W 0 (fun _ => true) true fuel 46 [x] = some y) :
  ∃ (a : Option Addr) (n c : Nat) (R : Nat → Wo) (A : Nat → Option Addr) (X : Nat → Nat), x = .slice a n c ∧ WoV W a n R A X ∧ n ≤ maxLen ∧ ∀ i, i < n → (R i).ne ≤ maxLen := by
 rcases Deep.open_slice Try.underlying46 h with ⟨hcs, _⟩ | ⟨a, len, cap, m, n, D, Pl, hcs, _, hl, hm, hmm, _, hx⟩
 ·cases hcs
  exact ⟨none, 0, 0, fun _ => ⟨0, 0, 0, fun _ => 0, 0, 0⟩, fun _ => none, fun _ => 0, rfl, ⟨fun i hi => absurd hi (by omega), fun i hi => absurd hi (by omega)⟩, Nat.zero_le _, fun i hi => absurd hi (by omega)⟩
 ·cases hcs
  have hmm' : m = cap := by simpa using hmm
  have ce : Try.prog.cellsOf 113 = 5 := by kernel_rfl
  have cI : Try.prog.cellsOf 3 = 1 := by kernel_rfl
  have cB : Try.prog.cellsOf 4 = 1 := by kernel_rfl
  have cL : Try.prog.cellsOf 29 = 1 := by kernel_rfl
  have cM : Try.prog.cellsOf 108 = 2 := by kernel_rfl
  have each : ∀ i, i < len → ∃ r : Wo × Option Addr × Nat, (r.1.ne ≤ maxLen ∧ Num W r.2.1 r.1.ne r.1.E) ∧ ∀ j, j < 5 → W.cell? (a.add (i * 5 + j)) = some (woV r.1 (.slice r.2.1 r.1.ne r.2.2) j) := fun i hi => by
   obtain ⟨cs', h1, h2⟩ := hx i (by omega)
   rw [ce] at h1
   obtain ⟨_, hlen, hcell⟩ := World.cells?_some h1
   obtain ⟨xs, k, hk, hxy, _, hxl, hf⟩ := DataW.trod_struct Try.underlying113 h2
   match xs, hxl, cs', hlen with
   | [y0, y1, y2, y3], _, [v0, v1, v2, v3, v4], _ =>
    have g0 := hf 0 _ rfl
    simp [cM] at g0
    have g1 := hf 1 _ rfl
    simp [cL] at g1
    have g2 := hf 2 _ rfl
    simp [cI] at g2
    have g3 := hf 3 _ rfl
    simp [cI] at g3
    obtain ⟨c0, t0, rfl, rfl⟩ := mk_came g0
    obtain ⟨nA, nn, nc, nC, rfl, nh, nl⟩ := nm_came g1
    obtain ⟨x2, q2, _⟩ := DataW.trod_int Try.underlying3 g2
    obtain rfl := (List.cons.inj q2).1
    obtain ⟨x3, q3, _⟩ := DataW.trod_int Try.underlying3 g3
    obtain rfl := (List.cons.inj q3).1
    refine ⟨(⟨c0, t0, nn, nC, x2, x3⟩, nA, nc), ⟨nl, nh⟩, fun j hj => ?_⟩
    have e := hcell j (by simpa using hj)
    rw [Deep.add_add] at e
    rw [e]
    rcases (show j = 0 ∨ j = 1 ∨ j = 2 ∨ j = 3 ∨ j = 4 by omega) with rfl | rfl | rfl | rfl | rfl <;> rfl
  have : Inhabited (Wo × Option Addr × Nat) := ⟨(⟨0, 0, 0, fun _ => 0, 0, 0⟩, none, 0)⟩
  obtain ⟨RR, hR⟩ := Deep.choose_lt each
  refine ⟨some a, len, cap, fun i => (RR i).1, fun i => (RR i).2.1, fun i => (RR i).2.2, rfl, ⟨fun i hi => ?_, fun i hi => (hR i hi).1.2⟩, Nat.le_trans hl hm, fun i hi => (hR i hi).1.1⟩
  obtain ⟨b, off, spot⟩ := a
  have hspot : spot = none := by simpa [Addr.add] using World.cell?_spot ((hR 0 (by omega)).2 0 (by omega))
  subst hspot
  refine ⟨b, off, rfl, fun j hj => ?_⟩
  have e := (hR i hi).2 j hj
  rw [Go.WideShapes.add_plain] at e
  rw [Nat.add_assoc]
  exact e
set_option maxRecDepth 100000 in
theorem rdo_came {H : Type} {enc : TypeId × Value → H} {W : World} {fuel : Nat} {x : Value} {y : DataW H × List MemPlace} (h : DataW.trod enc Try.prog W 0 (fun _ => true) true fuel 47 [x] = some y) :
  ∃ (a : Option Addr) (n c : Nat) (R : Nat → Ro) (A : Nat → Option Addr) (X : Nat → Nat), x = .slice a n c ∧ RoV W a n R A X ∧ n ≤ maxLen ∧ ∀ i, i < n → (R i).ne ≤ maxLen := by
 rcases Deep.open_slice Try.underlying47 h with ⟨hcs, _⟩ | ⟨a, len, cap, m, n, D, Pl, hcs, _, hl, hm, hmm, _, hx⟩
 ·cases hcs
  exact ⟨none, 0, 0, fun _ => ⟨0, fun _ => 0, 0, 0, 0, 0⟩, fun _ => none, fun _ => 0, rfl, ⟨fun i hi => absurd hi (by omega), fun i hi => absurd hi (by omega)⟩, Nat.zero_le _, fun i hi => absurd hi (by omega)⟩
 ·cases hcs
  have hmm' : m = cap := by simpa using hmm
  have ce : Try.prog.cellsOf 116 = 5 := by kernel_rfl
  have cI : Try.prog.cellsOf 3 = 1 := by kernel_rfl
  have cB : Try.prog.cellsOf 4 = 1 := by kernel_rfl
  have cL : Try.prog.cellsOf 29 = 1 := by kernel_rfl
  have cM : Try.prog.cellsOf 108 = 2 := by kernel_rfl
  have each : ∀ i, i < len → ∃ r : Ro × Option Addr × Nat, (r.1.ne ≤ maxLen ∧ Num W r.2.1 r.1.ne r.1.E) ∧ ∀ j, j < 5 → W.cell? (a.add (i * 5 + j)) = some (roV r.1 (.slice r.2.1 r.1.ne r.2.2) j) := fun i hi => by
   obtain ⟨cs', h1, h2⟩ := hx i (by omega)
   rw [ce] at h1
   obtain ⟨_, hlen, hcell⟩ := World.cells?_some h1
   obtain ⟨xs, k, hk, hxy, _, hxl, hf⟩ := DataW.trod_struct Try.underlying116 h2
   match xs, hxl, cs', hlen with
   | [y0, y1, y2, y3], _, [v0, v1, v2, v3, v4], _ =>
    have g0 := hf 0 _ rfl
    simp [cL] at g0
    have g1 := hf 1 _ rfl
    simp [cM] at g1
    have g2 := hf 2 _ rfl
    simp [cI] at g2
    have g3 := hf 3 _ rfl
    simp [cI] at g3
    obtain ⟨nA, nn, nc, nC, rfl, nh, nl⟩ := nm_came g0
    obtain ⟨c1, t1, rfl, rfl⟩ := mk_came g1
    obtain ⟨x2, q2, _⟩ := DataW.trod_int Try.underlying3 g2
    obtain rfl := (List.cons.inj q2).1
    obtain ⟨x3, q3, _⟩ := DataW.trod_int Try.underlying3 g3
    obtain rfl := (List.cons.inj q3).1
    refine ⟨(⟨nn, nC, c1, t1, x2, x3⟩, nA, nc), ⟨nl, nh⟩, fun j hj => ?_⟩
    have e := hcell j (by simpa using hj)
    rw [Deep.add_add] at e
    rw [e]
    rcases (show j = 0 ∨ j = 1 ∨ j = 2 ∨ j = 3 ∨ j = 4 by omega) with rfl | rfl | rfl | rfl | rfl <;> rfl
  have : Inhabited (Ro × Option Addr × Nat) := ⟨(⟨0, fun _ => 0, 0, 0, 0, 0⟩, none, 0)⟩
  obtain ⟨RR, hR⟩ := Deep.choose_lt each
  refine ⟨some a, len, cap, fun i => (RR i).1, fun i => (RR i).2.1, fun i => (RR i).2.2, rfl, ⟨fun i hi => ?_, fun i hi => (hR i hi).1.2⟩, Nat.le_trans hl hm, fun i hi => (hR i hi).1.1⟩
  obtain ⟨b, off, spot⟩ := a
  have hspot : spot = none := by simpa [Addr.add] using World.cell?_spot ((hR 0 (by omega)).2 0 (by omega))
  subst hspot
  refine ⟨b, off, rfl, fun j hj => ?_⟩
  have e := (hR i hi).2 j hj
  rw [Go.WideShapes.add_plain] at e
  rw [Nat.add_assoc]
  exact e
set_option maxRecDepth 100000 in
theorem openSvc {H : Type} {enc : TypeId × Value → H} {W : World} {base : Nat} {v : Value} {d : DataW H} {ps : List MemPlace} (hok : Value.okWide Try.prog W .any base 49 v) (h : DataW.Trod enc Try.prog W 0 (fun _ => true) true 49 v d ps) :
  ∃ (s : Sv) (p : Sa), v = .agg #[.slice p.a s.n p.ca, .int .i64 s.t, .slice p.b s.m p.cb, .slice p.d s.l p.cd] ∧ SvV W s p ∧ s.max maxLen := by
 obtain ⟨cs, rfl, hsz⟩ := okWide_struct Try.underlying49 hok
 obtain ⟨fuel, hf⟩ := h
 obtain ⟨xs, n, _, _, hl, hlen, hx⟩ := DataW.trod_struct Try.underlying49 hf
 have hc4 : Try.prog.cellsOf 49 = 4 := by kernel_rfl
 have hcR : Try.prog.cellsOf 45 = 1 := by kernel_rfl
 have hcW : Try.prog.cellsOf 46 = 1 := by kernel_rfl
 have hcQ : Try.prog.cellsOf 47 = 1 := by kernel_rfl
 have cI : Try.prog.cellsOf 3 = 1 := by kernel_rfl
 rw [hc4] at hsz
 obtain ⟨l⟩ := cs
 match xs, hlen, l, hsz with
 | [y0, y1, y2, y3], _, [x0, x1, x2, x3], _ =>
  have h0 := hx 0 _ rfl
  have h1 := hx 1 _ rfl
  have h2 := hx 2 _ rfl
  have h3 := hx 3 _ rfl
  simp [Value.cells, hcR] at h0
  simp [Value.cells, cI] at h1
  simp [Value.cells, hcW] at h2
  simp [Value.cells, hcQ] at h3
  obtain ⟨a0, n0, c0, R, A, X, rfl, s0, l0, m0⟩ := rpl_came h0
  obtain ⟨tt, q1, _⟩ := DataW.trod_int Try.underlying3 h1
  obtain rfl := (List.cons.inj q1).1
  obtain ⟨a2, n2, c2, R2, A2, X2, rfl, s2, l2, m2⟩ := wrt_came h2
  obtain ⟨a3, n3, c3, R3, A3, X3, rfl, s3, l3, m3⟩ := rdo_came h3
  exact ⟨⟨n0, R, tt, n2, R2, n3, R3⟩, ⟨a0, a2, a3, A, A2, A3, X, X2, X3, c0, c2, c3⟩, rfl, ⟨s0, s2, s3⟩, ⟨l0, m0⟩, ⟨l2, m2⟩, ⟨l3, m3⟩⟩
end Go.Proofs.Ytedncfcmhaaobaa
namespace Go.Proofs.Ytedncfcmhaaobaa
open Go.ChangeShapes Go.WideShapes Go.ChangeAt Go.RowKit
set_option linter.unusedVariables false
set_option maxRecDepth 100000 in
theorem toQuAct_any (x y z : Int) (w : World) : Calls Try.prog 13 #[.agg #[.int .i64 x, .int .i64 y, .int .i64 z]] w fun e w' => e = .returned (.agg #[.int .i64 x, .int .i64 y, .int .i64 z]) ∧ Below w.heap.size w w' := by
 go_enter Try.func13, Try.ntmps13
 go_wp2
 refine ret_cell (b := w.heap.size + 1) (v := .agg #[.int .i64 x, .int .i64 y, .int .i64 z]) Try.results13 rfl (by go_simp) ⟨rfl, (((Below.refl w.heap.size w).alloc (Nat.le_refl _) _).alloc (by simp) _).alloc (by simp; omega) _⟩
set_option maxRecDepth 100000 in
theorem openQa {H : Type} {enc : TypeId × Value → H} {W : World} {base : Nat} {v : Value} {d : DataW H} {ps : List MemPlace} (hok : Value.okWide Try.prog W .any base 50 v) (h : DataW.Trod enc Try.prog W 0 (fun _ => true) true 50 v d ps) :
  ∃ (x y z : Int), v = .agg #[.int .i64 x, .int .i64 y, .int .i64 z] := by
 obtain ⟨cs, rfl, hsz⟩ := okWide_struct Try.underlying50 hok
 obtain ⟨fuel, hf⟩ := h
 obtain ⟨xs, n, _, _, hl, hlen, hx⟩ := DataW.trod_struct Try.underlying50 hf
 have hc : Try.prog.cellsOf 50 = 3 := by kernel_rfl
 have cI : Try.prog.cellsOf 3 = 1 := by kernel_rfl
 rw [hc] at hsz
 obtain ⟨l⟩ := cs
 match xs, hlen, l, hsz with
 | [y0, y1, y2], _, [v0, v1, v2], _ =>
  have g0 := hx 0 _ rfl
  have g1 := hx 1 _ rfl
  have g2 := hx 2 _ rfl
  simp [Value.cells, cI] at g0 g1 g2
  obtain ⟨x0, q0, _⟩ := DataW.trod_int Try.underlying3 g0
  obtain ⟨x1, q1, _⟩ := DataW.trod_int Try.underlying3 g1
  obtain ⟨x2, q2, _⟩ := DataW.trod_int Try.underlying3 g2
  obtain rfl := (List.cons.inj q0).1
  obtain rfl := (List.cons.inj q1).1
  obtain rfl := (List.cons.inj q2).1
  exact ⟨x0, x1, x2, rfl⟩
end Go.Proofs.Ytedncfcmhaaobaa
