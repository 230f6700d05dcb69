/-
  Banks and requests among the arguments, opened (written by tools/mkopen.py).
-/
import Derived.Test.YtfhjenohgafjlabDoorBankOk
import Derived.ProofKit
import Derived.OpenShut
import Derived.ShutString
import Derived.ChangeOld
import Derived.Below
import Derived.Carry
import Derived.ChangeSame
import Derived.Deep.Slices
import Derived.Deep.SlicePairs
import Derived.Deep.Grids
namespace Go.Proofs.YtfhjenohgafjlabDoor
open Go.ChangeShapes Go.WideShapes Go.ChangeAt Go.RowKit
set_option linter.unusedVariables false
set_option maxRecDepth 100000 in
theorem rg_came {H : Type} {enc : TypeId × Value → H} {W : World} {fuel : Nat} {x : Value} {y : DataW H × List MemPlace} (h : DataW.trod enc Tryd.prog W 0 (fun _ => true) true fuel 22 [x] = some y) :
    ∃ (a : Option Addr) (n c : Nat) (RG : Nat → Rg), x = .slice a n c ∧ Els W 3 a n (rgF RG) ∧ n ≤ maxLen ∧ ∀ i, i < n → (RG i).r.size ≤ maxLen := by
  rcases Deep.open_slice Tryd.underlying22 h with ⟨hcs, _⟩ | ⟨a, len, cap, m, n, D, Pl, hcs, _, hl, hm, hmm, _, hx⟩
  · cases hcs
    exact ⟨none, 0, 0, fun _ => rgZ, rfl, fun i hi => absurd hi (by omega), Nat.zero_le _, fun i hi => absurd hi (by omega)⟩
  · cases hcs
    have hmm' : m = cap := by simpa using hmm
    have ce : Tryd.prog.cellsOf 70 = 3 := by kernel_rfl
    have cI : Tryd.prog.cellsOf 3 = 1 := by kernel_rfl
    have cS : Tryd.prog.cellsOf 9 = 1 := by kernel_rfl
    have each : ∀ i, i < len → ∃ r : Rg, (r.r.size ≤ maxLen) ∧ ∀ j, j < 3 → W.cell? (a.add (i * 3 + j)) = some (rgV r j) := fun i hi => by
      obtain ⟨cs', h1, h2⟩ := hx i (by omega)
      rw [ce] at h1
      obtain ⟨_, hlen, hcell⟩ := World.cells?_some h1
      obtain ⟨xs, k, hk, hxy, _, hxl, hf⟩ := DataW.trod_struct Tryd.underlying70 h2
      match xs, hxl, cs', hlen with
      | [y0, y1, y2], _, [v0, v1, v2], _ =>
        have g0 := hf 0 _ rfl
        have g1 := hf 1 _ rfl
        have g2 := hf 2 _ rfl
        simp [cI] at g0
        simp [cI] at g1
        simp [cS] at g2
        obtain ⟨x0, q0, _⟩ := DataW.trod_int Tryd.underlying3 g0
        obtain rfl := (List.cons.inj q0).1
        obtain ⟨x1, q1, _⟩ := DataW.trod_int Tryd.underlying3 g1
        obtain rfl := (List.cons.inj q1).1
        obtain ⟨x2, q2, _, z2⟩ := DataW.trod_string Tryd.underlying9 g2
        obtain rfl := (List.cons.inj q2).1
        refine ⟨⟨x0, x1, x2⟩, z2, fun j hj => ?_⟩
        have e := hcell j (by simpa using hj)
        rw [Deep.add_add] at e
        rw [e]
        rcases (show j = 0 ∨ j = 1 ∨ j = 2 by omega) with rfl | rfl | rfl <;> rfl
    have : Inhabited Rg := ⟨rgZ⟩
    obtain ⟨RG, hR⟩ := Deep.choose_lt each
    refine ⟨some a, len, cap, RG, rfl, fun i hi => ?_, Nat.le_trans hl hm, fun i hi => (hR i hi).1⟩
    obtain ⟨b, off, spot⟩ := a
    have hspot : spot = none := by simpa [Addr.add] using World.cell?_spot ((hR 0 (by omega)).2 0 (by omega))
    subst hspot
    refine ⟨b, off, rfl, fun j hj => ?_⟩
    have e := (hR i hi).2 j hj
    rw [Go.WideShapes.add_plain] at e
    rw [Nat.add_assoc]
    exact e
set_option maxRecDepth 100000 in
theorem se_came {H : Type} {enc : TypeId × Value → H} {W : World} {fuel : Nat} {x : Value} {y : DataW H × List MemPlace} (h : DataW.trod enc Tryd.prog W 0 (fun _ => true) true fuel 23 [x] = some y) :
    ∃ (a : Option Addr) (n c : Nat) (SE : Nat → Se), x = .slice a n c ∧ Els W 4 a n (seF SE) ∧ n ≤ maxLen ∧ ∀ i, i < n → True := by
  rcases Deep.open_slice Tryd.underlying23 h with ⟨hcs, _⟩ | ⟨a, len, cap, m, n, D, Pl, hcs, _, hl, hm, hmm, _, hx⟩
  · cases hcs
    exact ⟨none, 0, 0, fun _ => seZ, rfl, fun i hi => absurd hi (by omega), Nat.zero_le _, fun i hi => absurd hi (by omega)⟩
  · cases hcs
    have hmm' : m = cap := by simpa using hmm
    have ce : Tryd.prog.cellsOf 75 = 4 := by kernel_rfl
    have cI : Tryd.prog.cellsOf 3 = 1 := by kernel_rfl
    have each : ∀ i, i < len → ∃ r : Se, (True) ∧ ∀ j, j < 4 → W.cell? (a.add (i * 4 + j)) = some (seV r j) := fun i hi => by
      obtain ⟨cs', h1, h2⟩ := hx i (by omega)
      rw [ce] at h1
      obtain ⟨_, hlen, hcell⟩ := World.cells?_some h1
      obtain ⟨xs, k, hk, hxy, _, hxl, hf⟩ := DataW.trod_struct Tryd.underlying75 h2
      match xs, hxl, cs', hlen with
      | [y0, y1, y2, y3], _, [v0, v1, v2, v3], _ =>
        have g0 := hf 0 _ rfl
        have g1 := hf 1 _ rfl
        have g2 := hf 2 _ rfl
        have g3 := hf 3 _ rfl
        simp [cI] at g0
        simp [cI] at g1
        simp [cI] at g2
        simp [cI] at g3
        obtain ⟨x0, q0, _⟩ := DataW.trod_int Tryd.underlying3 g0
        obtain rfl := (List.cons.inj q0).1
        obtain ⟨x1, q1, _⟩ := DataW.trod_int Tryd.underlying3 g1
        obtain rfl := (List.cons.inj q1).1
        obtain ⟨x2, q2, _⟩ := DataW.trod_int Tryd.underlying3 g2
        obtain rfl := (List.cons.inj q2).1
        obtain ⟨x3, q3, _⟩ := DataW.trod_int Tryd.underlying3 g3
        obtain rfl := (List.cons.inj q3).1
        refine ⟨⟨x0, x1, x2, x3⟩, trivial, fun j hj => ?_⟩
        have e := hcell j (by simpa using hj)
        rw [Deep.add_add] at e
        rw [e]
        rcases (show j = 0 ∨ j = 1 ∨ j = 2 ∨ j = 3 by omega) with rfl | rfl | rfl | rfl <;> rfl
    have : Inhabited Se := ⟨seZ⟩
    obtain ⟨SE, hR⟩ := Deep.choose_lt each
    refine ⟨some a, len, cap, SE, rfl, fun i hi => ?_, Nat.le_trans hl hm, fun i hi => (hR i hi).1⟩
    obtain ⟨b, off, spot⟩ := a
    have hspot : spot = none := by simpa [Addr.add] using World.cell?_spot ((hR 0 (by omega)).2 0 (by omega))
    subst hspot
    refine ⟨b, off, rfl, fun j hj => ?_⟩
    have e := (hR i hi).2 j hj
    rw [Go.WideShapes.add_plain] at e
    rw [Nat.add_assoc]
    exact e
/-- What is known of a bank that came in. -/
structure CameB (W : World) (d : Bk) (a0 a1 : Option Addr) : Prop where
  v : BankV W d a0 a1
  l0 : d.nr ≤ maxLen
  l1 : d.ns ≤ maxLen
  m0 : ∀ i, i < d.nr → (d.R i).r.size ≤ maxLen
set_option maxRecDepth 100000 in
/-- A bank among the arguments. -/
theorem openBank {H : Type} {enc : TypeId × Value → H} {W : World} {base : Nat} {v : Value} {d : DataW H} {ps : List MemPlace} (hok : Value.okWide Tryd.prog W .any base 25 v) (h : DataW.Trod enc Tryd.prog W 0 (fun _ => true) true 25 v d ps) :
    ∃ (k : Bk) (a0 a1 : Option Addr) (c0 c1 : Nat), v = .agg #[.slice a0 k.nr c0, .slice a1 k.ns c1] ∧ CameB W k a0 a1 := by
  obtain ⟨cs, rfl, hsz⟩ := okWide_struct Tryd.underlying25 hok
  obtain ⟨fuel, hf⟩ := h
  obtain ⟨xs, n, _, _, hl, hlen, hx⟩ := DataW.trod_struct Tryd.underlying25 hf
  have hc2 : Tryd.prog.cellsOf 25 = 2 := by kernel_rfl
  have hcR : Tryd.prog.cellsOf 22 = 1 := by kernel_rfl
  have hcS : Tryd.prog.cellsOf 23 = 1 := by kernel_rfl
  rw [hc2] at hsz
  obtain ⟨l⟩ := cs
  match xs, hlen, l, hsz with
  | [y0, y1], _, [x, y], _ =>
    have h0 := hx 0 _ rfl
    have h1 := hx 1 _ rfl
    simp [Value.cells, hcR, hcS] at h0 h1
    obtain ⟨a0, n0, c0, R, rfl, s0, l0, m0⟩ := rg_came h0
    obtain ⟨a1, n1, c1, S, rfl, s1, l1, _⟩ := se_came h1
    exact ⟨⟨n0, R, n1, S⟩, a0, a1, c0, c1, rfl, ⟨s0, s1⟩, l0, l1, m0⟩
set_option maxRecDepth 100000 in
/-- A request among the arguments. -/
theorem openReq {H : Type} {enc : TypeId × Value → H} {W : World} {base : Nat} {v : Value} {d : DataW H} {ps : List MemPlace} (hok : Value.okWide Tryd.prog W .any base 40 v) (h : DataW.Trod enc Tryd.prog W 0 (fun _ => true) true 40 v d ps) :
    ∃ (s q v0 c : Int) (r : ByteArray), v = .agg #[.int .i64 s, .int .i64 q, .int .i64 v0, .int .i64 c, .string r] ∧ r.size ≤ maxLen := by
  obtain ⟨cs, rfl, hsz⟩ := okWide_struct Tryd.underlying40 hok
  obtain ⟨fuel, hf⟩ := h
  obtain ⟨xs, n, _, _, hl, hlen, hx⟩ := DataW.trod_struct Tryd.underlying40 hf
  have hc : Tryd.prog.cellsOf 40 = 5 := by kernel_rfl
  have cI : Tryd.prog.cellsOf 3 = 1 := by kernel_rfl
  have cS : Tryd.prog.cellsOf 9 = 1 := by kernel_rfl
  rw [hc] at hsz
  obtain ⟨l⟩ := cs
  match xs, hlen, l, hsz with
  | [y0, y1, y2, y3, y4], _, [v0, v1, v2, v3, v4], _ =>
    have g0 := hx 0 _ rfl
    have g1 := hx 1 _ rfl
    have g2 := hx 2 _ rfl
    have g3 := hx 3 _ rfl
    have g4 := hx 4 _ rfl
    simp [Value.cells, cI] at g0 g1 g2 g3
    simp [Value.cells, cS] at g4
    obtain ⟨x0, q0, _⟩ := DataW.trod_int Tryd.underlying3 g0
    obtain ⟨x1, q1, _⟩ := DataW.trod_int Tryd.underlying3 g1
    obtain ⟨x2, q2, _⟩ := DataW.trod_int Tryd.underlying3 g2
    obtain ⟨x3, q3, _⟩ := DataW.trod_int Tryd.underlying3 g3
    obtain ⟨x4, q4, _, z4⟩ := DataW.trod_string Tryd.underlying9 g4
    obtain rfl := (List.cons.inj q0).1
    obtain rfl := (List.cons.inj q1).1
    obtain rfl := (List.cons.inj q2).1
    obtain rfl := (List.cons.inj q3).1
    obtain rfl := (List.cons.inj q4).1
    exact ⟨x0, x1, x2, x3, x4, rfl, z4⟩
end Go.Proofs.YtfhjenohgafjlabDoor
