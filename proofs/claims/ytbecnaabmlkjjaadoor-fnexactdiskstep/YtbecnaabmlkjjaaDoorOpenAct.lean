/-
  An act among the arguments, opened.
-/
import Derived.Test.YtbecnaabmlkjjaaDoorOpenDisk
import Derived.Test.YtbecnaabmlkjjaaDoorBoolS
import Derived.Test.YtbecnaabmlkjjaaDoorDriveDo
import Derived.Deep.Grids
namespace Go.Proofs.YtbecnaabmlkjjaaDoor
open Go.ChangeShapes Go.WideShapes Go.ChangeAt Go.RowKit
/-- What is known of an act that came in. -/
structure CameA (W : World) (a : Ac) (ak : Option Addr) : Prop where
  v : Bools W ak a.nk a.K
  l : a.nk ≤ maxLen
  m : a.s.size ≤ maxLen
theorem bools_came {H : Type} {enc : TypeId × Value → H} {W : World} {fuel : Nat} {x : Value} {y : DataW H × List MemPlace} (h : DataW.trod enc Tryd.prog W 0 (fun _ => true) true fuel 36 [x] = some y) :
    ∃ (a : Option Addr) (n c : Nat) (f : Nat → Bool), x = .slice a n c ∧ Bools W a n f ∧ n ≤ maxLen := by
  rcases Deep.open_bools Tryd.underlying36 Tryd.underlying4 (by kernel_rfl) h with ⟨hcs, _⟩ | ⟨a, len, cap, B, hcs, _, hl, hm, _, hcell⟩
  · cases hcs
    exact ⟨none, 0, 0, fun _ => false, rfl, fun i hi => absurd hi (by omega), Nat.zero_le _⟩
  · cases hcs
    refine ⟨some a, len, cap, B, rfl, fun i hi => ?_, Nat.le_trans hl hm⟩
    obtain ⟨b, off, spot⟩ := a
    have h0 := hcell i (by omega)
    have hspot : spot = none := by simpa [Addr.add] using World.cell?_spot (hcell 0 (by omega))
    subst hspot
    exact ⟨b, off, rfl, by rw [← Go.WideShapes.add_plain]; exact h0⟩
theorem trod_struct5 {H : Type} {enc : TypeId × Value → H} {W : World} {t : TypeId} {f0 f1 f2 f3 f4 : Field} {fuel : Nat} {cs : List Value} {x : DataW H × List MemPlace} (ht : Tryd.prog.underlying t = some (.struct #[f0, f1, f2, f3, f4])) (h : DataW.trod enc Tryd.prog W 0 (fun _ => true) true fuel t cs = some x) :
    ∃ y0 y1 y2 y3 y4 n, DataW.trod enc Tryd.prog W 0 (fun _ => true) true n f0.type ((cs.drop f0.offset).take (Tryd.prog.cellsOf f0.type)) = some y0 ∧ DataW.trod enc Tryd.prog W 0 (fun _ => true) true n f1.type ((cs.drop f1.offset).take (Tryd.prog.cellsOf f1.type)) = some y1 ∧ DataW.trod enc Tryd.prog W 0 (fun _ => true) true n f2.type ((cs.drop f2.offset).take (Tryd.prog.cellsOf f2.type)) = some y2 ∧ DataW.trod enc Tryd.prog W 0 (fun _ => true) true n f3.type ((cs.drop f3.offset).take (Tryd.prog.cellsOf f3.type)) = some y3 ∧ DataW.trod enc Tryd.prog W 0 (fun _ => true) true n f4.type ((cs.drop f4.offset).take (Tryd.prog.cellsOf f4.type)) = some y4 := by
  obtain ⟨xs, n, _, rfl, hl, hlen, hf⟩ := DataW.trod_struct ht h
  match xs, hlen with
  | [y0, y1, y2, y3, y4], _ => exact ⟨y0, y1, y2, y3, y4, n, by simpa using hf 0 f0 rfl, by simpa using hf 1 f1 rfl, by simpa using hf 2 f2 rfl, by simpa using hf 3 f3 rfl, by simpa using hf 4 f4 rfl⟩
set_option maxRecDepth 100000 in
/-- An act among the arguments. -/
theorem openAct {H : Type} {enc : TypeId × Value → H} {W : World} {base : Nat} {v : Value} {d : DataW H} {ps : List MemPlace} (hok : Value.okWide Tryd.prog W .any base 52 v) (h : DataW.Trod enc Tryd.prog W 0 (fun _ => true) true 52 v d ps) :
    ∃ (a : Ac) (ak : Option Addr) (ck : Nat), v = .agg #[.int .i64 a.kd, .int .i64 a.x, .string a.s, .slice ak a.nk ck, .int .i64 a.t] ∧ CameA W a ak := by
  obtain ⟨cs, rfl, hsz⟩ := okWide_struct Tryd.underlying52 hok
  obtain ⟨fuel, hf⟩ := h
  obtain ⟨y0, y1, y2, y3, y4, n, h0, h1, h2, h3, h4⟩ := trod_struct5 Tryd.underlying52 hf
  have hc5 : Tryd.prog.cellsOf 52 = 5 := by kernel_rfl
  have hcB : Tryd.prog.cellsOf 36 = 1 := by kernel_rfl
  have hcS : Tryd.prog.cellsOf 9 = 1 := cStr
  have hcI : Tryd.prog.cellsOf 3 = 1 := cInt
  rw [hc5] at hsz
  obtain ⟨l⟩ := cs
  match l, hsz with
  | [c0, c1, c2, c3, c4], _ =>
    simp only [Value.cells, hcS, hcI, hcB, List.drop_zero, List.take_succ_cons, List.take_zero, List.drop_succ_cons] at h0 h1 h2 h3 h4
    obtain ⟨x0, e0, _⟩ := DataW.trod_int Tryd.underlying3 h0
    obtain ⟨x1, e1, _⟩ := DataW.trod_int Tryd.underlying3 h1
    obtain ⟨s, e2, _, hz⟩ := DataW.trod_string Tryd.underlying9 h2
    obtain ⟨ak, nk, ck, K, e3, hb, hn⟩ := bools_came h3
    obtain ⟨x4, e4, _⟩ := DataW.trod_int Tryd.underlying3 h4
    obtain rfl := (List.cons.inj e0).1
    obtain rfl := (List.cons.inj e1).1
    obtain rfl := (List.cons.inj e2).1
    obtain rfl := (List.cons.inj e4).1
    subst e3
    exact ⟨⟨x0, x1, s, nk, K, x4⟩, ak, ck, rfl, hb, hn, hz⟩
end Go.Proofs.YtbecnaabmlkjjaaDoor
