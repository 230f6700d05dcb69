/-
  Texts of the proof, joined: OpenDisk, HashTab, TabErr, ErrIs, MarkD, KeepD, SzX.
-/
import Derived.Test.YtbecnaabmlkjjabGreatDoorQ04
import Derived.ProofKit
import Derived.LaidMore
import Derived.OpenShut
import Derived.ShutString
import Derived.ChangeOld
import Derived.Below
import Derived.Carry
import Derived.OpenVars
import Derived.Stop.Joined
import Derived.Stop.LaidTwo
import Derived.SevenTiedAt
import Derived.SliceStrings
import Derived.Deep.SlicePairs
import Derived.Deep.Strs
import Derived.Test.YtbecnaabmlkjjabGreatDoorQ12
import Derived.LaidEql
import Derived.Stop.Asserts
import Derived.RowKitTokens
import Derived.Deep.RegionWith
namespace Go.Proofs.YtbecnaabmlkjjabGreatDoor
open Go.ChangeShapes Go.WideShapes Go.ChangeAt Go.RowKit
structure CameD (W : World) (k : Dk) (a0 a1 a2 : Option Addr) : Prop where
  v : DiskV W k a0 a1 a2
  l0 : k.nb ≤ maxLen
  l1 : k.nc ≤ maxLen
  l2 : k.ns ≤ maxLen
  m0 : ∀ i, i < k.nb → (k.B i).size ≤ maxLen
  m1 : ∀ i, i < k.nc → (k.D i).size ≤ maxLen
  m2 : ∀ i, i < k.ns → (k.S i).size ≤ maxLen
theorem cStr : Tryz.prog.cellsOf 9 = 1 := by kernel_rfl
theorem strs_came {H : Type} {enc : TypeId × Value → H} {W : World} {fuel : Nat} {x : Value} {y : DataW H × List MemPlace} (h : DataW.trod enc Tryz.prog W 0 (fun _ => true) true fuel 22 [x] = some y) :
    ∃ (a : Option Addr) (n c : Nat) (f : Nat → ByteArray), x = .slice a n c ∧ Strs W a n f ∧ n ≤ maxLen ∧ ∀ i, i < n → (f i).size ≤ maxLen := by
  rcases open_strings Tryz.underlying22 Tryz.underlying9 cStr h with ⟨hcs, _⟩ | ⟨a, len, cap, ss, hcs, _, hl, hm, hz, _, hcell, hsz⟩
  · cases hcs
    exact ⟨none, 0, 0, fun _ => ⟨#[]⟩, rfl, fun i hi => absurd hi (by omega), Nat.zero_le _, fun i hi => absurd hi (by omega)⟩
  · cases hcs
    have hz' : ss.length = cap := by simpa using hz
    refine ⟨some a, len, cap, fun i => ss.getD i ByteArray.empty, rfl, fun i hi => ?_, Nat.le_trans hl hm, fun i hi => ?_⟩
    · obtain ⟨b, off, spot⟩ := a
      have h0 := hcell i (by omega)
      have hspot : spot = none := by simpa [Addr.add] using World.cell?_spot (hcell 0 (by omega))
      subst hspot
      exact ⟨b, off, rfl, by rw [← Go.WideShapes.add_plain]; exact h0⟩
    · have hi' : i < ss.length := by omega
      have : ss.getD i ByteArray.empty = ss[i] := by simp [List.getD_eq_getElem?_getD, hi']
      show (ss.getD i ByteArray.empty).size ≤ maxLen
      rw [this]
      exact hsz _ (List.getElem_mem hi')
theorem pens_came {H : Type} {enc : TypeId × Value → H} {W : World} {fuel : Nat} {x : Value} {y : DataW H × List MemPlace} (h : DataW.trod enc Tryz.prog W 0 (fun _ => true) true fuel 23 [x] = some y) :
    ∃ (a : Option Addr) (n c : Nat) (A : Nat → Int) (D : Nat → ByteArray), x = .slice a n c ∧ Pens W a n A D ∧ n ≤ maxLen ∧ ∀ i, i < n → (D i).size ≤ maxLen := by
  rcases Deep.open_slice_pairs Tryz.underlying23 Tryz.underlying80 (by kernel_rfl) rfl rfl (by kernel_rfl) (by kernel_rfl) h with ⟨hcs, _⟩ | ⟨a, len, cap, m, n, V0, V1, D0, D1, P0, P1, hcs, _, hl, hm, hmm, _, hel⟩
  · cases hcs
    exact ⟨none, 0, 0, fun _ => 0, fun _ => ⟨#[]⟩, rfl, fun i hi => absurd hi (by omega), Nat.zero_le _, fun i hi => absurd hi (by omega)⟩
  · cases hcs
    have hmm' : m = cap := by simpa using hmm
    have each : ∀ i, i < len → ∃ (x : Int) (s : ByteArray), V0 i = .int .i64 x ∧ V1 i = .string s ∧ s.size ≤ maxLen := fun i hi => by
      obtain ⟨_, _, e3, e4⟩ := hel i (by omega)
      obtain ⟨x, hx, _⟩ := DataW.trod_int Tryz.underlying3 e3
      obtain ⟨s, hs, _, hz⟩ := DataW.trod_string Tryz.underlying9 e4
      exact ⟨x, s, (List.cons.inj hx).1, (List.cons.inj hs).1, hz⟩
    refine ⟨some a, len, cap, fun i => match V0 i with | .int _ x => x | _ => 0, fun i => match V1 i with | .string s => s | _ => ⟨#[]⟩, rfl, fun i hi => ?_, Nat.le_trans hl hm, fun i hi => ?_⟩
    · obtain ⟨x, s, hx, hs, _⟩ := each i hi
      obtain ⟨b, off, spot⟩ := a
      obtain ⟨c0, c1, _, _⟩ := hel i (by omega)
      have hspot : spot = none := by simpa [Addr.add] using World.cell?_spot (hel 0 (by omega)).1
      subst hspot
      rw [Go.WideShapes.add_plain] at c0 c1
      exact ⟨b, off, rfl, by rw [c0]; simp only [hx], by rw [Nat.add_assoc, c1]; simp only [hs]⟩
    · obtain ⟨x, s, hx, hs, hz⟩ := each i hi
      show (match V1 i with | .string s => s | _ => ⟨#[]⟩ : ByteArray).size ≤ maxLen
      rw [hs]
      exact hz
set_option maxRecDepth 100000 in
theorem openDisk {H : Type} {enc : TypeId × Value → H} {W : World} {base : Nat} {v : Value} {d : DataW H} {ps : List MemPlace} (hok : Value.okWide Tryz.prog W .any base 25 v) (h : DataW.Trod enc Tryz.prog W 0 (fun _ => true) true 25 v d ps) :
    ∃ (k : Dk) (a0 a1 a2 : Option Addr) (c0 c1 c2 : Nat), v = .agg #[.slice a0 k.nb c0, .slice a1 k.nc c1, .slice a2 k.ns c2] ∧ CameD W k a0 a1 a2 := by
  obtain ⟨cs, rfl, hsz⟩ := okWide_struct Tryz.underlying25 hok
  obtain ⟨fuel, hf⟩ := h
  obtain ⟨y0, y1, y2, n, _, hl, h0, h1, h2⟩ := Deep.trod_struct3 Tryz.underlying25 hf
  have hc3 : Tryz.prog.cellsOf 25 = 3 := by kernel_rfl
  have hcS : Tryz.prog.cellsOf 22 = 1 := by kernel_rfl
  have hcP : Tryz.prog.cellsOf 23 = 1 := by kernel_rfl
  rw [hc3] at hsz
  obtain ⟨l⟩ := cs
  match l, hsz with
  | [x, y, z], _ =>
    simp only [Value.cells, hcS, hcP, List.drop_zero, List.take_succ_cons, List.take_zero, List.drop_succ_cons] at h0 h1 h2
    obtain ⟨a0, n0, c0, f0, rfl, s0, l0, m0⟩ := strs_came h0
    obtain ⟨a1, n1, c1, A, D, rfl, s1, l1, m1⟩ := pens_came h1
    obtain ⟨a2, n2, c2, f2, rfl, s2, l2, m2⟩ := strs_came h2
    exact ⟨⟨n0, f0, n1, A, D, n2, f2⟩, a0, a1, a2, c0, c1, c2, rfl, ⟨s0, s1, s2⟩, l0, l1, l2, m0, m1, m2⟩
theorem errRow (u : TypeId) (h : Tryz.prog.typeName? 3 u = some "*errors.errorString") : u = 200 :=
  typeName_ptr_named (nm := "errors.errorString") (by rw [show "*" ++ "errors.errorString" = "*errors.errorString" from by decide]; kernel_rfl) (by kernel_rfl) (by decide) u (by rw [show "*" ++ "errors.errorString" = "*errors.errorString" from by decide]; exact h)
end Go.Proofs.YtbecnaabmlkjjabGreatDoor
namespace Go.Proofs.YtbecnaabmlkjjabGreatDoor
open Go.ChangeShapes Go.WideShapes Go.ChangeAt Go.RowKit
theorem gFirst : Tryz.prog.globalNamed "loop.example/g00257/impl.firstDigest" = some 5 := by kernel_rfl
theorem gRound : Tryz.prog.globalNamed "loop.example/g00257/impl.roundWords" = some 6 := by kernel_rfl
theorem tFirst : (Tryz.prog.globals[5]?).map (·.type) = some 173 := by kernel_rfl
theorem tRound : (Tryz.prog.globals[6]?).map (·.type) = some 185 := by kernel_rfl
theorem cW32 : Tryz.prog.cellsOf 103 = 1 := by kernel_rfl
theorem laid_first : (Rows.laid_loop_example_g00257_impl_firstDigest : DataW Unit) = .agg (Sha.hL.map fun n => .lit (.int .u32 (n : Nat))) := rfl
theorem laid_round : (Rows.laid_loop_example_g00257_impl_roundWords : DataW Unit) = .agg (Sha.kL.map fun n => .lit (.int .u32 (n : Nat))) := rfl
theorem words_of_trod {W : World} {n f : Nat} {t : TypeId} {L : List Nat} {cs : Array Value} {p : List MemPlace} (hu : Tryz.prog.underlying t = some (.array n 103))
    (hd : DataW.trod (fun _ => ()) Tryz.prog W 0 (fun _ => true) false f t cs.toList = some (.agg (L.map fun n => .lit (.int .u32 (n : Nat))), p)) (i : Nat) (hi : i < n) : cs.toList[i]? = some (.int .u32 ((L.getD i 0 : Nat) : Int)) := by
  obtain ⟨xs, m1, rfl, hx1, hlen, hn3, hel⟩ := DataW.trod_array hu hd
  have h0 := hel i hi
  simp only [Prod.mk.injEq, DataW.agg.injEq] at hx1
  obtain ⟨b, hb⟩ : ∃ b, xs[i]? = some b := ⟨xs[i]'(by omega), List.getElem?_eq_getElem (by omega)⟩
  rw [hb, cW32] at h0
  obtain ⟨s, hcs, rfl, _⟩ := DataW.trod_int Tryz.underlying103 h0
  have h2 : cs.toList[i]? = some (.int .u32 s) := by
    have := congrArg (·[0]?) hcs
    simpa [List.getElem?_take, List.getElem?_drop] using this
  have h3 : (xs.map (·.1))[i]? = some (DataW.lit (.int .u32 s)) := by simp [hb]
  rw [← hx1.1] at h3
  simp only [List.getElem?_map, Option.map_eq_some_iff, DataW.lit.injEq, Lit.int.injEq, true_and] at h3
  obtain ⟨s', hs', e⟩ := h3
  rw [h2, List.getD_eq_getElem?_getD, hs', Option.getD_some, e]
end Go.Proofs.YtbecnaabmlkjjabGreatDoor
namespace Go.Proofs.YtbecnaabmlkjjabGreatDoor
open Go.ChangeShapes Go.WideShapes Go.ChangeAt Go.RowKit
def laidET4 : List (String × DataW Unit) := [("loop.example/g00257/impl.firstDigest", Rows.laid_loop_example_g00257_impl_firstDigest), ("loop.example/g00257/impl.roundWords", Rows.laid_loop_example_g00257_impl_roundWords), ("loop.example/g00257/impl.errNoBlock", Rows.laid_loop_example_g00257_impl_errNoBlock), ("loop.example/g00257/impl.errLongBlock", Rows.laid_loop_example_g00257_impl_errLongBlock)]
theorem doorET4 (os : Os) (args : Array Value) : laidMetH Tryz.prog laidET4 ((World.doorLaid Tryz.prog 400 os).forCall (fun _ _ => 0) ⟨#[], args, []⟩).memory :=
  laidMetH_of_parts3 (fuel := 8) (laidMet_of_run' 8 (by kernel_rfl) (by kernel_rfl)) (by kernel_rfl) (by kernel_rfl)
set_option maxRecDepth 100000 in
theorem errsT4_of_laid {W : World} (h : laidMetH Tryz.prog laidET4 W) : Tabs W ∧ ∃ p0 p1 : Addr, ErrAt W 3 p0 ∧ ErrAt W 4 p1 := by
  rw [MakeChecks.laidMetH_plain _ _ _ (by kernel_rfl)] at h
  obtain ⟨ps, ⟨g0, t0, cs0, f0, p0, q0, hg0, ht0, hv0, hd0, ⟨g1, t1, cs1, f1, p1, q1, hg1, ht1, hv1, hd1, ⟨g2, t2, cs2, f2, p2, q2, hg2, ht2, hv2, hd2, ⟨g3, t3, cs3, f3, p3, q3, hg3, ht3, hv3, hd3, hq3, e3⟩, e2⟩, e1⟩, e0⟩, hnd, hrows⟩ := h
  obtain rfl := Option.some.inj (gFirst.symm.trans hg0)
  obtain rfl := Option.some.inj (tFirst.symm.trans ht0)
  obtain rfl := Option.some.inj (gRound.symm.trans hg1)
  obtain rfl := Option.some.inj (tRound.symm.trans ht1)
  obtain rfl := Option.some.inj ((show Tryz.prog.globalNamed "loop.example/g00257/impl.errNoBlock" = some 3 by kernel_rfl).symm.trans hg2)
  obtain rfl := Option.some.inj ((show (Tryz.prog.globals[3]?).map (·.type) = some 73 by kernel_rfl).symm.trans ht2)
  obtain rfl := Option.some.inj ((show Tryz.prog.globalNamed "loop.example/g00257/impl.errLongBlock" = some 4 by kernel_rfl).symm.trans hg3)
  obtain rfl := Option.some.inj ((show (Tryz.prog.globals[4]?).map (·.type) = some 73 by kernel_rfl).symm.trans ht3)
  refine ⟨?_, ?_⟩
  · rw [laid_first] at hd0
    rw [laid_round] at hd1
    refine ⟨fun i hi => ?_, fun i hi => ?_⟩
    · have := words_of_trod Tryz.underlying173 hd0 i hi
      rw [World.var?_cell hg0 hv0 i]
      simpa [Sha.h0] using this
    · have := words_of_trod Tryz.underlying185 hd1 i hi
      rw [World.var?_cell hg1 hv1 i]
      simpa [Sha.kc] using this
  · have hq3' : q3 = [] := hq3
    subst hq3'
    subst e3
    subst e2
    subst e1
    subst e0
    obtain ⟨l2⟩ := cs2
    obtain ⟨l3⟩ := cs3
    have ok2 : ∀ u v, l2 = [.iface u v] → Value.okWide Tryz.prog W .any 0 u v := fun u v e => by
      subst e
      exact (hrows 3 0 (by simp [MemPlace.row])).2 u v (by simpa using World.var?_cell hg2 hv2 0)
    have ok3 : ∀ u v, l3 = [.iface u v] → Value.okWide Tryz.prog W .any 0 u v := fun u v e => by
      subst e
      exact (hrows 4 0 (by simp [MemPlace.row])).2 u v (by simpa using World.var?_cell hg3 hv3 0)
    obtain ⟨a2, s2, rfl, hc2, hs2, hz2, rfl⟩ := errorString_of_trod Tryz.underlying73 errRow Tryz.underlying200 Tryz.underlying216 rfl rfl Tryz.underlying9 (by kernel_rfl) (by kernel_rfl) hd2 ok2
    obtain ⟨a3, s3, rfl, hc3, hs3, hz3, rfl⟩ := errorString_of_trod Tryz.underlying73 errRow Tryz.underlying200 Tryz.underlying216 rfl rfl Tryz.underlying9 (by kernel_rfl) (by kernel_rfl) hd3 ok3
    exact ⟨a2, a3, by simpa [ErrAt] using World.var?_cell hg2 hv2 0, by simpa [ErrAt] using World.var?_cell hg3 hv3 0⟩
theorem varsT4_named {H : Type} {enc : TypeId × Value → H} {w : World} {spare : Nat → Bool} {gs : List (DataW H)} {ps : List MemPlace} {n0 n1 n2 n3 : String} (h : DataW.TrodVars enc Tryz.prog w spare [n0, n1, n2, n3] gs ps) : ∃ d0 d1 d2 d3, gs = [d0, d1, d2, d3] := by
  match gs, h with
  | [d0, d1, d2, d3], _ => exact ⟨d0, d1, d2, d3, rfl⟩
end Go.Proofs.YtbecnaabmlkjjabGreatDoor
namespace Go.Proofs.YtbecnaabmlkjjabGreatDoor
open Go.ChangeShapes Go.WideShapes Go.ChangeAt Go.RowKit Go.Extern.Stop Go.Stop Go.Extern
end Go.Proofs.YtbecnaabmlkjjabGreatDoor
namespace Go.Proofs.YtbecnaabmlkjjabGreatDoor
open Go.ChangeShapes Go.WideShapes Go.ChangeAt Go.RowKit
structure RowS (w : World) (a : Option Addr) (g n : Nat) (f : Nat → ByteArray) : Prop where
  a : 0 < n → a = some ⟨g, 0, none⟩
  c : ∀ i, i < n → w.cell? ⟨g, i, none⟩ = some (.string (f i))
  z : ∀ i, i < n → w.frozen? ⟨g, i, none⟩ = false
structure RowP (w : World) (a : Option Addr) (g n : Nat) (A : Nat → Int) (D : Nat → ByteArray) : Prop where
  a : 0 < n → a = some ⟨g, 0, none⟩
  c : ∀ i, i < n → w.cell? ⟨g, i * 2, none⟩ = some (.int .i64 (A i))
  d : ∀ i, i < n → w.cell? ⟨g, i * 2 + 1, none⟩ = some (.string (D i))
  z : ∀ i, i < n * 2 → w.frozen? ⟨g, i, none⟩ = false
theorem cellOf {w w' : World} {g i : Nat} (e : w'.heap[g]? = w.heap[g]?) : w'.cell? ⟨g, i, none⟩ = w.cell? ⟨g, i, none⟩ := by simp [World.cell?, e]
theorem frozenOf {w w' : World} {g i : Nat} (e : w'.heap[g]? = w.heap[g]?) : w'.frozen? ⟨g, i, none⟩ = w.frozen? ⟨g, i, none⟩ := by simp [World.frozen?, e]
theorem RowS.ofBlock {w w' : World} {a : Option Addr} {g n : Nat} {f : Nat → ByteArray} (h : RowS w a g n f) (e : 0 < n → w'.heap[g]? = w.heap[g]?) : RowS w' a g n f :=
  ⟨h.a, fun i hi => by rw [cellOf (e (by omega))]; exact h.c i hi, fun i hi => by rw [frozenOf (e (by omega))]; exact h.z i hi⟩
theorem RowS.lt {w : World} {a : Option Addr} {g n : Nat} {f : Nat → ByteArray} (h : RowS w a g n f) (hn : 0 < n) : g < w.heap.size := strBlock (h.c 0 hn)
theorem RowS.below {w w' : World} {a : Option Addr} {g n : Nat} {f : Nat → ByteArray} (h : RowS w a g n f) (hb : Below w.heap.size w w') : RowS w' a g n f := h.ofBlock (fun hn => hb.block g (h.lt hn))
theorem RowS.congr {w : World} {a : Option Addr} {g n : Nat} {f f' : Nat → ByteArray} (h : RowS w a g n f) (e : ∀ i, i < n → f i = f' i) : RowS w a g n f' := ⟨h.a, fun i hi => by rw [← e i hi]; exact h.c i hi, h.z⟩
theorem RowS.strs {w : World} {a : Option Addr} {g n : Nat} {f : Nat → ByteArray} (h : RowS w a g n f) : Strs w a n f := fun i hi => ⟨g, 0, h.a (by omega), by rw [Nat.zero_add]; exact h.c i hi⟩
theorem RowS.ofRow {w : World} {g m n : Nat} {t : TypeId} {f : Nat → ByteArray} {F : Nat → Value} (h : w.rowIs g t m F) (hn : n ≤ m) (e : ∀ i, i < n → F i = .string (f i)) : RowS w (some ⟨g, 0, none⟩) g n f := ⟨fun _ => rfl, fun i hi => by rw [h.cell (by omega), e i hi], fun i _ => h.frozen i⟩
theorem RowS.set {w : World} {a : Option Addr} {g n : Nat} {f : Nat → ByteArray} (h : RowS w a g n f) (k : Nat) (s : ByteArray) : RowS (w.setCell ⟨g, k, none⟩ (.string s)) a g n (fun i => if i = k then s else f i) :=
  ⟨h.a, fun i hi => by
    by_cases e : i = k
    · subst e
      rw [if_pos rfl]
      exact World.cell?_setCell_same _ _ _ (h.c i hi)
    · rw [if_neg e]
      exact (World.cell?_setCell_other _ ⟨g, k, none⟩ ⟨g, i, none⟩ _ (fun q => e (congrArg Addr.off q).symm)).trans (h.c i hi), fun i hi => by rw [World.frozen?_setCell]; exact h.z i hi⟩
theorem RowP.ofBlock {w w' : World} {a : Option Addr} {g n : Nat} {A : Nat → Int} {D : Nat → ByteArray} (h : RowP w a g n A D) (e : 0 < n → w'.heap[g]? = w.heap[g]?) : RowP w' a g n A D :=
  ⟨h.a, fun i hi => by rw [cellOf (e (by omega))]; exact h.c i hi, fun i hi => by rw [cellOf (e (by omega))]; exact h.d i hi, fun i hi => by rw [frozenOf (e (by omega))]; exact h.z i hi⟩
theorem RowP.lt {w : World} {a : Option Addr} {g n : Nat} {A : Nat → Int} {D : Nat → ByteArray} (h : RowP w a g n A D) (hn : 0 < n) : g < w.heap.size := strBlock (h.c 0 hn)
theorem RowP.below {w w' : World} {a : Option Addr} {g n : Nat} {A : Nat → Int} {D : Nat → ByteArray} (h : RowP w a g n A D) (hb : Below w.heap.size w w') : RowP w' a g n A D := h.ofBlock (fun hn => hb.block g (h.lt hn))
theorem RowP.congr {w : World} {a : Option Addr} {g n : Nat} {A A' : Nat → Int} {D D' : Nat → ByteArray} (h : RowP w a g n A D) (e : ∀ i, i < n → A i = A' i ∧ D i = D' i) : RowP w a g n A' D' := ⟨h.a, fun i hi => by rw [← (e i hi).1]; exact h.c i hi, fun i hi => by rw [← (e i hi).2]; exact h.d i hi, h.z⟩
theorem RowP.pens {w : World} {a : Option Addr} {g n : Nat} {A : Nat → Int} {D : Nat → ByteArray} (h : RowP w a g n A D) : Pens w a n A D := fun i hi => ⟨g, 0, h.a (by omega), by rw [Nat.zero_add]; exact h.c i hi, by rw [Nat.zero_add]; exact h.d i hi⟩
structure RowD (w : World) (d : Dk) (a0 a1 a2 : Option Addr) (g0 g1 g2 : Nat) : Prop where
  s0 : RowS w a0 g0 d.nb d.B
  s1 : RowP w a1 g1 d.nc d.A d.D
  s2 : RowS w a2 g2 d.ns d.S
  n01 : 0 < d.nb → 0 < d.nc → g0 ≠ g1
  n02 : 0 < d.nb → 0 < d.ns → g0 ≠ g2
  n12 : 0 < d.nc → 0 < d.ns → g1 ≠ g2
theorem RowD.diskV {w : World} {d : Dk} {a0 a1 a2 : Option Addr} {g0 g1 g2 : Nat} (h : RowD w d a0 a1 a2 g0 g1 g2) : DiskV w d a0 a1 a2 := ⟨h.s0.strs, h.s1.pens, h.s2.strs⟩
theorem RowD.below {w w' : World} {d : Dk} {a0 a1 a2 : Option Addr} {g0 g1 g2 : Nat} (h : RowD w d a0 a1 a2 g0 g1 g2) (hb : Below w.heap.size w w') : RowD w' d a0 a1 a2 g0 g1 g2 := ⟨h.s0.below hb, h.s1.below hb, h.s2.below hb, h.n01, h.n02, h.n12⟩
def Turned (g n : Nat) (w w' : World) : Prop := OnlyB g w w' ∧ (n = 0 → Below w.heap.size w w')
theorem Turned.block {g n b : Nat} {w w' : World} (h : Turned g n w w') (hb : b < w.heap.size) (hne : 0 < n → b ≠ g) : w'.heap[b]? = w.heap[b]? := by
  rcases Nat.eq_zero_or_pos n with z | z
  · exact (h.2 z).block b hb
  · exact h.1.block b hb (hne z)
theorem Turned.toBelow {g n B : Nat} {w w' : World} (h : Turned g n w w') (hB : 0 < n → B ≤ g) (hw : B ≤ w.heap.size) : Below B w w' := by
  rcases Nat.eq_zero_or_pos n with z | z
  · exact (h.2 z).mono hw
  · exact h.1.toBelow (hB z) hw
theorem RowS.turned {w w' : World} {a : Option Addr} {g n b m : Nat} {f : Nat → ByteArray} (h : RowS w a g n f) (ho : Turned b m w w') (hne : 0 < n → 0 < m → g ≠ b) : RowS w' a g n f := h.ofBlock (fun hn => ho.block (h.lt hn) (hne hn))
theorem RowP.turned {w w' : World} {a : Option Addr} {g n b m : Nat} {A : Nat → Int} {D : Nat → ByteArray} (h : RowP w a g n A D) (ho : Turned b m w w') (hne : 0 < n → 0 < m → g ≠ b) : RowP w' a g n A D := h.ofBlock (fun hn => ho.block (h.lt hn) (hne hn))
theorem Box3.turned {w w' : World} {b g n : Nat} {t : TypeId} {x y z : Value} (h : Box3 w b t x y z) (ho : Turned g n w w') (hne : 0 < n → b ≠ g) : Box3 w' b t x y z := h.ofBlock (ho.block h.lt hne)
def markK (d : Dk) (k : Nat) : Dk := ⟨d.nb, fun i => mt (k + i), d.nc, fun i => ((k + d.nb + 2 * i : Nat) : Int), fun i => mt (k + d.nb + 2 * i + 1), d.ns, fun i => mt (k + d.nb + 2 * d.nc + i)⟩
set_option maxRecDepth 100000 in
set_option maxHeartbeats 1000000 in
theorem markStrK (a : Option Addr) (g n c k : Nat) (f : Nat → ByteArray) (hk : 1 ≤ k) (hn : k + n ≤ 10000000) (w : World) (h : RowS w a g n f) :
    Calls Tryz.prog 35 #[.slice a n c, .int .i64 (k : Int)] w fun e w' => e = .returned (.int .i64 ((k + n : Nat) : Int)) ∧ RowS w' a g n (fun i => mt (k + i)) ∧ Turned g n w w' := by
  have H : Hid (RowS w a g n f) := h
  clear h
  go_enter Tryz.func35, Tryz.ntmps35
  go_wp2
  go_loopw [1, 5] (fun kv i wr => ∃ q : Nat, q ≤ n ∧ i = .int .i64 q ∧ kv = .int .i64 ((k + q : Nat) : Int) ∧ RowS wr a g n (fun i => if i < q then mt (k + i) else f i) ∧ Turned g n w wr) (fun _ i _ => n - (intOf i).toNat)
  case atStart => exact ⟨0, by omega, rfl, rfl, H.out.congr (fun j hj => by rw [if_neg (by omega)]), OnlyB.refl _ _, fun _ => Below.refl _ _⟩
  case round =>
    obtain ⟨q, hq, rfl, rfl, hrow, ho⟩ := hrel
    by_cases hlt : q < n
    · have MT : Hid (∀ w : World, Calls Tryz.prog 37 #[.int .i64 ((k + q : Nat) : Int)] w fun e w' => e = .returned (.string (mt (k + q))) ∧ Below w.heap.size w w') := markText_any (k + q) (by omega) (by omega)
      have HRW : Hid (RowS wr a g n (fun i => if i < q then mt (k + i) else f i)) := hrow
      have HO : Hid (OnlyB g w wr) := ho.1
      have hlt' : (q : Int) < (n : Int) := by omega
      obtain rfl := hrow.a (by omega)
      clear hrow ho
      go_wp2_with fail
      refine (MT.out _).mono ?_
      rintro e w1 ⟨rfl, hb⟩
      have hrow := HRW.out.below hb
      have g1 := hrow.c q hlt
      rw [if_neg (by omega)] at g1
      have f1 := hrow.z q hlt
      have HR1 : Hid (RowS w1 (some ⟨g, 0, none⟩) g n (fun i => if i < q then mt (k + i) else f i)) := hrow
      have HO1 : Hid (OnlyB g w w1) := HO.out.below hb
      clear hrow hb HRW HO MT
      go_wp2
      go_roundw
      case rel =>
        refine ⟨q + 1, by omega, by go_num, by go_num, ?_, HO1.out.setCell _ _, fun z => absurd z (by omega)⟩
        exact (HR1.out.set q _).congr (fun j hj => by
          by_cases e : j = q
          · subst e; rw [if_pos rfl, if_pos (by omega)]
          · rw [if_neg e]
            by_cases h1 : j < q
            · rw [if_pos h1, if_pos (by omega)]
            · rw [if_neg h1, if_neg (by omega)])
      case measure => simp [intOf]; omega
    · obtain rfl : q = n := by omega
      have HF : Hid (RowS wr a g q (fun i => mt (k + i))) := hrow.congr (fun j hj => by rw [if_pos hj])
      have HO : Hid (Turned g q w wr) := ho
      clear hrow ho
      go_wp2
      go_ret
      exact ⟨rfl, HF.out, HO.out⟩
set_option maxRecDepth 100000 in
set_option maxHeartbeats 1000000 in
theorem markPenK (a : Option Addr) (g n c k : Nat) (A : Nat → Int) (D : Nat → ByteArray) (hk : 1 ≤ k) (hn : k + 2 * n ≤ 10000000) (w : World) (h : RowP w a g n A D) :
    Calls Tryz.prog 36 #[.slice a n c, .int .i64 (k : Int)] w fun e w' => e = .returned (.int .i64 ((k + 2 * n : Nat) : Int)) ∧ RowP w' a g n (fun i => ((k + 2 * i : Nat) : Int)) (fun i => mt (k + 2 * i + 1)) ∧ Turned g n w w' := by
  have H : Hid (RowP w a g n A D) := h
  clear h
  go_enter Tryz.func36, Tryz.ntmps36
  go_wp2
  go_loopw [1, 5] (fun kv i wr => ∃ q : Nat, q ≤ n ∧ i = .int .i64 q ∧ kv = .int .i64 ((k + 2 * q : Nat) : Int) ∧ RowP wr a g n (fun i => if i < q then ((k + 2 * i : Nat) : Int) else A i) (fun i => if i < q then mt (k + 2 * i + 1) else D i) ∧ Turned g n w wr) (fun _ i _ => n - (intOf i).toNat)
  case atStart => exact ⟨0, by omega, rfl, rfl, H.out.congr (fun j hj => by rw [if_neg (by omega), if_neg (by omega)]; exact ⟨rfl, rfl⟩), OnlyB.refl _ _, fun _ => Below.refl _ _⟩
  case round =>
    obtain ⟨q, hq, rfl, rfl, hrow, ho⟩ := hrel
    by_cases hlt : q < n
    · obtain ⟨m, hm⟩ : ∃ m, m = k + 2 * q := ⟨_, rfl⟩
      have MT : Hid (∀ w : World, Calls Tryz.prog 37 #[.int .i64 ((m : Int) + 1)] w fun e w' => e = .returned (.string (mt (m + 1))) ∧ Below w.heap.size w w') := fun w => by
        have := markText_any (m + 1) (by omega) (by omega) w
        rwa [show ((m + 1 : Nat) : Int) = (m : Int) + 1 from by omega] at this
      rw [← hm]
      have hlt' : (q : Int) < (n : Int) := by omega
      obtain rfl := hrow.a (by omega)
      have c1 := hrow.c q hlt
      have d1 := hrow.d q hlt
      rw [if_neg (by omega)] at c1 d1
      have f0 := hrow.z (q * 2) (by omega)
      have f1 := hrow.z (q * 2 + 1) (by omega)
      have HRW : Hid (RowP wr (some ⟨g, 0, none⟩) g n (fun i => if i < q then ((k + 2 * i : Nat) : Int) else A i) (fun i => if i < q then mt (k + 2 * i + 1) else D i)) := hrow
      have HO : Hid (OnlyB g w wr) := ho.1
      have HM : Hid (m = k + 2 * q) := hm
      have m1 : (m : Int) ≤ 10000000 := by omega
      have m0 : (0 : Int) ≤ (m : Int) := by omega
      clear hrow ho hm
      go_wp2_with fail
      have c2 : (wr.setCell ⟨g, q * 2, none⟩ (.int .i64 (m : Int))).cell? ⟨g, q * 2 + 1, none⟩ = some (.string (D q)) := (World.cell?_setCell_other _ ⟨g, q * 2, none⟩ ⟨g, q * 2 + 1, none⟩ _ (fun q => by have := congrArg Addr.off q; simp at this)).trans d1
      have f2 : (wr.setCell ⟨g, q * 2, none⟩ (.int .i64 (m : Int))).frozen? ⟨g, q * 2 + 1, none⟩ = false := by rw [World.frozen?_setCell]; exact f1
      have SZ : (wr.setCell ⟨g, q * 2, none⟩ (.int .i64 (m : Int))).heap.size = wr.heap.size := by simp
      refine (MT.out _).mono ?_
      rintro e w1 ⟨rfl, hb⟩
      have c3 : w1.cell? ⟨g, q * 2 + 1, none⟩ = some (.string (D q)) := (hb.cell (strBlock c2)).trans c2
      have f3 : w1.frozen? ⟨g, q * 2 + 1, none⟩ = false := (hb.frozen (p := ⟨g, q * 2 + 1, none⟩) (strBlock c2)).trans f2
      have HO1 : Hid (OnlyB g w w1) := (HO.out.setCell (q * 2) (.int .i64 (m : Int))).below hb
      have HR1 : Hid (RowP (w1.setCell ⟨g, q * 2 + 1, none⟩ (.string (mt (m + 1)))) (some ⟨g, 0, none⟩) g n (fun i => if i < q + 1 then ((k + 2 * i : Nat) : Int) else A i) (fun i => if i < q + 1 then mt (k + 2 * i + 1) else D i)) := by
        have h1 : RowP w1 (some ⟨g, 0, none⟩) g n (fun i => if i = q then (m : Int) else (if i < q then ((k + 2 * i : Nat) : Int) else A i)) (fun i => if i < q then mt (k + 2 * i + 1) else D i) := by
          have h0 := HRW.out
          refine RowP.below (w := wr.setCell ⟨g, q * 2, none⟩ (.int .i64 (m : Int))) ⟨h0.a, fun i hi => ?_, fun i hi => ?_, fun i hi => by rw [World.frozen?_setCell]; exact h0.z i hi⟩ hb
          · by_cases e : i = q
            · subst e
              rw [if_pos rfl]
              exact World.cell?_setCell_same _ _ _ (h0.c i hi)
            · rw [if_neg e]
              exact (World.cell?_setCell_other _ ⟨g, q * 2, none⟩ ⟨g, i * 2, none⟩ _ (fun q => by have := congrArg Addr.off q; simp at this; omega)).trans (h0.c i hi)
          · exact (World.cell?_setCell_other _ ⟨g, q * 2, none⟩ ⟨g, i * 2 + 1, none⟩ _ (fun q => by have := congrArg Addr.off q; simp at this; omega)).trans (h0.d i hi)
        refine ⟨h1.a, fun i hi => ?_, fun i hi => ?_, fun i hi => by rw [World.frozen?_setCell]; exact h1.z i hi⟩
        · refine (World.cell?_setCell_other _ ⟨g, q * 2 + 1, none⟩ ⟨g, i * 2, none⟩ _ (fun q => by have := congrArg Addr.off q; simp at this; omega)).trans ((h1.c i hi).trans ?_)
          have := HM.out
          by_cases e : i = q
          · subst e; rw [if_pos rfl, if_pos (by omega), this]
          · rw [if_neg e]
            by_cases l : i < q
            · rw [if_pos l, if_pos (by omega)]
            · rw [if_neg l, if_neg (by omega)]
        · by_cases e : i = q
          · subst e
            rw [if_pos (by omega)]
            have := World.cell?_setCell_same w1 ⟨g, i * 2 + 1, none⟩ (.string (mt (m + 1))) (h1.d i hi)
            rw [this, HM.out]
          · refine (World.cell?_setCell_other _ ⟨g, q * 2 + 1, none⟩ ⟨g, i * 2 + 1, none⟩ _ (fun q => by have := congrArg Addr.off q; simp at this; omega)).trans ((h1.d i hi).trans ?_)
            by_cases l : i < q
            · rw [if_pos l, if_pos (by omega)]
            · rw [if_neg l, if_neg (by omega)]
      have HO2 : Hid (OnlyB g w (w1.setCell ⟨g, q * 2 + 1, none⟩ (.string (mt (m + 1))))) := HO1.out.setCell _ _
      generalize mt (m + 1) = V at *
      clear hb c1 d1 c2 f0 f1 f2 SZ HRW HO HO1 MT
      go_wp2
      go_roundw
      case rel =>
        have := HM.out
        refine ⟨q + 1, by omega, by go_num, numEqS (by omega), HR1.out, HO2.out, fun z => absurd z (by omega)⟩
      case measure => simp [intOf]; omega
    · obtain rfl : q = n := by omega
      have HF : Hid (RowP wr a g q (fun i => ((k + 2 * i : Nat) : Int)) (fun i => mt (k + 2 * i + 1))) := hrow.congr (fun j hj => by rw [if_pos hj, if_pos hj]; exact ⟨rfl, rfl⟩)
      have HO : Hid (Turned g q w wr) := ho
      clear hrow ho
      go_wp2
      go_ret
      exact ⟨rfl, HF.out, HO.out⟩
def KeepG (w w' : World) (d : Dk) (g0 g1 g2 : Nat) : Prop := ∀ b, b < w.heap.size → (0 < d.nb → b ≠ g0) → (0 < d.nc → b ≠ g1) → (0 < d.ns → b ≠ g2) → w'.heap[b]? = w.heap[b]?
set_option maxRecDepth 100000 in
set_option maxHeartbeats 2000000 in
theorem markDisk_any (B : Nat) (d : Dk) (a0 a1 a2 : Option Addr) (c0 c1 c2 g0 g1 g2 k : Nat) (hk : 1 ≤ k) (hn : k + d.nb + 2 * d.nc + d.ns ≤ 10000000) (hB : (0 < d.nb → B ≤ g0) ∧ (0 < d.nc → B ≤ g1) ∧ (0 < d.ns → B ≤ g2)) (w : World) (hw : B ≤ w.heap.size) (h : RowD w d a0 a1 a2 g0 g1 g2) :
    Calls Tryz.prog 15 #[.agg #[.slice a0 d.nb c0, .slice a1 d.nc c1, .slice a2 d.ns c2], .int .i64 (k : Int)] w fun e w' => e = .returned (.int .i64 ((k + d.nb + 2 * d.nc + d.ns : Nat) : Int)) ∧ RowD w' (markK d k) a0 a1 a2 g0 g1 g2 ∧ KeepG w w' d g0 g1 g2 ∧ Below B w w' := by
  have HBB : Hid ((0 < d.nb → B ≤ g0) ∧ (0 < d.nc → B ≤ g1) ∧ (0 < d.ns → B ≤ g2)) := hB
  have S0 : Hid (∀ w : World, RowS w a0 g0 d.nb d.B → Calls Tryz.prog 35 #[.slice a0 d.nb c0, .int .i64 (k : Int)] w fun e w' => e = .returned (.int .i64 ((k + d.nb : Nat) : Int)) ∧ RowS w' a0 g0 d.nb (fun i => mt (k + i)) ∧ Turned g0 d.nb w w') := fun w h => markStrK a0 g0 d.nb c0 k d.B hk (by omega) w h
  have S1 : Hid (∀ w : World, RowP w a1 g1 d.nc d.A d.D → Calls Tryz.prog 36 #[.slice a1 d.nc c1, .int .i64 ((k + d.nb : Nat) : Int)] w fun e w' => e = .returned (.int .i64 ((k + d.nb + 2 * d.nc : Nat) : Int)) ∧ RowP w' a1 g1 d.nc (fun i => ((k + d.nb + 2 * i : Nat) : Int)) (fun i => mt (k + d.nb + 2 * i + 1)) ∧ Turned g1 d.nc w w') := fun w h => markPenK a1 g1 d.nc c1 (k + d.nb) d.A d.D (by omega) (by omega) w h
  have S2 : Hid (∀ w : World, RowS w a2 g2 d.ns d.S → Calls Tryz.prog 35 #[.slice a2 d.ns c2, .int .i64 ((k + d.nb + 2 * d.nc : Nat) : Int)] w fun e w' => e = .returned (.int .i64 ((k + d.nb + 2 * d.nc + d.ns : Nat) : Int)) ∧ RowS w' a2 g2 d.ns (fun i => mt (k + d.nb + 2 * d.nc + i)) ∧ Turned g2 d.ns w w') := fun w h => markStrK a2 g2 d.ns c2 (k + d.nb + 2 * d.nc) d.S (by omega) (by omega) w h
  have A1 : Hid (Below w.heap.size w (w.alloc (.cells #[.slice a0 d.nb c0, .slice a1 d.nc c1, .slice a2 d.ns c2] 33))) := (Below.refl w.heap.size w).alloc (Nat.le_refl _) _
  have RA : Hid (Box3 (w.alloc (.cells #[.slice a0 d.nb c0, .slice a1 d.nc c1, .slice a2 d.ns c2] 33)) w.heap.size 33 (.slice a0 d.nb c0) (.slice a1 d.nc c1) (.slice a2 d.ns c2)) := Box3.made w _ _ _ _
  have H0 := h.below A1.out
  have HN : Hid ((0 < d.nb → 0 < d.nc → g0 ≠ g1) ∧ (0 < d.nb → 0 < d.ns → g0 ≠ g2) ∧ (0 < d.nc → 0 < d.ns → g1 ≠ g2)) := ⟨h.n01, h.n02, h.n12⟩
  have hx0 : 0 < d.nb → g0 < w.heap.size := fun q => h.s0.lt q
  have hx1 : 0 < d.nc → g1 < w.heap.size := fun q => h.s1.lt q
  have hx2 : 0 < d.ns → g2 < w.heap.size := fun q => h.s2.lt q
  have HXX : Hid ((0 < d.nb → g0 < w.heap.size) ∧ (0 < d.nc → g1 < w.heap.size) ∧ (0 < d.ns → g2 < w.heap.size)) := ⟨hx0, hx1, hx2⟩
  have T0 : Hid (RowS (w.alloc (.cells #[.slice a0 d.nb c0, .slice a1 d.nc c1, .slice a2 d.ns c2] 33)) a0 g0 d.nb d.B) := H0.s0
  have T1 : Hid (RowP (w.alloc (.cells #[.slice a0 d.nb c0, .slice a1 d.nc c1, .slice a2 d.ns c2] 33)) a1 g1 d.nc d.A d.D) := H0.s1
  have T2 : Hid (RowS (w.alloc (.cells #[.slice a0 d.nb c0, .slice a1 d.nc c1, .slice a2 d.ns c2] 33)) a2 g2 d.ns d.S) := H0.s2
  have BB : Hid (Below B w (w.alloc (.cells #[.slice a0 d.nb c0, .slice a1 d.nc c1, .slice a2 d.ns c2] 33))) := A1.out.mono hw
  have SZ : w.heap.size ≤ (w.alloc (.cells #[.slice a0 d.nb c0, .slice a1 d.nc c1, .slice a2 d.ns c2] 33)).heap.size := A1.out.size
  have KG : Hid (KeepG w (w.alloc (.cells #[.slice a0 d.nb c0, .slice a1 d.nc c1, .slice a2 d.ns c2] 33)) d g0 g1 g2) := fun b hb _ _ _ => A1.out.block b hb
  clear h H0 A1 hx0 hx1 hx2 hB
  go_enter Tryz.func15, Tryz.ntmps15
  go_wp2_with fail
  generalize (w.alloc (.cells #[.slice a0 d.nb c0, .slice a1 d.nc c1, .slice a2 d.ns c2] 33)) = v at *
  refine (S0.out _ T0.out).mono ?_
  rintro e w1 ⟨rfl, hr, ho⟩
  have F0 : Hid (RowS w1 a0 g0 d.nb (fun i => mt (k + i))) := hr
  replace T1 : Hid (RowP w1 a1 g1 d.nc d.A d.D) := T1.out.turned ho (fun q z e => HN.out.1 z q e.symm)
  replace T2 : Hid (RowS w1 a2 g2 d.ns d.S) := T2.out.turned ho (fun q z e => HN.out.2.1 z q e.symm)
  replace RA : Hid (Box3 w1 w.heap.size 33 (.slice a0 d.nb c0) (.slice a1 d.nc c1) (.slice a2 d.ns c2)) := RA.out.turned ho (fun z e => by have := HXX.out.1 z; omega)
  replace KG : Hid (KeepG w w1 d g0 g1 g2) := fun b hb q0 q1 q2 => (ho.block (Nat.lt_of_lt_of_le hb SZ) q0).trans (KG.out b hb q0 q1 q2)
  replace BB : Hid (Below B w w1) := BB.out.trans (ho.toBelow HBB.out.1 (Nat.le_trans hw SZ))
  replace SZ : w.heap.size ≤ w1.heap.size := Nat.le_trans SZ ho.1.size
  have k1 := RA.out.c1
  clear hr ho S0 T0
  generalize hx : k + d.nb = K1 at *
  go_wp2_with fail
  refine (S1.out _ T1.out).mono ?_
  rintro e w2 ⟨rfl, hr, ho⟩
  have F1 : Hid (RowP w2 a1 g1 d.nc (fun i => ((K1 + 2 * i : Nat) : Int)) (fun i => mt (K1 + 2 * i + 1))) := hr
  replace F0 : Hid (RowS w2 a0 g0 d.nb (fun i => mt (k + i))) := F0.out.turned ho (fun q z e => HN.out.1 q z e)
  replace T2 : Hid (RowS w2 a2 g2 d.ns d.S) := T2.out.turned ho (fun q z e => HN.out.2.2 z q e.symm)
  replace RA : Hid (Box3 w2 w.heap.size 33 (.slice a0 d.nb c0) (.slice a1 d.nc c1) (.slice a2 d.ns c2)) := RA.out.turned ho (fun z e => by have := HXX.out.2.1 z; omega)
  replace KG : Hid (KeepG w w2 d g0 g1 g2) := fun b hb q0 q1 q2 => (ho.block (Nat.lt_of_lt_of_le hb SZ) q1).trans (KG.out b hb q0 q1 q2)
  replace BB : Hid (Below B w w2) := BB.out.trans (ho.toBelow HBB.out.2.1 (Nat.le_trans hw SZ))
  replace SZ : w.heap.size ≤ w2.heap.size := Nat.le_trans SZ ho.1.size
  have k2 := RA.out.c2
  clear hr ho S1 T1 k1
  generalize hy : K1 + 2 * d.nc = K2 at *
  go_wp2_with fail
  refine (S2.out _ T2.out).mono ?_
  rintro e w3 ⟨rfl, hr, ho⟩
  have F2 : RowS w3 a2 g2 d.ns (fun i => mt (K2 + i)) := hr
  have F1' := F1.out.turned ho (fun q z e => HN.out.2.2 q z e)
  have F0' := F0.out.turned ho (fun q z e => HN.out.2.1 q z e)
  replace KG : Hid (KeepG w w3 d g0 g1 g2) := fun b hb q0 q1 q2 => (ho.block (Nat.lt_of_lt_of_le hb SZ) q2).trans (KG.out b hb q0 q1 q2)
  replace BB : Hid (Below B w w3) := BB.out.trans (ho.toBelow HBB.out.2.2 (Nat.le_trans hw SZ))
  have FD : Hid (RowD w3 (markK d k) a0 a1 a2 g0 g1 g2) := by
    subst hy
    subst hx
    exact ⟨F0', F1', F2, HN.out.1, HN.out.2.1, HN.out.2.2⟩
  clear hr ho S2 T2 k2 F0 F1 F2 F0' F1' RA
  generalize hz : K2 + d.ns = K3 at *
  go_wp2
  go_ret
  exact ⟨by rw [← hz, ← hy, ← hx]; rfl, FD.out, KG.out, BB.out⟩
def LtD (d : Dk) (g0 g1 g2 n : Nat) : Prop := (0 < d.nb → g0 < n) ∧ (0 < d.nc → g1 < n) ∧ (0 < d.ns → g2 < n)
def GeD (d : Dk) (g0 g1 g2 n : Nat) : Prop := (0 < d.nb → n ≤ g0) ∧ (0 < d.nc → n ≤ g1) ∧ (0 < d.ns → n ≤ g2)
theorem RowD.ltD {w : World} {d : Dk} {a0 a1 a2 : Option Addr} {g0 g1 g2 : Nat} (h : RowD w d a0 a1 a2 g0 g1 g2) : LtD d g0 g1 g2 w.heap.size := ⟨fun q => h.s0.lt q, fun q => h.s1.lt q, fun q => h.s2.lt q⟩
end Go.Proofs.YtbecnaabmlkjjabGreatDoor
namespace Go.Proofs.YtbecnaabmlkjjabGreatDoor
open Go.ChangeShapes Go.WideShapes Go.ChangeAt Go.RowKit
set_option linter.unusedVariables false
def KeepR (lo hi : Nat) (w w' : World) : Prop := ∀ b, b < w.heap.size → (b < lo ∨ hi ≤ b) → w'.heap[b]? = w.heap[b]?
theorem KeepG.keepR {w w' : World} {d : Dk} {g0 g1 g2 lo hi : Nat} (hk : KeepG w w' d g0 g1 g2) (h0 : GeD d g0 g1 g2 lo) (h1 : LtD d g0 g1 g2 hi) : KeepR lo hi w w' := fun b hb q => hk b hb (fun z => by have := h0.1 z; have := h1.1 z; omega) (fun z => by have := h0.2.1 z; have := h1.2.1 z; omega) (fun z => by have := h0.2.2 z; have := h1.2.2 z; omega)
theorem Box3.keepR {w w' : World} {b lo hi : Nat} {t : TypeId} {x y z : Value} (h : Box3 w b t x y z) (hk : KeepR lo hi w w') (q : b < lo ∨ hi ≤ b) : Box3 w' b t x y z := h.ofBlock (hk b h.lt q)
theorem rowD_of_rows {w : World} {d : Dk} {g0 g1 g2 : Nat} (h0 : w.rowIs g0 9 d.nb (fun i => .string (d.B i))) (h1 : PenRow w g1 d.nc d.A d.D) (h2 : w.rowIs g2 9 d.ns (fun i => .string (d.S i))) (q0 : g0 < g1) (q1 : g1 < g2) : RowD w d (some ⟨g0, 0, none⟩) (some ⟨g1, 0, none⟩) (some ⟨g2, 0, none⟩) g0 g1 g2 :=
  ⟨RowS.ofRow h0 (Nat.le_refl _) (fun _ _ => rfl), ⟨fun _ => rfl, fun i hi => by rw [World.rowIs.cell h1 (by omega), penC0], fun i hi => by rw [World.rowIs.cell h1 (by omega), penC1], fun i _ => World.rowIs.frozen h1 i⟩, RowS.ofRow h2 (Nat.le_refl _) (fun _ _ => rfl), fun _ _ => by omega, fun _ _ => by omega, fun _ _ => by omega⟩
theorem toDisk_row (d : Dk) (a0 a1 a2 : Option Addr) (c0 c1 c2 : Nat) (w : World) (h : DiskV w d a0 a1 a2) (h0 : d.nb ≤ 1048576) (h1 : d.nc ≤ 1048576) (h2 : d.ns ≤ 1048576) :
    Calls Tryz.prog 8 #[.agg #[.slice a0 d.nb c0, .slice a1 d.nc c1, .slice a2 d.ns c2]] w fun e w' => (∃ g0 g1 g2, e = .returned (.agg #[.slice (some ⟨g0, 0, none⟩) d.nb d.nb, .slice (some ⟨g1, 0, none⟩) d.nc d.nc, .slice (some ⟨g2, 0, none⟩) d.ns d.ns]) ∧ RowD w' d (some ⟨g0, 0, none⟩) (some ⟨g1, 0, none⟩) (some ⟨g2, 0, none⟩) g0 g1 g2 ∧ GeD d g0 g1 g2 w.heap.size) ∧ Below w.heap.size w w' :=
  (toDisk_any d a0 a1 a2 c0 c1 c2 w h h0 h1 h2).mono fun e w' ⟨⟨g0, g1, g2, q, q0, q1, he, r0, r1, r2⟩, hb⟩ => ⟨⟨g0, g1, g2, he, rowD_of_rows r0 r1 r2 q0 q1, fun _ => q, fun _ => by omega, fun _ => by omega⟩, hb⟩
end Go.Proofs.YtbecnaabmlkjjabGreatDoor
namespace Go.Proofs.YtbecnaabmlkjjabGreatDoor
open Go.ChangeShapes Go.WideShapes Go.ChangeAt Go.RowKit
set_option maxRecDepth 100000 in
set_option maxHeartbeats 1000000 in
theorem szDisk_x (d : Dk) (a0 a1 a2 : Option Addr) (c0 c1 c2 : Nat) (x : Int) (x0 : 0 ≤ x) (x1 : x ≤ 1048576) (w : World) (h : DiskV w d a0 a1 a2) (l0 : d.nb ≤ maxLen) (l1 : d.nc ≤ maxLen) (l2 : d.ns ≤ maxLen) (m0 : ∀ i, i < d.nb → (d.B i).size ≤ maxLen) (m1 : ∀ i, i < d.nc → (d.D i).size ≤ maxLen) (m2 : ∀ i, i < d.ns → (d.S i).size ≤ maxLen) :
    Calls Tryz.prog 6 #[.agg #[.slice a0 d.nb c0, .slice a1 d.nc c1, .slice a2 d.ns c2], .int .i64 x] w fun e w' => (∃ y : Int, e = .returned (.int .i64 y) ∧ y ≤ 1048576 ∧ (0 ≤ y → d.nb ≤ 1048576 ∧ d.nc ≤ 1048576 ∧ d.ns ≤ 1048576)) ∧ Below w.heap.size w w' := by
  have S0 : Hid (∀ (x : Int) (w : World), 0 ≤ x → x ≤ 1048576 → Strs w a0 d.nb d.B → Calls Tryz.prog 21 #[.slice a0 d.nb c0, .int .i64 x] w fun e w' => (∃ y : Int, e = .returned (.int .i64 y) ∧ y ≤ 1048576 ∧ (0 ≤ y → d.nb ≤ 1048576)) ∧ w = w') := fun x w hx hx' h => szStringS_any a0 d.nb c0 d.B x w h hx hx' l0 m0
  have S1 : Hid (∀ (x : Int) (w : World), 0 ≤ x → x ≤ 1048576 → Pens w a1 d.nc d.A d.D → Calls Tryz.prog 22 #[.slice a1 d.nc c1, .int .i64 x] w fun e w' => (∃ y : Int, e = .returned (.int .i64 y) ∧ y ≤ 1048576 ∧ (0 ≤ y → d.nc ≤ 1048576)) ∧ Below w.heap.size w w') := fun x w hx hx' h => szPendingS_any a1 d.nc c1 d.A d.D x w h hx hx' l1 m1
  have S2 : Hid (∀ (x : Int) (w : World), 0 ≤ x → x ≤ 1048576 → Strs w a2 d.ns d.S → Calls Tryz.prog 21 #[.slice a2 d.ns c2, .int .i64 x] w fun e w' => (∃ y : Int, e = .returned (.int .i64 y) ∧ y ≤ 1048576 ∧ (0 ≤ y → d.ns ≤ 1048576)) ∧ w = w') := fun x w hx hx' h => szStringS_any a2 d.ns c2 d.S x w h hx hx' l2 m2
  have HD : Hid (DiskV w d a0 a1 a2) := h
  clear h l0 l1 l2 m0 m1 m2
  have A1 : Hid (Below w.heap.size w (w.alloc (.cells #[.slice a0 d.nb c0, .slice a1 d.nc c1, .slice a2 d.ns c2] 25))) := (Below.refl w.heap.size w).alloc (Nat.le_refl _) _
  have RA : Hid (Box3 (w.alloc (.cells #[.slice a0 d.nb c0, .slice a1 d.nc c1, .slice a2 d.ns c2] 25)) w.heap.size 25 (.slice a0 d.nb c0) (.slice a1 d.nc c1) (.slice a2 d.ns c2)) := Box3.made w _ _ _ _
  go_enter Tryz.func6, Tryz.ntmps6
  go_wp2_with fail
  generalize (w.alloc (.cells #[.slice a0 d.nb c0, .slice a1 d.nc c1, .slice a2 d.ns c2] 25)) = v at *
  refine (S0.out _ _ (by omega) (by omega) (HD.out.1.below A1.out)).mono ?_
  rintro e w1 ⟨⟨y0, rfl, hy0, hz0⟩, rfl⟩
  have Z0 : Hid (0 ≤ y0 → d.nb ≤ 1048576) := hz0
  have k1 := RA.out.c1
  clear hz0 S0
  by_cases p0 : y0 < 0
  · go_wp2
    go_ret
    exact ⟨⟨-1, rfl, by omega, by omega⟩, A1.out⟩
  · have q0 : ¬ y0 < 0 := p0
    go_wp2_with fail
    refine (S1.out _ _ (by omega) (by omega) (HD.out.2.1.below A1.out)).mono ?_
    rintro e w2 ⟨⟨y1, rfl, hy1, hz1⟩, hb⟩
    have Z1 : Hid (0 ≤ y1 → d.nc ≤ 1048576) := hz1
    replace A1 : Hid (Below w.heap.size w w2) := A1.out.trans (hb.mono A1.out.size)
    replace RA : Hid (Box3 w2 w.heap.size 25 (.slice a0 d.nb c0) (.slice a1 d.nc c1) (.slice a2 d.ns c2)) := RA.out.below hb
    have k2 := RA.out.c2
    clear hz1 S1 hb k1
    by_cases p1 : y1 < 0
    · go_wp2
      go_ret
      exact ⟨⟨-1, rfl, by omega, by omega⟩, A1.out⟩
    · have q1 : ¬ y1 < 0 := p1
      go_wp2_with fail
      refine (S2.out _ _ (by omega) (by omega) (HD.out.2.2.below A1.out)).mono ?_
      rintro e w3 ⟨⟨y2, rfl, hy2, hz2⟩, rfl⟩
      have Z2 : Hid (0 ≤ y2 → d.ns ≤ 1048576) := hz2
      clear hz2 S2
      by_cases p2 : y2 < 0
      · go_wp2
        go_ret
        exact ⟨⟨-1, rfl, by omega, by omega⟩, A1.out⟩
      · have q2 : ¬ y2 < 0 := p2
        go_wp2
        go_ret
        exact ⟨⟨y2, rfl, hy2, fun _ => ⟨Z0.out (by omega), Z1.out (by omega), Z2.out (by omega)⟩⟩, A1.out⟩
end Go.Proofs.YtbecnaabmlkjjabGreatDoor
