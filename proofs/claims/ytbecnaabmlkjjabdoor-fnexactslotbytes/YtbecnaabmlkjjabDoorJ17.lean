/-
  The contract of impl.stateOf: a text of sixteen bytes as a state.
-/
import Derived.Test.YtbecnaabmlkjjabDoorJ12
import Derived.Test.YtbecnaabmlkjjabDoorJ16
import Derived.Laws.IdiomCopy
import Derived.Deep.Cut
import Derived.Test.YtbecnaabmlkjjabDoorJ05
import Derived.Deep.CutRange
import Derived.Deep.DeepCutAuto
import Derived.Deep.RegionHeld3
import Derived.Test.YtbecnaabmlkjjabDoorRows
import Derived.WalkKit
import Derived.ProofKit
import Derived.OpenShut
import Derived.Below
import Derived.WalkSmall
import Derived.Deep.QuietTactic
import Derived.BigQuiet
import Derived.Deep.OwnRows
import Derived.Handy
namespace Go.Proofs.YtbecnaabmlkjjabDoor
open Go.ChangeShapes Go.WideShapes Go.ChangeAt Go.RowKit
theorem run_copy_text {P : Program} (w : World) (dT sT ty elem : TypeId) (b o dLen dCap : Nat) (s : ByteArray) (cs : List Value)
    (hu : P.underlying dT = some (.slice elem)) (hs : (P.info? elem).map (·.size) = some 1) (hn : s.size = dLen) (hcs : cs = s.data.toList.map (fun b => .int .u8 b.toNat))
    (hc : ∀ j, j < cs.length → (w.cell? ⟨b, o + j, none⟩).isSome = true) (hf : ∀ j, j < cs.length → w.frozen? ⟨b, o + j, none⟩ = false) :
    (Builtin.copy_ #[dT, sT] ty #[.slice (some ⟨b, o, none⟩) dLen dCap, .string s]).run P w = .ok (goInt cs.length) (w.setCells b o cs) := by
  have h1 : ∀ v ∈ cs, v.oneCell' = true := fun v hv => by
    rw [hcs] at hv
    obtain ⟨x, _, rfl⟩ := List.mem_map.1 hv
    rfl
  have hst := run_storeCells_cells (P := P) b o cs 0 w (by simpa using hc) (by simpa using hf) h1
  cases hq : P.info? elem with
  | none => simp [hq] at hs
  | some i =>
    have hi : i.size = 1 := by simpa [hq] using hs
    have hl : s.data.toList.length = s.size := by simp
    have hcl : cs.length = dLen := by rw [hcs, List.length_map, hl, hn]
    simp [Builtin.copy_, run_underlying hu, Builtin.lenOf, Builtin.firstCells, sizeOf, typeInfo, hq, hn]
    rw [← hcs, List.take_of_length_le (by omega), hst, hcl]
    rfl
theorem bv_text (s : ByteArray) (n : Nat) (h : s.size = n) : bv n (strB s) = s.data.toList.map (fun b => .int .u8 b.toNat) := by
  apply List.ext_getElem
  · rw [bv_length]; simp [h]
  · intro i h1 h2
    have hi : i < n := by rwa [bv_length] at h1
    have hi' : i < s.size := by omega
    have e := bv_at (n := n) (f := strB s) hi
    rw [List.getElem?_eq_getElem h1] at e
    rw [Option.some.inj e, List.getElem_map, ← ba_get s i hi']
    simp [strB, hi']
set_option maxRecDepth 100000 in
set_option maxHeartbeats 1000000 in
theorem stateOf_any (s : ByteArray) (hs : s.size = 16) (w : World) :
    Calls Tryd.prog 86 #[.string s] w fun e w' => e = .returned (.agg (bA 16 (strB s))) ∧ Below w.heap.size w w' := by
  have Z2 : Hid (Row8 ((w.alloc (.cells z16 96)).alloc (.cells z16 96)) (w.heap.size + 1) 96 16 (fun _ => 0)) := Row8.z16At (by simp) _
  have Z1 : Hid (Row8 ((w.alloc (.cells z16 96)).alloc (.cells z16 96)) w.heap.size 96 16 (fun _ => 0)) := (Row8.z16At rfl _).alloc _
  have B3 : Hid (Below w.heap.size w ((w.alloc (.cells z16 96)).alloc (.cells z16 96))) := ((Below.refl _ _).alloc (Nat.le_refl _) _).alloc (by simp) _
  have sz : (Tryd.prog.info? 5).map (·.size) = some 1 := by kernel_rfl
  have SZ : Hid ((Tryd.prog.info? 5).map (·.size) = some 1) := sz
  clear sz
  unfold z16 at Z2 Z1 B3
  go_enter Tryd.func86, Tryd.ntmps86
  go_upto_region 2 with fail
  generalize (w.alloc (.cells #[.int .u8 0, .int .u8 0, .int .u8 0, .int .u8 0, .int .u8 0, .int .u8 0, .int .u8 0, .int .u8 0, .int .u8 0, .int .u8 0, .int .u8 0, .int .u8 0, .int .u8 0, .int .u8 0, .int .u8 0, .int .u8 0] 96)).alloc (.cells #[.int .u8 0, .int .u8 0, .int .u8 0, .int .u8 0, .int .u8 0, .int .u8 0, .int .u8 0, .int .u8 0, .int .u8 0, .int .u8 0, .int .u8 0, .int .u8 0, .int .u8 0, .int .u8 0, .int .u8 0, .int .u8 0] 96) = wz at *
  have CP : ∀ ty c, (Builtin.copy_ #[25, 9] ty #[.slice (some ⟨w.heap.size + 1, 0, none⟩) 16 c, .string s]).run Tryd.prog wz = .ok (goInt 16) (wz.setCells (w.heap.size + 1) 0 (bv 16 (strB s))) := fun ty c => by
    have h := run_copy_text (P := Tryd.prog) wz 25 9 ty 5 (w.heap.size + 1) 0 16 c s (bv 16 (strB s)) Tryd.underlying25 SZ.out hs (bv_text s 16 hs) (fun j hj => by rw [bv_length] at hj; exact (Z2.out.there j hj).1) (fun j hj => by rw [bv_length] at hj; exact (Z2.out.there j hj).2)
    rw [bv_length] at h
    exact h
  have R2 : Hid (Row8 (wz.setCells (w.heap.size + 1) 0 (bv 16 (strB s))) (w.heap.size + 1) 96 16 (strB s)) := Z2.out.stored _
  have R1 : Hid (Row8 (wz.setCells (w.heap.size + 1) 0 (bv 16 (strB s))) w.heap.size 96 16 (fun _ => 0)) := Z1.out.storedOther (by omega) _ _
  have B4 : Hid (Below w.heap.size w (wz.setCells (w.heap.size + 1) 0 (bv 16 (strB s)))) := below_setCells (by omega) _ _ _ B3.out
  generalize wz.setCells (w.heap.size + 1) 0 (bv 16 (strB s)) = wy at *
  clear Z1 Z2 B3
  go_upto_region 3 with fail
  clear CP
  generalize hG : strB s = G at *
  have HG : Hid (strB s = G) := hG
  clear hG
  refine wp_region_lit ?_
  refine wpList_load_mid rfl 96 (.tmp 3) rfl (w.heap.size + 1) 0 rfl (bv 16 G) _ R2.out.range Tryd.underlying96 rfl (by rw [bv_length]; exact Tryd.sizeSt) ?_
  refine wpList_store_mid rfl 96 (.tmp 2) (.tmp 7) rfl w.heap.size 0 (bA 16 G) rfl rfl (by rw [bA_size]; exact R1.out.there) (by rw [bA_size]; exact Tryd.sizeSt) (bA_one _ _) ?_
  rw [bA_toList]
  have L : Hid ((loadVar 96 ⟨w.heap.size, 0, none⟩).run Tryd.prog (wy.setCells (w.heap.size) 0 (bv 16 G)) = .ok (.agg (bA 16 G)) (wy.setCells (w.heap.size) 0 (bv 16 G))) := (R1.out.stored _).load Tryd.underlying96 rfl Tryd.sizeSt
  have B : Hid (Below w.heap.size w (wy.setCells (w.heap.size) 0 (bv 16 G))) := below_setCells (Nat.le_refl _) _ _ _ B4.out
  have eA : (bv 16 G).toArray = bA 16 G := rfl
  rw [eA]
  generalize wy.setCells (w.heap.size) 0 (bv 16 G) = wf at *
  generalize hA : bA 16 G = AA at *
  have HA : Hid (bA 16 G = AA) := hA
  clear hA eA
  go_wp2
  rw [HG.out, HA.out]
  exact bodyPost_ret (v := .agg AA) (results_cell_one (b := w.heap.size) (o := 0) Tryd.results86 _ _ _ rfl L.out) rfl ⟨rfl, B.out⟩
end Go.Proofs.YtbecnaabmlkjjabDoor

/-
  The contract of impl.stateOf at a text of at most sixteen bytes: the rest is noughts.
-/
namespace Go.Proofs.YtbecnaabmlkjjabDoor
open Go.ChangeShapes Go.WideShapes Go.ChangeAt Go.RowKit
theorem run_copy_le {P : Program} (w : World) (dT sT ty elem : TypeId) (b o dLen dCap : Nat) (s : ByteArray) (cs : List Value)
    (hu : P.underlying dT = some (.slice elem)) (hs : (P.info? elem).map (·.size) = some 1) (hn : s.size ≤ dLen) (hcs : cs = s.data.toList.map (fun b => .int .u8 b.toNat))
    (hc : ∀ j, j < cs.length → (w.cell? ⟨b, o + j, none⟩).isSome = true) (hf : ∀ j, j < cs.length → w.frozen? ⟨b, o + j, none⟩ = false) :
    (Builtin.copy_ #[dT, sT] ty #[.slice (some ⟨b, o, none⟩) dLen dCap, .string s]).run P w = .ok (goInt cs.length) (w.setCells b o cs) := by
  have h1 : ∀ v ∈ cs, v.oneCell' = true := fun v hv => by
    rw [hcs] at hv
    obtain ⟨x, _, rfl⟩ := List.mem_map.1 hv
    rfl
  have hst := run_storeCells_cells (P := P) b o cs 0 w (by simpa using hc) (by simpa using hf) h1
  cases hq : P.info? elem with
  | none => simp [hq] at hs
  | some i =>
    have hl : s.data.toList.length = s.size := by simp
    have hcl : cs.length = s.size := by rw [hcs, List.length_map, hl]
    have hm : min s.size dLen = s.size := Nat.min_eq_left hn
    simp [Builtin.copy_, run_underlying hu, Builtin.lenOf, Builtin.firstCells, sizeOf, typeInfo, hq, hm]
    rw [← hcs, List.take_of_length_le (by omega), hst, hcl]
    rfl
set_option maxRecDepth 100000 in
set_option maxHeartbeats 1000000 in
theorem stateOf_le (s : ByteArray) (hs : s.size ≤ 16) (w : World) :
    Calls Tryd.prog 86 #[.string s] w fun e w' => e = .returned (.agg (bA 16 (strB s))) ∧ Below w.heap.size w w' := by
  have Z2 : Hid (Row8 ((w.alloc (.cells z16 96)).alloc (.cells z16 96)) (w.heap.size + 1) 96 16 (fun _ => 0)) := Row8.z16At (by simp) _
  have Z1 : Hid (Row8 ((w.alloc (.cells z16 96)).alloc (.cells z16 96)) w.heap.size 96 16 (fun _ => 0)) := (Row8.z16At rfl _).alloc _
  have B3 : Hid (Below w.heap.size w ((w.alloc (.cells z16 96)).alloc (.cells z16 96))) := ((Below.refl _ _).alloc (Nat.le_refl _) _).alloc (by simp) _
  have sz : (Tryd.prog.info? 5).map (·.size) = some 1 := by kernel_rfl
  have SZ : Hid ((Tryd.prog.info? 5).map (·.size) = some 1) := sz
  clear sz
  unfold z16 at Z2 Z1 B3
  go_enter Tryd.func86, Tryd.ntmps86
  go_upto_region 2 with fail
  generalize (w.alloc (.cells #[.int .u8 0, .int .u8 0, .int .u8 0, .int .u8 0, .int .u8 0, .int .u8 0, .int .u8 0, .int .u8 0, .int .u8 0, .int .u8 0, .int .u8 0, .int .u8 0, .int .u8 0, .int .u8 0, .int .u8 0, .int .u8 0] 96)).alloc (.cells #[.int .u8 0, .int .u8 0, .int .u8 0, .int .u8 0, .int .u8 0, .int .u8 0, .int .u8 0, .int .u8 0, .int .u8 0, .int .u8 0, .int .u8 0, .int .u8 0, .int .u8 0, .int .u8 0, .int .u8 0, .int .u8 0] 96) = wz at *
  have CP : ∀ ty c, (Builtin.copy_ #[25, 9] ty #[.slice (some ⟨w.heap.size + 1, 0, none⟩) 16 c, .string s]).run Tryd.prog wz = .ok (goInt s.size) (wz.setCells (w.heap.size + 1) 0 (bv s.size (strB s))) := fun ty c => by
    have h := run_copy_le (P := Tryd.prog) wz 25 9 ty 5 (w.heap.size + 1) 0 16 c s (bv s.size (strB s)) Tryd.underlying25 SZ.out hs (bv_text s s.size rfl) (fun j hj => by rw [bv_length] at hj; exact (Z2.out.there j (by omega)).1) (fun j hj => by rw [bv_length] at hj; exact (Z2.out.there j (by omega)).2)
    rw [bv_length] at h
    exact h
  have R2 : Hid (Row8 (wz.setCells (w.heap.size + 1) 0 (bv s.size (strB s))) (w.heap.size + 1) 96 16 (strB s)) := (rowIs_setCells (bv s.size (strB s)) 0 wz _ Z2.out).congr (fun i hi => by
    rw [bv_length]
    by_cases h : i < s.size
    · rw [if_pos (by omega), Nat.sub_zero, List.getD_eq_getElem?_getD, bv_at h]; rfl
    · rw [if_neg (by omega)]
      simp [strB, h])
  have R1 : Hid (Row8 (wz.setCells (w.heap.size + 1) 0 (bv s.size (strB s))) w.heap.size 96 16 (fun _ => 0)) := Z1.out.storedOther (by omega) _ _
  have B4 : Hid (Below w.heap.size w (wz.setCells (w.heap.size + 1) 0 (bv s.size (strB s)))) := below_setCells (by omega) _ _ _ B3.out
  generalize wz.setCells (w.heap.size + 1) 0 (bv s.size (strB s)) = wy at *
  clear Z1 Z2 B3
  go_upto_region 3 with fail
  clear CP
  generalize hG : strB s = G at *
  have HG : Hid (strB s = G) := hG
  clear hG
  refine wp_region_lit ?_
  refine wpList_load_mid rfl 96 (.tmp 3) rfl (w.heap.size + 1) 0 rfl (bv 16 G) _ R2.out.range Tryd.underlying96 rfl (by rw [bv_length]; exact Tryd.sizeSt) ?_
  refine wpList_store_mid rfl 96 (.tmp 2) (.tmp 7) rfl w.heap.size 0 (bA 16 G) rfl rfl (by rw [bA_size]; exact R1.out.there) (by rw [bA_size]; exact Tryd.sizeSt) (bA_one _ _) ?_
  rw [bA_toList]
  have L : Hid ((loadVar 96 ⟨w.heap.size, 0, none⟩).run Tryd.prog (wy.setCells (w.heap.size) 0 (bv 16 G)) = .ok (.agg (bA 16 G)) (wy.setCells (w.heap.size) 0 (bv 16 G))) := (R1.out.stored _).load Tryd.underlying96 rfl Tryd.sizeSt
  have B : Hid (Below w.heap.size w (wy.setCells (w.heap.size) 0 (bv 16 G))) := below_setCells (Nat.le_refl _) _ _ _ B4.out
  have eA : (bv 16 G).toArray = bA 16 G := rfl
  rw [eA]
  generalize wy.setCells (w.heap.size) 0 (bv 16 G) = wf at *
  generalize hA : bA 16 G = AA at *
  have HA : Hid (bA 16 G = AA) := hA
  clear hA eA
  go_wp2
  rw [HG.out, HA.out]
  exact bodyPost_ret (v := .agg AA) (results_cell_one (b := w.heap.size) (o := 0) Tryd.results86 _ _ _ rfl L.out) rfl ⟨rfl, B.out⟩
end Go.Proofs.YtbecnaabmlkjjabDoor

/-
  Contracts of slices.Repeat and slices.Concat at slices of bytes.
-/
namespace Go.Proofs.YtbecnaabmlkjjabDoor
open Go.ChangeShapes Go.WideShapes Go.ChangeAt Go.RowKit
theorem mem_two {w w' : World} {sb : Nat} {a1 a2 : Value} (h1 : w.cell? ⟨sb, 0, none⟩ = some a1) (h2 : w.cell? ⟨sb, 1, none⟩ = some a2) (hb : Below w.heap.size w w') : w'.cell? ⟨sb, 0, none⟩ = some a1 ∧ w'.cell? ⟨sb, 1, none⟩ = some a2 :=
  ⟨by rw [hb.cell (p := ⟨sb, 0, none⟩) (strBlock h1)]; exact h1, by rw [hb.cell (p := ⟨sb, 1, none⟩) (strBlock h2)]; exact h2⟩
set_option maxRecDepth 100000 in
set_option maxHeartbeats 2000000 in
/-- slices.Concat of two slices of bytes, the second one not empty. -/
theorem concat_any (sb b1 o1 n1 c1 b2 o2 n2 c2 : Nat) (f1 f2 : Nat → Nat) (hn1 : n1 ≤ 100000) (hn2 : 1 ≤ n2) (hn2' : n2 ≤ 100000) (w : World)
    (s1 : w.cell? ⟨sb, 0, none⟩ = some (.slice (some ⟨b1, o1, none⟩) n1 c1)) (s2 : w.cell? ⟨sb, 1, none⟩ = some (.slice (some ⟨b2, o2, none⟩) n2 c2))
    (h1 : Code8 w (some ⟨b1, o1, none⟩) n1 f1) (h2 : Code8 w (some ⟨b2, o2, none⟩) n2 f2) :
    Calls Tryd.prog 53 #[.slice (some ⟨sb, 0, none⟩) 2 2] w fun e w' => RetB w w' e (n1 + n2) (fun i => if i < n1 then f1 i else f2 (i - n1)) ∧ Below w.heap.size w w' := by
  obtain ⟨i0, hi⟩ := info_parts Tryd.info8
  have HI : Hid (Tryd.prog.info? 5 = some i0 ∧ i0.zero = some (.int .u8 0) ∧ i0.size = 1 ∧ i0.bytes = 1) := hi
  have GN : Hid (∀ w : World, Calls Tryd.prog 72 #[.slice none 0 0, .int .i64 ((n1 : Int) + (n2 : Int))] w fun e w' => (∃ b c, w.heap.size ≤ b ∧ e = .returned (.slice (some ⟨b, 0, none⟩) 0 c) ∧ w'.ownsRow w.heap.size 5 1 (.slice (some ⟨b, 0, none⟩) 0 c) 0 []) ∧ Below w.heap.size w w') := grow_nil (n1 + n2) (by omega) (by omega)
  have H1 : Hid (Code8 w (some ⟨b1, o1, none⟩) n1 f1) := h1
  have H2 : Hid (Code8 w (some ⟨b2, o2, none⟩) n2 f2) := h2
  have hb2 : b2 < w.heap.size := h2.lt _ (by omega) rfl
  have HS : Hid (w.cell? ⟨sb, 0, none⟩ = some (.slice (some ⟨b1, o1, none⟩) n1 c1) ∧ w.cell? ⟨sb, 1, none⟩ = some (.slice (some ⟨b2, o2, none⟩) n2 c2)) := ⟨s1, s2⟩
  have x1 : ¬ (n1 : Int) < 0 := by omega
  have x2 : ¬ (n1 : Int) + (n2 : Int) < 0 := by omega
  have hsb : sb < w.heap.size := strBlock s1
  clear h1 h2 hi
  go_enter Tryd.func53, Tryd.ntmps53
  go_wp2
  refine wp_loop_rounds 3 ?_
  rw [rounds_succ]
  go_wp2
  rw [rounds_succ]
  go_wp2
  rw [rounds_succ]
  go_wp2_with fail
  refine (GN.out _).mono ?_
  rintro e w1 ⟨⟨b, c, hb, rfl, hown⟩, hB⟩
  obtain ⟨t1, t2⟩ := mem_two HS.out.1 HS.out.2 hB
  have K1 : Hid (Code8 w1 (some ⟨b1, o1, none⟩) n1 f1) := H1.out.below hB
  have K2 : Hid (Code8 w1 (some ⟨b2, o2, none⟩) n2 f2) := H2.out.below hB
  have HO : Hid (w1.ownsRow w.heap.size 5 1 (.slice (some ⟨b, 0, none⟩) 0 c) 0 []) := hown
  have HB1 : Hid (Below w.heap.size w w1) := hB
  have hsz := hB.size
  clear hown hB s1 s2 HS
  go_wp2
  refine wp_loop_rounds 3 ?_
  rw [rounds_succ]
  go_wp2_with (at_builtin; refine wpList_append_own _ rfl _ _ 25 rfl w.heap.size 5 i0 (.int .u8 0) 1 1 Tryd.underlying25 HI.out.1 HI.out.2.1 HI.out.2.2.1 HI.out.2.2.2 rfl (by decide) _ _ _ rfl HO.out ⟨b1, o1, none⟩ n1 c1 (bv n1 f1) rfl (by rw [bv_length, Nat.mul_one]) (bv_news K1.out) (bv_one n1 f1) (by unfold maxLen; omega) (by omega) hsz ?_)
  intro v2 w2 hown2 hgrow2 hnil2
  have BG := grown_below HO.out hgrow2 hsz
  have K2' : Hid (Code8 w2 (some ⟨b2, o2, none⟩) n2 f2) := K2.out.belowAt BG hb2
  have t2' : w2.cell? ⟨sb, 1, none⟩ = some (.slice (some ⟨b2, o2, none⟩) n2 c2) := by rw [BG.cell (p := ⟨sb, 1, none⟩) hsb]; exact t2
  have HB2 : Hid (Below w.heap.size w w2) := HB1.out.trans BG
  obtain ⟨b', c', hb', rfl, -⟩ := own8_of_own hown2 hnil2
  have HO2 : Hid (w2.ownsRow w.heap.size 5 1 (.slice (some ⟨b', 0, none⟩) n1 c') n1 (bv n1 f1)) := hown2
  have hsz2 : w.heap.size ≤ w2.heap.size := HB2.out.size
  clear hown2 hgrow2 hnil2 BG K2 t1 t2 HO HB1 K1
  go_wp2
  rw [rounds_succ]
  go_wp2_with (at_builtin; refine wpList_append_own _ rfl _ _ 25 rfl w.heap.size 5 i0 (.int .u8 0) 1 1 Tryd.underlying25 HI.out.1 HI.out.2.1 HI.out.2.2.1 HI.out.2.2.2 rfl (by decide) _ _ _ rfl HO2.out ⟨b2, o2, none⟩ n2 c2 (bv n2 f2) rfl (by rw [bv_length, Nat.mul_one]) (bv_news K2'.out) (bv_one n2 f2) (by unfold maxLen; omega) (by omega) hsz2 ?_)
  intro v3 w3 hown3 hgrow3 hnil3
  have BG := grown_below HO2.out hgrow3 hsz2
  have HB3 : Hid (Below w.heap.size w w3) := HB2.out.trans BG
  rw [bv_append] at hown3
  obtain ⟨b'', c'', hb'', rfl, ho3⟩ := own8_of_own hown3 hnil3
  have HO3 : Hid (Own8 w3 b'' (n1 + n2) (fun i => if i < n1 then f1 i else f2 (i - n1))) := ho3
  clear hown3 hgrow3 hnil3 BG HB2 HO2 K2' t2' ho3
  go_wp2
  rw [rounds_succ]
  go_wp2
  go_ret
  exact ⟨⟨_, _, hb'', rfl, HO3.out⟩, HB3.out⟩
end Go.Proofs.YtbecnaabmlkjjabDoor

/-
  Contracts of padding: impl's padded, unpaddedSize, PadBlocks, UnpadBlocks.
-/
namespace Go.Proofs.YtbecnaabmlkjjabDoor
open Go.ChangeShapes Go.WideShapes Go.ChangeAt Go.RowKit
end Go.Proofs.YtbecnaabmlkjjabDoor

/-
  Contracts of the exact laws' helpers on slices of ints (a copy, an equality, a marking, a look at the marks), and what is said of a slice that is read and of one that is a call's own.
-/
namespace Go.Proofs.YtbecnaabmlkjjabDoor
open Go.ChangeShapes Go.WideShapes Go.ChangeAt Go.RowKit

theorem cellBlock {w : World} {p : Addr} {v : Value} (h : w.cell? p = some v) : p.block < w.heap.size := by
  rcases Nat.lt_or_ge p.block w.heap.size with g | g
  · exact g
  · simp [World.cell?, Array.getElem?_eq_none g] at h
theorem numEq {k : IntKind} {a b : Int} (h : a = b) : Value.int k a = .int k b := by rw [h]

/-- A slice of n ints that reads as f. -/
def Ints (w : World) (a : Option Addr) (n : Nat) (f : Nat → Int) : Prop := ∀ i, i < n → ∃ b off, a = some ⟨b, off, none⟩ ∧ w.cell? ⟨b, off + i, none⟩ = some (.int .i64 (f i))
theorem Ints.opened {w : World} {a : Option Addr} {n : Nat} {f : Nat → Int} (h : Ints w a n f) (hn : 0 < n) :
    ∃ b off, a = some ⟨b, off, none⟩ ∧ ∀ i, i < n → w.cell? ⟨b, off + i, none⟩ = some (.int .i64 (f i)) := by
  obtain ⟨b, off, ha, _⟩ := h 0 hn
  refine ⟨b, off, ha, fun i hi => ?_⟩
  obtain ⟨b', off', ha', hc⟩ := h i hi
  rw [ha] at ha'
  cases ha'
  exact hc
theorem Ints.below {w w' : World} {a : Option Addr} {n : Nat} {f : Nat → Int} (h : Ints w a n f) (hb : Below w.heap.size w w') : Ints w' a n f := fun i hi => by
  obtain ⟨b, off, ha, hc⟩ := h i hi
  exact ⟨b, off, ha, by rw [hb.cell (cellBlock hc)]; exact hc⟩
theorem Ints.congr {w : World} {a : Option Addr} {n : Nat} {f g : Nat → Int} (h : Ints w a n f) (e : ∀ i, i < n → f i = g i) : Ints w a n g := fun i hi => by
  obtain ⟨b, off, ha, hc⟩ := h i hi
  exact ⟨b, off, ha, by rw [← e i hi]; exact hc⟩
/-- A slice of ints that came in, as the kit's shell tells of it. -/
theorem ints_of_came {w : World} {a : Option Addr} {len cap : Nat} {zs : List Int}
    (h : (a = none ∧ len = 0 ∧ cap = 0 ∧ zs = []) ∨ ∃ x, a = some x ∧ len ≤ cap ∧ cap ≤ maxLen ∧ zs.length = cap ∧ (∀ i, i < zs.length → w.cell? (x.add i) = some (.int .i64 (zs.getD i 0))) ∧ ∀ n ∈ zs, (Lit.int .i64 n).wf = true) :
    Ints w a len (fun i => zs.getD i 0) ∧ len ≤ maxLen := by
  rcases h with ⟨rfl, rfl, rfl, rfl⟩ | ⟨x, rfl, hl, hm, hz, hc, _⟩
  · exact ⟨fun i hi => absurd hi (by omega), Nat.zero_le _⟩
  · refine ⟨fun i hi => ?_, Nat.le_trans hl hm⟩
    obtain ⟨b, off, rfl, hc'⟩ := ints_at hc (by omega)
    exact ⟨b, off, rfl, hc' i (by omega)⟩
/-- A slice of n ints at the head of a row of the call's own, from block B on. -/
def OwnInts (w : World) (B : Nat) (a : Option Addr) (n : Nat) (f : Nat → Int) : Prop := n = 0 ∨ ∃ b, B ≤ b ∧ a = some ⟨b, 0, none⟩ ∧ w.rowIs b 3 n (fun i => .int .i64 (f i))
theorem OwnInts.ints {w : World} {B : Nat} {a : Option Addr} {n : Nat} {f : Nat → Int} (h : OwnInts w B a n f) : Ints w a n f := fun i hi => by
  rcases h with h | ⟨b, _, ha, hr⟩
  · omega
  · exact ⟨b, 0, ha, by rw [Nat.zero_add]; exact hr.cell hi⟩
theorem OwnInts.below {w w' : World} {B : Nat} {a : Option Addr} {n : Nat} {f : Nat → Int} (h : OwnInts w B a n f) (hb : Below w.heap.size w w') : OwnInts w' B a n f := by
  rcases h with h | ⟨b, hB, ha, hr⟩
  · exact .inl h
  · exact .inr ⟨b, hB, ha, hr.of_block (hb.block b hr.lt)⟩
/-- Nothing but the block that a leads to has turned. -/
structure Only (a : Option Addr) (w w' : World) : Prop where
  os : w'.os = w.os
  tape : w'.tape = w.tape
  output : w'.output = w.output
  size : w'.heap.size = w.heap.size
  block : ∀ k, (∀ p, a = some p → p.block ≠ k) → w'.heap[k]? = w.heap[k]?
theorem Only.refl (a : Option Addr) (w : World) : Only a w w := ⟨rfl, rfl, rfl, rfl, fun _ _ => rfl⟩
theorem Only.toBelow {a : Option Addr} {w w' : World} (h : Only a w w') (B : Nat) (hB : ∀ p, a = some p → B ≤ p.block) : Below B w w' :=
  ⟨h.os, h.tape, h.output, by rw [h.size]; exact Nat.le_refl _, fun k hk => h.block k (fun p hp e => by have := hB p hp; omega)⟩
theorem Only.setCell {b : Nat} {w w' : World} (h : Only (some ⟨b, 0, none⟩) w w') (i : Nat) (v : Value) : Only (some ⟨b, 0, none⟩) w (w'.setCell ⟨b, i, none⟩ v) :=
  ⟨h.os, h.tape, h.output, by simpa using h.size, fun k hk => by rw [Below.heap_setCell w' ⟨b, i, none⟩ v k (fun e => hk ⟨b, 0, none⟩ rfl e.symm)]; exact h.block k hk⟩
theorem Ints.only {w w' : World} {a p : Option Addr} {n : Nat} {f : Nat → Int} (h : Ints w a n f) (ho : Only p w w') (hd : ∀ x y, a = some x → p = some y → y.block ≠ x.block) : Ints w' a n f := fun i hi => by
  obtain ⟨b, off, ha, hc⟩ := h i hi
  refine ⟨b, off, ha, ?_⟩
  rw [World.cell?_of_block (w := w) (ho.block b (fun y hy => hd _ y ha hy))]
  exact hc
theorem OwnInts.only {w w' : World} {B : Nat} {a p : Option Addr} {n : Nat} {f : Nat → Int} (h : OwnInts w B a n f) (ho : Only p w w') (hd : ∀ x y, a = some x → p = some y → y.block ≠ x.block) : OwnInts w' B a n f := by
  rcases h with h | ⟨b, hB, ha, hr⟩
  · exact .inl h
  · exact .inr ⟨b, hB, ha, hr.of_block (ho.block b (fun y hy => hd _ y ha hy))⟩

theorem Tryd.infoI : (Tryd.prog.info? 3).map (fun i => (i.zero, i.size, i.bytes)) = some (some (.int .i64 0), 1, 8) := by kernel_rfl
theorem mkInts (n : Nat) (hn : n ≤ 10000000) (w : World) : (Instr.makeSlice 72 (.int .i64 (n : Int)) (.int .i64 (n : Int))).run Tryd.prog w = .ok (.slice (some ⟨w.heap.size, 0, none⟩) n n) (w.alloc (.cells (madeCells #[.int .i64 0] n) 3)) :=
  run_make_row' 72 3 (.int .i64 0) 8 Tryd.underlying72 Tryd.infoI rfl .i64 .i64 n (by omega) (by omega) w
end Go.Proofs.YtbecnaabmlkjjabDoor

/-
  Contracts of the mixing of a column in the program (mix).
-/
namespace Go.Proofs.YtbecnaabmlkjjabDoor
open Go.ChangeShapes Go.WideShapes Go.ChangeAt Go.RowKit
namespace Gf
def mx (a b c d x y : Nat) : Nat := (((((a ^^^ b) ^^^ c) ^^^ d)) ^^^ x) ^^^ dbl (x ^^^ y)
theorem mx_lt {a b c d x y : Nat} (ha : a < 256) (hb : b < 256) (hc : c < 256) (hd : d < 256) (hx : x < 256) (hy : y < 256) : mx a b c d x y < 256 :=
  xor_lt (xor_lt (xor_lt (xor_lt (xor_lt ha hb) hc) hd) hx) (dbl_lt _ (xor_lt hx hy))
end Gf
set_option maxRecDepth 100000 in
set_option maxHeartbeats 2000000 in
theorem mix_any (a b c d : Nat) (ha : a < 256) (hb : b < 256) (hc : c < 256) (hd : d < 256) (w : World) :
    Calls Tryd.prog 95 #[.agg #[.int .u8 a, .int .u8 b, .int .u8 c, .int .u8 d]] w fun e w' =>
      e = .returned (.agg #[.int .u8 (Gf.mx a b c d a b : Nat), .int .u8 (Gf.mx a b c d b c : Nat), .int .u8 (Gf.mx a b c d c d : Nat), .int .u8 (Gf.mx a b c d d a : Nat)]) ∧ Below w.heap.size w w' := by
  have hx : ∀ x y : Nat, x < 256 → y < 256 → bits .xor .u8 (x : Int) (y : Int) = ((x ^^^ y : Nat) : Int) := u8_xor_nat
  have hl : ∀ x y : Nat, x < 256 → y < 256 → x ^^^ y < 256 := fun x y => Gf.xor_lt
  have l1 := Gf.xor_lt ha hb
  have l2 := Gf.xor_lt l1 hc
  have l3 := Gf.xor_lt l2 hd
  have m1 := Gf.xor_lt hb hc
  have m2 := Gf.xor_lt hc hd
  have m3 := Gf.xor_lt hd ha
  have d0 := Gf.dbl_lt _ l1
  have d1 := Gf.dbl_lt _ m1
  have d2 := Gf.dbl_lt _ m2
  have d3 := Gf.dbl_lt _ m3
  have i0 : ∀ w : World, (Instr.index 130 (.agg #[.int .u8 a, .int .u8 b, .int .u8 c, .int .u8 d]) (.int .i64 0)).run Tryd.prog w = .ok (.int .u8 a) w := fun w => run_index_flat (k := 0) Tryd.underlying130 Tryd.underlying5 rfl Tryd.sizeU8 (by omega) rfl w
  have i1 : ∀ w : World, (Instr.index 130 (.agg #[.int .u8 a, .int .u8 b, .int .u8 c, .int .u8 d]) (.int .i64 1)).run Tryd.prog w = .ok (.int .u8 b) w := fun w => run_index_flat (k := 1) Tryd.underlying130 Tryd.underlying5 rfl Tryd.sizeU8 (by omega) rfl w
  have i2 : ∀ w : World, (Instr.index 130 (.agg #[.int .u8 a, .int .u8 b, .int .u8 c, .int .u8 d]) (.int .i64 2)).run Tryd.prog w = .ok (.int .u8 c) w := fun w => run_index_flat (k := 2) Tryd.underlying130 Tryd.underlying5 rfl Tryd.sizeU8 (by omega) rfl w
  have i3 : ∀ w : World, (Instr.index 130 (.agg #[.int .u8 a, .int .u8 b, .int .u8 c, .int .u8 d]) (.int .i64 3)).run Tryd.prog w = .ok (.int .u8 d) w := fun w => run_index_flat (k := 3) Tryd.underlying130 Tryd.underlying5 rfl Tryd.sizeU8 (by omega) rfl w
  go_enter Tryd.func95, Tryd.ntmps95
  go_wp2
  refine wp_loop_rounds 5 ?_
  rw [rounds_succ]
  go_wp2_with (go_at_call 90; refine (double_any (a ^^^ b) l1 _).mono ?_; rintro e w' ⟨rfl, rfl⟩)
  rw [rounds_succ]
  go_wp2_with (go_at_call 90; refine (double_any (b ^^^ c) m1 _).mono ?_; rintro e w' ⟨rfl, rfl⟩)
  rw [rounds_succ]
  go_wp2_with (go_at_call 90; refine (double_any (c ^^^ d) m2 _).mono ?_; rintro e w' ⟨rfl, rfl⟩)
  rw [rounds_succ]
  go_wp2_with (go_at_call 90; refine (double_any (d ^^^ a) m3 _).mono ?_; rintro e w' ⟨rfl, rfl⟩)
  rw [rounds_succ]
  go_wp2
  exact bodyPost_ret (v := .agg #[.int .u8 (Gf.mx a b c d a b : Nat), .int .u8 (Gf.mx a b c d b c : Nat), .int .u8 (Gf.mx a b c d c d : Nat), .int .u8 (Gf.mx a b c d d a : Nat)]) (by simp [results, Tryd.results95, go_sem, Gf.mx]) rfl ⟨rfl, (((Below.refl _ _).alloc (Nat.le_refl _) _).alloc (by simp) _).alloc (by simp; omega) _⟩

/-- Is the number a byte? -/
def IsB (n : Int) : Prop := 0 ≤ n ∧ n ≤ 255
/-- What mixing a column of n numbers that read as f comes to: how many numbers, which, and the code. -/
def MixRes (n : Nat) (f : Nat → Int) (m : Nat) (g : Nat → Int) (code : Int) : Prop :=
  (4096 < n ∧ m = 0 ∧ code = 2) ∨ (n ≤ 4096 ∧ n ≠ 4 ∧ m = 0 ∧ code = 1) ∨ (n = 4 ∧ ¬ (IsB (f 0) ∧ IsB (f 1) ∧ IsB (f 2) ∧ IsB (f 3)) ∧ m = 0 ∧ code = 4) ∨
  (n = 4 ∧ (IsB (f 0) ∧ IsB (f 1) ∧ IsB (f 2) ∧ IsB (f 3)) ∧ m = 4 ∧ code = 0 ∧
    g 0 = (Gf.mx (f 0).toNat (f 1).toNat (f 2).toNat (f 3).toNat (f 0).toNat (f 1).toNat : Nat) ∧ g 1 = (Gf.mx (f 0).toNat (f 1).toNat (f 2).toNat (f 3).toNat (f 1).toNat (f 2).toNat : Nat) ∧
    g 2 = (Gf.mx (f 0).toNat (f 1).toNat (f 2).toNat (f 3).toNat (f 2).toNat (f 3).toNat : Nat) ∧ g 3 = (Gf.mx (f 0).toNat (f 1).toNat (f 2).toNat (f 3).toNat (f 3).toNat (f 0).toNat : Nat))
theorem MixRes.same {n m m' : Nat} {f g g' : Nat → Int} {code code' : Int} (h : MixRes n f m g code) (h' : MixRes n f m' g' code') : m = m' ∧ code = code' ∧ ∀ i, i < m → g i = g' i := by
  rcases h with ⟨a, rfl, rfl⟩ | ⟨a, b, rfl, rfl⟩ | ⟨rfl, b, rfl, rfl⟩ | ⟨rfl, b, rfl, rfl, e0, e1, e2, e3⟩ <;>
  rcases h' with ⟨a', rfl, rfl⟩ | ⟨a', b', rfl, rfl⟩ | ⟨a', b', rfl, rfl⟩ | ⟨a', b', rfl, rfl, e0', e1', e2', e3'⟩
  all_goals first
    | omega
    | exact absurd b b'
    | exact absurd b' b
    | exact ⟨rfl, rfl, fun i hi => absurd hi (by omega)⟩
    | (refine ⟨rfl, rfl, fun i hi => ?_⟩
       rcases (show i = 0 ∨ i = 1 ∨ i = 2 ∨ i = 3 by omega) with rfl | rfl | rfl | rfl
       · rw [e0, e0']
       · rw [e1, e1']
       · rw [e2, e2']
       · rw [e3, e3'])
theorem make4 (w : World) : (Instr.makeSlice 72 (.int .i64 4) (.int .i64 4)).run Tryd.prog w = .ok (.slice (some ⟨w.heap.size, 0, none⟩) 4 4) (w.alloc (.cells #[.int .i64 0, .int .i64 0, .int .i64 0, .int .i64 0] 3)) := by
  have e : madeCells #[Value.int .i64 0] 4 = #[.int .i64 0, .int .i64 0, .int .i64 0, .int .i64 0] := by kernel_rfl
  have h := mkInts 4 (by omega) w
  rw [e] at h
  exact h
/-- The mixed column, by the place. -/
def mixG (A B C D : Nat) : Nat → Int
  | 0 => (Gf.mx A B C D A B : Nat)
  | 1 => (Gf.mx A B C D B C : Nat)
  | 2 => (Gf.mx A B C D C D : Nat)
  | _ => (Gf.mx A B C D D A : Nat)
theorem four_rows {w : World} (x0 x1 x2 x3 : Value) (f : Nat → Value) (h0 : x0 = f 0) (h1 : x1 = f 1) (h2 : x2 = f 2) (h3 : x3 = f 3) (t : TypeId) : (w.alloc (.cells #[x0, x1, x2, x3] t)).rowIs w.heap.size t 4 f := by
  refine World.rowIs_alloc w #[x0, x1, x2, x3] t f (fun i hi => ?_)
  have hi' : i < 4 := hi
  rcases (show i = 0 ∨ i = 1 ∨ i = 2 ∨ i = 3 by omega) with rfl | rfl | rfl | rfl
  · simp [h0]
  · simp [h1]
  · simp [h2]
  · simp [h3]
theorem toNat_of {x : Int} {A : Nat} (h : x = A) : x.toNat = A := by rw [h]; rfl
theorem isB_nat {x : Int} (h : IsB x) : ∃ A : Nat, x = A ∧ A < 256 := ⟨x.toNat, by have := h.1; omega, by have := h.2; have := h.1; omega⟩
end Go.Proofs.YtbecnaabmlkjjabDoor

/-
  Plain mathematics of blocks: adding a key, substituting and turning, mixing; a block encrypted. No function of the program in sight.
-/
namespace Go.Proofs.YtbecnaabmlkjjabDoor
namespace Gf
def addK (s k : Nat → Nat) (j : Nat) : Nat := s j ^^^ k j
/-- Which byte comes to place j where rows are turned left. -/
def ord (j : Nat) : Nat := (j + 4 * (j % 4)) % 16
def subTurn (s : Nat → Nat) (j : Nat) : Nat := sub (s (ord j))
/-- Byte r of column o .. o + 3, mixed. -/
def mixAt (s : Nat → Nat) (o r : Nat) : Nat := mx (s o) (s (o + 1)) (s (o + 2)) (s (o + 3)) (s (o + r)) (s (o + (r + 1) % 4))
def mixS (s : Nat → Nat) (j : Nat) : Nat := mixAt s (j / 4 * 4) (j % 4)
/-- The i-th round key of 16 bytes. -/
def keyAt (K : Nat → Nat) (i j : Nat) : Nat := K (i * 16 + j)
def encTo (K : Nat → Nat) (s : Nat → Nat) : Nat → Nat → Nat
  | 0 => addK s (keyAt K 0)
  | i + 1 => addK (mixS (subTurn (encTo K s i))) (keyAt K (i + 1))
def enc (K : Nat → Nat) (R : Nat) (s : Nat → Nat) : Nat → Nat := addK (subTurn (encTo K s (R - 1))) (keyAt K R)
theorem ord_lt (j : Nat) : ord j < 16 := Nat.mod_lt _ (by omega)
theorem addK_lt {s k : Nat → Nat} {j : Nat} (hs : s j < 256) (hk : k j < 256) : addK s k j < 256 := xor_lt hs hk
theorem subTurn_lt {s : Nat → Nat} (hs : ∀ j, j < 16 → s j < 256) (j : Nat) : subTurn s j < 256 := sub_lt _ (hs _ (ord_lt j))
theorem mixAt_lt {s : Nat → Nat} {o r : Nat} (hs : ∀ j, j < 16 → s j < 256) (ho : o + 4 ≤ 16) (hr : r < 4) : mixAt s o r < 256 :=
  mx_lt (hs _ (by omega)) (hs _ (by omega)) (hs _ (by omega)) (hs _ (by omega)) (hs _ (by omega)) (hs _ (by have := Nat.mod_lt (r + 1) (show 0 < 4 by omega); omega))
theorem mixS_lt {s : Nat → Nat} (hs : ∀ j, j < 16 → s j < 256) (j : Nat) (hj : j < 16) : mixS s j < 256 := mixAt_lt hs (by omega) (Nat.mod_lt _ (by omega))
theorem encTo_lt {K s : Nat → Nat} (hK : ∀ j, K j < 256) (hs : ∀ j, j < 16 → s j < 256) : ∀ i j, j < 16 → encTo K s i j < 256 := by
  intro i
  induction i with
  | zero => intro j hj; exact addK_lt (hs j hj) (hK _)
  | succ i ih => intro j hj; exact addK_lt (mixS_lt (fun j _ => subTurn_lt ih j) j hj) (hK _)
theorem enc_lt {K s : Nat → Nat} {R : Nat} (hK : ∀ j, K j < 256) (hs : ∀ j, j < 16 → s j < 256) (j : Nat) : enc K R s j < 256 := addK_lt (subTurn_lt (encTo_lt hK hs _) j) (hK _)
end Gf
end Go.Proofs.YtbecnaabmlkjjabDoor
