/-
  The contract of impl.stateOf: a text of sixteen bytes as a state.
-/
import Derived.Test.YtbhlgcenfanicaaAdded
import Derived.Test.YtbhlgcenfanicaaKMath
import Derived.Laws.IdiomCopy
import Derived.Deep.Cut
namespace Go.Proofs.Ytbhlgcenfanicaa
open Go.ChangeShapes Go.WideShapes Go.ChangeAt Go.RowKit
theorem run_copy_text {P : Program} (w : World) (dT sT ty elem : TypeId) (b o dLen dCap : Nat) (s : ByteArray) (cs : List Value)
    (hu : P.underlying dT = some (.slice elem)) (hs : (P.info? elem).map (·.size) = some 1) (hn : s.size = dLen) (hcs : cs = s.data.toList.map (fun b => .int .u8 b.toNat))
    (hc : ∀ j, j < cs.length → (w.cell? ⟨b, o + j, none⟩).isSome = true) (hf : ∀ j, j < cs.length → w.frozen? ⟨b, o + j, none⟩ = false) :
    (Builtin.copy_ #[dT, sT] ty #[.slice (some ⟨b, o, none⟩) dLen dCap, .string s]).run P w = .ok (goInt cs.length) (w.setCells b o cs) := by
  have h1 : ∀ v ∈ cs, v.oneCell' = true := fun v hv => by
    rw [hcs] at hv
    obtain ⟨x, _, rfl⟩ := List.mem_map.1 hv
    rfl
  have hst := run_storeCells_cells (P := P) b o cs 0 w (by simpa using hc) (by simpa using hf) h1
  cases hq : P.info? elem with
  | none => simp [hq] at hs
  | some i =>
    have hi : i.size = 1 := by simpa [hq] using hs
    have hl : s.data.toList.length = s.size := by simp
    have hcl : cs.length = dLen := by rw [hcs, List.length_map, hl, hn]
    simp [Builtin.copy_, run_underlying hu, Builtin.lenOf, Builtin.firstCells, sizeOf, typeInfo, hq, hn]
    rw [← hcs, List.take_of_length_le (by omega), hst, hcl]
    rfl
theorem bv_text (s : ByteArray) (n : Nat) (h : s.size = n) : bv n (strB s) = s.data.toList.map (fun b => .int .u8 b.toNat) := by
  apply List.ext_getElem
  · rw [bv_length]; simp [h]
  · intro i h1 h2
    have hi : i < n := by rwa [bv_length] at h1
    have hi' : i < s.size := by omega
    have e := bv_at (n := n) (f := strB s) hi
    rw [List.getElem?_eq_getElem h1] at e
    rw [Option.some.inj e, List.getElem_map, ← ba_get s i hi']
    simp [strB, hi']
set_option maxRecDepth 100000 in
set_option maxHeartbeats 1000000 in
theorem stateOf_any (s : ByteArray) (hs : s.size = 16) (w : World) :
    Calls Try.prog 33 #[.string s] w fun e w' => e = .returned (.agg (bA 16 (strB s))) ∧ Below w.heap.size w w' := by
  have Z2 : Hid (Row8 ((w.alloc (.cells z16 39)).alloc (.cells z16 39)) (w.heap.size + 1) 39 16 (fun _ => 0)) := Row8.z16At (by simp) _
  have Z1 : Hid (Row8 ((w.alloc (.cells z16 39)).alloc (.cells z16 39)) w.heap.size 39 16 (fun _ => 0)) := (Row8.z16At rfl _).alloc _
  have B3 : Hid (Below w.heap.size w ((w.alloc (.cells z16 39)).alloc (.cells z16 39))) := ((Below.refl _ _).alloc (Nat.le_refl _) _).alloc (by simp) _
  have sz : (Try.prog.info? 5).map (·.size) = some 1 := by kernel_rfl
  have SZ : Hid ((Try.prog.info? 5).map (·.size) = some 1) := sz
  clear sz
  unfold z16 at Z2 Z1 B3
  go_enter Try.func33, Try.ntmps33
  go_upto_region 2 with fail
  generalize (w.alloc (.cells #[.int .u8 0, .int .u8 0, .int .u8 0, .int .u8 0, .int .u8 0, .int .u8 0, .int .u8 0, .int .u8 0, .int .u8 0, .int .u8 0, .int .u8 0, .int .u8 0, .int .u8 0, .int .u8 0, .int .u8 0, .int .u8 0] 39)).alloc (.cells #[.int .u8 0, .int .u8 0, .int .u8 0, .int .u8 0, .int .u8 0, .int .u8 0, .int .u8 0, .int .u8 0, .int .u8 0, .int .u8 0, .int .u8 0, .int .u8 0, .int .u8 0, .int .u8 0, .int .u8 0, .int .u8 0] 39) = wz at *
  have CP : ∀ ty c, (Builtin.copy_ #[22, 9] ty #[.slice (some ⟨w.heap.size + 1, 0, none⟩) 16 c, .string s]).run Try.prog wz = .ok (goInt 16) (wz.setCells (w.heap.size + 1) 0 (bv 16 (strB s))) := fun ty c => by
    have h := run_copy_text (P := Try.prog) wz 22 9 ty 5 (w.heap.size + 1) 0 16 c s (bv 16 (strB s)) Try.underlying22 SZ.out hs (bv_text s 16 hs) (fun j hj => by rw [bv_length] at hj; exact (Z2.out.there j hj).1) (fun j hj => by rw [bv_length] at hj; exact (Z2.out.there j hj).2)
    rw [bv_length] at h
    exact h
  have R2 : Hid (Row8 (wz.setCells (w.heap.size + 1) 0 (bv 16 (strB s))) (w.heap.size + 1) 39 16 (strB s)) := Z2.out.stored _
  have R1 : Hid (Row8 (wz.setCells (w.heap.size + 1) 0 (bv 16 (strB s))) w.heap.size 39 16 (fun _ => 0)) := Z1.out.storedOther (by omega) _ _
  have B4 : Hid (Below w.heap.size w (wz.setCells (w.heap.size + 1) 0 (bv 16 (strB s)))) := below_setCells (by omega) _ _ _ B3.out
  generalize wz.setCells (w.heap.size + 1) 0 (bv 16 (strB s)) = wy at *
  clear Z1 Z2 B3
  go_upto_region 3 with fail
  clear CP
  generalize hG : strB s = G at *
  have HG : Hid (strB s = G) := hG
  clear hG
  refine wp_region_lit ?_
  refine wpList_load_mid rfl 39 (.tmp 3) rfl (w.heap.size + 1) 0 rfl (bv 16 G) _ R2.out.range Try.underlying39 rfl (by rw [bv_length]; exact Try.sizeSt) ?_
  refine wpList_store_mid rfl 39 (.tmp 2) (.tmp 7) rfl w.heap.size 0 (bA 16 G) rfl rfl (by rw [bA_size]; exact R1.out.there) (by rw [bA_size]; exact Try.sizeSt) (bA_one _ _) ?_
  rw [bA_toList]
  have L : Hid ((loadVar 39 ⟨w.heap.size, 0, none⟩).run Try.prog (wy.setCells (w.heap.size) 0 (bv 16 G)) = .ok (.agg (bA 16 G)) (wy.setCells (w.heap.size) 0 (bv 16 G))) := (R1.out.stored _).load Try.underlying39 rfl Try.sizeSt
  have B : Hid (Below w.heap.size w (wy.setCells (w.heap.size) 0 (bv 16 G))) := below_setCells (Nat.le_refl _) _ _ _ B4.out
  have eA : (bv 16 G).toArray = bA 16 G := rfl
  rw [eA]
  generalize wy.setCells (w.heap.size) 0 (bv 16 G) = wf at *
  generalize hA : bA 16 G = AA at *
  have HA : Hid (bA 16 G = AA) := hA
  clear hA eA
  go_wp2
  rw [HG.out, HA.out]
  exact bodyPost_ret (v := .agg AA) (results_cell_one (b := w.heap.size) (o := 0) Try.results33 _ _ _ rfl L.out) rfl ⟨rfl, B.out⟩
end Go.Proofs.Ytbhlgcenfanicaa
