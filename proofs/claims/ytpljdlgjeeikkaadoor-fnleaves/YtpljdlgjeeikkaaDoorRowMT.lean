/-
  Rows of bytes with room: a text appended; texts hashed.
-/
import Derived.Test.YtpljdlgjeeikkaaDoorRowM
import Derived.Test.YtpljdlgjeeikkaaDoorHashed
import Derived.Lib.AppendStr
namespace Go.Proofs.YtpljdlgjeeikkaaDoor
open Go.ChangeShapes Go.WideShapes Go.ChangeAt Go.RowKit
set_option linter.unusedVariables false
theorem bv_textR (s : ByteArray) (n : Nat) (h : s.size = n) : bv n (strB s) = s.data.toList.map (fun b => .int .u8 b.toNat) := by
  apply List.ext_getElem
  · rw [bv_length]; simp [h]
  · intro i h1 h2
    have hi : i < n := by rwa [bv_length] at h1
    have hi' : i < s.size := by omega
    have e := bv_at (n := n) (f := strB s) hi
    rw [List.getElem?_eq_getElem h1] at e
    rw [Option.some.inj e, List.getElem_map, ← ba_get s i hi']
    simp [strB, hi']
theorem strCells_bv (s : ByteArray) : Lib.strCells s = bv s.size (strB s) := (bv_textR s s.size rfl).symm
theorem run_append_room_textM (w : World) (ty : TypeId) (i : TypeInfo) (hi : Tryd.prog.info? 5 = some i) (h3 : i.size = 1) (b sLen sCap : Nat) (s : ByteArray) (hroom : sLen + s.size ≤ sCap)
    (hc : ∀ j, j < (Lib.strCells s).length → (w.cell? ⟨b, sLen + j, none⟩).isSome = true) (hf : ∀ j, j < (Lib.strCells s).length → w.frozen? ⟨b, sLen + j, none⟩ = false) :
    (Builtin.append_ #[22, 9] ty #[.slice (some ⟨b, 0, none⟩) sLen sCap, .string s]).run Tryd.prog w = .ok (.slice (some ⟨b, 0, none⟩) (sLen + s.size) sCap) (w.setCells b sLen (Lib.strCells s)) := by
  have hfc := Lib.run_firstCells_string (P := Tryd.prog) w 1 s
  have hst := run_storeCells_cells (P := Tryd.prog) b sLen (Lib.strCells s) 0 w (by simpa using hc) (by simpa using hf) (Lib.strCells_oneCell s)
  simp only [Nat.add_zero] at hst
  simp [Builtin.append_, run_underlying Tryd.underlying22, run_underlying Tryd.underlying9, sizeOf, typeInfo, hi, h3, Builtin.lenOf, hroom, hfc, Addr.add_lit, hst]
/-- append of a text to such a row. -/
theorem appendMT (w : World) (B g n cap : Nat) (F : Nat → Nat) (s : ByteArray) (hB : B ≤ g) (hBw : B ≤ w.heap.size) (hnm : n + s.size ≤ 2000000) (h : RowM w g n cap F) (ty : TypeId) :
    ∃ g' cap' w', (Builtin.append_ #[22, 9] ty #[.slice (some ⟨g, 0, none⟩) n cap, .string s]).run Tryd.prog w = .ok (.slice (some ⟨g', 0, none⟩) (n + s.size) cap') w' ∧ RowM w' g' (n + s.size) cap' (Sha.cat n F (strB s)) ∧ Below B w w' ∧ B ≤ g' := by
  obtain ⟨i0, h1, h2, h3, h4⟩ := info_parts Tryd.info8
  by_cases hroom : n + s.size ≤ cap
  · have hth : w.there g 0 cap := fun j hj => by rw [Nat.zero_add]; exact h.2.2.1 j hj
    have hth2 := World.there_setCells hth g n (bv s.size (strB s))
    have hin : (w.setCells g n (bv s.size (strB s))).rangeAt g n (bv s.size (strB s)) := World.rangeAt_setCells_same w g n (bv s.size (strB s)) (fun j hj => by rw [bv_length] at hj; exact h.2.2.1 (n + j) (by omega))
    refine ⟨g, cap, w.setCells g n (bv s.size (strB s)), ?_, ⟨hroom, fun i hi => ?_, fun i hi => by have := hth2 i hi; rwa [Nat.zero_add] at this, Nat.lt_of_lt_of_le h.2.2.2 (below_setCells hB (bv s.size (strB s)) n w (Below.refl B w)).size⟩, below_setCells hB _ _ _ (Below.refl _ _), hB⟩
    · rw [← strCells_bv]
      exact run_append_room_textM w ty i0 h1 h3 g n cap s hroom (fun j hj => by rw [Lib.strCells_length] at hj; exact (h.2.2.1 (n + j) (by omega)).1) (fun j hj => by rw [Lib.strCells_length] at hj; exact (h.2.2.1 (n + j) (by omega)).2)
    · unfold Sha.cat
      by_cases hin2 : i < n
      · rw [if_pos hin2, World.cell?_setCells_out g (bv s.size (strB s)) n w ⟨g, i, none⟩ (fun _ _ => .inl hin2)]
        exact h.2.1 i hin2
      · rw [if_neg hin2]
        have := hin (i - n) _ (bv_at (f := strB s) (show i - n < s.size by omega))
        rwa [show n + (i - n) = i from by omega] at this
  · have hlt : cap < n + s.size := by omega
    have hrun := Lib.run_append_grow_string (P := Tryd.prog) w 22 9 ty 5 i0 (.int .u8 0) Tryd.underlying22 Tryd.underlying9 h1 h2 ⟨g, 0, none⟩ n cap (bv n F) (by rw [bv_length, h3, Nat.mul_one]) (bv_news h.code) s hlt (by omega) (growslice_fits hlt (by rw [h4]; omega))
    have hge := grownCap_ge w (n + s.size) cap 5
    obtain ⟨gc, hgc⟩ : ∃ gc, gc = grownCap w (n + s.size) cap 5 := ⟨_, rfl⟩
    rw [← hgc] at hrun hge
    obtain ⟨cs, hcs⟩ : ∃ cs, cs = (bv n F).toArray ++ (Lib.strCells s).toArray ++ Builtin.zeroCells (Value.int .u8 0).cells (gc - (n + s.size)) := ⟨_, rfl⟩
    rw [← hcs] at hrun
    have hzl : (Builtin.zeroCells (Value.int .u8 0).cells (gc - (n + s.size))).size = gc - (n + s.size) := by simp [Builtin.zeroCells, Value.cells]
    have hsz : cs.size = gc := by rw [hcs, Array.size_append, Array.size_append, hzl, List.size_toArray, List.size_toArray, bv_length, Lib.strCells_length]; omega
    have hh : (w.drew.alloc (.cells cs 5)).heap[w.heap.size]? = some (.cells cs 5 (0, 0)) := heap_alloc_new w.drew _
    have hat : ∀ i, i < n + s.size → cs[i]? = some (.int .u8 ((Sha.cat n F (strB s) i : Nat) : Int)) := fun i hi => by
      have e : cs.toList = bv (n + s.size) (Sha.cat n F (strB s)) ++ (Builtin.zeroCells (Value.int .u8 0).cells (gc - (n + s.size))).toList := by
        rw [hcs, strCells_bv, Array.toList_append, Array.toList_append]
        show bv n F ++ bv s.size (strB s) ++ _ = _
        rw [bv_append]
        rfl
      rw [← Array.getElem?_toList, e, List.getElem?_append_left (by rw [bv_length]; exact hi)]
      exact bv_at hi
    refine ⟨w.heap.size, gc, _, hrun, ⟨hge, fun i hi => ?_, fun i hi => ⟨?_, ?_⟩, ?_⟩, ((Below.refl B w).drew).alloc hBw _, hBw⟩
    · simp only [World.cell?, hh]
      simpa using hat i hi
    · simp only [World.cell?, hh]
      simp [hsz, hi]
    · simp only [World.frozen?, hh]
      simp
    · show w.heap.size < (w.drew.alloc _).heap.size
      simp
/-- The hash of a text. -/
def hashT (s : ByteArray) : ByteArray := hashS s.size (strB s)
theorem hashT_size (s : ByteArray) : (hashT s).size = 32 := hashS_size _ _
end Go.Proofs.YtpljdlgjeeikkaaDoor
