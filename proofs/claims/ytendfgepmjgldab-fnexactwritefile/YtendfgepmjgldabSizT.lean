/-
  Rows of bytes with room: a text copied into one, zeros appended; the program's sized.
-/
import Derived.Test.YtendfgepmjgldabRowM
import Derived.Test.YtendfgepmjgldabZeros
import Derived.Shelf.Spec.SlicesInsert
namespace Go.Proofs.Ytendfgepmjgldab
open Go.ChangeShapes Go.WideShapes Go.ChangeAt Go.RowKit Go.Shelf
set_option linter.unusedVariables false
theorem bv_textZ (s : ByteArray) (n : Nat) (h : s.size = n) : bv n (strB s) = s.data.toList.map (fun b => .int .u8 b.toNat) := by
  apply List.ext_getElem
  · rw [bv_length]; simp [h]
  · intro i h1 h2
    have hi : i < n := by rwa [bv_length] at h1
    have hi' : i < s.size := by omega
    have e := bv_at (n := n) (f := strB s) hi
    rw [List.getElem?_eq_getElem h1] at e
    rw [Option.some.inj e, List.getElem_map, ← ba_get s i hi']
    simp [strB, hi']
theorem textTake (s : ByteArray) (m : Nat) (h : m ≤ s.size) : (s.data.toList.map (fun b : UInt8 => Value.int .u8 (b.toNat : Int))).take m = bv m (strB s) := by
  rw [← bv_textZ s s.size rfl]
  unfold bv
  rw [← List.map_take, List.take_range, Nat.min_eq_left h]
theorem RowM.made (w : World) (k : Nat) : RowM (w.alloc (.cells (madeCells #[.int .u8 0] k) 5)) w.heap.size k k (fun _ => 0) := by
  have r := World.rowIs_made w (.int .u8 0) k 5
  exact ⟨Nat.le_refl _, fun i hi => r.cell hi, fun i hi => ⟨by rw [r.cell hi]; rfl, r.frozen i⟩, by simp⟩
/-- A text laid over a row. -/
def pasteF (F : Nat → Nat) (o : Nat) (s : ByteArray) (m i : Nat) : Nat := if o ≤ i ∧ i < o + m then strB s (i - o) else F i
theorem copyM (w : World) (B g n cap o dl dc m : Nat) (F : Nat → Nat) (s : ByteArray) (hB : B ≤ g) (ho : o + dl ≤ n) (hm : m = Nat.min s.size dl) (h : RowM w g n cap F) :
    ∃ (x : Int) (w' : World), (∀ ty, (Builtin.copy_ #[58, 9] ty #[.slice (some ⟨g, o, none⟩) dl dc, .string s]).run Try.prog w = .ok (.int .i64 x) w') ∧ RowM w' g n cap (pasteF F o s m) ∧ Below B w w' := by
  obtain ⟨i0, h1, h2, h3, h4⟩ := info_parts Try.info8
  have hm1 : m ≤ s.size := by rw [hm]; exact Nat.min_le_left _ _
  have hm2 : m ≤ dl := by rw [hm]; exact Nat.min_le_right _ _
  have hnc := h.1
  have hth : w.there g 0 cap := fun j hj => by rw [Nat.zero_add]; exact h.2.2.1 j hj
  have hth2 := World.there_setCells hth g o (bv m (strB s))
  have hin : (w.setCells g o (bv m (strB s))).rangeAt g o (bv m (strB s)) := World.rangeAt_setCells_same w g o (bv m (strB s)) (fun j hj => by rw [bv_length] at hj; exact h.2.2.1 (o + j) (by omega))
  have hst := run_storeCells_cells (P := Try.prog) g o (bv m (strB s)) 0 w (fun j hj => by rw [bv_length] at hj; exact (h.2.2.1 (o + 0 + j) (by omega)).1) (fun j hj => by rw [bv_length] at hj; exact (h.2.2.1 (o + 0 + j) (by omega)).2) (bv_one _ _)
  rw [Nat.add_zero] at hst
  have htk := textTake s m hm1
  refine ⟨(m : Int), w.setCells g o (bv m (strB s)), fun ty => ?_, ⟨hnc, fun i hi => ?_, fun i hi => by have := hth2 i hi; rwa [Nat.zero_add] at this, Nat.lt_of_lt_of_le h.2.2.2 (below_setCells hB (bv m (strB s)) o w (Below.refl B w)).size⟩, below_setCells hB _ _ _ (Below.refl _ _)⟩
  · simp [Builtin.copy_, run_underlying Try.underlying58, Builtin.lenOf, Builtin.firstCells, sizeOf, typeInfo, h1, ← hm]
    rw [htk, hst]
    simp [Result.andThen, goInt]
  · unfold pasteF
    by_cases hin2 : o ≤ i ∧ i < o + m
    · rw [if_pos hin2]
      have := hin (i - o) _ (bv_at (f := strB s) (show i - o < m by omega))
      rwa [show o + (i - o) = i from by omega] at this
    · rw [if_neg hin2, World.cell?_setCells_out g (bv m (strB s)) o w ⟨g, i, none⟩ (fun _ _ => by
        rw [bv_length]
        show i < o ∨ o + m ≤ i
        omega)]
      exact h.2.1 i hi
/-- zeros appended. -/
theorem appendMZ (w : World) (B g n cap : Nat) (F : Nat → Nat) (k : Nat) (hB : B ≤ g) (hBw : B ≤ w.heap.size) (hn : n ≤ 1000) (hk : k ≤ 1000) (h : RowM w g n cap F) (hF : ∀ i, n ≤ i → F i = 0) (ty : TypeId) :
    ∃ g' cap' w', (Builtin.append_ #[58, 3] ty #[.slice (some ⟨g, 0, none⟩) n cap, .int .i64 (k : Int)]).run Try.prog w = .ok (.slice (some ⟨g', 0, none⟩) (n + k) cap') w' ∧ RowM w' g' (n + k) cap' F ∧ Below B w w' ∧ B ≤ g' := by
  obtain ⟨i0, h1, h2, h3, h4⟩ := info_parts Try.info8
  have hw : IntKind.i64.wrap (k : Int) = k := by rw [IntKind.wrap_i64]; omega
  have hneg : ¬ ((k : Int) < 0) := by omega
  have h48i : ¬ (281474976710656 < (k : Int)) := by omega
  by_cases hroom : n + k ≤ cap
  · have hth : w.there g 0 cap := fun j hj => by rw [Nat.zero_add]; exact h.2.2.1 j hj
    have hth2 := World.there_setCells hth g n (bv k (fun _ => 0))
    have hin : (w.setCells g n (bv k (fun _ => 0))).rangeAt g n (bv k (fun _ => 0)) := World.rangeAt_setCells_same w g n (bv k (fun _ => 0)) (fun j hj => by rw [bv_length] at hj; exact h.2.2.1 (n + j) (by omega))
    have hst := run_storeCells_cells (P := Try.prog) g n (bv k (fun _ => 0)) 0 w (fun j hj => by rw [bv_length] at hj; exact (h.2.2.1 (n + 0 + j) (by omega)).1) (fun j hj => by rw [bv_length] at hj; exact (h.2.2.1 (n + 0 + j) (by omega)).2) (bv_one _ _)
    rw [Nat.add_zero] at hst
    refine ⟨g, cap, w.setCells g n (bv k (fun _ => 0)), ?_, ⟨hroom, fun i hi => ?_, fun i hi => by have := hth2 i hi; rwa [Nat.zero_add] at this, Nat.lt_of_lt_of_le h.2.2.2 (below_setCells hB (bv k (fun _ => 0)) n w (Below.refl B w)).size⟩, below_setCells hB _ _ _ (Below.refl _ _), hB⟩
    · rcases Nat.eq_zero_or_pos k with rfl | hpos
      · have hw0 : IntKind.i64.wrap 0 = 0 := rfl
        have hnc := h.1
        have e0 : w.setCells g n (bv 0 (fun _ => 0)) = w := rfl
        rw [e0]
        simp [Builtin.append_, run_underlying Try.underlying58, run_underlying Try.underlying3, sizeOf, typeInfo, h1, asInt, asIntOf, storeCells, hnc, hw0]
      · have hk0 : k ≠ 0 := by omega
        simp [Builtin.append_, run_underlying Try.underlying58, run_underlying Try.underlying3, sizeOf, typeInfo, zeroValue, h1, h2, h3, h4, asInt, asIntOf, hw, hneg, h48i, hk0, hroom, zeroCells_bv, Addr.add_lit, hst]
    · by_cases hin2 : i < n
      · rw [World.cell?_setCells_out g (bv k (fun _ => 0)) n w ⟨g, i, none⟩ (fun _ _ => .inl hin2)]
        exact h.2.1 i hin2
      · rw [hF i (by omega)]
        have := hin (i - n) _ (bv_at (f := fun _ => 0) (show i - n < k by omega))
        rwa [show n + (i - n) = i from by omega] at this
  · have hold : (Builtin.firstCells i0.size n (.slice (some ⟨g, 0, none⟩) n cap)).run Try.prog w.drew = .ok (bv n F).toArray w.drew := run_firstCells_some w.drew i0.size n ⟨g, 0, none⟩ n cap (bv n F) (by rw [h3, bv_length, Nat.mul_one]) (fun j v hj => bv_news h.code j v hj)
    have hlt : cap < n + k := by omega
    have hnc := h.1
    have hrun := Lib.run_append_grow_zeros (P := Try.prog) w 58 3 ty 5 i0 (.int .u8 0) .i64 .i64 Try.underlying58 Try.underlying3 h1 h2 (some ⟨g, 0, none⟩) n cap (bv n F) hold k (by omega) (by omega) (by omega) (by omega) (by rw [h4]; omega) (by rw [h4]; exact growslice_fits (by omega) (by omega))
    have hge := grownCap_ge w (n + k) cap 5
    obtain ⟨gc, hgc⟩ : ∃ gc, gc = grownCap w (n + k) cap 5 := ⟨_, rfl⟩
    rw [← hgc] at hrun hge
    obtain ⟨cs, hcs⟩ : ∃ cs, cs = (bv n F).toArray ++ Builtin.zeroCells (Value.int .u8 0).cells k ++ Builtin.zeroCells (Value.int .u8 0).cells (gc - (n + k)) := ⟨_, rfl⟩
    rw [← hcs] at hrun
    have hzl : ∀ q, (Builtin.zeroCells (Value.int .u8 0).cells q).size = q := fun q => by simp [Builtin.zeroCells, Value.cells]
    have hsz : cs.size = gc := by rw [hcs, Array.size_append, Array.size_append, hzl, hzl, List.size_toArray, bv_length]; omega
    have hh : (w.drew.alloc (.cells cs 5)).heap[w.heap.size]? = some (.cells cs 5 (0, 0)) := heap_alloc_new w.drew _
    have hat : ∀ i, i < n + k → cs[i]? = some (.int .u8 ((F i : Nat) : Int)) := fun i hi => by
      have e : cs.toList = bv (n + k) (fun i => if i < n then F i else 0) ++ (Builtin.zeroCells (Value.int .u8 0).cells (gc - (n + k))).toList := by
        rw [hcs, zeroCells_bv k, Array.toList_append, Array.toList_append]
        show bv n F ++ bv k (fun _ => 0) ++ _ = _
        rw [bv_append]
      rw [← Array.getElem?_toList, e, List.getElem?_append_left (by rw [bv_length]; exact hi), bv_at hi]
      by_cases q : i < n
      · simp only [if_pos q]
      · simp only [if_neg q, hF i (by omega)]
    refine ⟨w.heap.size, gc, _, hrun, ⟨hge, fun i hi => ?_, fun i hi => ⟨?_, ?_⟩, ?_⟩, ((Below.refl B w).drew).alloc hBw _, hBw⟩
    · simp only [World.cell?, hh]
      simpa using hat i hi
    · simp only [World.cell?, hh]
      simp [hsz, hi]
    · simp only [World.frozen?, hh]
      simp
    · show w.heap.size < (w.drew.alloc _).heap.size
      simp
theorem strB_out (s : ByteArray) (i : Nat) (h : s.size ≤ i) : strB s i = 0 := by
  unfold strB
  rw [dif_neg (by omega)]
theorem paste_zero (s : ByteArray) (k m : Nat) (hm : m = Nat.min s.size k) : ∀ i, i < k → pasteF (fun _ => 0) 0 s m i = strB s i := fun i hi => by
  unfold pasteF
  by_cases q : 0 ≤ i ∧ i < 0 + m
  · rw [if_pos q]; rfl
  · rw [if_neg q, strB_out]
    rcases Nat.le_total s.size k with z | z
    · have : m = s.size := by rw [hm]; exact Nat.min_eq_left z
      omega
    · have : m = k := by rw [hm]; exact Nat.min_eq_right z
      omega
/-- A row of bytes of the call's own. -/
def RetZ (B : Nat) (w' : World) (e : Ending) (k : Nat) (f : Nat → Nat) : Prop := ∃ g, e = .returned (.slice (some ⟨g, 0, none⟩) k k) ∧ B ≤ g ∧ RowM w' g k k f
set_option maxRecDepth 100000 in
theorem sized_any (s : ByteArray) (k : Nat) (hk : k ≤ 100000) (w : World) :
    Calls Try.prog 46 #[.string s, .int .i64 (k : Int)] w fun e w' => RetZ w.heap.size w' e k (strB s) ∧ Below w.heap.size w w' := by
  have m1 := mkBytes k (by omega)
  obtain ⟨m, hm⟩ : ∃ m, m = Nat.min s.size k := ⟨_, rfl⟩
  obtain ⟨v1, hv1⟩ : ∃ v, v = w.alloc (.cells (madeCells #[.int .u8 0] k) 5) := ⟨_, rfl⟩
  have B1 : Below w.heap.size w v1 := by rw [hv1]; exact (Below.refl _ _).alloc (Nat.le_refl _) _
  obtain ⟨x, v2, hr, hR, hb⟩ := copyM v1 w.heap.size w.heap.size k k 0 k k m (fun _ => 0) s (Nat.le_refl _) (by omega) hm (by rw [hv1]; exact RowM.made w k)
  have HR : Hid (RowM v2 w.heap.size k k (strB s)) := hR.congr (paste_zero s k m hm)
  have HB : Hid (Below w.heap.size w v2) := B1.trans hb
  subst hv1
  clear hm B1 hR hb
  go_enter Try.func46, Try.ntmps46
  go_wp2_with (at_builtin; refine wpList_copy_runI _ rfl (.tmp 8) (.tmp 9) 58 9 rfl (.slice (some ⟨w.heap.size, 0, none⟩) k k) (.string s) rfl rfl (hr _) ?_)
  go_ret
  exact ⟨⟨_, rfl, Nat.le_refl _, HR.out⟩, HB.out⟩
end Go.Proofs.Ytendfgepmjgldab
