/-
  strings.Builder at this program: WriteString and String.
-/
import Derived.Test.YtgcdoabcopihlaaGreatStrS
import Derived.Shelf.Strings.BuilderK
import Derived.Test.YtgcdoabcopihlaaGreatE09
import Derived.Shelf.Strings.Builder2
namespace Go.Proofs.YtgcdoabcopihlaaGreat
open Go.ChangeShapes Go.WideShapes Go.ChangeAt Go.RowKit Go.Shelf
set_option linter.unusedVariables false
/-- A builder in block b that holds bs. -/
def Bld (B b : Nat) (bs : List Value) (w : World) : Prop := Lib.IsBuilderF 113 5 B b bs w
def bldRen : Go.Shelf.Ren := ⟨fun | 169 => 94 | n => n, fun | 70 => 111 | 9 => 9 | 0 => 0 | 72 => 113 | 37 => 22 | 127 => 133 | 3 => 3 | 5 => 5 | n => n, fun | n => n⟩
theorem bldLays : Go.Proofs.Lays.n169 Tryz.prog bldRen := {
  mixed := by kernel_rfl
  f169 := Tryz.func94.trans (congrArg some (by kernel_rfl))
  t0 := Tryz.underlying0
  a0 := Tryz.isAgg0
  z0 := Tryz.sizeOf0
  v0 := Tryz.zeroValue0
  t3 := Tryz.underlying3
  a3 := Tryz.isAgg3
  z3 := Tryz.sizeOf3
  v3 := Tryz.zeroValue3
  t9 := Tryz.underlying9
  a9 := Tryz.isAgg9
  z9 := Tryz.sizeOf9
  v9 := Tryz.zeroValue9
  t37 := Tryz.underlying22
  a37 := Tryz.isAgg22
  z37 := Tryz.sizeOf22
  v37 := Tryz.zeroValue22
  t70 := Tryz.underlying111
  a70 := Tryz.isAgg111
  z70 := Tryz.sizeOf111
  v70 := Tryz.zeroValue111
  t72 := Tryz.underlying113
  a72 := Tryz.isAgg113
  z72 := Tryz.sizeOf113
  v72 := Tryz.zeroValue113
  t127 := Tryz.underlying133
  a127 := Tryz.isAgg133
  z127 := Tryz.sizeOf133
  v127 := Tryz.zeroValue133 }
theorem bldExtra : Builder.Extra Tryz.prog bldRen := {
  sizeBuilder := by kernel_rfl
  liesBuilder := by kernel_rfl
  t5 := Tryz.underlying5
  a5 := Tryz.isAgg5
  z5 := Tryz.sizeOf5
  v5 := Tryz.zeroValue5
  infoByte := by kernel_rfl
  cellsByte := by kernel_rfl
  sizeByte := by kernel_rfl
  neB5 := by decide }
set_option maxRecDepth 100000 in
set_option maxHeartbeats 1000000 in
theorem copyFresh (b : Nat) (w : World) (h0 : w.cell? ⟨b, 0, none⟩ = some (.pointer none)) (hsh : w.shape? b = some (113, 2)) (hfz : w.frozen? ⟨b, 0, none⟩ = false) :
    Calls Tryz.prog 115 #[.pointer (some ⟨b, 0, none⟩)] w fun e w' => e = .returned (.tuple #[]) ∧ w' = w.setCell ⟨b, 0, none⟩ (.pointer (some ⟨b, 0, none⟩)) := by
  obtain ⟨j, hj, hjs⟩ := Option.map_eq_some_iff.1 bldExtra.toX72.sizeBuilder
  go_enter Tryz.func115, Tryz.ntmps115
  go_wp2
  rw [Lib.run_to_unsafe w ⟨b, 0, none⟩ Tryz.underlying111 Tryz.underlying149 hj (by rw [hjs]; decide) hsh (Nat.zero_lt_succ 1)]
  simp only [Result.andThen]
  rw [Oper.upon_value]
  go_wp2
  rw [run_callFunc_extern Tryz.func136 (by kernel_rfl) (by kernel_rfl) (by kernel_rfl) (e := Extern.AbiNoEscape.same) (by kernel_rfl)]
  rw [Lib.run_noEscape]
  simp only [Result.andThen]
  rw [Oper.upon_value]
  go_wp2
  rw [Lib.run_from_unsafe w ⟨b, 0, none⟩ Tryz.underlying149 Tryz.underlying111 hj hsh (by kernel_rfl)]
  simp only [Result.andThen]
  rw [Oper.upon_value]
  go_wp2
  go_end0
  exact ⟨rfl, rfl⟩
set_option maxRecDepth 100000 in
set_option maxHeartbeats 1000000 in
theorem copyUsed (b : Nat) (w : World) (h0 : w.cell? ⟨b, 0, none⟩ = some (.pointer (some ⟨b, 0, none⟩))) :
    Calls Tryz.prog 115 #[.pointer (some ⟨b, 0, none⟩)] w fun e w' => e = .returned (.tuple #[]) ∧ w' = w := by
  obtain ⟨j, hj, hjs⟩ := Option.map_eq_some_iff.1 bldExtra.toX72.sizeBuilder
  go_enter Tryz.func115, Tryz.ntmps115
  go_wp2
  rw [Lib.run_neq_ptr_same w _ Tryz.underlying111 hj]
  go_wp2
  go_end0
  exact ⟨rfl, rfl⟩
theorem copyCheck_any (B b : Nat) (bs : List Value) (w : World) (h : Bld B b bs w) :
    Calls Tryz.prog 115 #[.pointer (some ⟨b, 0, none⟩)] w fun e w' => e = .returned (.tuple #[]) ∧ (Lib.BuilderAtF 113 5 B b (.pointer (some ⟨b, 0, none⟩)) bs w' ∧ Below B w w' ∧ Lib.OthersKept 5 (some b) w w') := by
  rcases h with h | h
  · refine (copyFresh b w h.cell0 h.shape h.frozen0).mono ?_
    rintro e w' ⟨rfl, rfl⟩
    exact ⟨rfl, h.used _, (Below.refl B w).setCell (p := ⟨b, 0, none⟩) h.1 _, (Lib.OthersKept.refl _ _ w).setCell ⟨b, 0, none⟩ rfl _⟩
  · refine (copyUsed b w h.cell0).mono ?_
    rintro e w' ⟨rfl, rfl⟩
    exact ⟨rfl, h, Below.refl B _, Lib.OthersKept.refl _ _ _⟩
theorem infoBy : (Tryz.prog.info? 5).map (fun i => (i.zero, i.size, i.bytes)) = some (some (.int .u8 0), 1, 1) := by kernel_rfl
set_option maxRecDepth 100000 in
set_option maxHeartbeats 2000000 in
theorem writeString_any (B b : Nat) (bs : List Value) (s : ByteArray) (w : World) (h : Bld B b bs w) (hlen : bs.length + s.size ≤ 140737488355328) (hBw : B ≤ w.heap.size) :
    Calls Tryz.prog 93 #[.pointer (some ⟨b, 0, none⟩), .string s] w fun e w' => e = .returned (.tuple #[.int .i64 s.size, .nilIface]) ∧ (Bld B b (bs ++ Lib.strCells s) w' ∧ Below B w w' ∧ Lib.OthersKept 5 (some b) w w') := by
  obtain ⟨i0, hi, hz0, hz1, hz2⟩ := info_parts infoBy
  have CC : Hid (Calls Tryz.prog 115 #[.pointer (some ⟨b, 0, none⟩)] w fun e w' => e = .returned (.tuple #[]) ∧ (Lib.BuilderAtF 113 5 B b (.pointer (some ⟨b, 0, none⟩)) bs w' ∧ Below B w w' ∧ Lib.OthersKept 5 (some b) w w')) := copyCheck_any B b bs w h
  clear h
  go_enter Tryz.func93, Tryz.ntmps93
  go_wp2_with fail
  refine (CC.out).mono ?_
  rintro e w1 ⟨rfl, h1, hb1, hk1⟩
  obtain ⟨hB, v, hbk, hown, hne⟩ := h1
  have c0 : w1.cell? ⟨b, 0, none⟩ = some (.pointer (some ⟨b, 0, none⟩)) := by rw [Lib.cell_of_heap hbk]; rfl
  have c1 : w1.cell? ⟨b, 1, none⟩ = some v := by rw [Lib.cell_of_heap hbk]; rfl
  go_wp2_with (at_builtin; refine Lib.wpList_append_own_stringF _ rfl _ _ 22 9 rfl B 5 i0 Tryz.underlying22 Tryz.underlying9 hi hz0 hz1 hz2 _ _ _ rfl hown s rfl ?c3 ?c4 ?c5 ?_)
  case c3 => unfold maxLen; omega
  case c4 => omega
  case c5 => have := hb1.size; omega
  intro v' w2 hown' hgrow _
  have hlt : b < w1.heap.size := by
    rcases Nat.lt_or_ge b w1.heap.size with h' | h'
    · exact h'
    · simp [Array.getElem?_eq_none h'] at hbk
  have hb2 : w2.heap[b]? = some (.cells #[.pointer (some ⟨b, 0, none⟩), v] 113 (0, 0)) := by
    rw [hgrow.block b hlt (fun e => hne e.symm)]
    exact hbk
  have d0 : w2.cell? ⟨b, 0, none⟩ = some (.pointer (some ⟨b, 0, none⟩)) := by rw [Lib.cell_of_heap hb2]; rfl
  have d1 : w2.cell? ⟨b, 1, none⟩ = some v := by rw [Lib.cell_of_heap hb2]; rfl
  have f1 : w2.frozen? ⟨b, 1, none⟩ = false := Lib.frozen_of_heap hb2 1
  obtain ⟨ao, n', cap, rfl⟩ : ∃ ao n' cap, v' = .slice ao n' cap := by
    rcases hown'.2 with ⟨hv, _⟩ | ⟨g, cap, cur, fz, hv, _⟩
    · exact ⟨_, _, _, hv⟩
    · exact ⟨_, _, _, hv⟩
  go_wp2
  go_ret2
  refine ⟨rfl, ?_, ?_, (hk1.grown hgrow (Lib.ownsRowF_kind hown)).setCell ⟨b, 1, none⟩ rfl _⟩
  · exact .inr (Lib.BuilderAtF.put (T := 113) (e := 5) hB hb2 (bs' := bs ++ Lib.strCells s) (by simpa [Lib.strCells_length] using hown') (by decide))
  · exact (hb1.grown hgrow (by have := hb1.size; omega) (fun k hk => (hown.lt k hk).1)).setCell (p := ⟨b, 1, none⟩) hB _
theorem builtString (B b : Nat) (l : List UInt8) (w : World) (h : Bld B b (Lib.byteCells l) w) (hBw : B ≤ w.heap.size) :
    Calls Tryz.prog 94 #[.pointer (some ⟨b, 0, none⟩)] w fun e w' => e = .returned (.string ⟨l.toArray⟩) ∧ (Bld B b (Lib.byteCells l) w' ∧ Below B w w' ∧ Lib.OthersKept 5 (some b) w w') := Any.Builder_String_any_k bldLays bldExtra B b l w h hBw
end Go.Proofs.YtgcdoabcopihlaaGreat

/-
  strings.Join of short names at this program.
-/
namespace Go.Proofs.YtgcdoabcopihlaaGreat
open Go.ChangeShapes Go.WideShapes Go.ChangeAt Go.RowKit Go.Shelf
set_option linter.unusedVariables false
theorem strCells_apJ (s t : ByteArray) : Lib.strCells (s ++ t) = Lib.strCells s ++ Lib.strCells t := by
  unfold Lib.strCells
  rw [show (s ++ t).data = s.data ++ t.data from ByteArray.data_append]
  simp
/-- The sum of the first k names' lengths. -/
def lenJ (L : List ByteArray) : Nat → Nat
  | 0 => 0
  | k + 1 => lenJ L k + (nthT L k).size
theorem lenJ_le (L : List ByteArray) (h : ∀ i, (nthT L i).size ≤ 41) : ∀ k, lenJ L k ≤ 41 * k
  | 0 => Nat.le_refl _
  | k + 1 => by have h1 := lenJ_le L h k; have h2 := h k; unfold lenJ; omega
theorem joinT_one (L : List ByteArray) : joinT L 1 = nthT L 0 := by
  show ByteArray.empty ++ nthT L 0 = _
  exact ByteArray.empty_append
theorem joinT_more (L : List ByteArray) (k : Nat) : joinT L (k + 2) = joinT L (k + 1) ++ ⟨#[32]⟩ ++ nthT L (k + 1) := by
  rw [show joinT L (k + 2) = if k + 1 = 0 then joinT L (k + 1) ++ nthT L (k + 1) else joinT L (k + 1) ++ ⟨#[32]⟩ ++ nthT L (k + 1) from rfl, if_neg (by omega)]
def growRen : Go.Shelf.Ren := ⟨fun | 241 => 116 | 277 => 137 | n => n, fun | 70 => 111 | 0 => 0 | 72 => 113 | 37 => 22 | 3 => 3 | 5 => 5 | n => n, fun | n => n⟩
theorem growLays : Go.Proofs.Lays.n241 Tryz.prog growRen := {
  mixed := by kernel_rfl
  f241 := Tryz.func116.trans (congrArg some (by kernel_rfl))
  f277 := Tryz.func137.trans (congrArg some (by kernel_rfl))
  t0 := Tryz.underlying0
  a0 := Tryz.isAgg0
  z0 := Tryz.sizeOf0
  v0 := Tryz.zeroValue0
  t3 := Tryz.underlying3
  a3 := Tryz.isAgg3
  z3 := Tryz.sizeOf3
  v3 := Tryz.zeroValue3
  t37 := Tryz.underlying22
  a37 := Tryz.isAgg22
  z37 := Tryz.sizeOf22
  v37 := Tryz.zeroValue22
  t70 := Tryz.underlying111
  a70 := Tryz.isAgg111
  z70 := Tryz.sizeOf111
  v70 := Tryz.zeroValue111
  t72 := Tryz.underlying113
  a72 := Tryz.isAgg113
  z72 := Tryz.sizeOf113
  v72 := Tryz.zeroValue113 }
theorem growExtra : Builder.Extra Tryz.prog growRen := {
  sizeBuilder := by kernel_rfl
  liesBuilder := by kernel_rfl
  t5 := Tryz.underlying5
  a5 := Tryz.isAgg5
  z5 := Tryz.sizeOf5
  v5 := Tryz.zeroValue5
  infoByte := by kernel_rfl
  cellsByte := by kernel_rfl
  sizeByte := by kernel_rfl
  neB5 := by decide }
theorem grow_any (B b n : Nat) (w : World) (hB : B ≤ b) (hbk : w.heap[b]? = some (.cells #[.pointer (some ⟨b, 0, none⟩), .slice none 0 0] 113 (0, 0))) (hBw : B ≤ w.heap.size) (hn : n ≤ 281474976710656) :
    Calls Tryz.prog 116 #[.pointer (some ⟨b, 0, none⟩), .int .i64 n] w fun e w' => e = .returned (.tuple #[]) ∧ (Lib.BuilderAt 113 5 B b (.pointer (some ⟨b, 0, none⟩)) [] w' ∧ Below B w w') := Any.Builder_grow_fresh growLays growExtra B b n w hB hbk hBw hn
set_option maxHeartbeats 2000000 in
set_option maxRecDepth 100000 in
theorem growB_any (B b n : Nat) (w : World) (hB : B ≤ b) (hbk : w.heap[b]? = some (.cells #[.pointer none, .slice none 0 0] 113 (0, 0))) (hBw : B ≤ w.heap.size) (hn : n ≤ 1048576) :
    Calls Tryz.prog 92 #[.pointer (some ⟨b, 0, none⟩), .int .i64 n] w fun e w' => e = .returned (.tuple #[]) ∧ Bld B b [] w' ∧ Below B w w' := by
  have hbk1 : (w.setCell ⟨b, 0, none⟩ (.pointer (some ⟨b, 0, none⟩))).heap[b]? = some (.cells #[.pointer (some ⟨b, 0, none⟩), .slice none 0 0] 113 (0, 0)) := by
    simp [World.setCell, Array.getElem?_modify, hbk]
  have CF : Hid (Calls Tryz.prog 115 #[.pointer (some ⟨b, 0, none⟩)] w fun e w' => e = .returned (.tuple #[]) ∧ w' = w.setCell ⟨b, 0, none⟩ (.pointer (some ⟨b, 0, none⟩))) := copyFresh b w (by rw [Lib.cell_of_heap hbk]; rfl) (by simp [World.shape?, hbk]) (Lib.frozen_of_heap hbk 0)
  have HBL : Hid (Below B w (w.setCell ⟨b, 0, none⟩ (.pointer (some ⟨b, 0, none⟩)))) := (Below.refl B w).setCell (p := ⟨b, 0, none⟩) hB _
  have GW : Hid (Calls Tryz.prog 116 #[.pointer (some ⟨b, 0, none⟩), .int .i64 n] (w.setCell ⟨b, 0, none⟩ (.pointer (some ⟨b, 0, none⟩))).drew fun e w' => e = .returned (.tuple #[]) ∧ (Lib.BuilderAt 113 5 B b (.pointer (some ⟨b, 0, none⟩)) [] w' ∧ Below B (w.setCell ⟨b, 0, none⟩ (.pointer (some ⟨b, 0, none⟩))).drew w')) := grow_any B b n _ hB hbk1 (by simpa [World.setCell, World.drew, -World.drew_eq] using hBw) (by omega)
  have HU : Hid (Lib.BuilderAt 113 5 B b (.pointer (some ⟨b, 0, none⟩)) [] (w.setCell ⟨b, 0, none⟩ (.pointer (some ⟨b, 0, none⟩))).drew) := ⟨hB, .slice none 0 0, hbk1, World.ownsRow_nil _ _ _ _, by simp [Value.ownBlock]⟩
  have c1 : (w.setCell ⟨b, 0, none⟩ (.pointer (some ⟨b, 0, none⟩))).cell? ⟨b, 1, none⟩ = some (.slice none 0 0) := by rw [Lib.cell_of_heap hbk1]; rfl
  have c1' : (w.setCell ⟨b, 0, none⟩ (.pointer (some ⟨b, 0, none⟩))).drew.cell? ⟨b, 1, none⟩ = some (.slice none 0 0) := c1
  clear hbk1 hbk
  go_enter Tryz.func92, Tryz.ntmps92
  go_wp2_with fail
  refine (Calls.mono CF.out) ?_
  rintro e w1 ⟨rfl, rfl⟩
  generalize w.setCell ⟨b, 0, none⟩ (.pointer (some ⟨b, 0, none⟩)) = v at *
  clear CF
  go_wp2_with fail
  go_region
  all_goals (try (go_wp2_with fail))
  all_goals first
    | (refine (Calls.mono GW.out) ?_
       rintro e w' ⟨rfl, h1, h2⟩
       go_wp2
       go_end0
       exact ⟨rfl, .inr (Lib.BuilderAtF.of h1), HBL.out.drew.trans h2⟩)
    | (go_end0; exact ⟨rfl, .inr (Lib.BuilderAtF.of HU.out), HBL.out.drew⟩)
set_option maxHeartbeats 4000000 in
set_option maxRecDepth 100000 in
theorem joinS_any (a : Option Addr) (c : Nat) (L : List ByteArray) (hL : ∀ i, (nthT L i).size ≤ 41) (hn : L.length ≤ 12) (hcap : L.length ≤ c) (w : World) (h : Els w 1 a L.length (pxF (nthT L))) (hlt : ∀ y, a = some y → y.block < w.heap.size) :
    Calls Tryz.prog 59 #[.slice a L.length c, .string ⟨#[32]⟩] w fun e w' => e = .returned (.string (joinT L L.length)) ∧ Below w.heap.size w w' := by
  have HJ : Hid (∀ k, k ≤ 12 → (joinT L k).size ≤ 504) := fun k hk => by have := joinT_size L hL k; omega
  have HLE : Hid (∀ k, k ≤ 12 → lenJ L k ≤ 492) := fun k hk => by have := lenJ_le L hL k; omega
  have HLN : Hid (∀ i, (nthT L i).size ≤ 41) := hL
  have H : Hid (Els w 1 a L.length (pxF (nthT L))) := h
  have HA : Hid (∀ y, a = some y → y.block < w.heap.size) := hlt
  by_cases h0 : L.length = 0
  · have HR : Hid (joinT L L.length = ⟨#[]⟩) := by show _ = _; rw [h0]; rfl
    generalize joinT L L.length = R at *
    clear h hlt hL
    obtain rfl := HR.out
    rw [h0]
    clear h0
    go_enter Tryz.func59, Tryz.ntmps59
    go_wp2
    go_ret
    exact ⟨rfl, Below.refl _ _⟩
  · obtain ⟨b, off, rfl, hc⟩ := h.opened (by omega)
    have HC : Hid (∀ i, i < L.length → w.cell? ⟨b, off + i, none⟩ = some (.string (nthT L i))) := fun i hi => by have := hc i hi 0 (by omega); simpa [pxF, pxV] using this
    have HBK : Hid (b < w.heap.size) := hlt _ rfl
    clear h hc hlt hL H HA
    by_cases h1 : L.length = 1
    · have HR : Hid (joinT L L.length = nthT L 0) := by show _ = _; rw [h1]; exact joinT_one L
      have c0 := HC.out 0 (by omega)
      rw [HR.out]
      rw [h1]
      clear h0 h1 HR
      generalize nthT L 0 = R at *
      rw [Nat.add_zero] at c0
      go_enter Tryz.func59, Tryz.ntmps59
      go_wp2
      go_ret
      exact ⟨rfl, Below.refl _ _⟩
    · generalize hN : L.length = N at *
      have h2 : 2 ≤ N := by omega
      clear h0 h1 hN
      obtain ⟨sep, hsep⟩ : ∃ s : ByteArray, s = ⟨#[32]⟩ := ⟨_, rfl⟩
      have HS : Hid (sep = ⟨#[32]⟩) := hsep
      have hsz : sep.size = 1 := by rw [hsep]; rfl
      rw [← hsep]
      have hdv : ¬ (9223372036854775807 / ((N : Int) - 1) ≤ (sep.size : Int)) := by
        rw [hsz]
        have : N = 2 ∨ N = 3 ∨ N = 4 ∨ N = 5 ∨ N = 6 ∨ N = 7 ∨ N = 8 ∨ N = 9 ∨ N = 10 ∨ N = 11 ∨ N = 12 := by omega
        rcases this with rfl | rfl | rfl | rfl | rfl | rfl | rfl | rfl | rfl | rfl | rfl <;> decide
      have hprod : wrap64 ((sep.size : Int) * ((N : Int) - 1)) = ((N - 1 : Nat) : Int) := by
        rw [hsz, show ((1 : Nat) : Int) * ((N : Int) - 1) = ((N - 1 : Nat) : Int) by omega]
        exact IntWalk.wrap64_in _ ⟨by omega, by omega⟩
      have hpos : (0 : Int) < (sep.size : Int) := by omega
      have hne0 : ((N : Int) == 0) = false := beq_eq_false_iff_ne.2 (by omega)
      have hne1 : ((N : Int) == 1) = false := beq_eq_false_iff_ne.2 (by omega)
      obtain ⟨M, hM⟩ : ∃ M, M = N - 1 := ⟨_, rfl⟩
      have HM : Hid (M = N - 1) := hM
      have hMn : M ≤ 11 := by omega
      rw [← hM] at hprod
      have HSZ : Hid (sep.size = 1) := hsz
      clear hsep hsz hM
      go_enter Tryz.func59, Tryz.ntmps59
      go_wp2_with fail
      go_loop [5, 41] (fun n i => ∃ k : Nat, k ≤ N ∧ i = .int .i64 k ∧ n = .int .i64 ((M + lenJ L k : Nat) : Int)) (fun _ i => N - (intOf i).toNat)
      case atStart => exact ⟨0, Nat.zero_le _, rfl, rfl⟩
      case round =>
        obtain ⟨k, hk, rfl, rfl⟩ := hrel
        have hb0 : lenJ L k ≤ 492 := HLE.out k (by omega)
        by_cases hkn : k < N
        · have hc := HC.out k hkn
          have hx := HLN.out k
          have HST : Hid (lenJ L (k + 1) = lenJ L k + (nthT L k).size) := rfl
          generalize lenJ L k = A0 at *
          generalize nthT L k = x at *
          have hkn' : (k : Int) < (N : Int) := by omega
          go_wp2
          exact ⟨⟨k + 1, by omega, by go_num, by rw [HST.out]; refine congrArg _ ?_; omega⟩, by simp [intOf]; omega⟩
        · obtain rfl : k = N := by omega
          have hkn' : ¬ (k : Int) < (k : Int) := by omega
          generalize hT : M + lenJ L k = T at *
          have hTb : T ≤ 503 := by omega
          clear hT hb0
          obtain ⟨v1, hv1⟩ : ∃ v, v = w.alloc (.cells #[.pointer none, .slice none 0 0] 113) := ⟨_, rfl⟩
          have W1 : Hid (w.alloc (.cells #[.pointer none, .slice none 0 0] 113) = v1) := hv1.symm
          have B1 : Below w.heap.size w v1 := by rw [hv1]; exact (Below.refl _ _).alloc (Nat.le_refl _) _
          have GR : Hid (Calls Tryz.prog 92 #[.pointer (some ⟨w.heap.size, 0, none⟩), .int .i64 T] v1 fun e w' => e = .returned (.tuple #[]) ∧ Bld w.heap.size w.heap.size [] w' ∧ Below w.heap.size v1 w') := growB_any w.heap.size w.heap.size T v1 (Nat.le_refl _) (by rw [hv1]; exact World.alloc_heap_new w _) B1.size (by omega)
          have HB1 : Hid (Below w.heap.size w v1) := B1
          clear B1 hv1
          go_wp2_with fail
          rw [W1.out]
          refine (Calls.mono GR.out) ?_
          rintro e w1 ⟨rfl, h1, hb1⟩
          have BL : Hid (Bld w.heap.size w.heap.size [] w1) := h1
          have B1 : Hid (Below w.heap.size w w1) := HB1.out.trans hb1
          have hc0 : w1.cell? ⟨b, off, none⟩ = some (.string (nthT L 0)) := by
            rw [B1.out.cell (p := ⟨b, off, none⟩) HBK.out]
            exact HC.out 0 (by omega)
          clear h1 hb1 GR HB1 W1
          have WS : Hid (∀ (s T : ByteArray) (wr : World), T.size + s.size ≤ 1048576 → Bld w.heap.size w.heap.size (Lib.strCells T) wr → Below w.heap.size w wr → Calls Tryz.prog 93 #[.pointer (some ⟨w.heap.size, 0, none⟩), .string s] wr fun e w' => e = .returned (.tuple #[.int .i64 s.size, .nilIface]) ∧ Bld w.heap.size w.heap.size (Lib.strCells (T ++ s)) w' ∧ Below w.heap.size w w') := fun s T wr hz hl hb => (writeString_any w.heap.size w.heap.size _ s wr hl (by rw [Lib.strCells_length]; omega) hb.size).mono fun e w' q => ⟨q.1, by rw [strCells_apJ]; exact q.2.1, hb.trans q.2.2.1⟩
          have hx := HLN.out 0
          have S0 : Hid (Calls Tryz.prog 93 #[.pointer (some ⟨w.heap.size, 0, none⟩), .string (nthT L 0)] w1 fun e w' => e = .returned (.tuple #[.int .i64 (nthT L 0).size, .nilIface]) ∧ Bld w.heap.size w.heap.size (Lib.strCells (joinT L 1)) w' ∧ Below w.heap.size w w') := by
            have := WS.out (nthT L 0) ⟨#[]⟩ w1 (by show 0 + _ ≤ _; omega) BL.out B1.out
            exact this
          clear BL B1
          generalize nthT L 0 = x0 at *
          go_wp2_with fail
          refine (Calls.mono S0.out) ?_
          rintro e w2 ⟨rfl, h2', hb2⟩
          have BL : Hid (Bld w.heap.size w.heap.size (Lib.strCells (joinT L 1)) w2) := h2'
          have B2 : Hid (Below w.heap.size w w2) := hb2
          clear h2' hb2 S0 hc0 hx
          go_wp2_with fail
          go_loopw [65] (fun i wr => ∃ j : Nat, j ≤ M ∧ i = .int .i64 j ∧ Hid (Bld w.heap.size w.heap.size (Lib.strCells (joinT L (j + 1))) wr) ∧ Hid (Below w.heap.size w wr)) (fun i _ => M - (intOf i).toNat)
          case atStart => exact ⟨0, Nat.zero_le _, rfl, BL, B2⟩
          case round =>
            clear BL B2
            obtain ⟨j, hj, rfl, HB, HW⟩ := hrel
            have hkm := HM.out
            by_cases hjm : j < M
            · have hcy : wr.cell? ⟨b, off + 1 + j, none⟩ = some (.string (nthT L (j + 1))) := by
                rw [HW.out.cell (p := ⟨b, off + 1 + j, none⟩) HBK.out, show off + 1 + j = off + (j + 1) by omega]
                exact HC.out (j + 1) (by omega)
              have hz := HJ.out (j + 1) (by omega)
              have hx := HLN.out (j + 1)
              have hs1 := HSZ.out
              have S1 := WS.out sep (joinT L (j + 1)) wr (by omega) HB.out HW.out
              have S2 : Hid (∀ w3 : World, Bld w.heap.size w.heap.size (Lib.strCells (joinT L (j + 1) ++ sep)) w3 → Below w.heap.size w w3 → Calls Tryz.prog 93 #[.pointer (some ⟨w.heap.size, 0, none⟩), .string (nthT L (j + 1))] w3 fun e w' => e = .returned (.tuple #[.int .i64 (nthT L (j + 1)).size, .nilIface]) ∧ Bld w.heap.size w.heap.size (Lib.strCells (joinT L (j + 1 + 1))) w' ∧ Below w.heap.size w w') := fun w3 hl hb => by
                have := WS.out (nthT L (j + 1)) _ w3 (by rw [ByteArray.size_append]; omega) hl hb
                rw [show joinT L (j + 1 + 1) = joinT L (j + 1) ++ sep ++ nthT L (j + 1) by rw [HS.out]; exact joinT_more L j]
                exact this
              have S1H : Hid (Calls Tryz.prog 93 #[.pointer (some ⟨w.heap.size, 0, none⟩), .string sep] wr fun e w' => e = .returned (.tuple #[.int .i64 sep.size, .nilIface]) ∧ Bld w.heap.size w.heap.size (Lib.strCells (joinT L (j + 1) ++ sep)) w' ∧ Below w.heap.size w w') := S1
              have hjm' : (j : Int) < (k : Int) - 1 := by omega
              have hjm2 : j < k - 1 := by omega
              clear S1 hs1 hz hkm HB
              generalize nthT L (j + 1) = y at *
              go_wp2_with fail
              refine (Calls.mono S1H.out) ?_
              rintro e w3 ⟨rfl, h3, hb3⟩
              have S3 : Hid (Calls Tryz.prog 93 #[.pointer (some ⟨w.heap.size, 0, none⟩), .string y] w3 fun e w' => e = .returned (.tuple #[.int .i64 y.size, .nilIface]) ∧ Bld w.heap.size w.heap.size (Lib.strCells (joinT L (j + 1 + 1))) w' ∧ Below w.heap.size w w') := S2.out w3 h3 hb3
              clear h3 hb3 S1H S2 hcy
              go_wp2_with fail
              refine (Calls.mono S3.out) ?_
              rintro e w4 ⟨rfl, h4, hb4⟩
              have H4 : Hid (Bld w.heap.size w.heap.size (Lib.strCells (joinT L (j + 1 + 1))) w4) := h4
              have B4 : Hid (Below w.heap.size w w4) := hb4
              clear h4 hb4 S3
              go_wp2
              exact ⟨⟨j + 1, by omega, by go_num, H4, B4⟩, by simp [intOf]; omega⟩
            · have hjm' : ¬ (j : Int) < (k : Int) - 1 := by omega
              have hjm2 : ¬ j < k - 1 := by omega
              have hjk : j + 1 = k := by omega
              rw [hjk] at HB
              have SR : Hid (Calls Tryz.prog 94 #[.pointer (some ⟨w.heap.size, 0, none⟩)] wr fun e w' => e = .returned (.string (joinT L k)) ∧ Below w.heap.size wr w') := (builtString w.heap.size w.heap.size (joinT L k).data.toList wr HB.out HW.out.size).mono fun e w' q => ⟨by rw [q.1], q.2.2.1⟩
              clear hjk hkm HB
              generalize hR : joinT L k = R at *
              have HR : Hid (joinT L k = R) := hR
              clear hR
              go_wp2_with fail
              refine (Calls.mono SR.out) ?_
              rintro e w5 ⟨rfl, hb5⟩
              have B5 : Hid (Below w.heap.size w w5) := HW.out.trans hb5
              clear hb5 SR
              go_wp2
              go_ret
              rw [HR.out]
              exact ⟨rfl, B5.out⟩
end Go.Proofs.YtgcdoabcopihlaaGreat
