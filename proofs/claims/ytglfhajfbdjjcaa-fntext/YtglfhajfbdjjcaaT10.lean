/-
  strings.Builder at this program: WriteString and String.
-/
import Derived.Test.YtglfhajfbdjjcaaStrS
import Derived.Shelf.Strings.BuilderK
import Derived.Lib.AppendStr
import Derived.Lib.AppendZeros
import Derived.Maps.AppendAt
import Derived.Test.YtglfhajfbdjjcaaFileFt
import Derived.Test.YtglfhajfbdjjcaaFileMk
import Derived.Test.YtglfhajfbdjjcaaBox3
import Derived.Deep.Cut
import Derived.Test.YtglfhajfbdjjcaaFileOkS
namespace Go.Proofs.Ytglfhajfbdjjcaa
open Go.ChangeShapes Go.WideShapes Go.ChangeAt Go.RowKit Go.Shelf
set_option linter.unusedVariables false
/-- A builder in block b that holds bs. -/
def Bld (B b : Nat) (bs : List Value) (w : World) : Prop := Lib.IsBuilderF 65 5 B b bs w
def bldRen : Go.Shelf.Ren := ⟨fun | 169 => 44 | n => n, fun | 70 => 63 | 9 => 9 | 0 => 0 | 72 => 65 | 37 => 30 | 127 => 106 | 3 => 3 | 5 => 5 | n => n, fun | n => n⟩
theorem bldLays : Go.Proofs.Lays.n169 Try.prog bldRen := {
  mixed := by kernel_rfl
  f169 := Try.func44.trans (congrArg some (by kernel_rfl))
  t0 := Try.underlying0
  a0 := Try.isAgg0
  z0 := Try.sizeOf0
  v0 := Try.zeroValue0
  t3 := Try.underlying3
  a3 := Try.isAgg3
  z3 := Try.sizeOf3
  v3 := Try.zeroValue3
  t9 := Try.underlying9
  a9 := Try.isAgg9
  z9 := Try.sizeOf9
  v9 := Try.zeroValue9
  t37 := Try.underlying30
  a37 := Try.isAgg30
  z37 := Try.sizeOf30
  v37 := Try.zeroValue30
  t70 := Try.underlying63
  a70 := Try.isAgg63
  z70 := Try.sizeOf63
  v70 := Try.zeroValue63
  t72 := Try.underlying65
  a72 := Try.isAgg65
  z72 := Try.sizeOf65
  v72 := Try.zeroValue65
  t127 := Try.underlying106
  a127 := Try.isAgg106
  z127 := Try.sizeOf106
  v127 := Try.zeroValue106 }
theorem bldExtra : Builder.Extra Try.prog bldRen := {
  sizeBuilder := by kernel_rfl
  liesBuilder := by kernel_rfl
  t5 := Try.underlying5
  a5 := Try.isAgg5
  z5 := Try.sizeOf5
  v5 := Try.zeroValue5
  infoByte := by kernel_rfl
  cellsByte := by kernel_rfl
  sizeByte := by kernel_rfl
  neB5 := by decide }
set_option maxRecDepth 100000 in
set_option maxHeartbeats 1000000 in
theorem copyFresh (b : Nat) (w : World) (h0 : w.cell? ⟨b, 0, none⟩ = some (.pointer none)) (hsh : w.shape? b = some (65, 2)) (hfz : w.frozen? ⟨b, 0, none⟩ = false) :
    Calls Try.prog 85 #[.pointer (some ⟨b, 0, none⟩)] w fun e w' => e = .returned (.tuple #[]) ∧ w' = w.setCell ⟨b, 0, none⟩ (.pointer (some ⟨b, 0, none⟩)) := by
  obtain ⟨j, hj, hjs⟩ := Option.map_eq_some_iff.1 bldExtra.toX72.sizeBuilder
  go_enter Try.func85, Try.ntmps85
  go_wp2
  rw [Lib.run_to_unsafe w ⟨b, 0, none⟩ Try.underlying63 Try.underlying135 hj (by rw [hjs]; decide) hsh (Nat.zero_lt_succ 1)]
  simp only [Result.andThen]
  rw [Oper.upon_value]
  go_wp2
  rw [run_callFunc_extern Try.func117 (by kernel_rfl) (by kernel_rfl) (by kernel_rfl) (e := Extern.AbiNoEscape.same) (by kernel_rfl)]
  rw [Lib.run_noEscape]
  simp only [Result.andThen]
  rw [Oper.upon_value]
  go_wp2
  rw [Lib.run_from_unsafe w ⟨b, 0, none⟩ Try.underlying135 Try.underlying63 hj hsh (by kernel_rfl)]
  simp only [Result.andThen]
  rw [Oper.upon_value]
  go_wp2
  go_end0
  exact ⟨rfl, rfl⟩
set_option maxRecDepth 100000 in
set_option maxHeartbeats 1000000 in
theorem copyUsed (b : Nat) (w : World) (h0 : w.cell? ⟨b, 0, none⟩ = some (.pointer (some ⟨b, 0, none⟩))) :
    Calls Try.prog 85 #[.pointer (some ⟨b, 0, none⟩)] w fun e w' => e = .returned (.tuple #[]) ∧ w' = w := by
  obtain ⟨j, hj, hjs⟩ := Option.map_eq_some_iff.1 bldExtra.toX72.sizeBuilder
  go_enter Try.func85, Try.ntmps85
  go_wp2
  rw [Lib.run_neq_ptr_same w _ Try.underlying63 hj]
  go_wp2
  go_end0
  exact ⟨rfl, rfl⟩
theorem copyCheck_any (B b : Nat) (bs : List Value) (w : World) (h : Bld B b bs w) :
    Calls Try.prog 85 #[.pointer (some ⟨b, 0, none⟩)] w fun e w' => e = .returned (.tuple #[]) ∧ (Lib.BuilderAtF 65 5 B b (.pointer (some ⟨b, 0, none⟩)) bs w' ∧ Below B w w' ∧ Lib.OthersKept 5 (some b) w w') := by
  rcases h with h | h
  · refine (copyFresh b w h.cell0 h.shape h.frozen0).mono ?_
    rintro e w' ⟨rfl, rfl⟩
    exact ⟨rfl, h.used _, (Below.refl B w).setCell (p := ⟨b, 0, none⟩) h.1 _, (Lib.OthersKept.refl _ _ w).setCell ⟨b, 0, none⟩ rfl _⟩
  · refine (copyUsed b w h.cell0).mono ?_
    rintro e w' ⟨rfl, rfl⟩
    exact ⟨rfl, h, Below.refl B _, Lib.OthersKept.refl _ _ _⟩
theorem infoBy : (Try.prog.info? 5).map (fun i => (i.zero, i.size, i.bytes)) = some (some (.int .u8 0), 1, 1) := by kernel_rfl
set_option maxRecDepth 100000 in
set_option maxHeartbeats 2000000 in
theorem writeString_any (B b : Nat) (bs : List Value) (s : ByteArray) (w : World) (h : Bld B b bs w) (hlen : bs.length + s.size ≤ 140737488355328) (hBw : B ≤ w.heap.size) :
    Calls Try.prog 43 #[.pointer (some ⟨b, 0, none⟩), .string s] w fun e w' => e = .returned (.tuple #[.int .i64 s.size, .nilIface]) ∧ (Bld B b (bs ++ Lib.strCells s) w' ∧ Below B w w' ∧ Lib.OthersKept 5 (some b) w w') := by
  obtain ⟨i0, hi, hz0, hz1, hz2⟩ := info_parts infoBy
  have CC : Hid (Calls Try.prog 85 #[.pointer (some ⟨b, 0, none⟩)] w fun e w' => e = .returned (.tuple #[]) ∧ (Lib.BuilderAtF 65 5 B b (.pointer (some ⟨b, 0, none⟩)) bs w' ∧ Below B w w' ∧ Lib.OthersKept 5 (some b) w w')) := copyCheck_any B b bs w h
  clear h
  go_enter Try.func43, Try.ntmps43
  go_wp2_with fail
  refine (CC.out).mono ?_
  rintro e w1 ⟨rfl, h1, hb1, hk1⟩
  obtain ⟨hB, v, hbk, hown, hne⟩ := h1
  have c0 : w1.cell? ⟨b, 0, none⟩ = some (.pointer (some ⟨b, 0, none⟩)) := by rw [Lib.cell_of_heap hbk]; rfl
  have c1 : w1.cell? ⟨b, 1, none⟩ = some v := by rw [Lib.cell_of_heap hbk]; rfl
  go_wp2_with (at_builtin; refine Lib.wpList_append_own_stringF _ rfl _ _ 30 9 rfl B 5 i0 Try.underlying30 Try.underlying9 hi hz0 hz1 hz2 _ _ _ rfl hown s rfl ?c3 ?c4 ?c5 ?_)
  case c3 => unfold maxLen; omega
  case c4 => omega
  case c5 => have := hb1.size; omega
  intro v' w2 hown' hgrow _
  have hlt : b < w1.heap.size := by
    rcases Nat.lt_or_ge b w1.heap.size with h' | h'
    · exact h'
    · simp [Array.getElem?_eq_none h'] at hbk
  have hb2 : w2.heap[b]? = some (.cells #[.pointer (some ⟨b, 0, none⟩), v] 65 (0, 0)) := by
    rw [hgrow.block b hlt (fun e => hne e.symm)]
    exact hbk
  have d0 : w2.cell? ⟨b, 0, none⟩ = some (.pointer (some ⟨b, 0, none⟩)) := by rw [Lib.cell_of_heap hb2]; rfl
  have d1 : w2.cell? ⟨b, 1, none⟩ = some v := by rw [Lib.cell_of_heap hb2]; rfl
  have f1 : w2.frozen? ⟨b, 1, none⟩ = false := Lib.frozen_of_heap hb2 1
  obtain ⟨ao, n', cap, rfl⟩ : ∃ ao n' cap, v' = .slice ao n' cap := by
    rcases hown'.2 with ⟨hv, _⟩ | ⟨g, cap, cur, fz, hv, _⟩
    · exact ⟨_, _, _, hv⟩
    · exact ⟨_, _, _, hv⟩
  go_wp2
  go_ret2
  refine ⟨rfl, ?_, ?_, (hk1.grown hgrow (Lib.ownsRowF_kind hown)).setCell ⟨b, 1, none⟩ rfl _⟩
  · exact .inr (Lib.BuilderAtF.put (T := 65) (e := 5) hB hb2 (bs' := bs ++ Lib.strCells s) (by simpa [Lib.strCells_length] using hown') (by decide))
  · exact (hb1.grown hgrow (by have := hb1.size; omega) (fun k hk => (hown.lt k hk).1)).setCell (p := ⟨b, 1, none⟩) hB _
theorem builtString (B b : Nat) (l : List UInt8) (w : World) (h : Bld B b (Lib.byteCells l) w) (hBw : B ≤ w.heap.size) :
    Calls Try.prog 44 #[.pointer (some ⟨b, 0, none⟩)] w fun e w' => e = .returned (.string ⟨l.toArray⟩) ∧ (Bld B b (Lib.byteCells l) w' ∧ Below B w w' ∧ Lib.OthersKept 5 (some b) w w') := Any.Builder_String_any_k bldLays bldExtra B b l w h hBw
end Go.Proofs.Ytglfhajfbdjjcaa

/-
  Rows of bytes of a call's own, told by a list: what is appended to them; numbers and texts behind them.
-/
namespace Go.Proofs.Ytglfhajfbdjjcaa
open Go.ChangeShapes Go.WideShapes Go.ChangeAt Go.RowKit
set_option linter.unusedVariables false
/-- Bytes as cells. -/
def lv (L : List Nat) : List Value := L.map fun b => .int .u8 ((b : Nat) : Int)
theorem lv_append (L N : List Nat) : lv (L ++ N) = lv L ++ lv N := List.map_append
theorem lv_length (L : List Nat) : (lv L).length = L.length := List.length_map _
/-- A row of bytes of the call's own, in block g. -/
def RL (w : World) (B g c : Nat) (L : List Nat) : Prop := w.ownsRow B 5 1 (.slice (some ⟨g, 0, none⟩) L.length c) L.length (lv L)
theorem RL.ge {w : World} {B g c : Nat} {L : List Nat} (h : RL w B g c L) : B ≤ g ∧ g < w.heap.size := World.ownsRow.lt h g rfl
theorem RL.ofBlock {w w' : World} {B g c : Nat} {L : List Nat} (h : RL w B g c L) (e : w'.heap[g]? = w.heap[g]?) : RL w' B g c L := by
  obtain ⟨hl, ⟨h1, h2⟩ | ⟨g', cap, cur, hv, hB, hh, hr⟩⟩ := h
  · cases h1
  · have hg : g' = g := by cases hv; rfl
    exact ⟨hl, .inr ⟨g', cap, cur, hv, hB, by rw [hg, e, ← hg]; exact hh, hr⟩⟩
theorem RL.below {w w' : World} {B g c : Nat} {L : List Nat} (h : RL w B g c L) (hb : Below w.heap.size w w') : RL w' B g c L := h.ofBlock (hb.block g h.ge.2)
theorem RL.onlyB {w w' : World} {B g c q : Nat} {L : List Nat} (h : RL w B g c L) (ho : OnlyB q w w') (hne : g ≠ q) : RL w' B g c L := h.ofBlock (ho.block g h.ge.2 hne)
theorem RL.mono {w : World} {B B' g c : Nat} {L : List Nat} (h : RL w B g c L) (hb : B' ≤ B) : RL w B' g c L := by
  obtain ⟨hl, h0 | ⟨g', cap, cur, hv, h1, h2⟩⟩ := h
  · exact ⟨hl, .inl h0⟩
  · exact ⟨hl, .inr ⟨g', cap, cur, hv, Nat.le_trans hb h1, h2⟩⟩
theorem RL.cell {w : World} {B g c : Nat} {L : List Nat} (h : RL w B g c L) (i : Nat) (hi : i < L.length) : w.cell? ⟨g, i, none⟩ = some (.int .u8 ((L[i] : Nat) : Int)) := by
  obtain ⟨hl, ⟨h1, h2⟩ | ⟨g', cap, cur, hv, hB, hh, hn, hm, hs, ht⟩⟩ := h
  · cases h1
  · cases hv
    have h1 : (cur.toList.take (L.length * 1))[i]? = some (.int .u8 ((L[i] : Nat) : Int)) := by rw [ht]; simp [lv, hi]
    rw [List.getElem?_take, if_pos (by omega), Array.getElem?_toList] at h1
    simp [World.cell?, hh, h1]
theorem RL.frozen {w : World} {B g c : Nat} {L : List Nat} (h : RL w B g c L) (i : Nat) : w.frozen? ⟨g, i, none⟩ = false := by
  obtain ⟨hl, ⟨h1, h2⟩ | ⟨g', cap, cur, hv, hB, hh, hr⟩⟩ := h
  · cases h1
  · cases hv
    simp [World.frozen?, hh]
/-- A literal. -/
theorem RL.made (w : World) (cs : Array Value) (L : List Nat) (n : Nat) (hn : L.length = n) (hm : n ≤ 1000000) (e : cs.toList = lv L) : RL (w.alloc (.cells cs 5)) w.heap.size w.heap.size n L := by
  have hs : cs.size = L.length := by rw [← Array.length_toList, e, lv_length]
  refine ⟨by rw [lv_length, Nat.mul_one], .inr ⟨w.heap.size, n, cs, rfl, Nat.le_refl _, (MapKept.heap_alloc w _).1, by omega, by unfold maxLen; omega, by omega, by rw [Nat.mul_one, e, List.take_of_length_le (by rw [lv_length]; omega)]⟩⟩
theorem Try.infoB8 : (Try.prog.info? 5).map (fun i => (i.zero, i.size, i.bytes)) = some (some (.int .u8 0), 1, 1) := by kernel_rfl
theorem onlyB_of_grown {w w' : World} {g : Nat} (h : w.grownBy w' (some g)) : OnlyB g w w' := ⟨h.os, h.tape, h.output, h.size, fun b hb hne => h.block b hb (fun e => hne (Option.some.inj e))⟩
theorem OnlyB.behind {g g' : Nat} {w w1 w2 : World} (h : OnlyB g w w1) (h' : OnlyB g' w1 w2) (hg : g' = g ∨ w.heap.size ≤ g') : OnlyB g w w2 :=
  ⟨h'.os.trans h.os, h'.tape.trans h.tape, h'.output.trans h.output, Nat.le_trans h.size h'.size, fun b hb hne => (h'.block b (Nat.lt_of_lt_of_le hb h.size) (by rcases hg with rfl | hg <;> omega)).trans (h.block b hb hne)⟩
set_option maxRecDepth 100000 in
/-- append of bytes that lie at ⟨q, o⟩. -/
theorem appL (w : World) (B g c : Nat) (L N : List Nat) (q o cq : Nat) (ty : TypeId) (hB : B ≤ w.heap.size) (hl : L.length + N.length ≤ 1000000) (h : RL w B g c L) (hN : ∀ j (hj : j < N.length), w.cell? ⟨q, o + j, none⟩ = some (.int .u8 ((N[j] : Nat) : Int))) :
    ∃ g' c' w', (Builtin.append_ #[30, 30] ty #[.slice (some ⟨g, 0, none⟩) L.length c, .slice (some ⟨q, o, none⟩) N.length cq]).run Try.prog w = .ok (.slice (some ⟨g', 0, none⟩) (L ++ N).length c') w' ∧ RL w' B g' c' (L ++ N) ∧ OnlyB g w w' ∧ (g' = g ∨ g' = w.heap.size) := by
  obtain ⟨i, hi, hz, hsz, hby⟩ := info_parts Try.infoB8
  obtain ⟨v', w', hr, ho, hg, hne, hloc⟩ := run_append_own_at (P := Try.prog) w B 30 ty 5 i (.int .u8 0) 1 1 Try.underlying30 hi hz hsz hby rfl (by decide) _ L.length _ h ⟨q, o, none⟩ N.length cq (lv N) (by rw [lv_length, Nat.mul_one]) (fun j u hj => by
    rw [Go.WideShapes.add_plain]
    unfold lv at hj
    rw [List.getElem?_map, Option.map_eq_some_iff] at hj
    obtain ⟨b, hb, rfl⟩ := hj
    obtain ⟨hj', rfl⟩ := List.getElem?_eq_some_iff.1 hb
    exact hN j hj') (fun u hu => by
      obtain ⟨_, _, rfl⟩ := List.mem_map.1 hu
      rfl) (by unfold maxLen; omega) (by omega) hB
  rw [← lv_append, ← List.length_append] at ho
  have hform : ∃ g2 c2, v' = .slice (some ⟨g2, 0, none⟩) (L ++ N).length c2 := by
    obtain ⟨hl, ⟨h1, h2⟩ | ⟨g', cap, cur, hv, _⟩⟩ := ho
    · have := hne.1 h1
      cases this.1
    · exact ⟨g', cap, hv⟩
  obtain ⟨g2, c2, rfl⟩ := hform
  refine ⟨g2, c2, w', hr, ho, onlyB_of_grown hg, ?_⟩
  rcases hloc with e | e
  · exact .inl (Option.some.inj e)
  · exact .inr (Option.some.inj e)
/-- The bytes of a text. -/
def strL (s : ByteArray) : List Nat := s.data.toList.map UInt8.toNat
theorem strL_length (s : ByteArray) : (strL s).length = s.size := by unfold strL; rw [List.length_map, Array.length_toList]; rfl
set_option maxRecDepth 100000 in
/-- append of a text. -/
theorem appT (w : World) (B g c : Nat) (L : List Nat) (s : ByteArray) (ty : TypeId) (hB : B ≤ w.heap.size) (hl : L.length + s.size ≤ 1000000) (h : RL w B g c L) :
    ∃ g' c' w', (Builtin.append_ #[30, 9] ty #[.slice (some ⟨g, 0, none⟩) L.length c, .string s]).run Try.prog w = .ok (.slice (some ⟨g', 0, none⟩) (L ++ strL s).length c') w' ∧ RL w' B g' c' (L ++ strL s) ∧ OnlyB g w w' := by
  obtain ⟨i, hi, hz, hsz, hby⟩ := info_parts Try.infoB8
  obtain ⟨v', w', hr, ho, hg, hne⟩ := Lib.run_append_own_string (P := Try.prog) w B 30 9 ty 5 i Try.underlying30 Try.underlying9 hi hz hsz hby _ L.length _ h s (by unfold maxLen; omega) (by omega) hB
  have e1 : Lib.strCells s = lv (strL s) := by
    unfold Lib.strCells lv strL
    simp
  rw [e1, ← lv_append, ← strL_length s, ← List.length_append] at ho
  have hform : ∃ g2 c2, v' = .slice (some ⟨g2, 0, none⟩) (L ++ strL s).length c2 := by
    obtain ⟨hl, ⟨h1, h2⟩ | ⟨g', cap, cur, hv, _⟩⟩ := ho
    · have := hne.1 h1
      cases this.1
    · exact ⟨g', cap, hv⟩
  obtain ⟨g2, c2, rfl⟩ := hform
  exact ⟨g2, c2, w', hr, ho, onlyB_of_grown hg⟩
/-- The first r of sz bytes of a number, the higher ones first. -/
def numP (sz x r : Nat) : List Nat := (List.range r).map fun j => x / 2 ^ (8 * (sz - 1 - j)) % 256
def numL (sz x : Nat) : List Nat := numP sz x sz
theorem numP_succ (sz x r : Nat) : numP sz x (r + 1) = numP sz x r ++ [x / 2 ^ (8 * (sz - 1 - r)) % 256] := by unfold numP; rw [List.range_succ, List.map_append]; rfl
theorem numP_length (sz x r : Nat) : (numP sz x r).length = r := by unfold numP; simp
theorem numL_length (sz x : Nat) : (numL sz x).length = sz := numP_length sz x sz
theorem numEqL {a b : Int} (h : a = b) : Value.int .i64 a = .int .i64 b := by rw [h]
set_option maxRecDepth 100000 in
set_option maxHeartbeats 2000000 in
/-- impl.appendNumber onto a row of the call's own. -/
theorem appendNumberL (B g c x sz : Nat) (L : List Nat) (hsz : sz ≤ 8) (hk : L.length ≤ 900000) (w : World) (hB : B ≤ w.heap.size) (h : RL w B g c L) (n : Nat) (hn : n = L.length) :
    Calls Try.prog 100 #[.slice (some ⟨g, 0, none⟩) n c, .int .i64 (x : Int), .int .i64 (sz : Int)] w fun e w' => (∃ g' c', e = .returned (.slice (some ⟨g', 0, none⟩) (n + sz) c') ∧ RL w' B g' c' (L ++ numL sz x) ∧ (g' = g ∨ w.heap.size ≤ g')) ∧ OnlyB g w w' := by
  have HR : Hid (RL w B g c L) := h
  have HN : Hid (n = L.length) := hn
  have HK : Hid (L.length ≤ 900000) := hk
  have HBB : Hid (B ≤ w.heap.size) := hB
  clear h hn hk hB
  go_enter Try.func100, Try.ntmps100
  go_wp2
  go_loopw [0, 7] (fun s i wr => ∃ r g2 c2 : Nat, r ≤ sz ∧ i = .int .i64 ((sz : Int) - 1 - (r : Int)) ∧ s = .slice (some ⟨g2, 0, none⟩) (n + r) c2 ∧ RL wr B g2 c2 (L ++ numP sz x r) ∧ (g2 = g ∨ w.heap.size ≤ g2) ∧ OnlyB g w wr) (fun _ i _ => (intOf i + 1).toNat)
  case atStart => exact ⟨0, g, c, by omega, numEqL (by omega), rfl, by unfold numP; simpa using HR.out, .inl rfl, OnlyB.refl _ _⟩
  case round =>
    clear HR
    obtain ⟨r, g2, c2, hr, rfl, rfl, hrow, hg, ho⟩ := hrel
    have HR : Hid (RL wr B g2 c2 (L ++ numP sz x r)) := hrow
    have HG : Hid (g2 = g ∨ w.heap.size ≤ g2) := hg
    have HO : Hid (OnlyB g w wr) := ho
    clear hrow hg ho
    by_cases hlt : r < sz
    · have x0 : (0 : Int) ≤ (sz : Int) - 1 - (r : Int) := by omega
      obtain ⟨s, hs⟩ : ∃ s, s = 8 * (sz - 1 - r) := ⟨_, rfl⟩
      have e8 : (8 : Int) * ((sz : Int) - 1 - (r : Int)) = (s : Int) := by omega
      have s0 : (0 : Int) ≤ (s : Int) := by omega
      have s1 : (s : Int) ≤ 64 := by omega
      have eX : (x : Int) / 2 ^ s = ((x / 2 ^ s : Nat) : Int) := by simp
      have HX : Hid (numP sz x (r + 1) = numP sz x r ++ [x / 2 ^ s % 256]) := by show _ = _; rw [numP_succ, hs]
      generalize x / 2 ^ s = y at *
      have eY : (y : Int) % 256 = ((y % 256 : Nat) : Int) := by omega
      generalize y % 256 = Y at *
      have hw : (w.heap.size ≤ wr.heap.size) := HO.out.size
      obtain ⟨g3, c3, w3, hr3, hrow3, ho3, hg3⟩ := appL (wr.alloc (.cells #[.int .u8 (Y : Nat)] 5)) B g2 c2 (L ++ numP sz x r) [Y] wr.heap.size 0 1 30 (by have := HBB.out; simp; omega) (by have := HK.out; rw [List.length_append, numP_length]; simp; omega) (HR.out.below ((Below.refl _ _).alloc (Nat.le_refl _) _)) (fun j hj => by
        obtain rfl : j = 0 := by simpa using hj
        have : ((wr.alloc (.cells #[.int .u8 (Y : Nat)] 5)).rowIs wr.heap.size 5 1 (fun _ => .int .u8 (Y : Nat))) := World.rowIs_alloc wr #[.int .u8 (Y : Nat)] 5 _ (fun i hi => by
          obtain rfl : i = 0 := by simpa using hi
          rfl)
        exact this.cell (by omega))
      have el : (L ++ numP sz x r).length = n + r := by rw [List.length_append, numP_length, HN.out]
      have el2 : (L ++ numP sz x r ++ [Y]).length = n + r + 1 := by rw [List.length_append, el]; rfl
      rw [el, el2] at hr3
      have hr4 : ∀ ty, (Builtin.append_ #[30, 30] ty #[.slice (some ⟨g2, 0, none⟩) (n + r) c2, .slice (some ⟨wr.heap.size, 0, none⟩) 1 1]).run Try.prog (wr.alloc (.cells #[.int .u8 (Y : Nat)] 5)) = .ok (.slice (some ⟨g3, 0, none⟩) (n + r + 1) c3) w3 := fun ty => hr3
      have HR3 : Hid (RL w3 B g3 c3 (L ++ numP sz x (r + 1))) := by show RL _ _ _ _ _; rw [HX.out, ← List.append_assoc]; exact hrow3
      have HO3 : Hid (OnlyB g w w3) := (HO.out.below ((Below.refl _ _).alloc (Nat.le_refl _) _)).behind ho3 HG.out
      have HG3 : Hid (g3 = g ∨ w.heap.size ≤ g3) := by
        show _ ∨ _
        rcases hg3 with e | e
        · rw [e]; exact HG.out
        · right; rw [e]; simp; omega
      have hHK : Hid ((sz : Int) - 1 - (r : Int) - 1 = (sz : Int) - 1 - ((r + 1 : Nat) : Int)) := by show _ = _; omega
      clear hrow3 ho3 hg3 hs HR HO HX hr3 el el2
      go_wp2_with (at_builtin; refine Lib.wpList_append_run _ rfl (.tmp 14) (.tmp 20) 30 30 rfl (.slice (some ⟨g2, 0, none⟩) (n + r) c2) (.slice (some ⟨wr.heap.size, 0, none⟩) 1 1) rfl rfl _ _ (hr4 _) ?_)
      go_roundw
      case rel => exact ⟨r + 1, g3, c3, by omega, numEqL hHK.out, rfl, HR3.out, HG3.out, HO3.out⟩
      case measure => simp [intOf]; omega
    · obtain rfl : r = sz := by omega
      have x0 : ¬ (0 : Int) ≤ (r : Int) - 1 - (r : Int) := by omega
      go_wp2
      go_ret
      exact ⟨⟨g2, c2, rfl, HR.out, HG.out⟩, HO.out⟩
end Go.Proofs.Ytglfhajfbdjjcaa

/-
  Files' bytes: FilesBytes of the program.
-/
namespace Go.Proofs.Ytglfhajfbdjjcaa
open Go.ChangeShapes Go.WideShapes Go.ChangeAt Go.RowKit
set_option linter.unusedVariables false
def flatF {T : Type} (f : T → List Nat) (F : Nat → T) : Nat → List Nat
  | 0 => []
  | n + 1 => flatF f F n ++ f (F n)
def bitN (b : Bool) : Nat := if b then 1 else 0
/-- A file's bytes. -/
def fiL (x : Fi) : List Nat := [x.p.size] ++ strL x.p ++ [bitN x.d] ++ numL 2 x.t.size ++ strL x.t
/-- Files' bytes. -/
def filL (n : Nat) (F : Nat → Fi) : List Nat := [n] ++ flatF fiL F n
theorem fiL_length {x : Fi} (h : x.Ok) : (fiL x).length ≤ 244 := by
  have h1 := h.1.1
  have h2 := h.2.1
  unfold fiL
  simp only [List.length_append, List.length_cons, List.length_nil, numL_length, strL_length]
  omega
theorem flatF_le {n : Nat} {F : Nat → Fi} (h : ∀ i, i < n → (F i).Ok) : (flatF fiL F n).length ≤ n * 244 := by
  induction n with
  | zero => simp [flatF]
  | succ n ih =>
    have h1 := ih (fun i hi => h i (by omega))
    have h2 := fiL_length (h n (by omega))
    show (flatF fiL F n ++ fiL (F n)).length ≤ _
    rw [List.length_append]
    omega
theorem lit1F (w : World) (x : Nat) : ∀ j (hj : j < [x].length), (w.alloc (.cells #[.int .u8 ((x : Nat) : Int)] 5)).cell? ⟨w.heap.size, 0 + j, none⟩ = some (.int .u8 (([x][j] : Nat) : Int)) := fun j hj => by
  obtain rfl : j = 0 := by simpa using hj
  have : ((w.alloc (.cells #[.int .u8 ((x : Nat) : Int)] 5)).rowIs w.heap.size 5 1 (fun _ => .int .u8 ((x : Nat) : Int))) := World.rowIs_alloc w #[.int .u8 ((x : Nat) : Int)] 5 _ (fun i hi => by
    obtain rfl : i = 0 := by simpa using hi
    rfl)
  exact this.cell (by omega)
/-- On the way: the row so far, and the variable of the file. -/
structure StF (v0 W : World) (rb g c q : Nat) (L : List Nat) (x : Fi) : Prop where
  row : RL W v0.heap.size g c L
  len : q = L.length
  ne : g ≠ rb
  box : Box3 W rb 33 (.string x.p) (.bool x.d) (.string x.t)
  hb : Below v0.heap.size v0 W
theorem StF.below {v0 W W' : World} {rb g c q : Nat} {L : List Nat} {x : Fi} (h : StF v0 W rb g c q L x) (hb : Below W.heap.size W W') : StF v0 W' rb g c q L x := ⟨h.row.below hb, h.len, h.ne, h.box.below hb, h.hb.trans (hb.mono h.hb.size)⟩
theorem StF.add1 {v0 W : World} {rb g c q : Nat} {L : List Nat} {x : Fi} (h : StF v0 W rb g c q L x) (z : Nat) (hq : q ≤ 900000) :
    ∃ g' c' W', (∀ ty, (Builtin.append_ #[30, 30] ty #[.slice (some ⟨g, 0, none⟩) q c, .slice (some ⟨W.heap.size, 0, none⟩) 1 1]).run Try.prog (W.alloc (.cells #[.int .u8 ((z : Nat) : Int)] 5)) = .ok (.slice (some ⟨g', 0, none⟩) (q + 1) c') W') ∧ StF v0 W' rb g' c' (q + 1) (L ++ [z]) x := by
  have hb : Below W.heap.size W (W.alloc (.cells #[.int .u8 ((z : Nat) : Int)] 5)) := (Below.refl _ _).alloc (Nat.le_refl _) _
  have hl := h.len
  obtain ⟨g3, c3, w3, hr3, hrow3, ho3, hg3⟩ := appL (W.alloc (.cells #[.int .u8 ((z : Nat) : Int)] 5)) v0.heap.size g c L [z] W.heap.size 0 1 30 (by have := h.hb.size; simp; omega) (by simp; omega) (h.row.below hb) (lit1F W z)
  have el2 : (L ++ [z]).length = q + 1 := by rw [List.length_append, hl]; rfl
  rw [← hl, el2] at hr3
  have bl := h.box.lt
  have h2 := h.below hb
  refine ⟨g3, c3, w3, fun ty => hr3, hrow3, el2.symm, ?_, h2.box.ofBlock (ho3.block _ h2.box.lt h.ne.symm), h2.hb.trans (ho3.toBelow h.row.ge.1 h2.hb.size)⟩
  rcases hg3 with e | e
  · rw [e]; exact h.ne
  · rw [e, World.size_alloc]; omega
theorem StF.addT {v0 W : World} {rb g c q : Nat} {L : List Nat} {x : Fi} (h : StF v0 W rb g c q L x) (s : ByteArray) (hq : q + s.size ≤ 900000) :
    ∃ g' c' W', (∀ ty, (Builtin.append_ #[30, 9] ty #[.slice (some ⟨g, 0, none⟩) q c, .string s]).run Try.prog W = .ok (.slice (some ⟨g', 0, none⟩) (q + s.size) c') W') ∧ StF v0 W' rb g' c' (q + s.size) (L ++ strL s) x := by
  have hl := h.len
  obtain ⟨i, hi, hz, hsz, hby⟩ := info_parts Try.infoB8
  obtain ⟨g3, c3, w3, hr3, hrow3, ho3⟩ := appT W v0.heap.size g c L s 30 h.hb.size (by omega) h.row
  have el2 : (L ++ strL s).length = q + s.size := by rw [List.length_append, hl, strL_length]
  rw [← hl, el2] at hr3
  have bl := h.box.lt
  have hB := h.box.ofBlock (ho3.block _ bl h.ne.symm)
  refine ⟨g3, c3, w3, fun ty => hr3, hrow3, el2.symm, ?_, hB, h.hb.trans (ho3.toBelow h.row.ge.1 h.hb.size)⟩
  intro e
  have c1 := hB.c0
  obtain ⟨hl', ⟨h1, h2⟩ | ⟨g', cap, cur, hv, hBB, hh, _⟩⟩ := hrow3
  · cases h1
  · cases hv
    obtain ⟨cur', hh', _⟩ := hB
    rw [e] at hh
    rw [hh'] at hh
    cases hh
set_option maxRecDepth 100000 in
theorem dirByte_any (b : Bool) (w : World) : Calls Try.prog 99 #[.bool b] w fun e w' => e = .returned (.int .u8 ((bitN b : Nat) : Int)) ∧ w' = w := by
  cases b with
  | true =>
    go_enter Try.func99, Try.ntmps99
    go_wp2
    go_ret
    exact ⟨rfl, rfl⟩
  | false =>
    go_enter Try.func99, Try.ntmps99
    go_wp2
    go_ret
    exact ⟨rfl, rfl⟩
theorem StF.num {v0 W : World} {rb g c q : Nat} {L : List Nat} {x : Fi} (h : StF v0 W rb g c q L x) (z : Nat) (hq : q ≤ 800000) :
    Calls Try.prog 100 #[.slice (some ⟨g, 0, none⟩) q c, .int .i64 (z : Int), .int .i64 2] W fun e w' => ∃ g' c', e = .returned (.slice (some ⟨g', 0, none⟩) (q + 2) c') ∧ StF v0 w' rb g' c' (q + 2) (L ++ numL 2 z) x := by
  have hl := h.len
  refine (appendNumberL v0.heap.size g c z 2 L (by omega) (by omega) W h.hb.size h.row q hl).mono ?_
  rintro e w' ⟨⟨g', c', rfl, hr, hg⟩, ho⟩
  have bl := h.box.lt
  refine ⟨g', c', rfl, hr, by rw [List.length_append, numL_length, hl], ?_, h.box.ofBlock (ho.block _ bl h.ne.symm), h.hb.trans (ho.toBelow h.row.ge.1 h.hb.size)⟩
  rcases hg with e | e
  · rw [e]; exact h.ne
  · omega
/-- What FilesBytes does. -/
def ByIs (n : Nat) (F : Nat → Fi) (L : List Nat) (c : Int) : Prop := (4096 < n ∧ c = 2 ∧ L = []) ∨ (¬ 4096 < n ∧ ((¬ FsOk n F ∧ c = 1 ∧ L = []) ∨ (FsOk n F ∧ c = 0 ∧ L = filL n F)))
theorem FtIs.none {n : Nat} {F : Nat → Fi} {t : Nat → ByteArray} {c : Int} (h : FtIs n F 0 t c) : (c ≠ 0 ∧ ByIs n F [] c) ∨ (c = 0 ∧ FsOk n F ∧ ¬ 4096 < n) := by
  have hnl : ¬ LongT 0 t := fun ⟨i, hi, _⟩ => absurd hi (by omega)
  rcases h with ⟨a, rfl⟩ | ⟨a, ⟨b, rfl⟩ | ⟨b, ⟨⟨i, hi, _⟩, _⟩ | ⟨g, rfl⟩⟩⟩
  · exact .inl ⟨by decide, .inl ⟨a.resolve_right hnl, rfl, rfl⟩⟩
  · exact .inl ⟨by decide, .inr ⟨fun q => a (.inl q), .inl ⟨b, rfl, rfl⟩⟩⟩
  · exact absurd hi (by omega)
  · exact .inr ⟨rfl, b, fun q => a (.inl q)⟩
/-- A row handed back: of the call's own, or none. -/
def RetBy (L : List Nat) (cd : Int) (B : Nat) (e : Ending) (w : World) : Prop := (L = [] ∧ (∃ a, e = .returned (.tuple #[.slice a 0 0, .int .i64 cd]))) ∨ ∃ g c, e = .returned (.tuple #[.slice (some ⟨g, 0, none⟩) L.length c, .int .i64 cd]) ∧ RL w B g c L
set_option maxRecDepth 100000 in
set_option maxHeartbeats 4000000 in
theorem implBy_any (a : Option Addr) (n c : Nat) (F : Nat → Fi) (hsz : ∀ i, i < n → (F i).p.size ≤ 1048576) (hnn : n ≤ 1048576) (hsl : SlP a n c) (w : World) (h : Els w 3 a n (fiF F)) :
    Calls Try.prog 58 #[.slice a n c] w fun e w' => (∃ L cd, ByIs n F L cd ∧ RetBy L cd w.heap.size e w') ∧ Below w.heap.size w w' := by
  have FF : Hid (Calls Try.prog 42 #[.slice a n c, .slice none 0 0] w fun e w' => (∃ x : Int, e = .returned (.int .i64 x) ∧ FtIs n F 0 (fun _ => ⟨#[]⟩) x) ∧ Below w.heap.size w w') := filesFault_any a n c F none 0 0 (fun _ => ⟨#[]⟩) hsz hnn hsl (by omega) w h (fun i hi => absurd hi (by omega))
  have H : Hid (Els w 3 a n (fiF F)) := h
  clear h hsz
  go_enter Try.func58, Try.ntmps58
  go_wp2_with fail
  refine (Calls.mono FF.out) ?_
  rintro e v0 ⟨⟨x, rfl, hx⟩, hb⟩
  have B0 : Hid (Below w.heap.size w v0) := hb
  clear hb FF
  rcases hx.none with ⟨h0, hB⟩ | ⟨rfl, hok, hn4⟩
  · have g : (x != 0) = true := by simpa using h0
    have HM : Hid (ByIs n F [] x) := hB
    clear h0 hB hx
    go_wp2
    go_ret2
    exact ⟨⟨_, _, HM.out, .inl ⟨rfl, _, rfl⟩⟩, B0.out⟩
  · have HO : Hid (FsOk n F) := hok
    have hn := hok.1
    have HM : Hid (ByIs n F (filL n F) 0) := .inr ⟨hn4, .inr ⟨hok, rfl, rfl⟩⟩
    have y0 : (n : Int) % 256 = (n : Int) := by omega
    have RB : Hid (RL (v0.alloc (.cells #[.int .u8 ((n : Nat) : Int)] 5)) v0.heap.size v0.heap.size 1 [n]) := RL.made v0 _ [n] 1 rfl (by omega) rfl
    have BB : Hid (Below v0.heap.size v0 (v0.alloc (.cells #[.int .u8 ((n : Nat) : Int)] 5))) := (Below.refl _ _).alloc (Nat.le_refl _) _
    have V0 : Hid (Els v0 3 a n (fiF F)) := H.out.below B0.out
    clear hx hok hn4 H
    go_wp2
    generalize (v0.alloc (.cells #[.int .u8 ((n : Nat) : Int)] 5)) = v1 at *
    go_loopw [5, 19] (fun s i wr => ∃ k g c q : Nat, k ≤ n ∧ i = .int .i64 k ∧ s = .slice (some ⟨g, 0, none⟩) q c ∧ q = ([n] ++ flatF fiL F k).length ∧ RL wr v0.heap.size g c ([n] ++ flatF fiL F k) ∧ Below v0.heap.size v0 wr) (fun _ i _ => n - (intOf i).toNat)
    case atStart => exact ⟨0, v0.heap.size, 1, 1, by omega, rfl, rfl, rfl, by simpa [flatF] using RB.out, BB.out⟩
    case round =>
      clear RB BB
      obtain ⟨k, g, c2, q, hk, rfl, rfl, hq, hrow, hb⟩ := hrel
      have HR : Hid (RL wr v0.heap.size g c2 ([n] ++ flatF fiL F k)) := hrow
      have HB : Hid (Below v0.heap.size v0 wr) := hb
      have HQ : Hid (q = ([n] ++ flatF fiL F k).length) := hq
      have hql : q ≤ 1 + 12 * 244 := by
        have := flatF_le (n := k) (F := F) (fun i hi => (HO.out.2 i (by omega)).1)
        rw [List.length_append] at hq
        simp at hq
        omega
      clear hrow hb hq
      by_cases hlt : k < n
      · have hlt' : (k : Int) < (n : Int) := by omega
        obtain ⟨b, off, rfl, hc⟩ := (V0.out.below HB.out).opened (by omega)
        obtain ⟨c0, c1, c2'⟩ := Els.fiC hc k hlt
        have hfo := (HO.out.2 k hlt).1
        have hps := hfo.1.1
        have hts := hfo.2.1
        have EF : Hid (flatF fiL F (k + 1) = flatF fiL F k ++ fiL (F k)) := rfl
        obtain ⟨v2, hv2⟩ : ∃ v2, v2 = wr.alloc (.cells #[.string (F k).p, .bool (F k).d, .string (F k).t] 33) := ⟨_, rfl⟩
        have hbr : Below wr.heap.size wr v2 := by rw [hv2]; exact (Below.refl _ _).alloc (Nat.le_refl _) _
        have S2 : Hid (StF v0 v2 wr.heap.size g c2 q ([n] ++ flatF fiL F k) (F k)) := ⟨HR.out.below hbr, HQ.out, by have := HR.out.ge; omega, by rw [hv2]; exact Box3.made _ _ _ _ _, HB.out.trans (hbr.mono HB.out.size)⟩
        have HV2 : Hid (wr.alloc (.cells #[.string (F k).p, .bool (F k).d, .string (F k).t] 33) = v2) := hv2.symm
        have EL : Hid ([n] ++ flatF fiL F k ++ [(F k).p.size] ++ strL (F k).p ++ [bitN (F k).d] ++ numL 2 (F k).t.size ++ strL (F k).t = [n] ++ flatF fiL F (k + 1)) := by
          show _ = _
          rw [EF.out]
          unfold fiL
          simp only [List.append_assoc]
        have hp256 : ((F k).p.size : Int) % 256 = ((F k).p.size : Int) := by omega
        generalize [n] ++ flatF fiL F k = L at *
        generalize F k = y at *
        clear hfo hc hbr hv2 EF HQ HR HB
        go_upto_region 8 with fail
        rw [HV2.out]
        clear c0 c1 c2' HV2
        generalize wr.heap.size = rb at *
        obtain ⟨g3, c3, v3, r3, s3⟩ := S2.out.add1 y.p.size (by omega)
        have S3 : Hid (StF v0 v3 rb g3 c3 (q + 1) (L ++ [y.p.size]) y) := s3
        have x0 := S2.out.box.c0
        clear s3
        go_upto_region 9 with (at_builtin; refine Lib.wpList_append_run _ rfl (.tmp 23) (.tmp 28) 30 30 rfl (.slice (some ⟨g, 0, none⟩) q c2) (.slice (some ⟨v2.heap.size, 0, none⟩) 1 1) rfl rfl _ _ (r3 _) ?_)
        clear r3 x0 S2
        obtain ⟨g4, c4, v4, r4, s4⟩ := S3.out.addT y.p (by omega)
        have S4 : Hid (StF v0 v4 rb g4 c4 (q + 1 + y.p.size) (L ++ [y.p.size] ++ strL y.p) y) := s4
        have x0 := S3.out.box.c0
        clear s4
        go_upto_region 10 with (at_builtin; refine Lib.wpList_append_run _ rfl (.tmp 30) (.tmp 32) 30 9 rfl (.slice (some ⟨g3, 0, none⟩) (q + 1) c3) (.string y.p) rfl rfl _ _ (r4 _) ?_)
        clear r4 x0 S3
        have x1 := S4.out.box.c1
        go_wp2_with fail
        refine (dirByte_any y.d _).mono ?_
        rintro e v4' ⟨rfl, hw⟩
        cases hw
        obtain ⟨g5, c5, v5, r5, s5⟩ := S4.out.add1 (bitN y.d) (by omega)
        have S5 : Hid (StF v0 v5 rb g5 c5 (q + 1 + y.p.size + 1) (L ++ [y.p.size] ++ strL y.p ++ [bitN y.d]) y) := s5
        clear s5 x1
        generalize bitN y.d = bd at *
        go_upto_region 11 with (at_builtin; refine Lib.wpList_append_run _ rfl (.tmp 34) (.tmp 38) 30 30 rfl (.slice (some ⟨g4, 0, none⟩) (q + 1 + y.p.size) c4) (.slice (some ⟨v4.heap.size, 0, none⟩) 1 1) rfl rfl _ _ (r5 _) ?_)
        clear r5 S4
        have x2 := S5.out.box.c2
        have NU : Hid (Calls Try.prog 100 #[.slice (some ⟨g5, 0, none⟩) (q + 1 + y.p.size + 1) c5, .int .i64 (y.t.size : Int), .int .i64 2] v5 fun e w' => ∃ g' c', e = .returned (.slice (some ⟨g', 0, none⟩) (q + 1 + y.p.size + 1 + 2) c') ∧ StF v0 w' rb g' c' (q + 1 + y.p.size + 1 + 2) (L ++ [y.p.size] ++ strL y.p ++ [bd] ++ numL 2 y.t.size) y) := S5.out.num y.t.size (by omega)
        go_wp2_with fail
        refine (Calls.mono NU.out) ?_
        rintro e v6 ⟨g6, c6, rfl, s6⟩
        clear NU S5 x2
        have S6 : Hid (StF v0 v6 rb g6 c6 (q + 1 + y.p.size + 1 + 2) (L ++ [y.p.size] ++ strL y.p ++ [bd] ++ numL 2 y.t.size) y) := s6
        obtain ⟨g7, c7, v7, r7, s7⟩ := S6.out.addT y.t (by omega)
        rw [EL.out] at s7
        have S7 : Hid (StF v0 v7 rb g7 c7 (q + 1 + y.p.size + 1 + 2 + y.t.size) ([n] ++ flatF fiL F (k + 1)) y) := s7
        have x2 := S6.out.box.c2
        clear s6 s7 S6
        go_wp2_with (at_builtin; refine Lib.wpList_append_run _ rfl (.tmp 45) (.tmp 47) 30 9 rfl (.slice (some ⟨g6, 0, none⟩) (q + 1 + y.p.size + 1 + 2) c6) (.string y.t) rfl rfl _ _ (r7 _) ?_)
        go_roundw
        case rel => exact ⟨k + 1, g7, c7, _, by omega, by go_num, rfl, S7.out.len, S7.out.row, S7.out.hb⟩
        case measure => simp [intOf]; omega
      · obtain rfl : k = n := by omega
        have hlt' : ¬ (k : Int) < (k : Int) := by omega
        have HE : Hid (RetBy (filL k F) 0 w.heap.size (.returned (.tuple #[.slice (some ⟨g, 0, none⟩) q c2, .int .i64 0])) wr) := .inr ⟨g, c2, by rw [HQ.out]; rfl, HR.out.mono B0.out.size⟩
        have BE : Hid (Below w.heap.size w wr) := B0.out.trans (HB.out.mono B0.out.size)
        clear HQ HR HB
        go_wp2
        go_ret2
        exact ⟨⟨_, _, HM.out, HE.out⟩, BE.out⟩
end Go.Proofs.Ytglfhajfbdjjcaa

/-
  FilesText of the program and of the model.
-/
namespace Go.Proofs.Ytglfhajfbdjjcaa
open Go.ChangeShapes Go.WideShapes Go.ChangeAt Go.RowKit
set_option linter.unusedVariables false
/-- What a file's line has behind its path. -/
def lnT (x : Fi) : ByteArray := if x.d then ⟨#[47, 10]⟩ else (⟨#[32]⟩ ++ x.t) ++ ⟨#[10]⟩
/-- The text of the first k files. -/
def filT (F : Nat → Fi) : Nat → ByteArray
  | 0 => ⟨#[]⟩
  | k + 1 => filT F k ++ (F k).p ++ lnT (F k)
theorem filT_succ (F : Nat → Fi) (k : Nat) : filT F (k + 1) = filT F k ++ (F k).p ++ lnT (F k) := rfl
theorem one_size (x : UInt8) : (⟨#[x]⟩ : ByteArray).size = 1 := rfl
theorem two_size (x y : UInt8) : (⟨#[x, y]⟩ : ByteArray).size = 2 := rfl
theorem lnT_le {x : Fi} (h : x.Ok) : (lnT x).size ≤ 202 := by
  unfold lnT
  have := h.2.1
  split
  · rw [two_size]; omega
  · rw [ByteArray.size_append, ByteArray.size_append, one_size, one_size]; omega
theorem filT_le {F : Nat → Fi} : ∀ {n : Nat}, (∀ i, i < n → (F i).Ok) → (filT F n).size ≤ 242 * n
  | 0, _ => Nat.le_refl _
  | n + 1, h => by
    have h1 := filT_le (n := n) (fun i hi => h i (by omega))
    have h2 := lnT_le (h n (by omega))
    have h3 := (h n (by omega)).1.1
    rw [filT_succ, ByteArray.size_append, ByteArray.size_append]
    omega
theorem strCells_app (s t : ByteArray) : Lib.strCells (s ++ t) = Lib.strCells s ++ Lib.strCells t := by
  unfold Lib.strCells
  rw [show (s ++ t).data = s.data ++ t.data from ByteArray.data_append]
  simp
/-- What FilesText answers. -/
def TxIs (n : Nat) (F : Nat → Fi) (t : ByteArray) (c : Int) : Prop := (4096 < n ∧ c = 2 ∧ t = ⟨#[]⟩) ∨ (¬ 4096 < n ∧ ((¬ FsOk n F ∧ c = 1 ∧ t = ⟨#[]⟩) ∨ (FsOk n F ∧ c = 0 ∧ t = filT F n)))
theorem TxIs.uniq {n : Nat} {F : Nat → Fi} {t t' : ByteArray} {c c' : Int} (h : TxIs n F t c) (h' : TxIs n F t' c') : t = t' ∧ c = c' := by
  rcases h with ⟨a, rfl, rfl⟩ | ⟨a, ⟨b, rfl, rfl⟩ | ⟨b, rfl, rfl⟩⟩ <;> rcases h' with ⟨a', rfl, rfl⟩ | ⟨a', ⟨b', rfl, rfl⟩ | ⟨b', rfl, rfl⟩⟩ <;> first | exact ⟨rfl, rfl⟩ | exact absurd a a' | exact absurd a' a | exact absurd b b' | exact absurd b' b
theorem TxIs.ofBy {n : Nat} {F : Nat → Fi} {c : Int} (h0 : c ≠ 0) (h : ByIs n F [] c) : TxIs n F ⟨#[]⟩ c := by
  rcases h with ⟨a, rfl, _⟩ | ⟨a, ⟨b, rfl, _⟩ | ⟨b, rfl, _⟩⟩
  · exact .inl ⟨a, rfl, rfl⟩
  · exact .inr ⟨a, .inl ⟨b, rfl, rfl⟩⟩
  · exact absurd rfl h0
theorem Box3.kept {w w' : World} {b k : Nat} {x y z : Value} (h : Box3 w b 33 x y z) (hk : Lib.OthersKept 5 (some k) w w') (hne : b ≠ k) : Box3 w' b 33 x y z := h.ofBlock (by
  obtain ⟨cur, hh, _⟩ := h
  rw [hh]
  exact hk b _ hh (fun e => hne (Option.some.inj e)) (fun c fz e => by cases e))
set_option maxRecDepth 100000 in
set_option maxHeartbeats 4000000 in
theorem implTx_any (a : Option Addr) (n c : Nat) (F : Nat → Fi) (hsz : ∀ i, i < n → (F i).p.size ≤ 1048576) (hnn : n ≤ 1048576) (hsl : SlP a n c) (w : World) (h : Els w 3 a n (fiF F)) :
    Calls Try.prog 12 #[.slice a n c] w fun e w' => (∃ t cd, TxIs n F t cd ∧ e = .returned (.tuple #[.string t, .int .i64 cd])) ∧ Below w.heap.size w w' := by
  have FF : Hid (Calls Try.prog 42 #[.slice a n c, .slice none 0 0] w fun e w' => (∃ x : Int, e = .returned (.int .i64 x) ∧ FtIs n F 0 (fun _ => ⟨#[]⟩) x) ∧ Below w.heap.size w w') := filesFault_any a n c F none 0 0 (fun _ => ⟨#[]⟩) hsz hnn hsl (by omega) w h (fun i hi => absurd hi (by omega))
  have H : Hid (Els w 3 a n (fiF F)) := h
  clear h hsz
  go_enter Try.func12, Try.ntmps12
  go_wp2_with fail
  refine (Calls.mono FF.out) ?_
  rintro e v0 ⟨⟨x, rfl, hx⟩, hb⟩
  have B0 : Hid (Below w.heap.size w v0) := hb
  clear hb FF
  rcases hx.none with ⟨h0, hB⟩ | ⟨rfl, hok, hn4⟩
  · have g : (x != 0) = true := by simpa using h0
    have HM : Hid (TxIs n F ⟨#[]⟩ x) := TxIs.ofBy h0 hB
    clear h0 hB hx
    go_wp2
    go_ret2
    exact ⟨⟨_, _, HM.out, rfl⟩, B0.out⟩
  · have HO : Hid (FsOk n F) := hok
    have hn := hok.1
    have HM : Hid (TxIs n F (filT F n) 0) := .inr ⟨hn4, .inr ⟨hok, rfl, rfl⟩⟩
    have V0 : Hid (Els v0 3 a n (fiF F)) := H.out.below B0.out
    obtain ⟨v1, hv1⟩ : ∃ v, v = v0.alloc (.cells #[.pointer none, .slice none 0 0] 65) := ⟨_, rfl⟩
    have RB : Hid (Bld v0.heap.size v0.heap.size (Lib.strCells (filT F 0)) v1) := by
      refine .inl ⟨Nat.le_refl _, .slice none 0 0, ?_, ⟨rfl, .inl ⟨rfl, rfl⟩⟩, by simp [Value.ownBlock]⟩
      rw [hv1]; exact World.alloc_heap_new v0 _
    have BB : Hid (Below v0.heap.size v0 v1) := by show Below _ _ _; rw [hv1]; exact (Below.refl _ _).alloc (Nat.le_refl _) _
    have HV : Hid (v0.alloc (.cells #[.pointer none, .slice none 0 0] 65) = v1) := hv1.symm
    have WS : Hid (∀ (s T : ByteArray) (wr : World), T.size + s.size ≤ 1048576 → Bld v0.heap.size v0.heap.size (Lib.strCells T) wr → Below v0.heap.size v0 wr → Calls Try.prog 43 #[.pointer (some ⟨v0.heap.size, 0, none⟩), .string s] wr fun e w' => e = .returned (.tuple #[.int .i64 s.size, .nilIface]) ∧ (Bld v0.heap.size v0.heap.size (Lib.strCells (T ++ s)) w' ∧ Below v0.heap.size v0 w' ∧ Lib.OthersKept 5 (some v0.heap.size) wr w')) := fun s T wr hz hB hb => (writeString_any v0.heap.size v0.heap.size (Lib.strCells T) s wr hB (by rw [Lib.strCells_length]; omega) hb.size).mono fun e w' q => ⟨q.1, by rw [strCells_app]; exact q.2.1, hb.trans q.2.2.1, q.2.2.2⟩
    have VE : Hid (∀ wr : World, Below v0.heap.size v0 wr → Els wr 3 a n (fiF F)) := fun wr hb => V0.out.below hb
    have BS : Hid (w.heap.size ≤ v0.heap.size) := B0.out.size
    have BQ : Hid (∀ wr : World, Below v0.heap.size v0 wr → v0.heap.size ≤ wr.heap.size) := fun wr hb => hb.size
    clear hx hok hn4 H hv1 V0
    go_upto_region 5 with fail
    rw [HV.out]
    generalize v0.heap.size = B at *
    go_wp2
    clear HV
    go_loopw [15] (fun i wr => ∃ k : Nat, k ≤ n ∧ i = .int .i64 k ∧ Bld B B (Lib.strCells (filT F k)) wr ∧ Below B v0 wr) (fun i _ => n - (intOf i).toNat)
    case atStart => exact ⟨0, by omega, rfl, RB.out, BB.out⟩
    case round =>
      clear RB BB
      obtain ⟨k, hk, rfl, hbl, hb⟩ := hrel
      have HL : Hid (Bld B B (Lib.strCells (filT F k)) wr) := hbl
      have HB : Hid (Below B v0 wr) := hb
      clear hbl hb
      by_cases hlt : k < n
      · have hlt' : (k : Int) < (n : Int) := by omega
        obtain ⟨b, off, rfl, hc⟩ := (VE.out _ HB.out).opened (by omega)
        obtain ⟨c0, c1, c2⟩ := Els.fiC hc k hlt
        have hz : (filT F k).size ≤ 2904 := by have := filT_le (n := k) (F := F) (fun i hi => (HO.out.2 i (by omega)).1); omega
        have yz1 : (F k).p.size ≤ 40 := (HO.out.2 k hlt).1.1.1
        have yz2 : (F k).t.size ≤ 200 := (HO.out.2 k hlt).1.2.1
        have HS : Hid (filT F (k + 1) = filT F k ++ (F k).p ++ lnT (F k)) := rfl
        generalize filT F k = T at *
        generalize F k = y at *
        obtain ⟨yp, yd, yt⟩ := y
        dsimp only at *
        clear hc
        obtain ⟨v, hv⟩ : ∃ v, v = wr.alloc (.cells #[.string yp, .bool yd, .string yt] 33) := ⟨_, rfl⟩
        have XB : Hid (Box3 v wr.heap.size 33 (.string yp) (.bool yd) (.string yt)) := by show Box3 _ _ _ _ _ _; rw [hv]; exact Box3.made _ _ _ _ _
        have LV : Hid (Bld B B (Lib.strCells T) v) := by show Bld _ _ _ _; rw [hv]; exact Lib.IsBuilderF.alloc HL.out _
        have BV : Hid (Below B v0 v) := by show Below _ _ _; rw [hv]; exact HB.out.alloc (BQ.out _ HB.out) _
        have HV : Hid (wr.alloc (.cells #[.string yp, .bool yd, .string yt] 33) = v) := hv.symm
        have NE : Hid (wr.heap.size ≠ B) := fun e => by
          have := HL.out
          rcases this with ⟨_, u, hu, _⟩ | ⟨_, u, hu, _⟩ <;> (have h2 := (Array.getElem?_eq_some_iff.1 hu).1; omega)
        have t0 := XB.out.c0
        rw [hv] at t0
        clear hv HL HB
        go_wp2_with fail
        rw [HV.out]
        refine (WS.out _ _ _ (by omega) LV.out BV.out).mono ?_
        rintro e w1 ⟨rfl, l1, b1, k1⟩
        have X1 : Hid (Box3 w1 wr.heap.size 33 (.string yp) (.bool yd) (.string yt)) := XB.out.kept k1 NE.out
        have L1 : Hid (Bld B B (Lib.strCells (T ++ yp)) w1) := l1
        have B1 : Hid (Below B v0 w1) := b1
        have t1 := X1.out.c1
        have t2 := X1.out.c2
        clear l1 b1 k1 XB LV BV HV t0 c0 c1 c2
        have z1 : (T ++ yp).size ≤ 2944 := by rw [ByteArray.size_append]; omega
        have q1 : (⟨#[47]⟩ : ByteArray).size = 1 := rfl
        have q2 : (⟨#[10]⟩ : ByteArray).size = 1 := rfl
        have q3 : ((⟨#[32]⟩ : ByteArray) ++ yt).size ≤ 201 := by rw [ByteArray.size_append, one_size]; omega
        have q4 : 1 + yt.size ≤ 9223372036854775807 := by omega
        have HZ : Hid ((T ++ yp).size ≤ 2944 ∧ ((⟨#[32]⟩ : ByteArray) ++ yt).size ≤ 201) := ⟨z1, q3⟩
        clear z1 q3
        cases yd with
        | true =>
          have HS2 : Hid (filT F (k + 1) = T ++ yp ++ ⟨#[47]⟩ ++ ⟨#[10]⟩) := by
            show _ = _
            rw [HS.out]
            show T ++ yp ++ ⟨#[47, 10]⟩ = _
            rw [ByteArray.append_assoc (a := T ++ yp)]
            rfl
          clear HS
          go_wp2_with fail
          refine (WS.out _ _ _ (by have := HZ.out.1; omega) L1.out B1.out).mono ?_
          rintro e w2 ⟨rfl, l2, b2, k2⟩
          have L2 : Hid (Bld B B (Lib.strCells (T ++ yp ++ ⟨#[47]⟩)) w2) := l2
          have B2 : Hid (Below B v0 w2) := b2
          clear l2 b2 k2 L1 B1 X1 t1 t2
          go_wp2_with fail
          refine (WS.out _ _ _ (by have := HZ.out.1; rw [ByteArray.size_append, q1, q2]; omega) L2.out B2.out).mono ?_
          rintro e w3 ⟨rfl, l3, b3, k3⟩
          rw [← HS2.out] at l3
          have L3 : Hid (Bld B B (Lib.strCells (filT F (k + 1))) w3) := l3
          have B3 : Hid (Below B v0 w3) := b3
          clear l3 b3 k3 L2 B2 HS2
          go_wp2
          go_roundw
          case rel => exact ⟨k + 1, by omega, by go_num, L3.out, B3.out⟩
          case measure => simp [intOf]; omega
        | false =>
          have HS2 : Hid (filT F (k + 1) = T ++ yp ++ (⟨#[32]⟩ ++ yt) ++ ⟨#[10]⟩) := by
            show _ = _
            rw [HS.out]
            show T ++ yp ++ ((⟨#[32]⟩ ++ yt) ++ ⟨#[10]⟩) = _
            rw [ByteArray.append_assoc (a := T ++ yp)]
          clear HS
          go_wp2_with fail
          refine (WS.out _ _ _ (by have := HZ.out.1; have := HZ.out.2; omega) L1.out B1.out).mono ?_
          rintro e w2 ⟨rfl, l2, b2, k2⟩
          have L2 : Hid (Bld B B (Lib.strCells (T ++ yp ++ (⟨#[32]⟩ ++ yt))) w2) := l2
          have B2 : Hid (Below B v0 w2) := b2
          clear l2 b2 k2 L1 B1 X1 t1 t2
          go_wp2_with fail
          refine (WS.out _ _ _ (by have := HZ.out.1; have := HZ.out.2; rw [ByteArray.size_append (a := T ++ yp), q2]; omega) L2.out B2.out).mono ?_
          rintro e w3 ⟨rfl, l3, b3, k3⟩
          rw [← HS2.out] at l3
          have L3 : Hid (Bld B B (Lib.strCells (filT F (k + 1))) w3) := l3
          have B3 : Hid (Below B v0 w3) := b3
          clear l3 b3 k3 L2 B2 HS2
          go_wp2
          go_roundw
          case rel => exact ⟨k + 1, by omega, by go_num, L3.out, B3.out⟩
          case measure => simp [intOf]; omega
      · obtain rfl : k = n := by omega
        have hlt' : ¬ (k : Int) < (k : Int) := by omega
        have SR : Hid (Calls Try.prog 44 #[.pointer (some ⟨B, 0, none⟩)] wr fun e w' => e = .returned (.string (filT F k)) ∧ Below B wr w') := (builtString B B (filT F k).data.toList wr HL.out (BQ.out _ HB.out)).mono fun e w' q => ⟨by rw [q.1], q.2.2.1⟩
        generalize filT F k = T at *
        clear HL
        go_wp2_with fail
        refine (Calls.mono SR.out) ?_
        rintro e w2 ⟨rfl, hb2⟩
        have B2 : Hid (Below w.heap.size w w2) := B0.out.trans ((HB.out.trans hb2).mono BS.out)
        clear hb2 SR
        go_wp2
        go_ret2
        exact ⟨⟨_, _, HM.out, rfl⟩, B2.out⟩
set_option maxRecDepth 100000 in
set_option maxHeartbeats 2000000 in
theorem l14Text_any (a : Option Addr) (n c : Nat) (F : Nat → Fi) (hok : FsOk n F) (v0 : World) (h : Els v0 3 a n (fiF F)) :
    Calls Try.prog 40 #[.slice a n c] v0 fun e w' => e = .returned (.string (filT F n)) ∧ w' = v0 := by
  have HO : Hid (FsOk n F) := hok
  have hn := hok.1
  have H : Hid (Els v0 3 a n (fiF F)) := h
  clear h hok
  go_enter Try.func40, Try.ntmps40
  go_wp2
  go_loopw [3, 4] (fun s i wr => ∃ (k : Nat) (T : ByteArray), k ≤ n ∧ i = .int .i64 k ∧ s = .string T ∧ T = filT F k ∧ wr = v0) (fun _ i _ => n - (intOf i).toNat)
  case atStart => exact ⟨0, _, by omega, rfl, rfl, rfl, rfl⟩
  case round =>
    obtain ⟨k, T, hk, rfl, rfl, hT, rfl⟩ := hrel
    have HT : Hid (T = filT F k) := hT
    have hz : T.size ≤ 2904 := by have := filT_le (n := k) (F := F) (fun i hi => (HO.out.2 i (by omega)).1); rw [hT]; omega
    clear hT
    by_cases hlt : k < n
    · have hlt' : (k : Int) < (n : Int) := by omega
      obtain ⟨b, off, rfl, hc⟩ := H.out.opened (by omega)
      obtain ⟨c0, c1, c2⟩ := Els.fiC hc k hlt
      have yz1 : (F k).p.size ≤ 40 := (HO.out.2 k hlt).1.1.1
      have yz2 : (F k).t.size ≤ 200 := (HO.out.2 k hlt).1.2.1
      have HS : Hid (filT F (k + 1) = T ++ (F k).p ++ lnT (F k)) := by show _ = _; rw [filT_succ, HT.out]
      generalize F k = y at *
      obtain ⟨yp, yd, yt⟩ := y
      dsimp only at *
      clear hc HT
      have s1 : T.size + yp.size ≤ 9223372036854775807 := by omega
      have s2 : (T ++ yp).size ≤ 2944 := by rw [ByteArray.size_append]; omega
      cases yd with
      | true =>
        have HS2 : Hid (T ++ yp ++ ⟨#[47, 10]⟩ = filT F (k + 1)) := HS.out.symm
        have s3 : (T ++ yp).size + 2 ≤ 9223372036854775807 := by omega
        clear HS
        generalize hU : T ++ yp = U at *
        go_wp2
        go_roundw
        case rel => exact ⟨k + 1, _, by omega, by go_num, rfl, HS2.out, trivial⟩
        case measure => simp [intOf]; omega
      | false =>
        have HS2 : Hid (T ++ yp ++ ((⟨#[32]⟩ ++ yt) ++ ⟨#[10]⟩) = filT F (k + 1)) := HS.out.symm
        have s4 : 1 + yt.size ≤ 9223372036854775807 := by omega
        have s5 : ((⟨#[32]⟩ : ByteArray) ++ yt).size ≤ 201 := by rw [ByteArray.size_append, one_size]; omega
        have s6 : ((⟨#[32]⟩ : ByteArray) ++ yt).size + 1 ≤ 9223372036854775807 := by omega
        have s7 : (((⟨#[32]⟩ : ByteArray) ++ yt) ++ ⟨#[10]⟩).size ≤ 202 := by rw [ByteArray.size_append, one_size]; omega
        have s8 : (T ++ yp).size + (((⟨#[32]⟩ : ByteArray) ++ yt) ++ ⟨#[10]⟩).size ≤ 9223372036854775807 := by omega
        clear HS
        generalize hU : T ++ yp = U at *
        go_wp2
        go_roundw
        case rel => exact ⟨k + 1, _, by omega, by go_num, rfl, HS2.out, trivial⟩
        case measure => simp [intOf]; omega
    · obtain rfl : k = n := by omega
      have hlt' : ¬ (k : Int) < (k : Int) := by omega
      go_wp2
      go_ret
      exact ⟨by rw [HT.out]; rfl, rfl⟩
set_option maxRecDepth 100000 in
set_option maxHeartbeats 1000000 in
theorem specTx_any (a : Option Addr) (n c : Nat) (F : Nat → Fi) (hsz : ∀ i, i < n → (F i).p.size ≤ 1048576) (hnn : n ≤ 1048576) (w : World) (h : Els w 3 a n (fiF F)) :
    Calls Try.prog 10 #[.slice a n c] w fun e w' => (∃ t cd, TxIs n F t cd ∧ e = .returned (.tuple #[.string t, .int .i64 cd])) ∧ Below w.heap.size w w' := by
  by_cases h0 : 4096 < n
  · have g0 : (4096 : Int) < (n : Int) := by omega
    have HX : Hid (TxIs n F ⟨#[]⟩ 2) := .inl ⟨h0, rfl, rfl⟩
    clear h hsz h0
    go_enter Try.func10, Try.ntmps10
    go_wp2
    go_ret2
    exact ⟨⟨_, _, HX.out, rfl⟩, Below.refl _ _⟩
  · have g0 : ¬ (4096 : Int) < (n : Int) := by omega
    have FO : Hid (Calls Try.prog 39 #[.slice a n c] w fun e w' => Says e (FsOk n F) ∧ Below w.heap.size w w') := specFilesOK_any a n c F hsz hnn w h
    have H : Hid (Els w 3 a n (fiF F)) := h
    clear h hsz
    go_enter Try.func10, Try.ntmps10
    go_wp2_with fail
    refine (Calls.mono FO.out) ?_
    rintro e v1 ⟨⟨y, rfl, hy⟩, hb⟩
    have B1 : Hid (Below w.heap.size w v1) := hb
    have HY : Hid (y = true ↔ FsOk n F) := hy
    clear hb hy FO
    cases y with
    | false =>
      have HX : Hid (TxIs n F ⟨#[]⟩ 1) := .inr ⟨h0, .inl ⟨(fun q => by have := HY.out.2 q; cases this), rfl, rfl⟩⟩
      clear HY
      go_wp2
      go_ret2
      exact ⟨⟨_, _, HX.out, rfl⟩, B1.out⟩
    | true =>
      have HF : Hid (FsOk n F) := HY.out.1 rfl
      have HX : Hid (TxIs n F (filT F n) 0) := .inr ⟨h0, .inr ⟨HF.out, rfl, rfl⟩⟩
      have BY : Hid (Calls Try.prog 40 #[.slice a n c] v1 fun e w' => e = .returned (.string (filT F n)) ∧ w' = v1) := l14Text_any a n c F HF.out v1 (H.out.below B1.out)
      clear HY
      generalize filT F n = LL at *
      go_wp2_with fail
      refine (Calls.mono BY.out) ?_
      rintro e v2 ⟨rfl, rfl⟩
      go_wp2
      go_ret2
      exact ⟨⟨_, _, HX.out, rfl⟩, B1.out⟩
end Go.Proofs.Ytglfhajfbdjjcaa
