/-
  Rows of bytes of a call's own, told by a list: what is appended to them; numbers and texts behind them.
-/
import Derived.Test.YtglfhajfbdjjcaaStrS
import Derived.Lib.AppendStr
import Derived.Lib.AppendZeros
import Derived.Maps.AppendAt
namespace Go.Proofs.Ytglfhajfbdjjcaa
open Go.ChangeShapes Go.WideShapes Go.ChangeAt Go.RowKit
set_option linter.unusedVariables false
/-- Bytes as cells. -/
def lv (L : List Nat) : List Value := L.map fun b => .int .u8 ((b : Nat) : Int)
theorem lv_append (L N : List Nat) : lv (L ++ N) = lv L ++ lv N := List.map_append
theorem lv_length (L : List Nat) : (lv L).length = L.length := List.length_map _
/-- A row of bytes of the call's own, in block g. -/
def RL (w : World) (B g c : Nat) (L : List Nat) : Prop := w.ownsRow B 5 1 (.slice (some ⟨g, 0, none⟩) L.length c) L.length (lv L)
theorem RL.ge {w : World} {B g c : Nat} {L : List Nat} (h : RL w B g c L) : B ≤ g ∧ g < w.heap.size := World.ownsRow.lt h g rfl
theorem RL.ofBlock {w w' : World} {B g c : Nat} {L : List Nat} (h : RL w B g c L) (e : w'.heap[g]? = w.heap[g]?) : RL w' B g c L := by
  obtain ⟨hl, ⟨h1, h2⟩ | ⟨g', cap, cur, hv, hB, hh, hr⟩⟩ := h
  · cases h1
  · have hg : g' = g := by cases hv; rfl
    exact ⟨hl, .inr ⟨g', cap, cur, hv, hB, by rw [hg, e, ← hg]; exact hh, hr⟩⟩
theorem RL.below {w w' : World} {B g c : Nat} {L : List Nat} (h : RL w B g c L) (hb : Below w.heap.size w w') : RL w' B g c L := h.ofBlock (hb.block g h.ge.2)
theorem RL.onlyB {w w' : World} {B g c q : Nat} {L : List Nat} (h : RL w B g c L) (ho : OnlyB q w w') (hne : g ≠ q) : RL w' B g c L := h.ofBlock (ho.block g h.ge.2 hne)
theorem RL.mono {w : World} {B B' g c : Nat} {L : List Nat} (h : RL w B g c L) (hb : B' ≤ B) : RL w B' g c L := by
  obtain ⟨hl, h0 | ⟨g', cap, cur, hv, h1, h2⟩⟩ := h
  · exact ⟨hl, .inl h0⟩
  · exact ⟨hl, .inr ⟨g', cap, cur, hv, Nat.le_trans hb h1, h2⟩⟩
theorem RL.cell {w : World} {B g c : Nat} {L : List Nat} (h : RL w B g c L) (i : Nat) (hi : i < L.length) : w.cell? ⟨g, i, none⟩ = some (.int .u8 ((L[i] : Nat) : Int)) := by
  obtain ⟨hl, ⟨h1, h2⟩ | ⟨g', cap, cur, hv, hB, hh, hn, hm, hs, ht⟩⟩ := h
  · cases h1
  · cases hv
    have h1 : (cur.toList.take (L.length * 1))[i]? = some (.int .u8 ((L[i] : Nat) : Int)) := by rw [ht]; simp [lv, hi]
    rw [List.getElem?_take, if_pos (by omega), Array.getElem?_toList] at h1
    simp [World.cell?, hh, h1]
theorem RL.frozen {w : World} {B g c : Nat} {L : List Nat} (h : RL w B g c L) (i : Nat) : w.frozen? ⟨g, i, none⟩ = false := by
  obtain ⟨hl, ⟨h1, h2⟩ | ⟨g', cap, cur, hv, hB, hh, hr⟩⟩ := h
  · cases h1
  · cases hv
    simp [World.frozen?, hh]
/-- A literal. -/
theorem RL.made (w : World) (cs : Array Value) (L : List Nat) (n : Nat) (hn : L.length = n) (hm : n ≤ 1000000) (e : cs.toList = lv L) : RL (w.alloc (.cells cs 5)) w.heap.size w.heap.size n L := by
  have hs : cs.size = L.length := by rw [← Array.length_toList, e, lv_length]
  refine ⟨by rw [lv_length, Nat.mul_one], .inr ⟨w.heap.size, n, cs, rfl, Nat.le_refl _, (MapKept.heap_alloc w _).1, by omega, by unfold maxLen; omega, by omega, by rw [Nat.mul_one, e, List.take_of_length_le (by rw [lv_length]; omega)]⟩⟩
theorem Try.infoB8 : (Try.prog.info? 5).map (fun i => (i.zero, i.size, i.bytes)) = some (some (.int .u8 0), 1, 1) := by kernel_rfl
theorem onlyB_of_grown {w w' : World} {g : Nat} (h : w.grownBy w' (some g)) : OnlyB g w w' := ⟨h.os, h.tape, h.output, h.size, fun b hb hne => h.block b hb (fun e => hne (Option.some.inj e))⟩
theorem OnlyB.behind {g g' : Nat} {w w1 w2 : World} (h : OnlyB g w w1) (h' : OnlyB g' w1 w2) (hg : g' = g ∨ w.heap.size ≤ g') : OnlyB g w w2 :=
  ⟨h'.os.trans h.os, h'.tape.trans h.tape, h'.output.trans h.output, Nat.le_trans h.size h'.size, fun b hb hne => (h'.block b (Nat.lt_of_lt_of_le hb h.size) (by rcases hg with rfl | hg <;> omega)).trans (h.block b hb hne)⟩
set_option maxRecDepth 100000 in
/-- append of bytes that lie at ⟨q, o⟩. -/
theorem appL (w : World) (B g c : Nat) (L N : List Nat) (q o cq : Nat) (ty : TypeId) (hB : B ≤ w.heap.size) (hl : L.length + N.length ≤ 1000000) (h : RL w B g c L) (hN : ∀ j (hj : j < N.length), w.cell? ⟨q, o + j, none⟩ = some (.int .u8 ((N[j] : Nat) : Int))) :
    ∃ g' c' w', (Builtin.append_ #[30, 30] ty #[.slice (some ⟨g, 0, none⟩) L.length c, .slice (some ⟨q, o, none⟩) N.length cq]).run Try.prog w = .ok (.slice (some ⟨g', 0, none⟩) (L ++ N).length c') w' ∧ RL w' B g' c' (L ++ N) ∧ OnlyB g w w' ∧ (g' = g ∨ g' = w.heap.size) := by
  obtain ⟨i, hi, hz, hsz, hby⟩ := info_parts Try.infoB8
  obtain ⟨v', w', hr, ho, hg, hne, hloc⟩ := run_append_own_at (P := Try.prog) w B 30 ty 5 i (.int .u8 0) 1 1 Try.underlying30 hi hz hsz hby rfl (by decide) _ L.length _ h ⟨q, o, none⟩ N.length cq (lv N) (by rw [lv_length, Nat.mul_one]) (fun j u hj => by
    rw [Go.WideShapes.add_plain]
    unfold lv at hj
    rw [List.getElem?_map, Option.map_eq_some_iff] at hj
    obtain ⟨b, hb, rfl⟩ := hj
    obtain ⟨hj', rfl⟩ := List.getElem?_eq_some_iff.1 hb
    exact hN j hj') (fun u hu => by
      obtain ⟨_, _, rfl⟩ := List.mem_map.1 hu
      rfl) (by unfold maxLen; omega) (by omega) hB
  rw [← lv_append, ← List.length_append] at ho
  have hform : ∃ g2 c2, v' = .slice (some ⟨g2, 0, none⟩) (L ++ N).length c2 := by
    obtain ⟨hl, ⟨h1, h2⟩ | ⟨g', cap, cur, hv, _⟩⟩ := ho
    · have := hne.1 h1
      cases this.1
    · exact ⟨g', cap, hv⟩
  obtain ⟨g2, c2, rfl⟩ := hform
  refine ⟨g2, c2, w', hr, ho, onlyB_of_grown hg, ?_⟩
  rcases hloc with e | e
  · exact .inl (Option.some.inj e)
  · exact .inr (Option.some.inj e)
/-- The bytes of a text. -/
def strL (s : ByteArray) : List Nat := s.data.toList.map UInt8.toNat
theorem strL_length (s : ByteArray) : (strL s).length = s.size := by unfold strL; rw [List.length_map, Array.length_toList]; rfl
set_option maxRecDepth 100000 in
/-- append of a text. -/
theorem appT (w : World) (B g c : Nat) (L : List Nat) (s : ByteArray) (ty : TypeId) (hB : B ≤ w.heap.size) (hl : L.length + s.size ≤ 1000000) (h : RL w B g c L) :
    ∃ g' c' w', (Builtin.append_ #[30, 9] ty #[.slice (some ⟨g, 0, none⟩) L.length c, .string s]).run Try.prog w = .ok (.slice (some ⟨g', 0, none⟩) (L ++ strL s).length c') w' ∧ RL w' B g' c' (L ++ strL s) ∧ OnlyB g w w' := by
  obtain ⟨i, hi, hz, hsz, hby⟩ := info_parts Try.infoB8
  obtain ⟨v', w', hr, ho, hg, hne⟩ := Lib.run_append_own_string (P := Try.prog) w B 30 9 ty 5 i Try.underlying30 Try.underlying9 hi hz hsz hby _ L.length _ h s (by unfold maxLen; omega) (by omega) hB
  have e1 : Lib.strCells s = lv (strL s) := by
    unfold Lib.strCells lv strL
    simp
  rw [e1, ← lv_append, ← strL_length s, ← List.length_append] at ho
  have hform : ∃ g2 c2, v' = .slice (some ⟨g2, 0, none⟩) (L ++ strL s).length c2 := by
    obtain ⟨hl, ⟨h1, h2⟩ | ⟨g', cap, cur, hv, _⟩⟩ := ho
    · have := hne.1 h1
      cases this.1
    · exact ⟨g', cap, hv⟩
  obtain ⟨g2, c2, rfl⟩ := hform
  exact ⟨g2, c2, w', hr, ho, onlyB_of_grown hg⟩
/-- The first r of sz bytes of a number, the higher ones first. -/
def numP (sz x r : Nat) : List Nat := (List.range r).map fun j => x / 2 ^ (8 * (sz - 1 - j)) % 256
def numL (sz x : Nat) : List Nat := numP sz x sz
theorem numP_succ (sz x r : Nat) : numP sz x (r + 1) = numP sz x r ++ [x / 2 ^ (8 * (sz - 1 - r)) % 256] := by unfold numP; rw [List.range_succ, List.map_append]; rfl
theorem numP_length (sz x r : Nat) : (numP sz x r).length = r := by unfold numP; simp
theorem numL_length (sz x : Nat) : (numL sz x).length = sz := numP_length sz x sz
theorem numEqL {a b : Int} (h : a = b) : Value.int .i64 a = .int .i64 b := by rw [h]
set_option maxRecDepth 100000 in
set_option maxHeartbeats 2000000 in
/-- impl.appendNumber onto a row of the call's own. -/
theorem appendNumberL (B g c x sz : Nat) (L : List Nat) (hsz : sz ≤ 8) (hk : L.length ≤ 900000) (w : World) (hB : B ≤ w.heap.size) (h : RL w B g c L) (n : Nat) (hn : n = L.length) :
    Calls Try.prog 100 #[.slice (some ⟨g, 0, none⟩) n c, .int .i64 (x : Int), .int .i64 (sz : Int)] w fun e w' => (∃ g' c', e = .returned (.slice (some ⟨g', 0, none⟩) (n + sz) c') ∧ RL w' B g' c' (L ++ numL sz x) ∧ (g' = g ∨ w.heap.size ≤ g')) ∧ OnlyB g w w' := by
  have HR : Hid (RL w B g c L) := h
  have HN : Hid (n = L.length) := hn
  have HK : Hid (L.length ≤ 900000) := hk
  have HBB : Hid (B ≤ w.heap.size) := hB
  clear h hn hk hB
  go_enter Try.func100, Try.ntmps100
  go_wp2
  go_loopw [0, 7] (fun s i wr => ∃ r g2 c2 : Nat, r ≤ sz ∧ i = .int .i64 ((sz : Int) - 1 - (r : Int)) ∧ s = .slice (some ⟨g2, 0, none⟩) (n + r) c2 ∧ RL wr B g2 c2 (L ++ numP sz x r) ∧ (g2 = g ∨ w.heap.size ≤ g2) ∧ OnlyB g w wr) (fun _ i _ => (intOf i + 1).toNat)
  case atStart => exact ⟨0, g, c, by omega, numEqL (by omega), rfl, by unfold numP; simpa using HR.out, .inl rfl, OnlyB.refl _ _⟩
  case round =>
    clear HR
    obtain ⟨r, g2, c2, hr, rfl, rfl, hrow, hg, ho⟩ := hrel
    have HR : Hid (RL wr B g2 c2 (L ++ numP sz x r)) := hrow
    have HG : Hid (g2 = g ∨ w.heap.size ≤ g2) := hg
    have HO : Hid (OnlyB g w wr) := ho
    clear hrow hg ho
    by_cases hlt : r < sz
    · have x0 : (0 : Int) ≤ (sz : Int) - 1 - (r : Int) := by omega
      obtain ⟨s, hs⟩ : ∃ s, s = 8 * (sz - 1 - r) := ⟨_, rfl⟩
      have e8 : (8 : Int) * ((sz : Int) - 1 - (r : Int)) = (s : Int) := by omega
      have s0 : (0 : Int) ≤ (s : Int) := by omega
      have s1 : (s : Int) ≤ 64 := by omega
      have eX : (x : Int) / 2 ^ s = ((x / 2 ^ s : Nat) : Int) := by simp
      have HX : Hid (numP sz x (r + 1) = numP sz x r ++ [x / 2 ^ s % 256]) := by show _ = _; rw [numP_succ, hs]
      generalize x / 2 ^ s = y at *
      have eY : (y : Int) % 256 = ((y % 256 : Nat) : Int) := by omega
      generalize y % 256 = Y at *
      have hw : (w.heap.size ≤ wr.heap.size) := HO.out.size
      obtain ⟨g3, c3, w3, hr3, hrow3, ho3, hg3⟩ := appL (wr.alloc (.cells #[.int .u8 (Y : Nat)] 5)) B g2 c2 (L ++ numP sz x r) [Y] wr.heap.size 0 1 30 (by have := HBB.out; simp; omega) (by have := HK.out; rw [List.length_append, numP_length]; simp; omega) (HR.out.below ((Below.refl _ _).alloc (Nat.le_refl _) _)) (fun j hj => by
        obtain rfl : j = 0 := by simpa using hj
        have : ((wr.alloc (.cells #[.int .u8 (Y : Nat)] 5)).rowIs wr.heap.size 5 1 (fun _ => .int .u8 (Y : Nat))) := World.rowIs_alloc wr #[.int .u8 (Y : Nat)] 5 _ (fun i hi => by
          obtain rfl : i = 0 := by simpa using hi
          rfl)
        exact this.cell (by omega))
      have el : (L ++ numP sz x r).length = n + r := by rw [List.length_append, numP_length, HN.out]
      have el2 : (L ++ numP sz x r ++ [Y]).length = n + r + 1 := by rw [List.length_append, el]; rfl
      rw [el, el2] at hr3
      have hr4 : ∀ ty, (Builtin.append_ #[30, 30] ty #[.slice (some ⟨g2, 0, none⟩) (n + r) c2, .slice (some ⟨wr.heap.size, 0, none⟩) 1 1]).run Try.prog (wr.alloc (.cells #[.int .u8 (Y : Nat)] 5)) = .ok (.slice (some ⟨g3, 0, none⟩) (n + r + 1) c3) w3 := fun ty => hr3
      have HR3 : Hid (RL w3 B g3 c3 (L ++ numP sz x (r + 1))) := by show RL _ _ _ _ _; rw [HX.out, ← List.append_assoc]; exact hrow3
      have HO3 : Hid (OnlyB g w w3) := (HO.out.below ((Below.refl _ _).alloc (Nat.le_refl _) _)).behind ho3 HG.out
      have HG3 : Hid (g3 = g ∨ w.heap.size ≤ g3) := by
        show _ ∨ _
        rcases hg3 with e | e
        · rw [e]; exact HG.out
        · right; rw [e]; simp; omega
      have hHK : Hid ((sz : Int) - 1 - (r : Int) - 1 = (sz : Int) - 1 - ((r + 1 : Nat) : Int)) := by show _ = _; omega
      clear hrow3 ho3 hg3 hs HR HO HX hr3 el el2
      go_wp2_with (at_builtin; refine Lib.wpList_append_run _ rfl (.tmp 14) (.tmp 20) 30 30 rfl (.slice (some ⟨g2, 0, none⟩) (n + r) c2) (.slice (some ⟨wr.heap.size, 0, none⟩) 1 1) rfl rfl _ _ (hr4 _) ?_)
      go_roundw
      case rel => exact ⟨r + 1, g3, c3, by omega, numEqL hHK.out, rfl, HR3.out, HG3.out, HO3.out⟩
      case measure => simp [intOf]; omega
    · obtain rfl : r = sz := by omega
      have x0 : ¬ (0 : Int) ≤ (r : Int) - 1 - (r : Int) := by omega
      go_wp2
      go_ret
      exact ⟨⟨g2, c2, rfl, HR.out, HG.out⟩, HO.out⟩
end Go.Proofs.Ytglfhajfbdjjcaa
