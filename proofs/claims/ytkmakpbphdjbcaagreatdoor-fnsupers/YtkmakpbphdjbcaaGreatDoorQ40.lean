/-
  Texts of the proof, joined: RowL, RowO, ByRow, SupBy, SupRt.
-/
import Derived.Test.YtkmakpbphdjbcaaGreatDoorQ02
import Derived.Lib.AppendStr
import Derived.Lib.AppendZeros
import Derived.Maps.AppendAt
import Derived.Test.YtkmakpbphdjbcaaGreatDoorQ07
import Derived.Test.YtkmakpbphdjbcaaGreatDoorQ13
import Derived.Test.YtkmakpbphdjbcaaGreatDoorQ31
import Derived.Deep.Cut
import Derived.Test.YtkmakpbphdjbcaaGreatDoorQ32
namespace Go.Proofs.YtkmakpbphdjbcaaGreatDoor
open Go.ChangeShapes Go.WideShapes Go.ChangeAt Go.RowKit
set_option linter.unusedVariables false
def lv (L : List Nat) : List Value := L.map fun b => .int .u8 ((b : Nat) : Int)
theorem lv_append (L N : List Nat) : lv (L ++ N) = lv L ++ lv N := List.map_append
theorem lv_length (L : List Nat) : (lv L).length = L.length := List.length_map _
def RL (w : World) (B g c : Nat) (L : List Nat) : Prop := w.ownsRow B 5 1 (.slice (some ⟨g, 0, none⟩) L.length c) L.length (lv L)
theorem RL.cell {w : World} {B g c : Nat} {L : List Nat} (h : RL w B g c L) (i : Nat) (hi : i < L.length) : w.cell? ⟨g, i, none⟩ = some (.int .u8 ((L[i] : Nat) : Int)) := by
  obtain ⟨hl, ⟨h1, h2⟩ | ⟨g', cap, cur, hv, hB, hh, hn, hm, hs, ht⟩⟩ := h
  · cases h1
  · cases hv
    have h1 : (cur.toList.take (L.length * 1))[i]? = some (.int .u8 ((L[i] : Nat) : Int)) := by rw [ht]; simp [lv, hi]
    rw [List.getElem?_take, if_pos (by omega), Array.getElem?_toList] at h1
    simp [World.cell?, hh, h1]
theorem RL.made (w : World) (cs : Array Value) (L : List Nat) (n : Nat) (hn : L.length = n) (hm : n ≤ 1000000) (e : cs.toList = lv L) : RL (w.alloc (.cells cs 5)) w.heap.size w.heap.size n L := by
  have hs : cs.size = L.length := by rw [← Array.length_toList, e, lv_length]
  refine ⟨by rw [lv_length, Nat.mul_one], .inr ⟨w.heap.size, n, cs, rfl, Nat.le_refl _, (MapKept.heap_alloc w _).1, by omega, by unfold maxLen; omega, by omega, by rw [Nat.mul_one, e, List.take_of_length_le (by rw [lv_length]; omega)]⟩⟩
theorem Tryz.infoB8 : (Tryz.prog.info? 5).map (fun i => (i.zero, i.size, i.bytes)) = some (some (.int .u8 0), 1, 1) := by kernel_rfl
def strL (s : ByteArray) : List Nat := s.data.toList.map UInt8.toNat
theorem strL_length (s : ByteArray) : (strL s).length = s.size := by unfold strL; rw [List.length_map, Array.length_toList]; rfl
def numP (sz x r : Nat) : List Nat := (List.range r).map fun j => x / 2 ^ (8 * (sz - 1 - j)) % 256
def numL (sz x : Nat) : List Nat := numP sz x sz
theorem numP_succ (sz x r : Nat) : numP sz x (r + 1) = numP sz x r ++ [x / 2 ^ (8 * (sz - 1 - r)) % 256] := by unfold numP; rw [List.range_succ, List.map_append]; rfl
theorem numP_length (sz x r : Nat) : (numP sz x r).length = r := by unfold numP; simp
theorem numL_length (sz x : Nat) : (numL sz x).length = sz := numP_length sz x sz
theorem numEqL {a b : Int} (h : a = b) : Value.int .i64 a = .int .i64 b := by rw [h]
end Go.Proofs.YtkmakpbphdjbcaaGreatDoor
namespace Go.Proofs.YtkmakpbphdjbcaaGreatDoor
open Go.ChangeShapes Go.WideShapes Go.ChangeAt Go.RowKit
set_option linter.unusedVariables false
def OL (w : World) (B : Nat) (v : Value) (L : List Nat) : Prop := w.ownsRow B 5 1 v L.length (lv L)
theorem OL.nil (w : World) (B : Nat) : OL w B (.slice none 0 0) [] := ⟨by simp [lv], .inl ⟨rfl, rfl⟩⟩
theorem OL.lit (w : World) (B : Nat) (hB : B ≤ w.heap.size) : OL (w.alloc (.cells #[] 5)) B (.slice (some ⟨w.heap.size, 0, none⟩) 0 0) [] := World.ownsRow_made w #[] 0 hB (Nat.zero_le _) (by simp)
theorem OL.form {w : World} {B : Nat} {v : Value} {L : List Nat} (h : OL w B v L) : ∃ a c, v = .slice a L.length c := by
  obtain ⟨hl, ⟨h1, h2⟩ | ⟨g', cap, cur, hv, _⟩⟩ := h
  · rw [h2]; exact ⟨_, _, h1⟩
  · exact ⟨_, _, hv⟩
theorem OL.ge {w : World} {B : Nat} {v : Value} {L : List Nat} (h : OL w B v L) (g : Nat) (e : v.ownBlock = some g) : B ≤ g ∧ g < w.heap.size := World.ownsRow.lt h g e
theorem OL.keep {w w' : World} {B : Nat} {v : Value} {L : List Nat} (h : OL w B v L) (e : ∀ g, v.ownBlock = some g → w'.heap[g]? = w.heap[g]?) : OL w' B v L := by
  obtain ⟨hl, h0 | ⟨g', cap, cur, hv, hB, hh, hr⟩⟩ := h
  · exact ⟨hl, .inl h0⟩
  · subst hv
    exact ⟨hl, .inr ⟨g', cap, cur, rfl, hB, by rw [e g' rfl]; exact hh, hr⟩⟩
theorem OL.below {w w' : World} {B : Nat} {v : Value} {L : List Nat} (h : OL w B v L) (hb : Below w.heap.size w w') : OL w' B v L := h.keep (fun g e => hb.block g (h.ge g e).2)
theorem OL.mono {w : World} {B B' : Nat} {v : Value} {L : List Nat} (h : OL w B v L) (hb : B' ≤ B) : OL w B' v L := by
  obtain ⟨hl, h0 | ⟨g', cap, cur, hv, hB, hr⟩⟩ := h
  · exact ⟨hl, .inl h0⟩
  · exact ⟨hl, .inr ⟨g', cap, cur, hv, Nat.le_trans hb hB, hr⟩⟩
theorem OL.grown {w w' : World} {B : Nat} {v : Value} {L : List Nat} (h : OL w B v L) (hg : w.grownBy w' v.ownBlock) (hB : B ≤ w.heap.size) : Below B w w' :=
  ⟨hg.os, hg.tape, hg.output, hg.size, fun b hb => hg.block b (by omega) (fun e => by have := (h.ge b e.symm).1; omega)⟩
theorem RL.ol {w : World} {B g c : Nat} {L : List Nat} (h : RL w B g c L) : OL w B (.slice (some ⟨g, 0, none⟩) L.length c) L := h
set_option maxRecDepth 100000 in
theorem OL.app (w : World) (B : Nat) (v : Value) (L N : List Nat) (q o cq m : Nat) (hm : m = N.length) (hB : B ≤ w.heap.size) (hl : L.length + N.length ≤ 1000000) (h : OL w B v L) (hN : ∀ j (hj : j < N.length), w.cell? ⟨q, o + j, none⟩ = some (.int .u8 ((N[j] : Nat) : Int))) :
    ∃ v' w', (∀ ty, (Builtin.append_ #[22, 22] ty #[v, .slice (some ⟨q, o, none⟩) m cq]).run Tryz.prog w = .ok v' w') ∧ OL w' B v' (L ++ N) ∧ Below B w w' ∧ w.grownBy w' v.ownBlock := by
  subst hm
  obtain ⟨i, hi, hz, hsz, hby⟩ := info_parts Tryz.infoB8
  obtain ⟨v', w', hr, ho, hg, hne, hloc⟩ := run_append_own_at (P := Tryz.prog) w B 22 22 5 i (.int .u8 0) 1 1 Tryz.underlying22 hi hz hsz hby rfl (by decide) _ L.length _ h ⟨q, o, none⟩ N.length cq (lv N) (by rw [lv_length, Nat.mul_one]) (fun j u hj => by
    rw [Go.WideShapes.add_plain]
    unfold lv at hj
    rw [List.getElem?_map, Option.map_eq_some_iff] at hj
    obtain ⟨b, hb, rfl⟩ := hj
    obtain ⟨hj', rfl⟩ := List.getElem?_eq_some_iff.1 hb
    exact hN j hj') (fun u hu => by
      obtain ⟨_, _, rfl⟩ := List.mem_map.1 hu
      rfl) (by unfold maxLen; omega) (by omega) hB
  rw [← lv_append, ← List.length_append] at ho
  exact ⟨v', w', fun ty => hr, ho, h.grown hg hB, hg⟩
set_option maxRecDepth 100000 in
theorem OL.appS (w : World) (B : Nat) (v : Value) (L : List Nat) (s : ByteArray) (hB : B ≤ w.heap.size) (hl : L.length + s.size ≤ 1000000) (h : OL w B v L) :
    ∃ v' w', (∀ ty, (Builtin.append_ #[22, 9] ty #[v, .string s]).run Tryz.prog w = .ok v' w') ∧ OL w' B v' (L ++ strL s) ∧ Below B w w' ∧ w.grownBy w' v.ownBlock := by
  obtain ⟨i, hi, hz, hsz, hby⟩ := info_parts Tryz.infoB8
  obtain ⟨v', w', hr, ho, hg, hne⟩ := Lib.run_append_own_string (P := Tryz.prog) w B 22 9 22 5 i Tryz.underlying22 Tryz.underlying9 hi hz hsz hby _ L.length _ h s (by unfold maxLen; omega) (by omega) hB
  have e1 : Lib.strCells s = lv (strL s) := by
    unfold Lib.strCells lv strL
    simp
  rw [e1, ← lv_append, ← strL_length s, ← List.length_append] at ho
  exact ⟨v', w', fun ty => hr, ho, h.grown hg hB, hg⟩
set_option maxRecDepth 100000 in
set_option maxHeartbeats 2000000 in
theorem appendNumberO (B : Nat) (a : Option Addr) (n c x sz : Nat) (L : List Nat) (hn : n = L.length) (hsz : sz ≤ 8) (hk : L.length ≤ 900000) (w : World) (hB : B ≤ w.heap.size) (h : OL w B (.slice a n c) L) :
    Calls Tryz.prog 22 #[.slice a n c, .int .i64 (x : Int), .int .i64 (sz : Int)] w fun e w' => (∃ a' c', e = .returned (.slice a' (n + sz) c') ∧ OL w' B (.slice a' (n + sz) c') (L ++ numL sz x)) ∧ Below B w w' := by
  have HR : Hid (OL w B (.slice a n c) L) := h
  have HK : Hid (L.length ≤ 900000) := hk
  have HN : Hid (n = L.length) := hn
  have HBB : Hid (B ≤ w.heap.size) := hB
  clear h hk hB hn
  go_enter Tryz.func22, Tryz.ntmps22
  go_wp2
  go_loopw [0, 7] (fun s i wr => ∃ (r c2 : Nat) (a2 : Option Addr), r ≤ sz ∧ i = .int .i64 ((sz : Int) - 1 - (r : Int)) ∧ s = .slice a2 (n + r) c2 ∧ OL wr B (.slice a2 (n + r) c2) (L ++ numP sz x r) ∧ Below B w wr) (fun _ i _ => (intOf i + 1).toNat)
  case atStart => exact ⟨0, c, a, by omega, numEqL (by omega), rfl, by unfold numP; simpa using HR.out, Below.refl _ _⟩
  case round =>
    clear HR
    obtain ⟨r, c2, a2, hr, rfl, rfl, hrow, ho⟩ := hrel
    have HR : Hid (OL wr B (.slice a2 (n + r) c2) (L ++ numP sz x r)) := hrow
    have HO : Hid (Below B w wr) := ho
    clear hrow ho
    by_cases hlt : r < sz
    · have x0 : (0 : Int) ≤ (sz : Int) - 1 - (r : Int) := by omega
      obtain ⟨s, hs⟩ : ∃ s, s = 8 * (sz - 1 - r) := ⟨_, rfl⟩
      have e8 : (8 : Int) * ((sz : Int) - 1 - (r : Int)) = (s : Int) := by omega
      have s0 : (0 : Int) ≤ (s : Int) := by omega
      have s1 : (s : Int) ≤ 64 := by omega
      have eX : (x : Int) / 2 ^ s = ((x / 2 ^ s : Nat) : Int) := by simp
      have HX : Hid (numP sz x (r + 1) = numP sz x r ++ [x / 2 ^ s % 256]) := by show _ = _; rw [numP_succ, hs]
      generalize x / 2 ^ s = y at *
      have eY : (y : Int) % 256 = ((y % 256 : Nat) : Int) := by omega
      generalize y % 256 = Y at *
      have hw : (w.heap.size ≤ wr.heap.size) := HO.out.size
      have hb : Below wr.heap.size wr (wr.alloc (.cells #[.int .u8 (Y : Nat)] 5)) := (Below.refl _ _).alloc (Nat.le_refl _) _
      obtain ⟨v3, w3, hr3, hrow3, ho3, _⟩ := OL.app (wr.alloc (.cells #[.int .u8 (Y : Nat)] 5)) B (.slice a2 (n + r) c2) (L ++ numP sz x r) [Y] wr.heap.size 0 1 1 rfl (by have := HBB.out; simp; omega) (by have := HK.out; rw [List.length_append, numP_length]; simp; omega) (HR.out.below hb) (fun j hj => by
        obtain rfl : j = 0 := by simpa using hj
        have : ((wr.alloc (.cells #[.int .u8 (Y : Nat)] 5)).rowIs wr.heap.size 5 1 (fun _ => .int .u8 (Y : Nat))) := World.rowIs_alloc wr #[.int .u8 (Y : Nat)] 5 _ (fun i hi => by
          obtain rfl : i = 0 := by simpa using hi
          rfl)
        exact this.cell (by omega))
      obtain ⟨a3, c3, rfl⟩ := hrow3.form
      have el2 : (L ++ numP sz x r ++ [Y]).length = n + (r + 1) := by rw [List.length_append, List.length_append, numP_length, HN.out]; simp; omega
      rw [el2] at hr3 hrow3
      have HR3 : Hid (OL w3 B (.slice a3 (n + (r + 1)) c3) (L ++ numP sz x (r + 1))) := by show OL _ _ _ _; rw [HX.out, ← List.append_assoc]; exact hrow3
      have HO3 : Hid (Below B w w3) := HO.out.trans ((hb.mono (by have := HBB.out; omega)).trans ho3)
      have hHK : Hid ((sz : Int) - 1 - (r : Int) - 1 = (sz : Int) - 1 - ((r + 1 : Nat) : Int)) := by show _ = _; omega
      clear hrow3 ho3 hs HR HO HX el2 hb
      go_wp2_with (at_builtin; refine Lib.wpList_append_run _ rfl (.tmp 14) (.tmp 20) 22 22 rfl (.slice a2 (n + r) c2) (.slice (some ⟨wr.heap.size, 0, none⟩) 1 1) rfl rfl _ _ (hr3 _) ?_)
      go_roundw
      case rel => exact ⟨r + 1, c3, a3, by omega, numEqL hHK.out, rfl, HR3.out, HO3.out⟩
      case measure => simp [intOf]; omega
    · obtain rfl : r = sz := by omega
      have x0 : ¬ (0 : Int) ≤ (r : Int) - 1 - (r : Int) := by omega
      go_wp2
      go_ret
      exact ⟨⟨a2, c2, rfl, HR.out⟩, HO.out⟩
end Go.Proofs.YtkmakpbphdjbcaaGreatDoor
namespace Go.Proofs.YtkmakpbphdjbcaaGreatDoor
open Go.ChangeShapes Go.WideShapes Go.ChangeAt Go.RowKit
set_option linter.unusedVariables false
def ByR (w : World) (a : Option Addr) (g n : Nat) (f : Nat → Nat) : Prop := n = 0 ∨ (a = some ⟨g, 0, none⟩ ∧ Own8 w g n f)
theorem ByR.code {w : World} {a : Option Addr} {g n : Nat} {f : Nat → Nat} (h : ByR w a g n f) : Code8 w a n f := by
  rcases h with rfl | ⟨rfl, hr⟩
  · exact code8_zero _ _ _
  · exact hr.code
theorem OL.byR {w : World} {B : Nat} {a : Option Addr} {n c : Nat} {L : List Nat} (h : OL w B (.slice a n c) L) (hn : n = L.length) : ∃ g, ByR w a g n (fun i => L.getD i 0) ∧ (0 < n → B ≤ g ∧ g < w.heap.size) := by
  have e : lv L = bv L.length (fun i => L.getD i 0) := by
    unfold lv bv
    refine List.ext_getElem (by simp) (fun i h1 h2 => ?_)
    simp at h1
    simp [h1]
  subst hn
  obtain ⟨a2, cap, hv, ho⟩ := ownS_of_owned (f := fun i => L.getD i 0) (by rw [← e]; exact h)
  cases hv
  rcases ho with q | ⟨b, hB, e2, ho⟩
  · exact ⟨0, .inl q, fun z => absurd z (by omega)⟩
  · exact ⟨b, .inr ⟨e2, ho⟩, fun _ => ⟨hB, ho.lt⟩⟩
end Go.Proofs.YtkmakpbphdjbcaaGreatDoor
namespace Go.Proofs.YtkmakpbphdjbcaaGreatDoor
open Go.ChangeShapes Go.WideShapes Go.ChangeAt Go.RowKit
set_option linter.unusedVariables false
def plL (p : Plc) : List Nat := [p.bk.toNat] ++ numL 2 p.vs.toNat
def flatP (P : Nat → Plc) : Nat → List Nat
  | 0 => []
  | k + 1 => flatP P k ++ plL (P k)
theorem plL_length (p : Plc) : (plL p).length = 3 := by unfold plL; rw [List.length_append, numL_length]; rfl
theorem flatP_length (P : Nat → Plc) : ∀ k, (flatP P k).length = 3 * k
  | 0 => rfl
  | k + 1 => by rw [flatP, List.length_append, plL_length, flatP_length P k]; omega
def supL (z : Int) (n : Nat) (P : Nat → Plc) (r : ByteArray) : List Nat := numL 2 z.toNat ++ flatP P n ++ strL r
theorem headL_length (z : Int) (k : Nat) (P : Nat → Plc) : (numL 2 z.toNat ++ flatP P k).length = 2 + 3 * k := by rw [List.length_append, numL_length, flatP_length]
theorem supL_length (z : Int) (n : Nat) (P : Nat → Plc) (r : ByteArray) : (supL z n P r).length = 2 + 3 * n + r.size := by unfold supL; rw [List.length_append, headL_length, strL_length]
def LitP (w : World) (b : Nat) (L : List Nat) : Prop := ∀ j (hj : j < L.length), w.cell? ⟨b, 0 + j, none⟩ = some (.int .u8 ((L[j] : Nat) : Int))
theorem lit1P (w : World) (x : Nat) : LitP (w.alloc (.cells #[.int .u8 ((x : Nat) : Int)] 5)) w.heap.size [x] := fun j hj => by
  obtain rfl : j = 0 := by simpa using hj
  have : ((w.alloc (.cells #[.int .u8 (x : Nat)] 5)).rowIs w.heap.size 5 1 (fun _ => .int .u8 (x : Nat))) := World.rowIs_alloc w #[.int .u8 (x : Nat)] 5 _ (fun i hi => by
    obtain rfl : i = 0 := by simpa using hi
    rfl)
  exact this.cell (by omega)
theorem OL.add1 {w : World} {B : Nat} {a : Option Addr} {q c : Nat} {L : List Nat} (h : OL w B (.slice a q c) L) (hq : q = L.length) (hm : q ≤ 900000) (hB : B ≤ w.heap.size) (x : Nat) :
    ∃ a' c' w', (∀ ty, (Builtin.append_ #[22, 22] ty #[.slice a q c, .slice (some ⟨w.heap.size, 0, none⟩) 1 1]).run Tryz.prog (w.alloc (.cells #[.int .u8 ((x : Nat) : Int)] 5)) = .ok (.slice a' (q + 1) c') w') ∧ OL w' B (.slice a' (q + 1) c') (L ++ [x]) ∧ Below B w w' ∧ (∀ p, p < w.heap.size → (Value.slice a q c).ownBlock ≠ some p → w'.heap[p]? = w.heap[p]?) := by
  have hb : Below w.heap.size w (w.alloc (.cells #[.int .u8 ((x : Nat) : Int)] 5)) := (Below.refl _ _).alloc (Nat.le_refl _) _
  obtain ⟨v', w', hr, ho, hb2, hg⟩ := OL.app (w.alloc (.cells #[.int .u8 ((x : Nat) : Int)] 5)) B (.slice a q c) L [x] w.heap.size 0 1 1 rfl (by simp; omega) (by simp; omega) (h.below hb) (lit1P w x)
  obtain ⟨a', c', rfl⟩ := ho.form
  have el : (L ++ [x]).length = q + 1 := by rw [List.length_append, hq]; rfl
  rw [el] at hr ho
  exact ⟨a', c', w', hr, ho, (hb.mono hB).trans hb2, fun p hp hne => (hg.block p (by simp; omega) (fun e => hne e.symm)).trans (hb.block p hp)⟩
theorem OL.notBox {w : World} {B : Nat} {v : Value} {L : List Nat} (h : OL w B v L) {pb : Nat} {x y : Value} (hb : Box2 w pb 36 x y) : v.ownBlock ≠ some pb := fun e => by
  obtain ⟨hl, ⟨h1, h2⟩ | ⟨g', cap, cur, hv, hBB, hh, _⟩⟩ := h
  · rw [h1] at e
    cases e
  · rw [hv] at e
    have e2 : g' = pb := Option.some.inj e
    obtain ⟨cur', hh', _⟩ := hb
    rw [e2, hh'] at hh
    cases hh
set_option maxRecDepth 100000 in
set_option maxHeartbeats 4000000 in
theorem implSupBy_ok (z : Int) (a : Option Addr) (n c : Nat) (P : Nat → Plc) (r : ByteArray) (hok : SupOk z n P r) (hsl : SlP a n c) (w : World) (h : Els w 2 a n (pcF P)) :
    Calls Tryz.prog 5 #[.agg #[.int .i64 z, .slice a n c, .string r]] w fun e w' => (∃ a' c', e = .returned (.tuple #[.slice a' (supL z n P r).length c', .int .i64 0]) ∧ OL w' w.heap.size (.slice a' (supL z n P r).length c') (supL z n P r)) ∧ Below w.heap.size w w' := by
  have A0 : Hid (Below w.heap.size w (w.alloc (.cells #[.int .i64 z, .slice a n c, .string r] 25))) := (Below.refl _ _).alloc (Nat.le_refl _) _
  have X : Hid (Box3 (w.alloc (.cells #[.int .i64 z, .slice a n c, .string r] 25)) w.heap.size 25 (.int .i64 z) (.slice a n c) (.string r)) := Box3.made _ _ _ _ _
  have E0 : Hid (Els (w.alloc (.cells #[.int .i64 z, .slice a n c, .string r] 25)) 2 a n (pcF P)) := h.below A0.out
  have SK : Hid (Calls Tryz.prog 8 #[.agg #[.int .i64 z, .slice a n c, .string r]] (w.alloc (.cells #[.int .i64 z, .slice a n c, .string r] 25)) fun e w' => e = .returned (.bool true) ∧ Below (w.alloc (.cells #[.int .i64 z, .slice a n c, .string r] 25)).heap.size (w.alloc (.cells #[.int .i64 z, .slice a n c, .string r] 25)) w') := implSupOK_any z a n c P r hsl (by have := hok.n16; omega) _ E0.out true (gB_yes hok).symm
  have HO : Hid (SupOk z n P r) := hok
  have n16 := hok.n16
  have h32 : r.size = 32 := hok.1.2.2.2
  obtain ⟨m, rfl⟩ := Int.eq_ofNat_of_zero_le (show 0 ≤ z by have := hok.1.1; omega)
  have k0 := X.out.c0
  have k1 := X.out.c1
  have k2 := X.out.c2
  have SL : Hid ((supL (m : Int) n P r).length = 2 + 3 * n + 32) := by show _ = _; rw [supL_length, h32]
  have SM : Hid (supL (m : Int) n P r = numL 2 m ++ flatP P n ++ strL r) := rfl
  clear h hok hsl
  go_enter Tryz.func5, Tryz.ntmps5
  go_wp2_with fail
  clear k0 k1 k2
  generalize (w.alloc (.cells #[.int .i64 (m : Int), .slice a n c, .string r] 25)) = v at *
  obtain ⟨vb, hvb⟩ : ∃ x, x = w.heap.size := ⟨_, rfl⟩
  rw [← hvb] at X ⊢
  clear hvb
  refine SK.out.mono ?_
  rintro e v1 ⟨rfl, hb⟩
  have A1 : Hid (Below w.heap.size w v1) := A0.out.trans (hb.mono A0.out.size)
  have X1 : Hid (Box3 v1 vb 25 (.int .i64 (m : Int)) (.slice a n c) (.string r)) := X.out.below hb
  have E1 : Hid (Els v1 2 a n (pcF P)) := E0.out.below hb
  have k0 := X1.out.c0
  clear hb SK X E0 A0
  go_wp2_with fail
  clear k0
  refine (appendNumberO v1.heap.size none 0 0 m 2 [] rfl (by omega) (by simp) v1 (Nat.le_refl _) (OL.nil _ _)).mono ?_
  rintro e v2 ⟨⟨a2, c2, rfl, ho⟩, hb⟩
  have HB : Hid (Below v1.heap.size v1 v2) := hb
  have HR : Hid (OL v2 v1.heap.size (.slice a2 2 c2) (numL 2 m ++ flatP P 0)) := by show OL _ _ _ _; simpa [flatP] using ho
  have k1 := (X1.out.below hb).c1
  clear ho hb
  go_wp2
  clear k1
  go_loopw [4, 16] (fun s i wr => ∃ (k c3 : Nat) (a3 : Option Addr), k ≤ n ∧ i = .int .i64 k ∧ s = .slice a3 (2 + 3 * k) c3 ∧ OL wr v1.heap.size (.slice a3 (2 + 3 * k) c3) (numL 2 m ++ flatP P k) ∧ Below v1.heap.size v1 wr) (fun _ i _ => n - (intOf i).toNat)
  case atStart => exact ⟨0, c2, a2, by omega, rfl, rfl, HR.out, HB.out⟩
  case round =>
    clear HR HB
    obtain ⟨k, c3, a3, hk, rfl, rfl, ho, hb⟩ := hrel
    have HB : Hid (Below v1.heap.size v1 wr) := hb
    by_cases hlt : k < n
    · have hlt' : (k : Int) < (n : Int) := by omega
      have k0 : (0 : Int) ≤ (k : Int) := by omega
      have kb : (k : Int) ≤ 16 := by omega
      have HK : Hid (k < n) := hlt
      have hpl := (HO.out.2 k hlt).1
      obtain ⟨b, off, rfl, hc⟩ := (E1.out.below hb).opened (by omega)
      have d0 : wr.cell? ⟨b, off + k * 2, none⟩ = some (.int .i64 (P k).bk) := hc k hlt 0 (by omega)
      have d1 : wr.cell? ⟨b, off + k * 2 + 1, none⟩ = some (.int .i64 (P k).vs) := hc k hlt 1 (by omega)
      obtain ⟨x, hx⟩ := Int.eq_ofNat_of_zero_le (show 0 ≤ (P k).bk by have := hpl.1.1; omega)
      obtain ⟨y, hy⟩ := Int.eq_ofNat_of_zero_le (show 0 ≤ (P k).vs by have := hpl.2.1; omega)
      have EF : Hid (flatP P (k + 1) = flatP P k ++ ([x] ++ numL 2 y)) := by show flatP P k ++ plL (P k) = _; unfold plL; rw [hx, hy]; rfl
      rw [hx] at d0
      rw [hy] at d1
      have x256 : (x : Int) % 256 = (x : Int) := by have := hpl.1.2; omega
      have hb2 : Below wr.heap.size wr (wr.alloc (.cells #[.int .i64 (x : Int), .int .i64 (y : Int)] 36)) := (Below.refl _ _).alloc (Nat.le_refl _) _
      have B2 : Hid (Box2 (wr.alloc (.cells #[.int .i64 (x : Int), .int .i64 (y : Int)] 36)) wr.heap.size 36 (.int .i64 (x : Int)) (.int .i64 (y : Int))) := Box2.made _ _ _ _
      have O2 : Hid (OL (wr.alloc (.cells #[.int .i64 (x : Int), .int .i64 (y : Int)] 36)) v1.heap.size (.slice a3 (2 + 3 * k) c3) (numL 2 m ++ flatP P k)) := ho.below hb2
      have HB2 : Hid (Below v1.heap.size v1 (wr.alloc (.cells #[.int .i64 (x : Int), .int .i64 (y : Int)] 36))) := hb.trans (hb2.mono hb.size)
      have HLN : Hid (2 + 3 * k = (numL 2 m ++ flatP P k).length) := by show _ = _; rw [List.length_append, numL_length, flatP_length]
      clear ho hb hb2 hc hpl hx hy hlt hk
      go_upto_region 7 with fail
      clear d0 d1
      generalize (wr.alloc (.cells #[.int .i64 (x : Int), .int .i64 (y : Int)] 36)) = v3 at *
      generalize wr.heap.size = pb at *
      obtain ⟨a4, c4, v4, hr4, ho4, hb4, kp4⟩ := O2.out.add1 HLN.out (by omega) HB2.out.size x
      have l0 := B2.out.c0
      have O4 : Hid (OL v4 v1.heap.size (.slice a4 (2 + 3 * k + 1) c4) (numL 2 m ++ flatP P k ++ [x])) := ho4
      have HB4 : Hid (Below v1.heap.size v1 v4) := HB2.out.trans hb4
      have l1 : v4.cell? ⟨pb, 1, none⟩ = some (.int .i64 (y : Int)) := (B2.out.ofBlock (kp4 pb B2.out.lt (O2.out.notBox B2.out))).c1
      have HL4 : Hid (2 + 3 * k + 1 = (numL 2 m ++ flatP P k ++ [x]).length) := by show _ = _; rw [List.length_append, ← HLN.out]; rfl
      have AN : Hid (Calls Tryz.prog 22 #[.slice a4 (2 + 3 * k + 1) c4, .int .i64 (y : Int), .int .i64 2] v4 fun e w' => (∃ a' c', e = .returned (.slice a' (2 + 3 * k + 1 + 2) c') ∧ OL w' v1.heap.size (.slice a' (2 + 3 * k + 1 + 2) c') (numL 2 m ++ flatP P k ++ [x] ++ numL 2 y)) ∧ Below v1.heap.size v4 w') := appendNumberO v1.heap.size a4 (2 + 3 * k + 1) c4 y 2 (numL 2 m ++ flatP P k ++ [x]) HL4.out (by omega) (by rw [← HL4.out]; omega) v4 HB4.out.size O4.out
      clear ho4 hb4 kp4 HB2 O2 B2
      go_wp2_with (at_builtin; refine Lib.wpList_append_run _ rfl (.tmp 20) (.tmp 24) 22 22 rfl (.slice a3 (2 + 3 * k) c3) (.slice (some ⟨v3.heap.size, 0, none⟩) 1 1) rfl rfl _ _ (hr4 _) ?_)
      refine AN.out.mono ?_
      rintro e v5 ⟨⟨a5, c5, rfl, ho⟩, hb⟩
      have O5 : Hid (OL v5 v1.heap.size (.slice a5 (2 + 3 * (k + 1)) c5) (numL 2 m ++ flatP P (k + 1))) := by
        show OL _ _ _ _
        rw [EF.out]
        have e1 : 2 + 3 * k + 1 + 2 = 2 + 3 * (k + 1) := by omega
        rw [e1] at ho
        simpa only [List.append_assoc] using ho
      have HB5 : Hid (Below v1.heap.size v1 v5) := HB4.out.trans hb
      clear ho hb AN O4 HB4 l0 l1 hr4
      go_wp2
      go_roundw
      case rel => exact ⟨k + 1, c5, a5, by have := HK.out; omega, by go_num, rfl, O5.out, HB5.out⟩
      case measure => have := HK.out; simp [intOf]; omega
    · obtain rfl : k = n := by omega
      have x2 := (X1.out.below hb).c2
      obtain ⟨v3, w3, hr3, ho3, hb3, _⟩ := OL.appS wr v1.heap.size (.slice a3 (2 + 3 * k) c3) (numL 2 m ++ flatP P k) r hb.size (by rw [List.length_append, numL_length, flatP_length]; omega) ho
      obtain ⟨a4, c4, rfl⟩ := ho3.form
      rw [← SM.out] at hr3 ho3
      have O3 : Hid (OL w3 w.heap.size (.slice a4 (supL (m : Int) k P r).length c4) (supL (m : Int) k P r)) := ho3.mono A1.out.size
      have B3 : Hid (Below w.heap.size w w3) := A1.out.trans ((hb.trans hb3).mono A1.out.size)
      clear ho hb ho3 hb3 HB hlt hk SL SM
      go_wp2_with (at_builtin; refine Lib.wpList_append_run _ rfl (.tmp 31) (.tmp 33) 22 9 rfl (.slice a3 (2 + 3 * k) c3) (.string r) rfl rfl _ _ (hr3 _) ?_)
      exact bodyPost_ret (results_tmp2 Tryz.results5 _ _ _) rfl ⟨⟨a4, c4, rfl, O3.out⟩, B3.out⟩
theorem l08TwoO (k : Nat) (hk : k ≤ 65535) (w : World) :
    Calls Tryz.prog 46 #[.int .i64 (k : Int)] w fun e w' => (e = .returned (.slice (some ⟨w.heap.size, 0, none⟩) 2 2) ∧ RL w' w.heap.size w.heap.size 2 (numL 2 k)) ∧ Below w.heap.size w w' := by
  have HK : Hid (lv (numL 2 k) = [.int .u8 ((k : Int) / 256), .int .u8 ((k : Int) % 256)]) := by
    show _ = _
    unfold numL numP lv
    simp [List.range, List.range.loop]
    omega
  go_enter Tryz.func46, Tryz.ntmps46
  go_wp2
  go_ret
  exact ⟨⟨rfl, RL.made w _ (numL 2 k) 2 (numL_length 2 k) (by omega) HK.out.symm⟩, (Below.refl _ _).alloc (Nat.le_refl _) _⟩
set_option maxRecDepth 100000 in
set_option maxHeartbeats 4000000 in
theorem l12Bytes_any (z : Int) (a : Option Addr) (n c : Nat) (P : Nat → Plc) (r : ByteArray) (hok : SupOk z n P r) (w : World) (h : Els w 2 a n (pcF P)) :
    Calls Tryz.prog 23 #[.agg #[.int .i64 z, .slice a n c, .string r]] w fun e w' => (∃ a' c', e = .returned (.slice a' (supL z n P r).length c') ∧ OL w' w.heap.size (.slice a' (supL z n P r).length c') (supL z n P r)) ∧ Below w.heap.size w w' := by
  have A0 : Hid (Below w.heap.size w (w.alloc (.cells #[.int .i64 z, .slice a n c, .string r] 25))) := (Below.refl _ _).alloc (Nat.le_refl _) _
  have X : Hid (Box3 (w.alloc (.cells #[.int .i64 z, .slice a n c, .string r] 25)) w.heap.size 25 (.int .i64 z) (.slice a n c) (.string r)) := Box3.made _ _ _ _ _
  have E0 : Hid (Els (w.alloc (.cells #[.int .i64 z, .slice a n c, .string r] 25)) 2 a n (pcF P)) := h.below A0.out
  have HO : Hid (SupOk z n P r) := hok
  have n16 := hok.n16
  have h32 : r.size = 32 := hok.1.2.2.2
  obtain ⟨m, rfl⟩ := Int.eq_ofNat_of_zero_le (show 0 ≤ z by have := hok.1.1; omega)
  have TW : Hid (∀ (k : Nat), k ≤ 65535 → ∀ w : World, Calls Tryz.prog 46 #[.int .i64 (k : Int)] w fun e w' => (e = .returned (.slice (some ⟨w.heap.size, 0, none⟩) 2 2) ∧ RL w' w.heap.size w.heap.size 2 (numL 2 k)) ∧ Below w.heap.size w w') := l08TwoO
  have hm : m ≤ 65535 := by have := hok.1.2.1; omega
  have SM : Hid (supL (m : Int) n P r = numL 2 m ++ flatP P n ++ strL r) := rfl
  clear h hok
  go_enter Tryz.func23, Tryz.ntmps23
  go_wp2_with fail
  generalize (w.alloc (.cells #[.int .i64 (m : Int), .slice a n c, .string r] 25)) = v at *
  obtain ⟨vb, hvb⟩ : ∃ x, x = w.heap.size := ⟨_, rfl⟩
  rw [← hvb] at X ⊢
  clear hvb
  refine (TW.out m hm _).mono ?_
  rintro e v2 ⟨⟨rfl, hr⟩, hb⟩
  have HB : Hid (Below v.heap.size v v2) := hb
  have HR : Hid (OL v2 v.heap.size (.slice (some ⟨v.heap.size, 0, none⟩) 2 2) (numL 2 m ++ flatP P 0)) := by
    show OL _ _ _ _
    have := hr.ol
    rw [numL_length] at this
    simpa [flatP] using this
  clear hr hb hm
  generalize hvz : (some (⟨v.heap.size, 0, none⟩ : Addr)) = az at *
  clear hvz
  go_wp2
  go_loopw [3, 4] (fun s i wr => ∃ (k c3 : Nat) (a3 : Option Addr), k ≤ n ∧ i = .int .i64 k ∧ s = .slice a3 (2 + 3 * k) c3 ∧ OL wr v.heap.size (.slice a3 (2 + 3 * k) c3) (numL 2 m ++ flatP P k) ∧ Below v.heap.size v wr) (fun _ i _ => n - (intOf i).toNat)
  case atStart => exact ⟨0, 2, az, by omega, rfl, rfl, HR.out, HB.out⟩
  case round =>
    clear HR HB
    obtain ⟨k, c3, a3, hk, rfl, rfl, ho, hb⟩ := hrel
    have HB : Hid (Below v.heap.size v wr) := hb
    have x1 := (X.out.below hb).c1
    by_cases hlt : k < n
    · have hlt' : (k : Int) < (n : Int) := by omega
      have k0 : (0 : Int) ≤ (k : Int) := by omega
      have kb : (k : Int) ≤ 16 := by omega
      have HK : Hid (k < n) := hlt
      have hpl := (HO.out.2 k hlt).1
      obtain ⟨b, off, rfl, hc⟩ := E0.out.opened (by omega)
      have d0 : v.cell? ⟨b, off + k * 2, none⟩ = some (.int .i64 (P k).bk) := hc k hlt 0 (by omega)
      have d1 : v.cell? ⟨b, off + k * 2 + 1, none⟩ = some (.int .i64 (P k).vs) := hc k hlt 1 (by omega)
      obtain ⟨x, hx⟩ := Int.eq_ofNat_of_zero_le (show 0 ≤ (P k).bk by have := hpl.1.1; omega)
      obtain ⟨y, hy⟩ := Int.eq_ofNat_of_zero_le (show 0 ≤ (P k).vs by have := hpl.2.1; omega)
      have EF : Hid (flatP P (k + 1) = flatP P k ++ ([x] ++ numL 2 y)) := by show flatP P k ++ plL (P k) = _; unfold plL; rw [hx, hy]; rfl
      rw [hx] at d0
      rw [hy] at d1
      have T2 : Hid (∀ w : World, Calls Tryz.prog 46 #[.int .i64 (y : Int)] w fun e w' => (e = .returned (.slice (some ⟨w.heap.size, 0, none⟩) 2 2) ∧ RL w' w.heap.size w.heap.size 2 (numL 2 y)) ∧ Below w.heap.size w w') := TW.out y (by have := hpl.2.2; omega)
      have x256 : (x : Int) % 256 = (x : Int) := by have := hpl.1.2; omega
      have xw : IntKind.u8.wrap (x : Int) = (x : Int) := IntWalk.u8_in _ (by have := hpl.1.2; omega)
      have HR : Hid (OL wr v.heap.size (.slice a3 (2 + 3 * k) c3) (numL 2 m ++ flatP P k)) := ho
      have HLN : Hid (2 + 3 * k = (numL 2 m ++ flatP P k).length) := by show _ = _; rw [List.length_append, numL_length, flatP_length]
      have D0 : Hid (v.cell? ⟨b, off + k * 2, none⟩ = some (.int .i64 (x : Int))) := d0
      have D1 : Hid (v.cell? ⟨b, off + k * 2 + 1, none⟩ = some (.int .i64 (y : Int))) := d1
      clear ho hb hc hpl hx hy hlt hk d0 d1
      go_wp2_with fail
      clear x1
      have H : Below v.heap.size v wr.drew := HB.out.drew
      have O0 : Hid (OL wr.drew v.heap.size (.slice a3 (2 + 3 * k) c3) (numL 2 m ++ flatP P k)) := HR.out.below ((Below.refl _ _).drew)
      refine wp_region_noPanic ?_
      refine wp_region_held_drew (S := fun w' => Below v.heap.size v w') (by kernel_rfl) H (fun _ => ?_)
      generalize wr.drew = x0 at *
      refine wpAnyH_take (i := 0) (v := .slice a3 (2 + 3 * k) c3) rfl (by kernel_rfl) (by kernel_rfl) (by kernel_rfl) (fun _ _ _ h => h) (Or.inl ⟨by rfl, ?_⟩) H ?_
      · intro w' hSw; clear hSw; go_simp
      change wpAnyH _ _ _ _ _ _ _ { tmps := #[_,_,_,_,_,_,_,_,_,_,_,_,_,_,_,_,_,_,_,_,_,_,_,_,_,_,_,_,_,_,_,_,_,_,_,_,_], defers := _ } _
      refine wpAnyH_take (i := 1) (v := .pointer (some ⟨vb, 1, none⟩)) rfl (by kernel_rfl) (by kernel_rfl) (by kernel_rfl) (fun _ _ _ h => h) (Or.inl ⟨by rfl, ?_⟩) H ?_
      · intro w' hSw; clear hSw; go_simp
      change wpAnyH _ _ _ _ _ _ _ { tmps := #[_,_,_,_,_,_,_,_,_,_,_,_,_,_,_,_,_,_,_,_,_,_,_,_,_,_,_,_,_,_,_,_,_,_,_,_,_], defers := _ } _
      refine wpAnyH_take (i := 2) (v := .slice (some ⟨b, off, none⟩) n c) rfl (by kernel_rfl) (by kernel_rfl) (by kernel_rfl) (fun _ _ _ h => h) (Or.inl ⟨by rfl, ?_⟩) H ?_
      · intro w' hSw; have q0 := (X.out.below hSw).c1; clear hSw; go_simp
      change wpAnyH _ _ _ _ _ _ _ { tmps := #[_,_,_,_,_,_,_,_,_,_,_,_,_,_,_,_,_,_,_,_,_,_,_,_,_,_,_,_,_,_,_,_,_,_,_,_,_], defers := _ } _
      refine wpAnyH_take (i := 3) (v := .int .i64 (k : Int)) rfl (by kernel_rfl) (by kernel_rfl) (by kernel_rfl) (fun _ _ _ h => h) (Or.inl ⟨by rfl, ?_⟩) H ?_
      · intro w' hSw; clear hSw; go_simp
      change wpAnyH _ _ _ _ _ _ _ { tmps := #[_,_,_,_,_,_,_,_,_,_,_,_,_,_,_,_,_,_,_,_,_,_,_,_,_,_,_,_,_,_,_,_,_,_,_,_,_], defers := _ } _
      refine wpAnyH_take (i := 4) (v := .pointer (some ⟨b, off + k * 2, none⟩)) rfl (by kernel_rfl) (by kernel_rfl) (by kernel_rfl) (fun _ _ _ h => h) (Or.inl ⟨by rfl, ?_⟩) H ?_
      · intro w' hSw; clear hSw; go_simp
      change wpAnyH _ _ _ _ _ _ _ { tmps := #[_,_,_,_,_,_,_,_,_,_,_,_,_,_,_,_,_,_,_,_,_,_,_,_,_,_,_,_,_,_,_,_,_,_,_,_,_], defers := _ } _
      refine wpAnyH_take (i := 5) (v := .pointer (some ⟨b, off + k * 2, none⟩)) rfl (by kernel_rfl) (by kernel_rfl) (by kernel_rfl) (fun _ _ _ h => h) (Or.inl ⟨by rfl, ?_⟩) H ?_
      · intro w' hSw; clear hSw; go_simp
      change wpAnyH _ _ _ _ _ _ _ { tmps := #[_,_,_,_,_,_,_,_,_,_,_,_,_,_,_,_,_,_,_,_,_,_,_,_,_,_,_,_,_,_,_,_,_,_,_,_,_], defers := _ } _
      refine wpAnyH_take (i := 6) (v := .int .i64 (x : Int)) rfl (by kernel_rfl) (by kernel_rfl) (by kernel_rfl) (fun _ _ _ h => h) (Or.inl ⟨by rfl, ?_⟩) H ?_
      · intro w' hSw; have q0 := (hSw.cell (strBlock D0.out)).trans D0.out; clear hSw; go_simp
      change wpAnyH _ _ _ _ _ _ _ { tmps := #[_,_,_,_,_,_,_,_,_,_,_,_,_,_,_,_,_,_,_,_,_,_,_,_,_,_,_,_,_,_,_,_,_,_,_,_,_], defers := _ } _
      refine wpAnyH_take (i := 7) (v := .int .u8 (x : Int)) rfl (by kernel_rfl) (by kernel_rfl) (by kernel_rfl) (fun _ _ _ h => h) (Or.inl ⟨by rfl, ?_⟩) H ?_
      · intro w' hSw; clear hSw; go_simp
      change wpAnyH _ _ _ _ _ _ _ { tmps := #[_,_,_,_,_,_,_,_,_,_,_,_,_,_,_,_,_,_,_,_,_,_,_,_,_,_,_,_,_,_,_,_,_,_,_,_,_], defers := _ } _
      refine wpAnyH_take (i := 10) (v := .pointer (some ⟨vb, 1, none⟩)) rfl (by kernel_rfl) (by kernel_rfl) (by kernel_rfl) (fun _ _ _ h => h) (Or.inl ⟨by rfl, ?_⟩) H ?_
      · intro w' hSw; clear hSw; go_simp
      change wpAnyH _ _ _ _ _ _ _ { tmps := #[_,_,_,_,_,_,_,_,_,_,_,_,_,_,_,_,_,_,_,_,_,_,_,_,_,_,_,_,_,_,_,_,_,_,_,_,_], defers := _ } _
      refine wpAnyH_take (i := 11) (v := .slice (some ⟨b, off, none⟩) n c) rfl (by kernel_rfl) (by kernel_rfl) (by kernel_rfl) (fun _ _ _ h => h) (Or.inl ⟨by rfl, ?_⟩) H ?_
      · intro w' hSw; have q0 := (X.out.below hSw).c1; clear hSw; go_simp
      change wpAnyH _ _ _ _ _ _ _ { tmps := #[_,_,_,_,_,_,_,_,_,_,_,_,_,_,_,_,_,_,_,_,_,_,_,_,_,_,_,_,_,_,_,_,_,_,_,_,_], defers := _ } _
      refine wpAnyH_take (i := 12) (v := .int .i64 (k : Int)) rfl (by kernel_rfl) (by kernel_rfl) (by kernel_rfl) (fun _ _ _ h => h) (Or.inl ⟨by rfl, ?_⟩) H ?_
      · intro w' hSw; clear hSw; go_simp
      change wpAnyH _ _ _ _ _ _ _ { tmps := #[_,_,_,_,_,_,_,_,_,_,_,_,_,_,_,_,_,_,_,_,_,_,_,_,_,_,_,_,_,_,_,_,_,_,_,_,_], defers := _ } _
      refine wpAnyH_take (i := 13) (v := .pointer (some ⟨b, off + k * 2, none⟩)) rfl (by kernel_rfl) (by kernel_rfl) (by kernel_rfl) (fun _ _ _ h => h) (Or.inl ⟨by rfl, ?_⟩) H ?_
      · intro w' hSw; clear hSw; go_simp
      change wpAnyH _ _ _ _ _ _ _ { tmps := #[_,_,_,_,_,_,_,_,_,_,_,_,_,_,_,_,_,_,_,_,_,_,_,_,_,_,_,_,_,_,_,_,_,_,_,_,_], defers := _ } _
      refine wpAnyH_take (i := 14) (v := .pointer (some ⟨b, off + k * 2 + 1, none⟩)) rfl (by kernel_rfl) (by kernel_rfl) (by kernel_rfl) (fun _ _ _ h => h) (Or.inl ⟨by rfl, ?_⟩) H ?_
      · intro w' hSw; clear hSw; go_simp
      change wpAnyH _ _ _ _ _ _ _ { tmps := #[_,_,_,_,_,_,_,_,_,_,_,_,_,_,_,_,_,_,_,_,_,_,_,_,_,_,_,_,_,_,_,_,_,_,_,_,_], defers := _ } _
      refine wpAnyH_take (i := 15) (v := .int .i64 (y : Int)) rfl (by kernel_rfl) (by kernel_rfl) (by kernel_rfl) (fun _ _ _ h => h) (Or.inl ⟨by rfl, ?_⟩) H ?_
      · intro w' hSw; have q0 := (hSw.cell (strBlock D1.out)).trans D1.out; clear hSw; go_simp
      change wpAnyH _ _ _ _ _ _ _ { tmps := #[_,_,_,_,_,_,_,_,_,_,_,_,_,_,_,_,_,_,_,_,_,_,_,_,_,_,_,_,_,_,_,_,_,_,_,_,_], defers := _ } _
      obtain ⟨a4, c4, v4, hr4, ho4, hb4, _⟩ := O0.out.add1 HLN.out (by omega) H.size x
      have O4 : Hid (OL v4 v.heap.size (.slice a4 (2 + 3 * k + 1) c4) (numL 2 m ++ flatP P k ++ [x])) := ho4
      have H1 : Below v.heap.size v (x0.alloc (.cells #[.int .u8 ((x : Nat) : Int)] 5)) := H.trans (((Below.refl _ _).alloc (Nat.le_refl _) _).mono H.size)
      have H2 : Below v.heap.size v v4 := H.trans hb4
      clear ho4 hb4
      refine wpAnyH_ready (rs := [8]) (by kernel_rfl) (by simp) ?_
      refine AllReadyH.cons rfl (fun KK hK => ?_) AllReadyH.nil
      go_simp
      refine hK.out _ _ H1 (fun _ => ?_)
      clear hK KK
      change wpAnyH _ _ _ _ _ _ _ { tmps := #[_,_,_,_,_,_,_,_,_,_,_,_,_,_,_,_,_,_,_,_,_,_,_,_,_,_,_,_,_,_,_,_,_,_,_,_,_], defers := _ } _
      refine wpAnyH_ready (rs := [9]) (by kernel_rfl) (by simp) ?_
      refine AllReadyH.cons rfl (fun KK hK => ?_) AllReadyH.nil
      rw [if_pos (by rfl)]
      refine Lib.wp_append_run _ (.tmp 15) (.tmp 23) 22 22 rfl (.slice a3 (2 + 3 * k) c3) (.slice (some ⟨x0.heap.size, 0, none⟩) 1 1) rfl rfl _ _ (hr4 _) ?_
      refine hK.out _ _ H2 (fun _ => ?_)
      clear hK KK
      change wpAnyH _ _ _ _ _ _ _ { tmps := #[_,_,_,_,_,_,_,_,_,_,_,_,_,_,_,_,_,_,_,_,_,_,_,_,_,_,_,_,_,_,_,_,_,_,_,_,_], defers := _ } _
      refine wpAnyH_ready (rs := [16]) (by kernel_rfl) (by simp) ?_
      refine AllReadyH.cons rfl (fun KK hK => ?_) AllReadyH.nil
      go_simp
      refine (T2.out _).mono ?_
      rintro e v5 ⟨⟨rfl, hrl⟩, hb⟩
      have H3 : Below v.heap.size v v5 := H2.trans (hb.mono H2.size)
      obtain ⟨w6, v6, hr6, ho6, hb6, _⟩ := OL.app v5 v.heap.size (.slice a4 (2 + 3 * k + 1) c4) (numL 2 m ++ flatP P k ++ [x]) (numL 2 y) v4.heap.size 0 2 2 (numL_length 2 y).symm H3.size (by rw [numL_length, List.length_append, ← HLN.out]; simp; omega) (O4.out.below hb) (fun j hj => by rw [Nat.zero_add]; exact hrl.cell j hj)
      obtain ⟨a6, c6, rfl⟩ := ho6.form
      have el : (numL 2 m ++ flatP P k ++ [x] ++ numL 2 y).length = 2 + 3 * (k + 1) := by rw [List.length_append, List.length_append, ← HLN.out, numL_length]; rfl
      rw [el] at hr6 ho6
      have O6 : Hid (OL v6 v.heap.size (.slice a6 (2 + 3 * (k + 1)) c6) (numL 2 m ++ flatP P (k + 1))) := by
        show OL _ _ _ _
        rw [EF.out]
        simpa only [List.append_assoc] using ho6
      have H4 : Below v.heap.size v v6 := H3.trans hb6
      clear hrl hb ho6 hb6 el
      generalize v4.heap.size = g4 at *
      refine hK.out _ _ H3 (fun _ => ?_)
      clear hK KK
      change wpAnyH _ _ _ _ _ _ _ { tmps := #[_,_,_,_,_,_,_,_,_,_,_,_,_,_,_,_,_,_,_,_,_,_,_,_,_,_,_,_,_,_,_,_,_,_,_,_,_], defers := _ } _
      refine wpAnyH_ready (rs := [17]) (by kernel_rfl) (by simp) ?_
      refine AllReadyH.cons rfl (fun KK hK => ?_) AllReadyH.nil
      rw [if_pos (by rfl)]
      refine Lib.wp_append_run _ (.tmp 24) (.tmp 31) 22 22 rfl (.slice a4 (2 + 3 * k + 1) c4) (.slice (some ⟨g4, 0, none⟩) 2 2) rfl rfl _ _ (hr6 _) ?_
      refine hK.out _ _ H4 (fun _ => ?_)
      clear hK KK
      change wpAnyH _ _ _ _ _ _ _ { tmps := #[_,_,_,_,_,_,_,_,_,_,_,_,_,_,_,_,_,_,_,_,_,_,_,_,_,_,_,_,_,_,_,_,_,_,_,_,_], defers := _ } _
      refine wpAnyH_take (i := 18) (v := .slice a6 (2 + 3 * (k + 1)) c6) rfl (by kernel_rfl) (by kernel_rfl) (by kernel_rfl) (fun _ _ _ h => h) (Or.inl ⟨by rfl, ?_⟩) H4 ?_
      · intro w' hSw; clear hSw; go_simp
      change wpAnyH _ _ _ _ _ _ _ { tmps := #[_,_,_,_,_,_,_,_,_,_,_,_,_,_,_,_,_,_,_,_,_,_,_,_,_,_,_,_,_,_,_,_,_,_,_,_,_], defers := _ } _
      refine wpAnyH_done (by kernel_rfl) ?_ _
      refine NoPanic.normal ?_
      have B6 : Hid (Below v.heap.size v v6) := H4
      clear H H1 H2 H3 H4 O0 O4 hr4 hr6 HR HB D0 D1
      go_wp2
      go_roundw
      case rel => exact ⟨k + 1, c6, a6, by have := HK.out; omega, by go_num, rfl, O6.out, B6.out⟩
      case measure => have := HK.out; simp [intOf]; omega
    · obtain rfl : k = n := by omega
      have x2 := (X.out.below hb).c2
      obtain ⟨v3, w3, hr3, ho3, hb3, _⟩ := OL.appS wr v.heap.size (.slice a3 (2 + 3 * k) c3) (numL 2 m ++ flatP P k) r hb.size (by rw [List.length_append, numL_length, flatP_length]; omega) ho
      obtain ⟨a4, c4, rfl⟩ := ho3.form
      rw [← SM.out] at hr3 ho3
      have O3 : Hid (OL w3 w.heap.size (.slice a4 (supL (m : Int) k P r).length c4) (supL (m : Int) k P r)) := ho3.mono A0.out.size
      have B3 : Hid (Below w.heap.size w w3) := A0.out.trans ((hb.trans hb3).mono A0.out.size)
      clear ho hb ho3 hb3 HB hlt hk SM
      go_wp2_with (at_builtin; refine Lib.wpList_append_run _ rfl (.tmp 33) (.tmp 35) 22 9 rfl (.slice a3 (2 + 3 * k) c3) (.string r) rfl rfl _ _ (hr3 _) ?_)
      go_ret
      exact ⟨⟨a4, c4, rfl, O3.out⟩, B3.out⟩
set_option maxRecDepth 100000 in
theorem specSupBy_any (z : Int) (a : Option Addr) (n c : Nat) (P : Nat → Plc) (r : ByteArray) (hn : n ≤ 1048576) (L : List Nat) (cd : Int) (hA : (¬ SupOk z n P r ∧ cd = 1 ∧ L = []) ∨ (SupOk z n P r ∧ cd = 0 ∧ L = supL z n P r)) (w : World) (h : Els w 2 a n (pcF P)) :
    Calls Tryz.prog 6 #[.agg #[.int .i64 z, .slice a n c, .string r]] w fun e w' => (∃ a' c', e = .returned (.tuple #[.slice a' L.length c', .int .i64 cd]) ∧ OL w' w.heap.size (.slice a' L.length c') L) ∧ Below w.heap.size w w' := by
  have A0 : Hid (Below w.heap.size w (w.alloc (.cells #[.int .i64 z, .slice a n c, .string r] 25))) := (Below.refl _ _).alloc (Nat.le_refl _) _
  have X : Hid (Box3 (w.alloc (.cells #[.int .i64 z, .slice a n c, .string r] 25)) w.heap.size 25 (.int .i64 z) (.slice a n c) (.string r)) := Box3.made _ _ _ _ _
  have E0 : Hid (Els (w.alloc (.cells #[.int .i64 z, .slice a n c, .string r] 25)) 2 a n (pcF P)) := h.below A0.out
  have k0 := X.out.c0
  have k1 := X.out.c1
  have k2 := X.out.c2
  rcases hA with ⟨hok, rfl, rfl⟩ | ⟨hok, rfl, rfl⟩
  · have SK : Hid (Calls Tryz.prog 20 #[.agg #[.int .i64 z, .slice a n c, .string r]] (w.alloc (.cells #[.int .i64 z, .slice a n c, .string r] 25)) fun e w' => e = .returned (.bool false) ∧ Below (w.alloc (.cells #[.int .i64 z, .slice a n c, .string r] 25)).heap.size (w.alloc (.cells #[.int .i64 z, .slice a n c, .string r] 25)) w') := specSupOK_any z a n c P r hn _ E0.out false (gB_no hok).symm
    clear h hok hn
    go_enter Tryz.func6, Tryz.ntmps6
    go_wp2_with fail
    clear k0 k1 k2
    generalize (w.alloc (.cells #[.int .i64 z, .slice a n c, .string r] 25)) = v at *
    refine SK.out.mono ?_
    rintro e v1 ⟨rfl, hb⟩
    have A1 : Hid (Below w.heap.size w v1) := A0.out.trans (hb.mono A0.out.size)
    clear hb SK X A0 E0
    go_wp2
    exact bodyPost_ret (results_tmp2 Tryz.results6 _ _ _) rfl ⟨⟨_, 0, rfl, OL.lit _ _ A1.out.size⟩, A1.out.trans (((Below.refl _ _).alloc (Nat.le_refl _) _).mono A1.out.size)⟩
  · have SK : Hid (Calls Tryz.prog 20 #[.agg #[.int .i64 z, .slice a n c, .string r]] (w.alloc (.cells #[.int .i64 z, .slice a n c, .string r] 25)) fun e w' => e = .returned (.bool true) ∧ Below (w.alloc (.cells #[.int .i64 z, .slice a n c, .string r] 25)).heap.size (w.alloc (.cells #[.int .i64 z, .slice a n c, .string r] 25)) w') := specSupOK_any z a n c P r hn _ E0.out true (gB_yes hok).symm
    have LB : Hid (∀ w : World, Els w 2 a n (pcF P) → Calls Tryz.prog 23 #[.agg #[.int .i64 z, .slice a n c, .string r]] w fun e w' => (∃ a' c', e = .returned (.slice a' (supL z n P r).length c') ∧ OL w' w.heap.size (.slice a' (supL z n P r).length c') (supL z n P r)) ∧ Below w.heap.size w w') := fun w h => l12Bytes_any z a n c P r hok w h
    clear h hok hn
    go_enter Tryz.func6, Tryz.ntmps6
    go_wp2_with fail
    clear k0 k1 k2
    generalize (w.alloc (.cells #[.int .i64 z, .slice a n c, .string r] 25)) = v at *
    obtain ⟨vb, hvb⟩ : ∃ x, x = w.heap.size := ⟨_, rfl⟩
    rw [← hvb] at X ⊢
    clear hvb
    refine SK.out.mono ?_
    rintro e v1 ⟨rfl, hb⟩
    have A1 : Hid (Below w.heap.size w v1) := A0.out.trans (hb.mono A0.out.size)
    have E1 : Hid (Els v1 2 a n (pcF P)) := E0.out.below hb
    have k0 := (X.out.below hb).c0
    have k1 := (X.out.below hb).c1
    have k2 := (X.out.below hb).c2
    clear hb SK X A0 E0
    go_wp2_with fail
    refine (LB.out _ E1.out).mono ?_
    rintro e v2 ⟨⟨a', c', rfl, ho⟩, hb⟩
    have O2 : Hid (OL v2 w.heap.size (.slice a' (supL z n P r).length c') (supL z n P r)) := ho.mono A1.out.size
    have B2 : Hid (Below w.heap.size w v2) := A1.out.trans (hb.mono A1.out.size)
    clear ho hb LB A1 E1 k0 k1 k2
    go_wp2
    exact bodyPost_ret (results_tmp2 Tryz.results6 _ _ _) rfl ⟨⟨a', c', rfl, O2.out⟩, B2.out⟩
end Go.Proofs.YtkmakpbphdjbcaaGreatDoor
namespace Go.Proofs.YtkmakpbphdjbcaaGreatDoor
open Go.ChangeShapes Go.WideShapes Go.ChangeAt Go.RowKit
set_option linter.unusedVariables false
theorem getD_left (A B : List Nat) (i : Nat) (h : i < A.length) : (A ++ B).getD i 0 = A.getD i 0 := by
  simp [List.getD, List.getElem?_append_left h]
theorem getD_right (A B : List Nat) (i j : Nat) (h : i = A.length + j) : (A ++ B).getD i 0 = B.getD j 0 := by
  subst h
  simp only [List.getD]
  rw [List.getElem?_append_right (by omega), show A.length + j - A.length = j from by omega]
theorem numL2R (x : Nat) : numL 2 x = [x / 256 % 256, x % 256] := by
  unfold numL numP
  simp [List.range_succ]
theorem plL_at (p : Plc) : plL p = [p.bk.toNat, p.vs.toNat / 256 % 256, p.vs.toNat % 256] := by
  unfold plL
  rw [numL2R]
  rfl
theorem flatP_at (P : Nat → Plc) : ∀ (k i j : Nat), i < k → j < 3 → (flatP P k).getD (3 * i + j) 0 = (plL (P i)).getD j 0
  | 0, i, j, hi, hj => absurd hi (by omega)
  | k + 1, i, j, hi, hj => by
    rw [flatP]
    by_cases h : i < k
    · rw [getD_left _ _ _ (by rw [flatP_length]; omega)]
      exact flatP_at P k i j h hj
    · obtain rfl : i = k := by omega
      exact getD_right _ _ _ j (by rw [flatP_length])
theorem strL_getD (r : ByteArray) (i : Nat) (h : i < r.size) : (strL r).getD i 0 = strB r i := by
  have h2 : i < r.data.toList.length := by rw [Array.length_toList]; exact h
  unfold strL strB
  rw [List.getD, List.getElem?_map, List.getElem?_eq_getElem h2]
  simp
  rw [dif_pos h]
  rfl
def supF (z : Int) (n : Nat) (P : Nat → Plc) (r : ByteArray) (i : Nat) : Nat := (supL z n P r).getD i 0
theorem supF_z (z : Int) (n : Nat) (P : Nat → Plc) (r : ByteArray) (h : SupOk z n P r) : sZ (supF z n P r) = z.toNat := by
  have hz := h.1.1
  have hz2 := h.1.2.1
  have e0 : supF z n P r 0 = z.toNat / 256 % 256 := by
    unfold supF supL
    rw [List.append_assoc, getD_left _ _ _ (by rw [numL_length]; omega), numL2R]
    rfl
  have e1 : supF z n P r 1 = z.toNat % 256 := by
    unfold supF supL
    rw [List.append_assoc, getD_left _ _ _ (by rw [numL_length]; omega), numL2R]
    rfl
  unfold sZ
  simp only [valN, Nat.zero_add, e0, e1]
  omega
theorem supF_p (z : Int) (n : Nat) (P : Nat → Plc) (r : ByteArray) (h : SupOk z n P r) (i : Nat) (hi : i < n) : sP (supF z n P r) i = P i := by
  have at3 : ∀ j, j < 3 → supF z n P r (2 + 3 * i + j) = (plL (P i)).getD j 0 := fun j hj => by
    unfold supF supL
    rw [getD_left _ _ _ (by rw [headL_length]; omega), getD_right _ _ (2 + 3 * i + j) (3 * i + j) (by rw [numL_length]; omega)]
    exact flatP_at P n i j hi hj
  have a0 := at3 0 (by omega)
  have a1 := at3 1 (by omega)
  have a2 := at3 2 (by omega)
  rw [plL_at] at a0 a1 a2
  have ok := (h.2 i hi).1
  unfold sP
  simp only [valN, Nat.add_zero]
  rw [show 2 + 3 * i + 1 + 1 = 2 + 3 * i + 2 from rfl]
  simp only [Nat.add_zero] at a0
  rw [a0, a1, a2]
  unfold Plc.Ok at ok
  generalize P i = q at *
  cases q
  simp at ok ⊢
  omega
theorem supF_r (z : Int) (n : Nat) (P : Nat → Plc) (r : ByteArray) (h : SupOk z n P r) : sR (supF z n P r) = r := by
  have hr := h.1.2.2.2
  unfold sR
  rw [supF_z z n P r h, ← h.1.2.2.1]
  conv => rhs; rw [← kstr_self r]
  rw [hr]
  refine kstr_congr (fun i hi => ?_)
  unfold supF supL
  rw [getD_right _ _ _ i (by rw [headL_length]; omega), strL_getD r i (by omega), Nat.zero_add]
theorem supF_rd (z : Int) (n : Nat) (P : Nat → Plc) (r : ByteArray) (h : SupOk z n P r) : RdS (supL z n P r).length (supF z n P r) := by
  unfold RdS
  rw [supF_z z n P r h, ← h.1.2.2.1, supF_r z n P r h, supL_length, h.1.2.2.2]
  refine ⟨by omega, (supOk_congr (fun i hi => supF_p z n P r h i hi)).2 ?_⟩
  have : (z.toNat : Int) = z := by have := h.1.1; omega
  rw [this]
  exact h
end Go.Proofs.YtkmakpbphdjbcaaGreatDoor
