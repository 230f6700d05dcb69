/-
  The program's PathOK: the iterator over a path's names, and the loop over it.
-/
import Derived.Test.YtgcdoabcopihlaaGreatCutM
import Derived.Test.YtgcdoabcopihlaaGreatStrS
import Derived.RangeFuncNested
import Derived.RangeFuncBound
import Derived.RangeFuncCalls
import Derived.RangeFuncLeaves
import Derived.RangeFuncFrom
import Derived.Shelf.Abstract
import Derived.Shelf.RegionOpen
import Derived.WalkKit
import Derived.OwnWalkIn
import Derived.TacticsInMore
import Derived.LoopNIn
import Derived.LoopIn
namespace Go.Proofs.YtgcdoabcopihlaaGreat
open Go.ChangeShapes Go.WideShapes Go.ChangeAt Go.RowKit Go.Shelf
set_option linter.unusedVariables false
attribute [local go_sem] Oper.semAt_some
theorem cutIs_from {s : ByteArray} {o : Nat} (ho : o ≤ s.size) {e : Ending} (h : CutIs (s.extract o s.size) 0 e) : CutIs s o e := by
  have hs : (s.extract o s.size).size = s.size - o := extract_size s o s.size (Nat.le_refl _)
  rcases h with ⟨hn, rfl⟩ | ⟨j, _, h2, h3, h4, rfl⟩
  · refine .inl ⟨fun k a b => ?_, by rw [ByteArray.extract_zero_size]⟩
    have := hn (k - o) (Nat.zero_le _) (by omega)
    rw [byteAt_extract] at this
    rwa [show o + (k - o) = k by omega] at this
  · refine .inr ⟨o + j, by omega, by omega, by rw [← byteAt_extract]; exact h3, fun k a b => ?_, ?_⟩
    · have := h4 (k - o) (Nat.zero_le _) (by omega)
      rw [byteAt_extract] at this
      rwa [show o + (k - o) = k by omega] at this
    · rw [hs, extract_both s o 0 j (by omega), extract_both s o (j + 1) (s.size - o) (by omega)]
      rw [show o + 0 = o from rfl, show o + (s.size - o) = s.size by omega, show o + (j + 1) = o + j + 1 from rfl]
theorem cutFrom_any (s : ByteArray) (o : Nat) (ho : o ≤ s.size) (w : World) (hs : s.size ≤ 1048576) :
    Calls Tryz.prog 91 #[.string (s.extract o s.size), .string ⟨#[47]⟩] w fun e w' => CutIs s o e ∧ w.grownBy w' none ∧ w'.heap = w.heap :=
  (cut_any (s.extract o s.size) w (by rw [extract_size s o s.size (Nat.le_refl _)]; omega)).mono fun e w' h => ⟨cutIs_from ho h.1, ⟨h.2.1.os, h.2.1.tape, h.2.1.output, by rw [h.2.2]; exact Nat.le_refl _, fun k _ _ => by rw [h.2.2]⟩, h.2.2⟩
/-- Where the iterator stands: pre has come, and what comes next. -/
def ItAt (s : ByteArray) (pre : List ByteArray) (x r : ByteArray) (m : Bool) : Prop :=
  (m = false ∧ scan s 0 0 = pre ++ [x]) ∨ (m = true ∧ ∃ j, j < s.size ∧ r = s.extract (j + 1) s.size ∧ scan s 0 0 = pre ++ x :: scan s (j + 1) (j + 1))
theorem itAt_cut {s : ByteArray} {o : Nat} {pre : List ByteArray} {e : Ending} (ho : o ≤ s.size) (h : CutIs s o e) (hp : scan s 0 0 = pre ++ scan s o o) :
    ∃ x r m, e = .returned (.tuple #[.string x, .string r, .bool m]) ∧ ItAt s pre x r m ∧ (m = true → r.size < s.size - o) := by
  rcases h with ⟨hn, rfl⟩ | ⟨j, h1, h2, h3, h4, rfl⟩
  · refine ⟨_, _, _, rfl, .inl ⟨rfl, ?_⟩, fun e => by cases e⟩
    rw [hp, scan_to s o o (s.size - o) (by omega) (fun k a b => hn k a (by omega)), show o + (s.size - o) = s.size by omega, scan_end _ _ _ (Nat.le_refl _)]
  · refine ⟨_, _, _, rfl, .inr ⟨rfl, j, h2, rfl, ?_⟩, fun _ => by rw [extract_size _ _ _ (Nat.le_refl _)]; omega⟩
    rw [hp, scan_to s o o (j - o) (by omega) (fun k a b => h4 k a (by omega)), show o + (j - o) = j by omega, scan_hit _ _ _ h2 h3]
/-- How much is left. -/
def leftN : Value → Value → Nat
  | .string r, .bool true => r.size + 1
  | _, _ => 0
set_option maxRecDepth 100000 in
set_option maxHeartbeats 2000000 in
theorem names_stops (Bn n₀ : Nat) (s : ByteArray) (w : World) (n : Nat) (hs : s.size ≤ 1048576) (hBn : w.cell? ⟨Bn, 0, none⟩ = some (.string s)) :
    SeqStopsK Fence.wide n Tryz.prog 99 #[.pointer (some ⟨Bn, 0, none⟩)] (fun x : ByteArray => #[Value.string x]) (Below n₀) (fun xs => xs = scan s 0 0) (fun pre => pre <+: scan s 0 0) (scan s 0 0).length w := fun l J Jx W hW hJ hJx hY h0 => by
  have hc : W.cell? ⟨Bn, 0, none⟩ = some (.string s) := by rw [hW.cell (p := ⟨Bn, 0, none⟩) (strBlock hBn)]; exact hBn
  have hz : s.extract 0 s.size = s := ByteArray.extract_zero_size
  have HC : Hid (∀ (o : Nat) (w : World), o ≤ s.size → CallsIn Fence.wide (n - 1) Tryz.prog 91 #[.string (s.extract o s.size), .string ⟨#[47]⟩] w fun e w' => CutIs s o e ∧ w.grownBy w' none ∧ w'.heap = w.heap) := fun o w ho => callsIn_wide.2 (cutFrom_any s o ho w hs)
  have HC0 : Hid (∀ (w : World), CallsIn Fence.wide (n - 1) Tryz.prog 91 #[.string s, .string ⟨#[47]⟩] w fun e w' => CutIs s 0 e ∧ w.grownBy w' none ∧ w'.heap = w.heap) := fun w => by have := HC.out 0 w (Nat.zero_le _); rwa [hz] at this
  clear hz
  refine callsIn_of_wp Tryz.func99 rfl trivial ?_ rfl
  simp only [Tryz.ntmps99, List.size_toArray, List.length_cons, List.length_nil, Nat.reduceAdd, Nat.reduceSub, Array.replicate_succ, Array.replicate_zero, List.push_toArray, List.append_toArray, List.nil_append, List.cons_append]
  gi_wp2_with fail
  refine ⟨trivial, fun h => by (cases h), (HC0.out _).mono ?_⟩
  rintro e w' ⟨hcut, hg, hh⟩
  obtain ⟨x, r, m, rfl, hit, hm⟩ := itAt_cut (pre := []) (Nat.zero_le _) hcut rfl
  have hJ0 : J [] w' := hJ [] W w' none h0 hg (fun r e => by cases e)
  clear hc hcut hg hh hm HC0
  gi_wp2
  gi_loopw [3, 4, 5] (fun nv rv mv wr => ∃ (pre : List ByteArray) (x r : ByteArray) (m : Bool), nv = .string x ∧ rv = .string r ∧ mv = .bool m ∧ ItAt s pre x r m ∧ J pre wr) (fun nv rv mv wr => leftN rv mv)
  case atStart => exact ⟨[], x, r, m, rfl, rfl, rfl, hit, hJ0⟩
  case round =>
    obtain ⟨pre, x, r, m, rfl, rfl, rfl, hit, hJs⟩ := hrel
    have hlen : pre.length < (scan s 0 0).length := by
      rcases hit with ⟨_, h⟩ | ⟨_, j, _, _, h⟩ <;> rw [h] <;> simp
    have hpre : (pre ++ [x]) <+: scan s 0 0 := by
      rcases hit with ⟨_, h⟩ | ⟨_, j, _, _, h⟩
      · rw [h]; exact List.prefix_refl _
      · rw [h]; exact ⟨scan s (j + 1) (j + 1), by simp⟩
    obtain ⟨fn, tmps, assign, body, hy, hR⟩ := hY pre x wr hJs hlen
    try dsimp only at hy
    gi_wp2
    refine ⟨fun h => by (cases h), hR.mono ?_⟩
    rintro e W3 (⟨rfl, hJ3, hk3⟩ | ⟨rfl, hJx3⟩)
    · rcases hit with ⟨rfl, hx⟩ | ⟨rfl, j, hj, rfl, hx⟩
      · gi_wp2
        go_end0
        exact ⟨⟨_, rfl⟩, .inl ⟨pre ++ [x], hx.symm, hJ3⟩⟩
      · gi_wp2_with fail
        refine ⟨trivial, fun h => by (cases h), (HC.out (j + 1) _ (by omega)).mono ?_⟩
        rintro e w4 ⟨hcut, hg, hh⟩
        obtain ⟨x2, r2, m2, rfl, hit2, hm2⟩ := itAt_cut (pre := pre ++ [x]) (by omega) hcut (by rw [hx]; simp)
        have hJ4 : J (pre ++ [x]) w4 := hJ _ W3 w4 none hJ3 hg (fun r e => by cases e)
        clear hcut hg hh
        gi_wp2
        go_roundw
        case rel => exact ⟨pre ++ [x], x2, r2, m2, rfl, rfl, rfl, hit2, hJ4⟩
        case measure =>
          cases m2 with
          | false => simp [leftN]
          | true => have := hm2 rfl; simp only [leftN]; rw [extract_size _ _ _ (Nat.le_refl _)]; omega
    · gi_wp2
      go_end0
      exact ⟨⟨_, rfl⟩, .inr ⟨pre ++ [x], hpre, hJx3⟩⟩
theorem newC (W : World) (v : Value) (t : TypeId) : (W.alloc (.cells #[v] t)).cell? ⟨W.heap.size, 0, none⟩ = some v ∧ (W.alloc (.cells #[v] t)).frozen? ⟨W.heap.size, 0, none⟩ = false := by
  constructor <;> simp
theorem keptC {W : World} {a : Addr} {v : Value} (o : Obj) (h : W.cell? a = some v) : (W.alloc o).cell? a = some v := cell_kept h (World.grownBy_alloc W o none) (fun r e => by cases e)
theorem keptZ {W : World} {a : Addr} {v : Value} (o : Obj) (h : W.cell? a = some v) (hf : W.frozen? a = false) : (W.alloc o).frozen? a = false := (frozen_kept h (World.grownBy_alloc W o none) (fun r e => by cases e)).trans hf
theorem implNameOK_all (s : ByteArray) (w : World) :
    Calls Tryz.prog 67 #[.string s] w fun e w' => Says e (Nm s) ∧ w' = w := by
  by_cases hs : s.size ≤ maxLen
  · exact implNameOK_any s hs w
  · unfold maxLen at hs
    have g1 : decide ((s.size : Int) < 1) = false := by simp; omega
    have g2 : decide (40 < (s.size : Int)) = true := by simp; omega
    have H : Hid (¬ Nm s) := fun h => by have := h.2.1; omega
    clear hs
    go_enter Tryz.func67, Tryz.ntmps67
    go_wp2
    go_ret
    exact ⟨⟨false, rfl, by simp [H.out]⟩, rfl⟩
theorem namesOf_any (s : ByteArray) (w : World) :
    Calls Tryz.prog 66 #[.string s] w fun e w' => e = .returned (.func (.func 99) #[] #[.pointer (some ⟨w.heap.size, 0, none⟩)]) ∧ w' = w.alloc (.cells #[.string s] 9) := by
  go_enter Tryz.func66, Tryz.ntmps66
  go_wp2
  go_ret
  exact ⟨rfl, rfl⟩
set_option maxRecDepth 100000 in
set_option maxHeartbeats 2000000 in
theorem implPathOK_any (s : ByteArray) (hs : s.size ≤ 1048576) (w : World) :
    Calls Tryz.prog 30 #[.string s] w fun e w' => Says e (PathOk s) ∧ Below w.heap.size w w' := by
  refine (callsIn_wide (n := 3)).1 ?_
  by_cases h40 : 40 < s.size
  · have g2 : decide (40 < (s.size : Int)) = true := by simp; omega
    have H : Hid (¬ PathOk s) := fun h => by have := h.1; omega
    clear hs
    refine callsIn_of_wp_marks Tryz.func30 rfl trivial ?_ rfl
    simp only [Tryz.ntmps30, List.size_toArray, List.length_cons, List.length_nil, Nat.reduceAdd, Nat.reduceSub, Array.replicate_succ, Array.replicate_zero, List.push_toArray, List.append_toArray, List.nil_append, List.cons_append]
    gi_wp2
    exact ⟨.bool false, by simp [results, Tryz.f30, go_sem], ⟨false, rfl, by simp [H.out]⟩, (Below.refl w.heap.size w).alloc (Nat.le_refl _) _⟩
  · have g2 : decide (40 < (s.size : Int)) = false := by simp; omega
    have HN : Hid (∀ (w : World) , CallsIn Fence.wide 2 Tryz.prog 66 #[.string s] w fun e w' => e = .returned (.func (.func 99) #[] #[.pointer (some ⟨w.heap.size, 0, none⟩)]) ∧ w' = w.alloc (.cells #[.string s] 9)) := fun w => callsIn_wide.2 (namesOf_any s w)
    have HK : Hid (∀ (x : ByteArray) (w : World) (n : Nat), CallsIn Fence.wide n Tryz.prog 67 #[.string x] w fun e w' => Says e (Nm x) ∧ w' = w) := fun x w n => callsIn_wide.2 (implNameOK_all x w)
    refine callsIn_of_wp_marks Tryz.func30 rfl trivial ?_ rfl
    simp only [Tryz.ntmps30, List.size_toArray, List.length_cons, List.length_nil, Nat.reduceAdd, Nat.reduceSub, Array.replicate_succ, Array.replicate_zero, List.push_toArray, List.append_toArray, List.nil_append, List.cons_append]
    gi_wp2_with fail
    refine ⟨trivial, (HN.out _).mono ?_⟩
    rintro e w' ⟨rfl, rfl⟩
    gi_wp2_with fail
    have c0 := newC w (.bool false) 4
    have c1 := newC (w.alloc (.cells #[.bool false] 4)) (.string s) 9
    simp only [World.size_alloc] at c1
    have hB0 : Below w.heap.size w ((w.alloc (.cells #[.bool false] 4)).alloc (.cells #[.string s] 9)) := ((Below.refl _ w).alloc (Nat.le_refl _) _).alloc (by simp) _
    refine wpIn_rangeFunc_ownF rfl (by omega) (gf := 99) (lb := #[.pointer (some ⟨w.heap.size + 1, 0, none⟩)]) rfl trivial (enters_of Tryz.func99 (by kernel_rfl) rfl)
      (names_stops (w.heap.size + 1) w.heap.size s _ _ hs c1.1) belowK_t (belowK_b (by simp; omega)) (Below.refl _ _) (fun _ => rfl)
      (fun pre W => ((∀ y ∈ pre, Nm y) ∧ W.cell? ⟨w.heap.size, 0, none⟩ = some (.bool false) ∧ W.frozen? ⟨w.heap.size, 0, none⟩ = false) ∧ Below w.heap.size w W)
      (fun c pre W => (c = .ret ∧ (∃ y ∈ pre, ¬ Nm y) ∧ W.cell? ⟨w.heap.size, 0, none⟩ = some (.bool false)) ∧ Below w.heap.size w W)
      (OwnFrom.and (Own.from (fun s A B row hs hg hr => ⟨hs.1, cell_kept hs.2.1 hg hr, (frozen_kept hs.2.1 hg hr).trans hs.2.2⟩) _) (ownFrom_below (Nat.le_refl _) (by simp; omega)))
      (fun c => OwnFrom.and (Own.from (fun s A B row hs hg hr => ⟨hs.1, hs.2.1, cell_kept hs.2.2 hg hr⟩) _) (ownFrom_below (Nat.le_refl _) (by simp; omega)))
      ⟨⟨by simp, keptC _ c0.1, keptZ _ c0.1 c0.2⟩, hB0⟩
      (fun x => { tmps := #[.string s, undef, .pointer (some ⟨w.heap.size, 0, none⟩), .string x, .string s, .int .i64 s.size, .bool false, .string s, .func (.func 99) #[] #[.pointer (some ⟨w.heap.size + 1, 0, none⟩)], .string x, undef, undef, undef], defers := [] }) ?assign ?body ?done ?stop
    case assign =>
      intro l x W K hK
      gi_wp2
      exact hK
    case body =>
      rintro l pre x W ⟨⟨hp, hcr, hfr⟩, hB⟩ _
      gi_wp2_with fail
      refine ⟨trivial, (CallsIn.inRound l (HK.out x _ _)).mono ?_⟩
      rintro e w' ⟨⟨b, rfl, hb⟩, rfl⟩
      have HB : Hid (b = true ↔ Nm x) := hb
      clear hb
      cases b with
      | true =>
        gi_wp2
        exact ⟨KeepsOthers.refl _, Below.refl _ _, ⟨fun y hy => (List.mem_append.1 hy).elim (hp y) (fun e => by simp at e; subst e; exact HB.out.1 (by trivial)), hcr, hfr⟩, hB⟩
      | false =>
        gi_wp2
        exact ⟨KeepsOthers.setCell _ _ _, ⟨rfl, ⟨x, List.mem_append.2 (.inr (by simp)), fun h => by have := HB.out.2 h; cases this⟩, World.cell?_setCell_same' _ _ _ (by rw [hcr]; rfl)⟩, hB.setCell (p := ⟨w.heap.size, 0, none⟩) (by simp) _⟩
    case done =>
      rintro D ys W hD rfl ⟨⟨hne, hcr, hfr⟩, hB⟩ hK
      gi_wp2
      have hK' := (KeepsOthers.setCell W ⟨w.heap.size, 0, none⟩ (.bool true)).same D _ hK rfl
      refine ⟨by simp, .inl ⟨_, _, rfl, run_takeDeferred hK', ?_⟩⟩
      have hc5 := cell_kept (World.cell?_setCell_same' W ⟨w.heap.size, 0, none⟩ (.bool true) (by rw [hcr]; rfl)) (grownBy_putObj' _ D (.deferred none)) (fun r e => by cases e; exact ⟨_, hK', rfl⟩)
      refine ⟨.bool true, ?_, ⟨true, rfl, by simp only [true_iff]; exact ⟨by omega, hne⟩⟩, (hB.setCell (p := ⟨w.heap.size, 0, none⟩) (by simp) _).trans (belowK_b (w := w) (Nat.le_refl _) _ D _ _ (by simp at hD; omega) hK' rfl rfl)⟩
      simp [results, Tryz.f30, go_sem, hc5]
    case stop =>
      rintro D c pre W hD hpre ⟨⟨rfl, ⟨y, hy, hny⟩, hcr⟩, hB⟩ hK
      gi_wp2
      refine ⟨by simp, .inl ⟨_, _, rfl, run_takeDeferred hK, ?_⟩⟩
      have hc5 := cell_kept hcr (grownBy_putObj' _ D (.deferred none)) (fun r e => by cases e; exact ⟨_, hK, rfl⟩)
      refine ⟨.bool false, ?_, ⟨false, rfl, by simp; exact fun h => hny (h.2 y (hpre.subset hy))⟩, hB.trans (belowK_b (w := w) (Nat.le_refl _) W D _ _ (by simp at hD; omega) hK rfl rfl)⟩
      simp [results, Tryz.f30, go_sem, hc5]
end Go.Proofs.YtgcdoabcopihlaaGreat
