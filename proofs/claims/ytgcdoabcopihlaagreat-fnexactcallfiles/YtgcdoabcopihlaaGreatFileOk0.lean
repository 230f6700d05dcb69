/-
  FilesOK of the model, l11Find and l11Home (written by tools/mkfileoks.py).
-/
import Derived.Test.YtgcdoabcopihlaaGreatFileM
import Derived.Test.YtgcdoabcopihlaaGreatAnyH
import Derived.Test.YtgcdoabcopihlaaGreatInsJ
import Derived.Laws.Cover1
namespace Go.Proofs.YtgcdoabcopihlaaGreat
open Go.ChangeShapes Go.WideShapes Go.ChangeAt Go.RowKit
set_option linter.unusedVariables false
theorem bytesLess_cmp : ∀ (l r : List UInt8), Op.bytesLess l r = true ↔ Lib.compareBytes l r = -1
  | [], [] => by simp [Op.bytesLess, Lib.compareBytes]
  | [], _ :: _ => by simp [Op.bytesLess, Lib.compareBytes]
  | _ :: _, [] => by simp [Op.bytesLess, Lib.compareBytes]
  | a :: l, b :: r => by
    have ih := bytesLess_cmp l r
    unfold Op.bytesLess Lib.compareBytes
    by_cases g1 : a < b
    · simp [g1]
    · by_cases g2 : b < a
      · have ne : (a == b) = false := by
          rw [beq_eq_false_iff_ne]; intro e; subst e; exact g1 g2
        simp [g1, g2, ne]
      · have e : a = b := UInt8.toNat_inj.1 (by
          have n1 : ¬ a.toNat < b.toNat := fun h => g1 (UInt8.lt_iff_toNat_lt.2 h)
          have n2 : ¬ b.toNat < a.toNat := fun h => g2 (UInt8.lt_iff_toNat_lt.2 h)
          omega)
        subst e
        simp [g1, ih]
theorem less_ord {s t : ByteArray} (hs : s.size ≤ 40) (ht : t.size ≤ 40) : Op.bytesLess s.toList t.toList = true ↔ ord s < ord t := by
  rw [ByteArray.toList_eq, ByteArray.toList_eq, bytesLess_cmp, ord_cmp hs ht]
  unfold cmpI
  split
  · simp; assumption
  · split <;> simp <;> omega
theorem less_yes {s t : ByteArray} (hs : s.size ≤ 40) (ht : t.size ≤ 40) (h : ord s < ord t) : Op.bytesLess s.toList t.toList = true := (less_ord hs ht).2 h
theorem less_no {s t : ByteArray} (hs : s.size ≤ 40) (ht : t.size ≤ 40) (h : ¬ ord s < ord t) : Op.bytesLess s.toList t.toList = false := by
  cases e : Op.bytesLess s.toList t.toList with
  | false => rfl
  | true => exact absurd ((less_ord hs ht).1 e) h
/-- What l11Find tells: the first place of a path, or -1. -/
def FstIs (n : Nat) (F : Nat → Fi) (q : ByteArray) (r : Int) : Prop := (r = -1 ∧ ∀ j, j < n → (F j).p ≠ q) ∨ ∃ j : Nat, r = (j : Int) ∧ j < n ∧ (F j).p = q ∧ ∀ i, i < j → (F i).p ≠ q
set_option maxRecDepth 100000 in
set_option maxHeartbeats 1000000 in
theorem l11Find_any (a : Option Addr) (n c : Nat) (F : Nat → Fi) (q : ByteArray) (hn : n ≤ 1048576) (w : World) (h : Els w 3 a n (fiF F)) :
    Calls Tryz.prog 73 #[.slice a n c, .string q] w fun e w' => (∃ r : Int, e = .returned (.int .i64 r) ∧ FstIs n F q r) ∧ w' = w := by
  have H : Hid (Els w 3 a n (fiF F)) := h
  clear h
  go_enter Tryz.func73, Tryz.ntmps73
  go_wp2
  go_loopw [5] (fun i wr => ∃ k : Nat, k ≤ n ∧ i = .int .i64 k ∧ (∀ j, j < k → (F j).p ≠ q) ∧ wr = w) (fun i _ => n - (intOf i).toNat)
  case atStart => exact ⟨0, by omega, rfl, fun j hj => absurd hj (by omega), rfl⟩
  case round =>
    obtain ⟨k, hk, rfl, hI, rfl⟩ := hrel
    have HI : Hid (∀ j, j < k → (F j).p ≠ q) := hI
    clear hI
    by_cases hlt : k < n
    · obtain ⟨b, off, rfl, hc⟩ := H.out.opened (by omega)
      obtain ⟨c0, c1, c2⟩ := Els.fiC hc k hlt
      have hlt' : (k : Int) < (n : Int) := by omega
      clear hc
      by_cases he : (F k).p = q
      · have HR : Hid (FstIs n F q (k : Int)) := .inr ⟨k, rfl, hlt, he, HI.out⟩
        have g : ((F k).p.toList == q.toList) = true := by rw [he]; simp
        clear he
        go_wp2
        go_ret
        exact ⟨⟨_, rfl, HR.out⟩, rfl⟩
      · have g : ((F k).p.toList == q.toList) = false := textNe he
        have HE : Hid ((F k).p ≠ q) := he
        clear he
        go_wp2
        go_roundw
        case rel => exact ⟨k + 1, by omega, by go_num, fun j hj => by
          by_cases e : j = k
          · subst e; exact HE.out
          · exact HI.out j (by omega), by trivial⟩
        case measure => simp [intOf]; omega
    · obtain rfl : k = n := by omega
      go_wp2
      go_ret
      exact ⟨⟨-1, rfl, .inl ⟨rfl, HI.out⟩⟩, rfl⟩
set_option maxRecDepth 100000 in
set_option maxHeartbeats 1000000 in
theorem l11Home_any (a : Option Addr) (n c : Nat) (F : Nat → Fi) (q : ByteArray) (hn : n ≤ 1048576) (w : World) (h : Els w 3 a n (fiF F)) :
    Calls Tryz.prog 61 #[.slice a n c, .string q] w fun e w' => (∃ x : Int, e = .returned (.int .i64 x) ∧ DirIs n F q x) ∧ w' = w := by
  rcases Nat.eq_zero_or_pos q.size with hz | hz
  · have HD : Hid (DirIs n F q 0) := .inl ⟨hz, rfl⟩
    obtain rfl : q = ⟨#[]⟩ := ByteArray.ext (Array.eq_empty_of_size_eq_zero hz)
    clear hz h hn
    go_enter Tryz.func61, Tryz.ntmps61
    go_wp2
    go_ret
    exact ⟨⟨_, rfl, HD.out⟩, rfl⟩
  · have g1 : (q.toList == []) = false := textEmpty hz
    have g2 : q.toList.isEmpty = false := textEmpty2 hz
    have HF : Hid (Calls Tryz.prog 73 #[.slice a n c, .string q] w fun e w' => (∃ r : Int, e = .returned (.int .i64 r) ∧ FstIs n F q r) ∧ w' = w) := l11Find_any a n c F q hn w h
    have H : Hid (Els w 3 a n (fiF F)) := h
    have HZ : Hid (0 < q.size) := hz
    clear h hz
    go_enter Tryz.func61, Tryz.ntmps61
    go_wp2_with fail
    refine (Calls.mono HF.out) ?_
    rintro e w1 ⟨⟨r, rfl, hr⟩, rfl⟩
    clear HF
    rcases hr with ⟨rfl, hno⟩ | ⟨j, rfl, hj, ej, hfst⟩
    · have HD : Hid (DirIs n F q 5) := .inr (.inl ⟨HZ.out, hno, rfl⟩)
      clear hno
      go_wp2
      go_ret
      exact ⟨⟨_, rfl, HD.out⟩, rfl⟩
    · obtain ⟨b, off, rfl, hc⟩ := H.out.opened (by omega)
      obtain ⟨c0, c1, c2⟩ := Els.fiC hc j hj
      have hlt' : (j : Int) < (n : Int) := by omega
      have h0 : ¬ (j : Int) < 0 := by omega
      have HD : Hid (∀ x : Int, (((F j).d = false ∧ x = 17) ∨ ((F j).d = true ∧ x = 0)) → DirIs n F q x) := fun x h => .inr (.inr ⟨HZ.out, j, hj, ej, h⟩)
      clear hfst ej hc HZ
      generalize F j = y at *
      obtain ⟨p, d, t⟩ := y
      dsimp only at *
      cases d with
      | true =>
        go_wp2
        go_ret
        exact ⟨⟨_, rfl, HD.out 0 (.inr ⟨by trivial, rfl⟩)⟩, rfl⟩
      | false =>
        go_wp2
        go_ret
        exact ⟨⟨_, rfl, HD.out 17 (.inl ⟨by trivial, rfl⟩)⟩, rfl⟩
end Go.Proofs.YtgcdoabcopihlaaGreat
