/-
  Rows of bools in the laws: marked and held; and links.
-/
import Derived.Test.YtkhglllicblbbaaDoorLkTo
namespace Go.Proofs.YtkhglllicblbbaaDoor
open Go.ChangeShapes Go.WideShapes Go.ChangeAt Go.RowKit
set_option linter.unusedVariables false
/-- The mark of number k. -/
def mb (k : Nat) : Bool := (((k : Int).tmod 3) == 0)
theorem mb_emod (k : Nat) : (((k : Int) % 3) == 0) = mb k := by
  unfold mb
  rw [Int.tmod_eq_emod_of_nonneg (by omega)]
theorem mb_add (k q : Nat) : (((k : Int) + (q : Int)) % 3 == 0) = mb (k + q) := by
  rw [← mb_emod, Int.natCast_add]
/-- A slice of bools at the head of a row of the call's own. -/
def OwnB (w : World) (B : Nat) (a : Option Addr) (n : Nat) (f : Nat → Bool) : Prop := (n = 0) ∨ ∃ (b m : Nat) (G : Nat → Value), B ≤ b ∧ a = some ⟨b, 0, none⟩ ∧ w.rowIs b 4 m G ∧ n ≤ m ∧ ∀ i, i < n → G i = .bool (f i)
theorem OwnB.ofRow {w : World} {B b n : Nat} {f : Nat → Bool} (hB : B ≤ b) (h : w.rowIs b 4 n (fun i => .bool (f i))) : OwnB w B (some ⟨b, 0, none⟩) n f := .inr ⟨b, n, _, hB, rfl, h, Nat.le_refl _, fun _ _ => rfl⟩
theorem OwnB.bools {w : World} {B : Nat} {a : Option Addr} {n : Nat} {f : Nat → Bool} (h : OwnB w B a n f) : Bools w a n f := by
  rcases h with rfl | ⟨b, m, G, _, rfl, hr, hm, hG⟩
  · exact fun i hi => absurd hi (by omega)
  · exact fun i hi => ⟨b, 0, rfl, by rw [Nat.zero_add, hr.cell (by omega), hG i hi]⟩
theorem OwnB.below {w w' : World} {B : Nat} {a : Option Addr} {n : Nat} {f : Nat → Bool} (h : OwnB w B a n f) (hb : Below w.heap.size w w') : OwnB w' B a n f := by
  rcases h with h | ⟨b, m, G, hB, ha, hr, hm, hG⟩
  · exact .inl h
  · exact .inr ⟨b, m, G, hB, ha, hr.of_block (hb.block b hr.lt), hm, hG⟩
theorem OwnB.mono {w : World} {B C : Nat} {a : Option Addr} {n : Nat} {f : Nat → Bool} (h : OwnB w B a n f) (hC : C ≤ B) : OwnB w C a n f := by
  rcases h with h | ⟨b, m, G, hB, ha, hr, hm, hG⟩
  · exact .inl h
  · exact .inr ⟨b, m, G, Nat.le_trans hC hB, ha, hr, hm, hG⟩
/-- From w to w' only the block of a slice's row has changed. -/
structure OnlyA (a : Option Addr) (n : Nat) (w w' : World) : Prop where
  os : w'.os = w.os
  tape : w'.tape = w.tape
  output : w'.output = w.output
  size : w.heap.size ≤ w'.heap.size
  block : ∀ k, k < w.heap.size → (0 < n → ∀ p, a = some p → p.block ≠ k) → w'.heap[k]? = w.heap[k]?
theorem OnlyA.refl (a : Option Addr) (n : Nat) (w : World) : OnlyA a n w w := ⟨rfl, rfl, rfl, Nat.le_refl _, fun _ _ _ => rfl⟩
theorem OnlyA.toBelow {a : Option Addr} {n : Nat} {w w' : World} (h : OnlyA a n w w') {B : Nat} (hB : 0 < n → ∀ p, a = some p → B ≤ p.block) (hw : B ≤ w.heap.size) : Below B w w' :=
  ⟨h.os, h.tape, h.output, h.size, fun k hk => h.block k (by omega) (fun h0 p hp e => by have := hB h0 p hp; omega)⟩
theorem OnlyA.after {a : Option Addr} {n : Nat} {w w1 w2 : World} (h : OnlyA a n w1 w2) (h1 : Below w.heap.size w w1) : OnlyA a n w w2 :=
  ⟨h.os.trans h1.os, h.tape.trans h1.tape, h.output.trans h1.output, Nat.le_trans h1.size h.size, fun k hk hne => (h.block k (Nat.lt_of_lt_of_le hk h1.size) hne).trans (h1.block k hk)⟩
theorem OnlyA.setCell {g n : Nat} {w w' : World} (h : OnlyA (some ⟨g, 0, none⟩) n w w') (hn : 0 < n) (i : Nat) (v : Value) : OnlyA (some ⟨g, 0, none⟩) n w (w'.setCell ⟨g, i, none⟩ v) :=
  ⟨h.os, h.tape, h.output, by simpa using h.size, fun k hk hne => by rw [Below.heap_setCell w' ⟨g, i, none⟩ v k (fun e => hne hn ⟨g, 0, none⟩ rfl e.symm)]; exact h.block k hk hne⟩
theorem OwnB.onlyA {w w' : World} {B n : Nat} {a : Option Addr} {f : Nat → Bool} {c : Option Addr} {m : Nat} (h : OwnB w B a n f) (ho : OnlyA c m w w') (hd : 0 < n → 0 < m → ∀ x y, a = some x → c = some y → y.block ≠ x.block) : OwnB w' B a n f := by
  rcases Nat.eq_zero_or_pos n with rfl | hp
  · exact .inl rfl
  rcases h with h | ⟨b, k, G, hB, ha, hr, hm, hG⟩
  · exact .inl h
  · exact .inr ⟨b, k, G, hB, ha, hr.of_block (ho.block b hr.lt (fun h0 p hpp => hd hp h0 _ p ha hpp)), hm, hG⟩
theorem Bools.onlyA {w w' : World} {n : Nat} {a : Option Addr} {f : Nat → Bool} {c : Option Addr} {m : Nat} (h : Bools w a n f) (ho : OnlyA c m w w') (hd : 0 < m → ∀ x y, a = some x → c = some y → y.block ≠ x.block) : Bools w' a n f := fun i hi => by
  obtain ⟨b, off, ha, hc⟩ := h i hi
  refine ⟨b, off, ha, ?_⟩
  rw [World.cell?_of_block (w := w) (ho.block b (strBlock hc) (fun h0 y hy => hd h0 _ y ha hy))]
  exact hc
theorem OnlyA.keep4 {w w' : World} {b : Nat} {t : TypeId} {x y z m : Value} {c : Option Addr} {k : Nat} (ho : OnlyA c k w w') (h : Box4 w b t x y z m) (hd : 0 < k → ∀ p, c = some p → p.block ≠ b) : Box4 w' b t x y z m := h.ofBlock (ho.block b h.lt hd)
theorem Bools.ltB {w : World} {a : Option Addr} {n : Nat} {f : Nat → Bool} (h : Bools w a n f) : 0 < n → ∀ p, a = some p → p.block < w.heap.size := fun h0 p hp => by
  obtain ⟨b, off, ha, hc⟩ := h 0 h0
  rw [ha] at hp
  cases hp
  exact strBlock hc
theorem OwnB.ge {w : World} {B : Nat} {a : Option Addr} {n : Nat} {f : Nat → Bool} (h : OwnB w B a n f) : 0 < n → ∀ p, a = some p → B ≤ p.block := fun h0 p hp => by
  rcases h with h | ⟨b, _, _, hB, ha, _⟩
  · omega
  · rw [ha] at hp
    cases hp
    exact hB
set_option maxRecDepth 100000 in
set_option maxHeartbeats 1000000 in
theorem markBool_own (a : Option Addr) (n c k B : Nat) (f : Nat → Bool) (hn : k + n ≤ 10000000) (w : World) (h : OwnB w B a n f) :
    Calls Tryd.prog 81 #[.slice a n c, .int .i64 (k : Int)] w fun e w' => e = .returned (.int .i64 ((k + n : Nat) : Int)) ∧ OwnB w' B a n (fun i => mb (k + i)) ∧ OnlyA a n w w' := by
  rcases Nat.eq_zero_or_pos n with rfl | hpos
  · clear h
    go_enter Tryd.func81, Tryd.ntmps81
    go_wp2
    go_loopw [1, 5] (fun kv i wr => kv = .int .i64 (k : Int) ∧ i = .int .i64 0 ∧ wr = w) (fun _ _ _ => 0)
    case atStart => exact ⟨rfl, rfl, rfl⟩
    case round =>
      obtain ⟨rfl, rfl, rfl⟩ := hrel
      go_wp2
      go_ret
      exact ⟨rfl, .inl rfl, OnlyA.refl _ _ _⟩
  · rcases h with h | ⟨g, m, G, hB, rfl, hr, hm, -⟩
    · omega
    have H : Hid (w.rowIs g 4 m G) := hr
    clear hr
    go_enter Tryd.func81, Tryd.ntmps81
    go_wp2
    go_loopw [1, 5] (fun kv i wr => ∃ (q : Nat), q ≤ n ∧ i = .int .i64 q ∧ kv = .int .i64 ((k + q : Nat) : Int) ∧ wr.rowIs g 4 m (fun i => if i < q then .bool (mb (k + i)) else G i) ∧ OnlyA (some ⟨g, 0, none⟩) n w wr) (fun _ i _ => n - (intOf i).toNat)
    case atStart => exact ⟨0, by omega, rfl, rfl, H.out.congr (fun j hj => by simp), OnlyA.refl _ _ _⟩
    case round =>
      clear H
      obtain ⟨q, hq, rfl, rfl, hrow, ho⟩ := hrel
      by_cases hlt : q < n
      · have HRW : Hid (wr.rowIs g 4 m (fun i => if i < q then .bool (mb (k + i)) else G i)) := hrow
        have HO : Hid (OnlyA (some ⟨g, 0, none⟩) n w wr) := ho
        have hlt' : (q : Int) < (n : Int) := by omega
        have g1 := hrow.cell (i := q) (by omega)
        have f1 := hrow.frozen q
        clear hrow ho
        go_wp2
        go_roundw
        case rel =>
          refine ⟨q + 1, by omega, by go_num, by go_num, ?_, HO.out.setCell (by omega) _ _⟩
          exact (HRW.out.set q _).congr (fun j hj => by
            by_cases e : j = q
            · subst e
              simp only [if_true, if_pos (Nat.lt_succ_self j)]
              rw [mb_add]
            · simp only [if_neg e]
              by_cases g : j < q
              · rw [if_pos g, if_pos (by omega)]
              · rw [if_neg g, if_neg (by omega)])
        case measure => simp [intOf]; omega
      · obtain rfl : q = n := by omega
        have HRW : Hid (wr.rowIs g 4 m (fun i => if i < q then .bool (mb (k + i)) else G i)) := hrow
        have HO : Hid (OnlyA (some ⟨g, 0, none⟩) q w wr) := ho
        clear hrow ho
        go_wp2
        go_ret
        exact ⟨rfl, .inr ⟨g, m, _, hB, rfl, HRW.out, hm, fun i hi => if_pos hi⟩, HO.out⟩
end Go.Proofs.YtkhglllicblbbaaDoor
