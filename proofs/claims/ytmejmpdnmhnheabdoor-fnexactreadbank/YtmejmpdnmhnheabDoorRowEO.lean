/-
  Rows of structs of a call's own, nil ones too; append of one element.
-/
import Derived.Test.YtmejmpdnmhnheabDoorRegisterS
import Derived.Test.YtmejmpdnmhnheabDoorSessionS
import Derived.Maps.AppendAt
namespace Go.Proofs.YtmejmpdnmhnheabDoor
open Go.ChangeShapes Go.WideShapes Go.ChangeAt Go.RowKit
set_option linter.unusedVariables false
/-- The cells of n elements of s cells. -/
def elv (s n : Nat) (F : Nat → Nat → Value) : List Value := (List.range (n * s)).map fun i => F (i / s) (i % s)
theorem elv_length (s n : Nat) (F : Nat → Nat → Value) : (elv s n F).length = n * s := by unfold elv; simp
theorem elv_congr {s n : Nat} {F G : Nat → Nat → Value} (h : ∀ i, i < n → ∀ j, j < s → F i j = G i j) : elv s n F = elv s n G := List.map_congr_left (fun i hi => by
  have hi' := List.mem_range.1 hi
  have hs : 0 < s := by
    rcases Nat.eq_zero_or_pos s with rfl | q
    · omega
    · exact q
  exact h _ ((Nat.div_lt_iff_lt_mul hs).2 hi') _ (Nat.mod_lt _ hs))
theorem elv_snoc (s n : Nat) (F : Nat → Nat → Value) : elv s (n + 1) F = elv s n F ++ (List.range s).map (F n) := by
  unfold elv
  rw [Nat.add_mul, Nat.one_mul, List.range_add, List.map_append, List.map_map]
  congr 1
  exact List.map_congr_left (fun j hj => by
    have hj' := List.mem_range.1 hj
    show F ((n * s + j) / s) ((n * s + j) % s) = F n j
    rw [(divE hj').1, (divE hj').2])
/-- A slice of n elements in a row of the call's own, or nil. -/
def EO (w : World) (B : Nat) (t : TypeId) (s : Nat) (v : Value) (n : Nat) (F : Nat → Nat → Value) : Prop := w.ownsRow B t s v n (elv s n F)
theorem EO.nil (w : World) (B : Nat) (t : TypeId) (s : Nat) (F : Nat → Nat → Value) : EO w B t s (.slice none 0 0) 0 F := ⟨by rw [elv_length], .inl ⟨rfl, rfl⟩⟩
theorem EO.form {w : World} {B : Nat} {t : TypeId} {s : Nat} {v : Value} {n : Nat} {F : Nat → Nat → Value} (h : EO w B t s v n F) : ∃ a c, v = .slice a n c := by
  obtain ⟨hl, ⟨h1, h2⟩ | ⟨g', cap, cur, hv, _⟩⟩ := h
  · subst h2; exact ⟨_, _, h1⟩
  · exact ⟨_, _, hv⟩
theorem EO.congr {w : World} {B : Nat} {t : TypeId} {s : Nat} {v : Value} {n : Nat} {F G : Nat → Nat → Value} (h : EO w B t s v n F) (e : ∀ i, i < n → ∀ j, j < s → F i j = G i j) : EO w B t s v n G := by unfold EO at *; rw [← elv_congr e]; exact h
theorem EO.ge {w : World} {B : Nat} {t : TypeId} {s : Nat} {v : Value} {n : Nat} {F : Nat → Nat → Value} (h : EO w B t s v n F) (g : Nat) (e : v.ownBlock = some g) : B ≤ g ∧ g < w.heap.size := World.ownsRow.lt h g e
theorem EO.keep {w w' : World} {B : Nat} {t : TypeId} {s : Nat} {v : Value} {n : Nat} {F : Nat → Nat → Value} (h : EO w B t s v n F) (e : ∀ g, v.ownBlock = some g → w'.heap[g]? = w.heap[g]?) : EO w' B t s v n F := by
  obtain ⟨hl, h0 | ⟨g', cap, cur, hv, hB, hh, hr⟩⟩ := h
  · exact ⟨hl, .inl h0⟩
  · subst hv
    exact ⟨hl, .inr ⟨g', cap, cur, rfl, hB, by rw [e g' rfl]; exact hh, hr⟩⟩
theorem EO.below {w w' : World} {B : Nat} {t : TypeId} {s : Nat} {v : Value} {n : Nat} {F : Nat → Nat → Value} (h : EO w B t s v n F) (hb : Below w.heap.size w w') : EO w' B t s v n F := h.keep (fun g e => hb.block g (h.ge g e).2)
theorem EO.onlyB {w w' : World} {B q : Nat} {t : TypeId} {s : Nat} {v : Value} {n : Nat} {F : Nat → Nat → Value} (h : EO w B t s v n F) (ho : OnlyB q w w') (hq : q < B) : EO w' B t s v n F := h.keep (fun g e => ho.block g (h.ge g e).2 (by have := (h.ge g e).1; omega))
theorem EO.rowE {w : World} {B : Nat} {t : TypeId} {s : Nat} {a : Option Addr} {n c : Nat} {F : Nat → Nat → Value} (h : EO w B t s (.slice a n c) n F) : ∃ g, RowE w s a g n F ∧ (0 < n → B ≤ g) := by
  obtain ⟨hl, ⟨h1, h2⟩ | ⟨g, cap, cur, hv, hB, hh, hn, hm, hs, ht⟩⟩ := h
  · subst h2
    exact ⟨0, RowE.nil _ _ _ _ _, fun q => absurd q (by omega)⟩
  · cases hv
    have each : ∀ i, i < n * s → w.cell? ⟨g, i, none⟩ = some (F (i / s) (i % s)) := fun i hi => by
      have h1 : (cur.toList.take (n * s))[i]? = some (F (i / s) (i % s)) := by rw [ht]; simp [elv, hi]
      rw [List.getElem?_take, if_pos hi, Array.getElem?_toList] at h1
      simp [World.cell?, hh, h1]
    refine ⟨g, ⟨fun _ => rfl, fun i hi j hj => ?_, fun i hi => by simp [World.frozen?, hh]⟩, fun _ => hB⟩
    have := each (i * s + j) (ltE hi hj)
    rw [(divE hj).1, (divE hj).2] at this
    exact this
theorem EO.els {w : World} {B : Nat} {t : TypeId} {s : Nat} {a : Option Addr} {n c : Nat} {F : Nat → Nat → Value} (h : EO w B t s (.slice a n c) n F) : Els w s a n F := by
  obtain ⟨g, h1, _⟩ := h.rowE
  exact h1.els
def updE {T : Type} (f : Nat → T) (k : Nat) (x : T) (i : Nat) : T := if i = k then x else f i
set_option maxRecDepth 100000 in
theorem appRg (w : World) (B : Nat) (v : Value) (n q : Nat) (R : Nat → Rg) (x : Rg) (hB : B ≤ w.heap.size) (hn : n ≤ 100000) (h : EO w B 63 3 v n (rgF R)) (hx : ∀ j, j < 3 → w.cell? ⟨q, 0 + j, none⟩ = some (rgV x j)) :
    ∃ v' w', (∀ ty, (Builtin.append_ #[30, 30] ty #[v, .slice (some ⟨q, 0, none⟩) 1 1]).run Tryd.prog w = .ok v' w') ∧ EO w' B 63 3 v' (n + 1) (rgF (updE R n x)) ∧ w.grownBy w' v.ownBlock ∧ (v'.ownBlock = v.ownBlock ∨ v'.ownBlock = some w.heap.size) := by
  obtain ⟨i, hi, hz, hsz, hby⟩ := info_parts Tryd.infoRg
  obtain ⟨v', w', hr, ho, hg, _, hloc⟩ := run_append_own_at (P := Tryd.prog) w B 30 30 63 i _ 3 32 Tryd.underlying30 hi hz hsz hby rfl (by decide) v n _ h ⟨q, 0, none⟩ 1 1 ((List.range 3).map (rgV x)) (by simp) (fun j u hj => by
    rw [Go.WideShapes.add_plain]
    rw [List.getElem?_map, Option.map_eq_some_iff] at hj
    obtain ⟨b, hb, rfl⟩ := hj
    obtain ⟨hj', rfl⟩ := List.getElem?_eq_some_iff.1 hb
    rw [List.getElem_range]
    exact hx j (by simpa using hj')) (fun u hu => by
      obtain ⟨j, hj, rfl⟩ := List.mem_map.1 hu
      have := List.mem_range.1 hj
      rcases (show j = 0 ∨ j = 1 ∨ j = 2 by omega) with rfl | rfl | rfl <;> rfl) (by unfold maxLen; omega) (by omega) hB
  refine ⟨v', w', fun ty => hr, ?_, hg, hloc⟩
  unfold EO
  rw [elv_snoc, elv_congr (G := rgF R) (fun i hi j hj => by unfold rgF updE; rw [if_neg (by omega)])]
  have e : (List.range 3).map (rgF (updE R n x) n) = (List.range 3).map (rgV x) := by unfold rgF updE; simp
  rw [e]
  exact ho
set_option maxRecDepth 100000 in
theorem appSe (w : World) (B : Nat) (v : Value) (n q : Nat) (R : Nat → Se) (x : Se) (hB : B ≤ w.heap.size) (hn : n ≤ 100000) (h : EO w B 66 4 v n (seF R)) (hx : ∀ j, j < 4 → w.cell? ⟨q, 0 + j, none⟩ = some (seV x j)) :
    ∃ v' w', (∀ ty, (Builtin.append_ #[31, 31] ty #[v, .slice (some ⟨q, 0, none⟩) 1 1]).run Tryd.prog w = .ok v' w') ∧ EO w' B 66 4 v' (n + 1) (seF (updE R n x)) ∧ w.grownBy w' v.ownBlock ∧ (v'.ownBlock = v.ownBlock ∨ v'.ownBlock = some w.heap.size) := by
  obtain ⟨i, hi, hz, hsz, hby⟩ := info_parts Tryd.infoSe
  obtain ⟨v', w', hr, ho, hg, _, hloc⟩ := run_append_own_at (P := Tryd.prog) w B 31 31 66 i _ 4 32 Tryd.underlying31 hi hz hsz hby rfl (by decide) v n _ h ⟨q, 0, none⟩ 1 1 ((List.range 4).map (seV x)) (by simp) (fun j u hj => by
    rw [Go.WideShapes.add_plain]
    rw [List.getElem?_map, Option.map_eq_some_iff] at hj
    obtain ⟨b, hb, rfl⟩ := hj
    obtain ⟨hj', rfl⟩ := List.getElem?_eq_some_iff.1 hb
    rw [List.getElem_range]
    exact hx j (by simpa using hj')) (fun u hu => by
      obtain ⟨j, hj, rfl⟩ := List.mem_map.1 hu
      have := List.mem_range.1 hj
      rcases (show j = 0 ∨ j = 1 ∨ j = 2 ∨ j = 3 by omega) with rfl | rfl | rfl | rfl <;> rfl) (by unfold maxLen; omega) (by omega) hB
  refine ⟨v', w', fun ty => hr, ?_, hg, hloc⟩
  unfold EO
  rw [elv_snoc, elv_congr (G := seF R) (fun i hi j hj => by unfold seF updE; rw [if_neg (by omega)])]
  have e : (List.range 4).map (seF (updE R n x) n) = (List.range 4).map (seV x) := by unfold seF updE; simp
  rw [e]
  exact ho
end Go.Proofs.YtmejmpdnmhnheabDoor
