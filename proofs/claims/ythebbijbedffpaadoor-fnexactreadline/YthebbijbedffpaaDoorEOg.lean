/-
  Rows of elements of s cells of a call's own, nil ones too: append, write, cut in two; what is set between.
-/
import Derived.Test.YthebbijbedffpaaDoorEls
import Derived.Maps.AppendAt
namespace Go.Proofs.YthebbijbedffpaaDoor
open Go.ChangeShapes Go.WideShapes Go.ChangeAt Go.RowKit
set_option linter.unusedVariables false
/-- The cells of n elements of s cells. -/
def elv (s n : Nat) (F : Nat → Nat → Value) : List Value := (List.range (n * s)).map fun i => F (i / s) (i % s)
theorem elv_length (s n : Nat) (F : Nat → Nat → Value) : (elv s n F).length = n * s := by unfold elv; simp
theorem elv_congr {s n : Nat} {F G : Nat → Nat → Value} (h : ∀ i, i < n → ∀ j, j < s → F i j = G i j) : elv s n F = elv s n G := List.map_congr_left (fun i hi => by
  have hi' := List.mem_range.1 hi
  have hs : 0 < s := by
    rcases Nat.eq_zero_or_pos s with rfl | q
    · omega
    · exact q
  exact h _ ((Nat.div_lt_iff_lt_mul hs).2 hi') _ (Nat.mod_lt _ hs))
theorem elv_snoc (s n : Nat) (F : Nat → Nat → Value) : elv s (n + 1) F = elv s n F ++ (List.range s).map (F n) := by
  unfold elv
  rw [Nat.add_mul, Nat.one_mul, List.range_add, List.map_append, List.map_map]
  congr 1
  exact List.map_congr_left (fun j hj => by
    have hj' := List.mem_range.1 hj
    show F ((n * s + j) / s) ((n * s + j) % s) = F n j
    rw [(divE hj').1, (divE hj').2])
/-- A slice of n elements in a row of the call's own, or nil. -/
def EO (w : World) (B : Nat) (t : TypeId) (s : Nat) (v : Value) (n : Nat) (F : Nat → Nat → Value) : Prop := w.ownsRow B t s v n (elv s n F)
theorem EO.nil (w : World) (B : Nat) (t : TypeId) (s : Nat) (F : Nat → Nat → Value) : EO w B t s (.slice none 0 0) 0 F := ⟨by rw [elv_length], .inl ⟨rfl, rfl⟩⟩
theorem EO.form {w : World} {B : Nat} {t : TypeId} {s : Nat} {v : Value} {n : Nat} {F : Nat → Nat → Value} (h : EO w B t s v n F) : ∃ a c, v = .slice a n c := by
  obtain ⟨hl, ⟨h1, h2⟩ | ⟨g', cap, cur, hv, _⟩⟩ := h
  · subst h2; exact ⟨_, _, h1⟩
  · exact ⟨_, _, hv⟩
theorem EO.congr {w : World} {B : Nat} {t : TypeId} {s : Nat} {v : Value} {n : Nat} {F G : Nat → Nat → Value} (h : EO w B t s v n F) (e : ∀ i, i < n → ∀ j, j < s → F i j = G i j) : EO w B t s v n G := by unfold EO at *; rw [← elv_congr e]; exact h
theorem EO.ge {w : World} {B : Nat} {t : TypeId} {s : Nat} {v : Value} {n : Nat} {F : Nat → Nat → Value} (h : EO w B t s v n F) (g : Nat) (e : v.ownBlock = some g) : B ≤ g ∧ g < w.heap.size := World.ownsRow.lt h g e
theorem EO.keep {w w' : World} {B : Nat} {t : TypeId} {s : Nat} {v : Value} {n : Nat} {F : Nat → Nat → Value} (h : EO w B t s v n F) (e : ∀ g, v.ownBlock = some g → w'.heap[g]? = w.heap[g]?) : EO w' B t s v n F := by
  obtain ⟨hl, h0 | ⟨g', cap, cur, hv, hB, hh, hr⟩⟩ := h
  · exact ⟨hl, .inl h0⟩
  · subst hv
    exact ⟨hl, .inr ⟨g', cap, cur, rfl, hB, by rw [e g' rfl]; exact hh, hr⟩⟩
theorem EO.below {w w' : World} {B : Nat} {t : TypeId} {s : Nat} {v : Value} {n : Nat} {F : Nat → Nat → Value} (h : EO w B t s v n F) (hb : Below w.heap.size w w') : EO w' B t s v n F := h.keep (fun g e => hb.block g (h.ge g e).2)
theorem EO.onlyB {w w' : World} {B q : Nat} {t : TypeId} {s : Nat} {v : Value} {n : Nat} {F : Nat → Nat → Value} (h : EO w B t s v n F) (ho : OnlyB q w w') (hq : q < B) : EO w' B t s v n F := h.keep (fun g e => ho.block g (h.ge g e).2 (by have := (h.ge g e).1; omega))
theorem EO.rowE {w : World} {B : Nat} {t : TypeId} {s : Nat} {a : Option Addr} {n c : Nat} {F : Nat → Nat → Value} (h : EO w B t s (.slice a n c) n F) : ∃ g, RowE w s a g n F ∧ (0 < n → B ≤ g) := by
  obtain ⟨hl, ⟨h1, h2⟩ | ⟨g, cap, cur, hv, hB, hh, hn, hm, hs, ht⟩⟩ := h
  · subst h2
    exact ⟨0, RowE.nil _ _ _ _ _, fun q => absurd q (by omega)⟩
  · cases hv
    have each : ∀ i, i < n * s → w.cell? ⟨g, i, none⟩ = some (F (i / s) (i % s)) := fun i hi => by
      have h1 : (cur.toList.take (n * s))[i]? = some (F (i / s) (i % s)) := by rw [ht]; simp [elv, hi]
      rw [List.getElem?_take, if_pos hi, Array.getElem?_toList] at h1
      simp [World.cell?, hh, h1]
    refine ⟨g, ⟨fun _ => rfl, fun i hi j hj => ?_, fun i hi => by simp [World.frozen?, hh]⟩, fun _ => hB⟩
    have := each (i * s + j) (ltE hi hj)
    rw [(divE hj).1, (divE hj).2] at this
    exact this
theorem EO.els {w : World} {B : Nat} {t : TypeId} {s : Nat} {a : Option Addr} {n c : Nat} {F : Nat → Nat → Value} (h : EO w B t s (.slice a n c) n F) : Els w s a n F := by
  obtain ⟨g, h1, _⟩ := h.rowE
  exact h1.els
def updE {T : Type} (f : Nat → T) (k : Nat) (x : T) (i : Nat) : T := if i = k then x else f i
/-- The first n of f, then g. -/
def catE {T : Type} (n : Nat) (f g : Nat → T) (i : Nat) : T := if i < n then f i else g (i - n)
theorem catE_lt {T : Type} {n i : Nat} (f g : Nat → T) (h : i < n) : catE n f g i = f i := if_pos h
theorem catE_at {T : Type} (n i : Nat) (f g : Nat → T) : catE n f g (n + i) = g i := by
  unfold catE
  rw [if_neg (by omega), Nat.add_sub_cancel_left]
theorem catE_zero {T : Type} (f g : Nat → T) : catE 0 f g = g := funext fun i => by
  have := catE_at 0 i f g
  rwa [Nat.zero_add] at this
theorem elv_cat (s n : Nat) (F G H : Nat → Nat → Value) (h1 : ∀ i, i < n → H i = F i) (h2 : ∀ i, H (n + i) = G i) : ∀ m, elv s (n + m) H = elv s n F ++ elv s m G
  | 0 => by
    rw [Nat.add_zero, elv_congr (G := F) (fun i hi j _ => by rw [h1 i hi])]
    simp [elv]
  | m + 1 => by rw [← Nat.add_assoc, elv_snoc, elv_cat s n F G H h1 h2 m, elv_snoc, h2, List.append_assoc]
theorem elv_news {w : World} {s m b off : Nat} {F : Nat → Nat → Value} (hc : ∀ i, i < m → ∀ j, j < s → w.cell? ⟨b, off + i * s + j, none⟩ = some (F i j)) : ∀ (j : Nat) (u : Value), (elv s m F)[j]? = some u → w.cell? ((⟨b, off, none⟩ : Addr).add j) = some u := fun j u hj => by
  rw [Go.WideShapes.add_plain]
  unfold elv at hj
  rw [List.getElem?_map, Option.map_eq_some_iff] at hj
  obtain ⟨k, hk, rfl⟩ := hj
  obtain ⟨hj', rfl⟩ := List.getElem?_eq_some_iff.1 hk
  rw [List.getElem_range]
  have hj2 : j < m * s := by simpa using hj'
  have hs : 0 < s := by
    rcases Nat.eq_zero_or_pos s with rfl | q
    · omega
    · exact q
  have e := Nat.div_add_mod j s
  have := hc (j / s) (Nat.div_lt_of_lt_mul (by rw [Nat.mul_comm]; exact hj2)) (j % s) (Nat.mod_lt _ hs)
  rw [Nat.mul_comm] at e
  rwa [Nat.add_assoc, e] at this
theorem EO.mono {w : World} {B B' : Nat} {t : TypeId} {s : Nat} {v : Value} {n : Nat} {F : Nat → Nat → Value} (h : EO w B t s v n F) (hb : B' ≤ B) : EO w B' t s v n F := by
  obtain ⟨hl, h0 | ⟨g', cap, cur, hv, hB, hr⟩⟩ := h
  · exact ⟨hl, .inl h0⟩
  · exact ⟨hl, .inr ⟨g', cap, cur, hv, Nat.le_trans hb hB, hr⟩⟩
theorem EO.lit (w : World) (B : Nat) (t : TypeId) (s : Nat) (hB : B ≤ w.heap.size) (F : Nat → Nat → Value) : EO (w.alloc (.cells #[] t)) B t s (.slice (some ⟨w.heap.size, 0, none⟩) 0 0) 0 F := by
  unfold EO
  rw [show elv s 0 F = [] by simp [elv]]
  exact World.ownsRow_made w #[] 0 hB (Nat.zero_le _) (by simp)
theorem elv_get {s n : Nat} (F : Nat → Nat → Value) {i : Nat} (hi : i < n * s) : (elv s n F)[i]? = some (F (i / s) (i % s)) := by
  unfold elv
  rw [List.getElem?_map, List.getElem?_range hi]
  rfl
theorem elv_set {s n : Nat} (F : Nat → Nat → Value) {k l : Nat} (hl : l < s) (v : Value) : (elv s n F).set (k * s + l) v = elv s n (setF F k l v) := by
  apply List.ext_getElem?
  intro i
  by_cases hi : i < n * s
  · rw [elv_get _ hi, List.getElem?_set]
    by_cases e : k * s + l = i
    · subst e
      rw [if_pos rfl, if_pos (by rw [elv_length]; exact hi), (divE hl).1, (divE hl).2]
      unfold setF
      rw [if_pos ⟨rfl, rfl⟩]
    · rw [if_neg e, elv_get _ hi]
      unfold setF
      rw [if_neg (fun q => e (by
        have h1 := Nat.div_add_mod i s
        rw [q.1, q.2, Nat.mul_comm] at h1
        exact h1))]
  · rw [List.getElem?_eq_none (by rw [List.length_set, elv_length]; omega), List.getElem?_eq_none (by rw [elv_length]; omega)]
theorem EO.set {w : World} {B : Nat} {t : TypeId} {s : Nat} {g n c : Nat} {F : Nat → Nat → Value} (h : EO w B t s (.slice (some ⟨g, 0, none⟩) n c) n F) {k l : Nat} (hk : k < n) (hl : l < s) (v : Value) :
    EO (w.setCell ⟨g, k * s + l, none⟩ v) B t s (.slice (some ⟨g, 0, none⟩) n c) n (setF F k l v) := by
  obtain ⟨hlen, ⟨h1, _⟩ | ⟨g', cap, cur, hv, hB, hh, hn, hm, hs, ht⟩⟩ := h
  · cases h1
  · cases hv
    refine ⟨elv_length _ _ _, .inr ⟨g, c, cur.setIfInBounds (k * s + l) v, rfl, hB, heap_setCell_same w g (k * s + l) cur t v hh, hn, hm, by rw [Array.size_setIfInBounds, hs], ?_⟩⟩
    rw [Array.toList_setIfInBounds, List.take_set, ht, elv_set F hl v]
theorem EO.zero {w : World} {B : Nat} {t : TypeId} {s : Nat} {a : Option Addr} {n c : Nat} {F : Nat → Nat → Value} (h : EO w B t s (.slice a n c) n F) : a = none → c = 0 := fun e => by
  obtain ⟨hl, ⟨h1, h2⟩ | ⟨g, cap, cur, hv, _⟩⟩ := h
  · cases h1; rfl
  · cases hv; cases e
/-- x is set between what lies ahead of place k and what lies from there on. -/
def insE {T : Type} (f : Nat → T) (k : Nat) (x : T) (i : Nat) : T := if i < k then f i else if i = k then x else f (i - 1)
theorem insE_lt {T : Type} (f : Nat → T) {k i : Nat} (x : T) (h : i < k) : insE f k x i = f i := if_pos h
theorem insE_eq {T : Type} (f : Nat → T) (k : Nat) (x : T) : insE f k x k = x := by
  unfold insE
  rw [if_neg (by omega), if_pos rfl]
theorem insE_gt {T : Type} (f : Nat → T) {k i : Nat} (x : T) (h : k < i) : insE f k x i = f (i - 1) := by
  unfold insE
  rw [if_neg (by omega), if_neg (by omega)]
theorem updE_eq {T : Type} (f : Nat → T) (k : Nat) (x : T) : updE f k x k = x := if_pos rfl
theorem updE_ne {T : Type} (f : Nat → T) {k i : Nat} (x : T) (h : i ≠ k) : updE f k x i = f i := if_neg h
theorem ins_cat {T : Type} (f : Nat → T) (k : Nat) (x : T) : insE f k x = catE (k + 1) (updE f k x) (fun j => f (k + j)) := funext fun i => by
  rcases Nat.lt_trichotomy i k with q | q | q
  · rw [insE_lt _ _ q, catE_lt _ _ (by omega), updE_ne _ _ (by omega)]
  · subst q
    rw [insE_eq, catE_lt _ _ (by omega), updE_eq]
  · rw [insE_gt _ _ q]
    unfold catE
    rw [if_neg (by omega)]
    congr 1
    omega
theorem ins_end {T : Type} (f : Nat → T) (n : Nat) (x : T) {i : Nat} (hi : i < n + 1) : insE f n x i = updE f n x i := by
  rcases Nat.lt_or_ge i n with q | q
  · rw [insE_lt _ _ q, updE_ne _ _ (by omega)]
  · obtain rfl : i = n := by omega
    rw [insE_eq, updE_eq]
theorem Els.behind {w : World} {s b off n : Nat} {F : Nat → Nat → Value} (h : Els w s (some ⟨b, off, none⟩) n F) (k : Nat) (hk : k ≤ n) : Els w s (some ⟨b, off + k * s, none⟩) (n - k) (fun i => F (k + i)) := fun i hi => by
  obtain ⟨b', off', e, hc⟩ := h (k + i) (by omega)
  cases e
  exact ⟨b, off + k * s, rfl, fun j hj => by rw [← hc j hj, Nat.add_mul, ← Nat.add_assoc]⟩
end Go.Proofs.YthebbijbedffpaaDoor
