/-
  A row made of another's beginning, one element and the rest: on the way through three appends.
-/
import Derived.Test.YtdoacpnjggdojaaEOg
import Derived.WalkKit
namespace Go.Proofs.Ytdoacpnjggdojaa
open Go.ChangeShapes Go.WideShapes Go.ChangeAt Go.RowKit
set_option linter.unusedVariables false
/-- A slice that can be cut: its address is plain, its room is told. -/
structure SlP (a : Option Addr) (n c : Nat) : Prop where
  z : a = none → c = 0
  f : a = none ∨ ∃ g off, a = some ⟨g, off, none⟩
  le : n ≤ c
  mx : c ≤ maxLen
theorem EO.slp {w : World} {B : Nat} {t : TypeId} {s : Nat} {a : Option Addr} {n c : Nat} {F : Nat → Nat → Value} (h : EO w B t s (.slice a n c) n F) : SlP a n c := by
  obtain ⟨hl, ⟨h1, h2⟩ | ⟨g, cap, cur, hv, _, _, hn, hm, _⟩⟩ := h
  · cases h1; exact ⟨fun _ => rfl, .inl rfl, by omega, by unfold maxLen; omega⟩
  · cases hv; exact ⟨(fun e => by cases e), .inr ⟨_, _, rfl⟩, hn, hm⟩
/-- A row's block: an elder one of which Q holds, or a new one. -/
def FrQ (Q : Nat → Prop) (B : Nat) (w : World) (a : Option Addr) : Prop := ∀ p, a = some p → Q p.block ∨ (B ≤ p.block ∧ p.block < w.heap.size)
theorem EO.fresh {w : World} {B : Nat} {t : TypeId} {s : Nat} {a : Option Addr} {n c : Nat} {F : Nat → Nat → Value} (h : EO w B t s (.slice a n c) n F) {B' : Nat} (hB : B' ≤ B) (Q : Nat → Prop) {w' : World} (hs : w.heap.size ≤ w'.heap.size) : FrQ Q B' w' a := fun p e => by
  subst e
  exact .inr ⟨Nat.le_trans hB (h.ge p.block rfl).1, Nat.lt_of_lt_of_le (h.ge p.block rfl).2 hs⟩
/-- The address of what lies from place k on. -/
def cutA (a : Option Addr) (c k s : Nat) : Option Addr := if c = k then a else a.map (·.add (k * s))
theorem cutA_zero {a : Option Addr} {n c : Nat} (h : SlP a n c) (k s : Nat) : cutA a c k s = none → c - k = 0 := fun e => by
  unfold cutA at e
  split at e
  · omega
  · cases a with
    | none => have := h.z rfl; omega
    | some ad => cases e
theorem Els.cut {w : World} {s : Nat} {a : Option Addr} {n c : Nat} {F : Nat → Nat → Value} (h : Els w s a n F) (hc : n ≤ c) (k : Nat) (hk : k ≤ n) : Els w s (cutA a c k s) (n - k) (fun i => F (k + i)) := by
  rcases Nat.eq_zero_or_pos (n - k) with q | q
  · rw [q]; exact fun i hi => absurd hi (Nat.not_lt_zero _)
  · obtain ⟨b, off, rfl, hc'⟩ := h.opened (by omega)
    have e : cutA (some ⟨b, off, none⟩) c k s = some ⟨b, off + k * s, none⟩ := by
      unfold cutA
      rw [if_neg (by omega)]
      exact congrArg some (Go.WideShapes.add_plain ..)
    rw [e]
    exact Els.behind h k hk
theorem run_cut_to {P : Program} (T : TypeId) (hu : P.underlying T = some (.slice (P.elem T))) (s : Nat) (hs : ∀ w, (sizeOf (P.elem T)).run P w = .ok s w) {a : Option Addr} {n c : Nat} (h : SlP a n c) (k : Nat) (hk : k ≤ c) (w : World) :
    (Instr.slice T (.slice a n c) none (some (.int .i64 (k : Int))) none).run P w = .ok (.slice a k c) w := by
  rw [run_slice_h (P := P) (w := w) T a n c hu .i64 (k : Int) (by omega) (by omega)]
  simp only [hs, Result.andThen, sliced, Int.toNat_natCast, Nat.zero_mul, Nat.sub_zero]
  rcases h.f with rfl | ⟨g, off, rfl⟩
  · simp
  · simp [Go.WideShapes.add_plain]
theorem run_cut_from {P : Program} (T : TypeId) (hu : P.underlying T = some (.slice (P.elem T))) (s : Nat) (hs : ∀ w, (sizeOf (P.elem T)).run P w = .ok s w) {a : Option Addr} {n c : Nat} (h : SlP a n c) (k : Nat) (hk : k ≤ n) (w : World) :
    (Instr.slice T (.slice a n c) (some (.int .i64 (k : Int))) none none).run P w = .ok (.slice (cutA a c k s) (n - k) (c - k)) w := by
  rw [run_slice_l (P := P) (w := w) T a n c hu .i64 (k : Int) (by omega) (by omega)]
  simp only [hs, Result.andThen, sliced, Int.toNat_natCast, cutA]
theorem below_dN (w : World) (n : Nat) : Below w.heap.size w (w.drewN n) := ⟨rfl, rfl, rfl, Nat.le_refl _, fun _ _ => rfl⟩
/-- On the way: the row so far, and where the one element lies. -/
structure InsJ (u y : World) (t s : Nat) (r : Value) (m : Nat) (F : Nat → Nat → Value) (q : Option Nat) (V : Nat → Value) : Prop where
  hb : Below u.heap.size u y
  row : EO y u.heap.size t s r m F
  lit : ∀ p, q = some p → (∀ j, j < s → y.cell? ⟨p, 0 + j, none⟩ = some (V j)) ∧ p < y.heap.size ∧ r.ownBlock ≠ some p
theorem InsJ.start (u : World) (t s : Nat) (F : Nat → Nat → Value) (V : Nat → Value) : InsJ u u.drew t s (.slice none 0 0) 0 F none V := ⟨(Below.refl _ _).drew, EO.nil _ _ _ _ _, fun p e => by cases e⟩
theorem InsJ.lit0 {u y : World} {t s : Nat} {r : Value} {F : Nat → Nat → Value} {q : Option Nat} {V : Nat → Value} (h : InsJ u y t s r 0 F q V) : InsJ u (y.alloc (.cells #[] t)) t s (.slice (some ⟨y.heap.size, 0, none⟩) 0 0) 0 F q V := by
  have hb : Below y.heap.size y (y.alloc (.cells #[] t)) := (Below.refl _ _).alloc (Nat.le_refl _) _
  exact ⟨h.hb.trans (hb.mono h.hb.size), EO.lit y _ _ _ h.hb.size _, fun p e => by
    obtain ⟨h1, h2, h3⟩ := h.lit p e
    exact ⟨fun j hj => (hb.cell (p := ⟨p, 0 + j, none⟩) h2).trans (h1 j hj), by simp; omega, fun e => by cases e; exact absurd h2 (Nat.lt_irrefl _)⟩⟩
theorem InsJ.lit1 {u y : World} {t s : Nat} {r : Value} {m : Nat} {F : Nat → Nat → Value} {V : Nat → Value} (h : InsJ u y t s r m F none V) (cs : Array Value) (hc : ∀ j, j < s → cs[j]? = some (V j)) : InsJ u (y.alloc (.cells cs t)) t s r m F (some y.heap.size) V := by
  have hb : Below y.heap.size y (y.alloc (.cells cs t)) := (Below.refl _ _).alloc (Nat.le_refl _) _
  exact ⟨h.hb.trans (hb.mono h.hb.size), h.row.below hb, fun p e => by
    cases e
    exact ⟨fun j hj => by rw [Nat.zero_add, World.cell?_alloc_at (w := y) cs t _ j rfl]; exact hc j hj, by simp, fun e => absurd (h.row.ge _ e).2 (Nat.lt_irrefl _)⟩⟩
theorem InsJ.grow {u y y' : World} {t s : Nat} {r r' : Value} {m m' : Nat} {F F' : Nat → Nat → Value} {q : Option Nat} {V : Nat → Value} (h : InsJ u y t s r m F q V) (ho : EO y' u.heap.size t s r' m' F') (hg : y.grownBy y' r.ownBlock) (hl : r'.ownBlock = r.ownBlock ∨ r'.ownBlock = some y.heap.size) : InsJ u y' t s r' m' F' q V := by
  refine ⟨h.hb.grown hg h.hb.size (fun p e => (h.row.ge p e).1), ho, fun p e => ?_⟩
  obtain ⟨h1, h2, h3⟩ := h.lit p e
  refine ⟨fun j hj => by rw [← h1 j hj]; exact cellE (hg.block p h2 (fun e => h3 e.symm)), Nat.lt_of_lt_of_le h2 hg.size, fun e => ?_⟩
  rcases hl with q | q
  · exact h3 (q ▸ e)
  · rw [q] at e; cases e; exact absurd h2 (Nat.lt_irrefl _)
end Go.Proofs.Ytdoacpnjggdojaa
