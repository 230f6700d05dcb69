/-
  Texts of the proof, joined: BankMath.
-/
import Derived.Test.YtpngjkhncfbnpaaDoorU25
import Derived.Test.YtpngjkhncfbnpaaDoorU14
namespace Go.Proofs.YtpngjkhncfbnpaaDoor
open Go.ChangeShapes Go.WideShapes Go.ChangeAt Go.RowKit
set_option linter.unusedVariables false
theorem ins_steps {T : Type} (f : Nat → T) (g : T → Int) (n k : Nat) (x : T) (hP : Pos (fun i => g (f i)) n (g x) k) (hk : ¬ (k < n ∧ g (f k) = g x)) (hr : ∀ i, i < n → 0 < i → g (f (i - 1)) < g (f i)) :
    ∀ i, i < n + 1 → 0 < i → g (insE f k x (i - 1)) < g (insE f k x i) := fun i hi hp => by
  obtain ⟨h0, h1, h2⟩ := hP
  rcases Nat.lt_trichotomy i k with q | q | q
  · rw [insE_lt f x q, insE_lt f x (by omega)]
    exact hr i (by omega) hp
  · subst q
    rw [insE_eq, insE_lt f x (by omega)]
    exact h1 _ (by omega)
  · rw [insE_gt f x q]
    rcases Nat.lt_or_ge k (i - 1) with p | p
    · rw [insE_gt f x p]
      exact hr (i - 1) (by omega) (by omega)
    · obtain rfl : k = i - 1 := by omega
      rw [insE_eq]
      have h3 := h2 (i - 1) (Nat.le_refl _) (by omega)
      have h4 : g (f (i - 1)) ≠ g x := fun e => hk ⟨by omega, e⟩
      dsimp only at h3
      omega
theorem upd_steps {T : Type} (f : Nat → T) (g : T → Int) (n k : Nat) (x : T) (hk : g (f k) = g x) (hr : ∀ i, i < n → 0 < i → g (f (i - 1)) < g (f i)) :
    ∀ i, i < n → 0 < i → g (updE f k x (i - 1)) < g (updE f k x i) := fun i hi hp => by
  have e : ∀ j, g (updE f k x j) = g (f j) := fun j => by
    rcases Nat.decEq j k with q | q
    · rw [updE_ne f x q]
    · rw [q, updE_eq, hk]
  rw [e, e]
  exact hr i hi hp
def Bk.kS (b : Bk) (x : Int) : Nat := posN (fun i => (b.S i).id) x b.ns
def Bk.hasS (b : Bk) (x : Int) : Prop := b.kS x < b.ns ∧ (b.S (b.kS x)).id = x
theorem Bk.Ok.posS {b : Bk} (h : b.Ok) (x : Int) : Pos (fun i => (b.S i).id) b.ns x (b.kS x) := pos_of h.risesS x
def Bk.setR (b : Bk) (x : Rg) : Bk := { b with R := updE b.R (b.kR x.v) x }
def Bk.insR (b : Bk) (x : Rg) : Bk := { b with nr := b.nr + 1, R := insE b.R (b.kR x.v) x }
def Bk.setS (b : Bk) (x : Se) : Bk := { b with S := updE b.S (b.kS x.id) x }
def Bk.insS (b : Bk) (x : Se) : Bk := { b with ns := b.ns + 1, S := insE b.S (b.kS x.id) x }
theorem Bk.Ok.setR {b : Bk} (h : b.Ok) {x : Rg} (hx : x.Ok) (hh : b.hasR x.v) : (b.setR x).Ok := by
  refine ⟨⟨h.1.1, fun i hi => ⟨?_, ?_⟩⟩, h.2⟩
  · change (updE b.R (b.kR x.v) x i).Ok
    rcases Nat.decEq i (b.kR x.v) with q | q
    · rw [updE_ne _ _ q]; exact (h.1.2 i hi).1
    · rw [q, updE_eq]; exact hx
  · exact upd_steps b.R (fun y => y.v) b.nr _ x hh.2 (fun i hi => (h.1.2 i hi).2) i hi
theorem Bk.Ok.setS {b : Bk} (h : b.Ok) {x : Se} (hx : x.Ok) (hh : b.hasS x.id) : (b.setS x).Ok := by
  refine ⟨h.1, ⟨h.2.1, fun i hi => ⟨?_, ?_⟩⟩⟩
  · change (updE b.S (b.kS x.id) x i).Ok
    rcases Nat.decEq i (b.kS x.id) with q | q
    · rw [updE_ne _ _ q]; exact (h.2.2 i hi).1
    · rw [q, updE_eq]; exact hx
  · exact upd_steps b.S (fun y => y.id) b.ns _ x hh.2 (fun i hi => (h.2.2 i hi).2) i hi
theorem Bk.Ok.insR {b : Bk} (h : b.Ok) {x : Rg} (hx : x.Ok) (hh : ¬ b.hasR x.v) (hn : b.nr < 6) : (b.insR x).Ok := by
  refine ⟨⟨hn, fun i hi => ⟨?_, ?_⟩⟩, h.2⟩
  · change (insE b.R (b.kR x.v) x i).Ok
    have hi' : i < b.nr + 1 := hi
    rcases Nat.lt_trichotomy i (b.kR x.v) with q | q | q
    · rw [insE_lt _ _ q]; exact (h.1.2 i (by have := (h.posR x.v).1; omega)).1
    · rw [q, insE_eq]; exact hx
    · rw [insE_gt _ _ q]; exact (h.1.2 (i - 1) (by omega)).1
  · exact ins_steps b.R (fun y => y.v) b.nr _ x (h.posR x.v) hh (fun i hi => (h.1.2 i hi).2) i hi
theorem Bk.Ok.insS {b : Bk} (h : b.Ok) {x : Se} (hx : x.Ok) (hh : ¬ b.hasS x.id) (hn : b.ns < 6) : (b.insS x).Ok := by
  refine ⟨h.1, ⟨hn, fun i hi => ⟨?_, ?_⟩⟩⟩
  · change (insE b.S (b.kS x.id) x i).Ok
    have hi' : i < b.ns + 1 := hi
    rcases Nat.lt_trichotomy i (b.kS x.id) with q | q | q
    · rw [insE_lt _ _ q]; exact (h.2.2 i (by have := (h.posS x.id).1; omega)).1
    · rw [q, insE_eq]; exact hx
    · rw [insE_gt _ _ q]; exact (h.2.2 (i - 1) (by omega)).1
  · exact ins_steps b.S (fun y => y.id) b.ns _ x (h.posS x.id) hh (fun i hi => (h.2.2 i hi).2) i hi
structure Rq where
  se : Int
  sq : Int
  x : Rg
def Rq.Ok (q : Rq) : Prop := TurnOk q.se q.sq ∧ q.x.Ok
def NowIs (b : Bk) (x : Int) (now : Int) : Prop := (b.hasR x ∧ now = (b.R (b.kR x)).c) ∨ (¬ b.hasR x ∧ now = 0)
def StepIs (b : Bk) (x : Rg) (b' : Bk) (cd mk : Int) : Prop := ∃ now, NowIs b x.v now ∧
  ((now = 1000000 ∧ b' = b ∧ cd = 19 ∧ mk = now) ∨ (now < 1000000 ∧ x.c ≤ now ∧ b' = b ∧ cd = 11 ∧ mk = now) ∨ (now < 1000000 ∧ now + 1 < x.c ∧ b' = b ∧ cd = 15 ∧ mk = now) ∨
   (now < 1000000 ∧ x.c = now + 1 ∧ ¬ b.hasR x.v ∧ b.nr = 6 ∧ b' = b ∧ cd = 7 ∧ mk = now) ∨ (now < 1000000 ∧ x.c = now + 1 ∧ b.hasR x.v ∧ b' = b.setR x ∧ cd = 0 ∧ mk = x.c) ∨
   (now < 1000000 ∧ x.c = now + 1 ∧ ¬ b.hasR x.v ∧ b.nr < 6 ∧ b' = b.insR x ∧ cd = 0 ∧ mk = x.c))
def AdvIs (b : Bk) (q : Rq) (b' : Bk) (cd mk : Int) : Prop :=
  (b.hasS q.se ∧ (b.S (b.kS q.se)).sq = q.sq ∧ b' = b ∧ cd = (b.S (b.kS q.se)).cd ∧ mk = (b.S (b.kS q.se)).ma) ∨
  (b.hasS q.se ∧ q.sq < (b.S (b.kS q.se)).sq ∧ b' = b ∧ cd = 14 ∧ mk = 0) ∨
  (¬ b.hasS q.se ∧ b.ns = 6 ∧ b' = b ∧ cd = 6 ∧ mk = 0) ∨
  (b.hasS q.se ∧ (b.S (b.kS q.se)).sq < q.sq ∧ ∃ b1, StepIs b q.x b1 cd mk ∧ b' = b1.setS ⟨q.se, q.sq, cd, mk⟩) ∨
  (¬ b.hasS q.se ∧ b.ns < 6 ∧ ∃ b1, StepIs b q.x b1 cd mk ∧ b' = b1.insS ⟨q.se, q.sq, cd, mk⟩)
theorem nowIs_some (b : Bk) (x : Int) : ∃ now, NowIs b x now := by
  by_cases h : b.hasR x
  · exact ⟨_, .inl ⟨h, rfl⟩⟩
  · exact ⟨_, .inr ⟨h, rfl⟩⟩
theorem NowIs.range {b : Bk} {x now : Int} (h : NowIs b x now) (hk : b.Ok) : 0 ≤ now ∧ now ≤ 1000000 := by
  rcases h with ⟨h, rfl⟩ | ⟨h, rfl⟩
  · have := (hk.1.2 _ h.1).1.2.1
    omega
  · omega
theorem stepIs_some {b : Bk} (hk : b.Ok) (x : Rg) : ∃ b' cd mk, StepIs b x b' cd mk := by
  obtain ⟨now, hn⟩ := nowIs_some b x.v
  have hr := hn.range hk
  have h6 := hk.1.1
  by_cases e1 : now = 1000000
  · exact ⟨_, _, _, now, hn, .inl ⟨e1, rfl, rfl, rfl⟩⟩
  by_cases e2 : x.c ≤ now
  · exact ⟨_, _, _, now, hn, .inr (.inl ⟨by omega, e2, rfl, rfl, rfl⟩)⟩
  by_cases e3 : now + 1 < x.c
  · exact ⟨_, _, _, now, hn, .inr (.inr (.inl ⟨by omega, e3, rfl, rfl, rfl⟩))⟩
  by_cases e4 : b.hasR x.v
  · exact ⟨_, _, _, now, hn, .inr (.inr (.inr (.inr (.inl ⟨by omega, by omega, e4, rfl, rfl, rfl⟩))))⟩
  by_cases e5 : b.nr = 6
  · exact ⟨_, _, _, now, hn, .inr (.inr (.inr (.inl ⟨by omega, by omega, e4, e5, rfl, rfl, rfl⟩)))⟩
  · exact ⟨_, _, _, now, hn, .inr (.inr (.inr (.inr (.inr ⟨by omega, by omega, e4, by omega, rfl, rfl, rfl⟩))))⟩
theorem StepIs.kept {b b' : Bk} {x : Rg} {cd mk : Int} (h : StepIs b x b' cd mk) (hk : b.Ok) (hx : x.Ok) : b'.Ok ∧ b'.ns = b.ns ∧ b'.S = b.S ∧ (0 ≤ cd ∧ cd ≤ 19) ∧ (0 ≤ mk ∧ mk ≤ 1000000) := by
  obtain ⟨now, hn, h⟩ := h
  have hr := hn.range hk
  have hc := hx.2.1
  rcases h with ⟨_, rfl, rfl, rfl⟩ | ⟨_, _, rfl, rfl, rfl⟩ | ⟨_, _, rfl, rfl, rfl⟩ | ⟨_, _, _, _, rfl, rfl, rfl⟩ | ⟨_, _, g, rfl, rfl, rfl⟩ | ⟨_, _, g, n6, rfl, rfl, rfl⟩
  · exact ⟨hk, rfl, rfl, by omega, by omega⟩
  · exact ⟨hk, rfl, rfl, by omega, by omega⟩
  · exact ⟨hk, rfl, rfl, by omega, by omega⟩
  · exact ⟨hk, rfl, rfl, by omega, by omega⟩
  · exact ⟨hk.setR hx g, rfl, rfl, by omega, by omega⟩
  · exact ⟨hk.insR hx g n6, rfl, rfl, by omega, by omega⟩
theorem hasS_of {b b' : Bk} (h1 : b'.ns = b.ns) (h2 : b'.S = b.S) (x : Int) : b'.kS x = b.kS x ∧ (b'.hasS x ↔ b.hasS x) := by
  unfold Bk.hasS Bk.kS
  rw [h1, h2]
  exact ⟨rfl, Iff.rfl⟩
theorem advIs_some {b : Bk} (hk : b.Ok) (q : Rq) : ∃ b' cd mk, AdvIs b q b' cd mk := by
  obtain ⟨b1, cd, mk, hs⟩ := stepIs_some hk q.x
  have h6 := hk.2.1
  by_cases e1 : b.hasS q.se
  · rcases Int.lt_trichotomy (b.S (b.kS q.se)).sq q.sq with e | e | e
    · exact ⟨_, cd, mk, .inr (.inr (.inr (.inl ⟨e1, e, b1, hs, rfl⟩)))⟩
    · exact ⟨_, _, _, .inl ⟨e1, e, rfl, rfl, rfl⟩⟩
    · exact ⟨_, _, _, .inr (.inl ⟨e1, e, rfl, rfl, rfl⟩)⟩
  · by_cases e2 : b.ns = 6
    · exact ⟨_, _, _, .inr (.inr (.inl ⟨e1, e2, rfl, rfl, rfl⟩))⟩
    · exact ⟨_, cd, mk, .inr (.inr (.inr (.inr ⟨e1, by omega, b1, hs, rfl⟩)))⟩
theorem AdvIs.kept {b b' : Bk} {q : Rq} {cd mk : Int} (h : AdvIs b q b' cd mk) (hk : b.Ok) (hq : q.Ok) : b'.Ok := by
  rcases h with ⟨_, _, rfl, _⟩ | ⟨_, _, rfl, _⟩ | ⟨_, _, rfl, _⟩ | ⟨g, _, b1, hs, rfl⟩ | ⟨g, n6, b1, hs, rfl⟩
  · exact hk
  · exact hk
  · exact hk
  · obtain ⟨k1, k2, k3, k4, k5⟩ := hs.kept hk hq.2
    exact k1.setS (x := ⟨q.se, q.sq, cd, mk⟩) ⟨hq.1, k4, k5⟩ ((hasS_of k2 k3 _).2.2 g)
  · obtain ⟨k1, k2, k3, k4, k5⟩ := hs.kept hk hq.2
    exact k1.insS (x := ⟨q.se, q.sq, cd, mk⟩) ⟨hq.1, k4, k5⟩ (fun e => g ((hasS_of k2 k3 _).2.1 e)) (by rw [k2]; exact n6)
theorem bk0_ok (R : Nat → Rg) (S : Nat → Se) : (Bk.mk 0 R 0 S).Ok := ⟨⟨by dsimp only; omega, fun i hi => absurd hi (Nat.not_lt_zero _)⟩, ⟨by dsimp only; omega, fun i hi => absurd hi (Nat.not_lt_zero _)⟩⟩
end Go.Proofs.YtpngjkhncfbnpaaDoor
