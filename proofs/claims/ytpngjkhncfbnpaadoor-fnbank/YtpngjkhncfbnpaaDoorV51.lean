/-
  Texts of the proof, joined: BankAg.
-/
import Derived.Test.YtpngjkhncfbnpaaDoorV29
namespace Go.Proofs.YtpngjkhncfbnpaaDoor
open Go.ChangeShapes Go.WideShapes Go.ChangeAt Go.RowKit
set_option linter.unusedVariables false
theorem pos_hit {f : Nat → Int} {n k i : Nat} {x : Int} (h : Pos f n x k) (hr : ∀ i j, i < j → j < n → f i < f j) (hi : i < n) (e : f i = x) : k = i := by
  obtain ⟨h1, h2, h3⟩ := h
  rcases Nat.lt_trichotomy i k with q | q | q
  · have := h2 i q
    omega
  · exact q.symm
  · have a := h3 k (Nat.le_refl _) (by omega)
    have b := hr k i q hi
    omega
theorem rise_all {f : Nat → Int} {n : Nat} (h : ∀ i, i < n → 0 < i → f (i - 1) < f i) : ∀ i j, i < j → j < n → f i < f j := fun i j hij hj => by
  induction j with
  | zero => omega
  | succ j ih =>
    have s := h (j + 1) hj (by omega)
    rw [Nat.add_sub_cancel] at s
    rcases Nat.lt_or_ge i j with q | q
    · have := ih q (by omega)
      omega
    · obtain rfl : i = j := by omega
      exact s
theorem Bk.Ok.kS_at {b : Bk} (h : b.Ok) {i : Nat} (hi : i < b.ns) {x : Int} (e : (b.S i).id = x) : b.kS x = i ∧ b.hasS x := by
  have k := pos_hit (h.posS x) (rise_all (fun i hi hp => (h.2.2 i hi).2 hp)) hi e
  exact ⟨k, by rw [Bk.hasS, k]; exact ⟨hi, e⟩⟩
theorem Bk.Ok.kR_at {b : Bk} (h : b.Ok) {i : Nat} (hi : i < b.nr) {x : Int} (e : (b.R i).v = x) : b.kR x = i ∧ b.hasR x := by
  have k := pos_hit (h.posR x) (rise_all (fun i hi hp => (h.1.2 i hi).2 hp)) hi e
  exact ⟨k, by rw [Bk.hasR, k]; exact ⟨hi, e⟩⟩
theorem AdvIs.stood {b b' : Bk} {q : Rq} {tl mk : Int} (h : AdvIs b q b' tl mk) (hk : b.Ok) {i : Nat} (hi : i < b.ns) (he : (b.S i).id = q.se) (hs : (b.S i).sq = q.sq) : b' = b ∧ tl = (b.S i).cd ∧ mk = (b.S i).ma := by
  obtain ⟨k, hh⟩ := hk.kS_at hi he
  rcases h with ⟨_, _, h1, h2, h3⟩ | ⟨_, h1, _⟩ | ⟨h1, _⟩ | ⟨_, h1, _⟩ | ⟨h1, _⟩
  · rw [k] at h2 h3
    exact ⟨h1, h2, h3⟩
  · rw [k] at h1; omega
  · exact absurd hh h1
  · rw [k] at h1; omega
  · exact absurd hh h1
theorem AdvIs.again {b b' b'' : Bk} {q : Rq} {tl mk tw st : Int} (h : AdvIs b q b' tl mk) (hk : b.Ok) (hq : q.Ok) (h2 : AdvIs b' q b'' tw st) (ht : tl ≠ 6) : b'' = b' ∧ tw = tl ∧ st = mk := by
  have hk' := h.kept hk hq
  rcases h with ⟨g, e, rfl, h4, h5⟩ | ⟨g, e, rfl, rfl, rfl⟩ | ⟨_, _, _, e, _⟩ | ⟨g, e, b1, hs, rfl⟩ | ⟨g, n6, b1, hs, rfl⟩
  · obtain ⟨a1, a2, a3⟩ := h2.stood hk g.1 g.2 e
    exact ⟨a1, a2.trans h4.symm, a3.trans h5.symm⟩
  · rcases h2 with ⟨_, h1, _⟩ | ⟨_, _, h1, h2, h3⟩ | ⟨h1, _⟩ | ⟨_, h1, _⟩ | ⟨h1, _⟩
    · omega
    · exact ⟨h1, h2, h3⟩
    · exact absurd g h1
    · omega
    · exact absurd g h1
  · exact absurd e ht
  · obtain ⟨k1, k2, k3, k4, k5⟩ := hs.kept hk hq.2
    have hh := (hasS_of k2 k3 q.se).2.2 g
    have e1 : ((b1.setS ⟨q.se, q.sq, tl, mk⟩).S (b1.kS q.se)) = ⟨q.se, q.sq, tl, mk⟩ := updE_eq _ _ _
    obtain ⟨a1, a2, a3⟩ := h2.stood hk' (i := b1.kS q.se) hh.1 (by rw [e1]) (by rw [e1])
    rw [e1] at a2 a3
    exact ⟨a1, a2, a3⟩
  · obtain ⟨k1, k2, k3, k4, k5⟩ := hs.kept hk hq.2
    have hle := (k1.posS q.se).1
    have e1 : ((b1.insS ⟨q.se, q.sq, tl, mk⟩).S (b1.kS q.se)) = ⟨q.se, q.sq, tl, mk⟩ := insE_eq _ _ _
    obtain ⟨a1, a2, a3⟩ := h2.stood hk' (i := b1.kS q.se) (show b1.kS q.se < b1.ns + 1 by omega) (by rw [e1]) (by rw [e1])
    rw [e1] at a2 a3
    exact ⟨a1, a2, a3⟩
def RegIs (b : Bk) (x : Int) (y : Rg) : Prop := (b.hasR x ∧ y = b.R (b.kR x)) ∨ (¬ b.hasR x ∧ y = rgZ)
theorem RegIs.same {b b' : Bk} {x : Int} {y y' : Rg} (h : RegIs b x y) (h' : RegIs b' x y') (hn : b'.nr = b.nr) (hR : b'.R = b.R) : y' = y := by
  unfold RegIs Bk.hasR Bk.kR at *
  rw [hn, hR] at h'
  rcases h with ⟨h1, rfl⟩ | ⟨h1, rfl⟩ <;> rcases h' with ⟨h2, rfl⟩ | ⟨h2, rfl⟩
  · rfl
  · exact absurd h1 h2
  · exact absurd h2 h1
  · rfl
theorem RegIs.at {b : Bk} {x : Int} {y : Rg} (h : RegIs b x y) (hk : b.Ok) {i : Nat} (hi : i < b.nr) (e : (b.R i).v = x) : y = b.R i := by
  obtain ⟨k, hh⟩ := hk.kR_at hi e
  rcases h with ⟨_, h⟩ | ⟨h, _⟩
  · rw [k] at h; exact h
  · exact absurd hh h
theorem AdvIs.reg {b b' : Bk} {q : Rq} {tl mk : Int} {y y' : Rg} (h : AdvIs b q b' tl mk) (hk : b.Ok) (hq : q.Ok) (r1 : RegIs b q.x.v y) (r2 : RegIs b' q.x.v y') : y' = y ∨ (y'.c = y.c + 1 ∧ y'.r = q.x.r ∧ tl = 0) := by
  have hk' := h.kept hk hq
  have step : ∀ {b1 : Bk}, StepIs b q.x b1 tl mk → b1.Ok → b'.nr = b1.nr → b'.R = b1.R → y' = y ∨ (y'.c = y.c + 1 ∧ y'.r = q.x.r ∧ tl = 0) := fun {b1} hs hk1 hn hR => by
    have r3 : RegIs b1 q.x.v y' := by
      unfold RegIs Bk.hasR Bk.kR at r2 ⊢
      rw [hn, hR] at r2
      exact r2
    obtain ⟨now, hnow, hs⟩ := hs
    rcases hs with ⟨_, rfl, _⟩ | ⟨_, _, rfl, _⟩ | ⟨_, _, rfl, _⟩ | ⟨_, _, _, _, rfl, _⟩ | ⟨_, hc, g, rfl, rfl, _⟩ | ⟨_, hc, g, n6, rfl, rfl, _⟩
    · exact .inl (r1.same r3 rfl rfl)
    · exact .inl (r1.same r3 rfl rfl)
    · exact .inl (r1.same r3 rfl rfl)
    · exact .inl (r1.same r3 rfl rfl)
    · have e1 : ((b.setR q.x).R (b.kR q.x.v)) = q.x := updE_eq _ _ _
      have e2 := r3.at hk1 (i := b.kR q.x.v) g.1 (by rw [e1])
      rw [e1] at e2
      have e3 := r1.at hk g.1 g.2
      rcases hnow with ⟨_, hw⟩ | ⟨hw, _⟩
      · exact .inr ⟨by rw [e2, e3]; omega, by rw [e2], rfl⟩
      · exact absurd g hw
    · have hle := (hk.posR q.x.v).1
      have e1 : ((b.insR q.x).R (b.kR q.x.v)) = q.x := insE_eq _ _ _
      have e2 := r3.at hk1 (i := b.kR q.x.v) (show b.kR q.x.v < b.nr + 1 by omega) (by rw [e1])
      rw [e1] at e2
      rcases hnow with ⟨hw, _⟩ | ⟨_, hw⟩
      · exact absurd hw g
      · rcases r1 with ⟨hw, _⟩ | ⟨_, e3⟩
        · exact absurd hw g
        · exact .inr ⟨by rw [e2, e3]; show q.x.c = 0 + 1; omega, by rw [e2], rfl⟩
  rcases h with ⟨_, _, rfl, _⟩ | ⟨_, _, rfl, _⟩ | ⟨_, _, rfl, _⟩ | ⟨g, e, b1, hs, rfl⟩ | ⟨g, n6, b1, hs, rfl⟩
  · exact .inl (r1.same r2 rfl rfl)
  · exact .inl (r1.same r2 rfl rfl)
  · exact .inl (r1.same r2 rfl rfl)
  · exact step hs (hs.kept hk hq.2).1 rfl rfl
  · exact step hs (hs.kept hk hq.2).1 rfl rfl
theorem regIs_some (b : Bk) (x : Int) : ∃ y, RegIs b x y := by
  by_cases h : b.hasR x
  · exact ⟨_, .inl ⟨h, rfl⟩⟩
  · exact ⟨_, .inr ⟨h, rfl⟩⟩
theorem RegIs.rd {b : Bk} {x : Int} {y : Rg} (h : RegIs b x y) (hk : b.Ok) : ∃ cd, RdIs b x y cd := by
  rcases h with ⟨h1, h2⟩ | ⟨h1, h2⟩
  · exact ⟨0, .inr (.inr ⟨hk, h1, h2, rfl⟩)⟩
  · exact ⟨5, .inr (.inl ⟨hk, h1, h2, rfl⟩)⟩
theorem RegIs.range {b : Bk} {x : Int} {y : Rg} (h : RegIs b x y) (hk : b.Ok) : 0 ≤ y.c ∧ y.c ≤ 1000000 := by
  rcases h with ⟨h1, rfl⟩ | ⟨h1, rfl⟩
  · have := (hk.1.2 _ h1.1).1.2.1
    omega
  · exact ⟨by show (0 : Int) ≤ 0; omega, by show (0 : Int) ≤ 1000000; omega⟩
end Go.Proofs.YtpngjkhncfbnpaaDoor
