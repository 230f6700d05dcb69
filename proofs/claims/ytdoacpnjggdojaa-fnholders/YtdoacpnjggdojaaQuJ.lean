/-
  The quorum: who holds what was acknowledged last, and who is told again (mathematics alone).
-/
import Derived.Test.YtdoacpnjggdojaaQuI
import Derived.Test.YtdoacpnjggdojaaSvcT
namespace Go.Proofs.Ytdoacpnjggdojaa
open Go.ChangeShapes Go.WideShapes Go.ChangeAt Go.RowKit
set_option linter.unusedVariables false
open Classical in
/-- How many below n are so. -/
noncomputable def cnt (p : Nat → Prop) : Nat → Nat
  | 0 => 0
  | n + 1 => cnt p n + if p n then 1 else 0
theorem cnt_le_add {p q r : Nat → Prop} : ∀ n, (∀ i, i < n → p i → q i ∨ r i) → cnt p n ≤ cnt q n + cnt r n
  | 0, _ => by simp [cnt]
  | n + 1, h => by
    have h1 := cnt_le_add n (fun i hi => h i (by omega))
    have h2 := h n (by omega)
    unfold cnt
    by_cases hp : p n
    · rw [if_pos hp]
      rcases h2 hp with z | z
      · rw [if_pos z]; omega
      · rw [if_pos z]; omega
    · rw [if_neg hp]; omega
theorem cnt_both (p : Nat → Prop) : ∀ n, cnt p n + cnt (fun i => ¬ p i) n = n
  | 0 => rfl
  | n + 1 => by
    have h1 := cnt_both p n
    unfold cnt
    by_cases hp : p n
    · rw [if_pos hp, if_neg (fun z => z hp)]; omega
    · rw [if_neg hp, if_pos hp]; omega
theorem ids_cnt {A : Nat → Prop} {E : Nat → Int} : ∀ n m, idsOk n m E → (∀ k : Nat, hasE m E k → A k) → m ≤ cnt A n
  | 0, m, h, _ => by
    rcases Nat.eq_zero_or_pos m with rfl | q
    · exact Nat.zero_le _
    · have := (h 0 q).1; omega
  | n + 1, m, h, ha => by
    rcases Nat.eq_zero_or_pos m with rfl | q
    · exact Nat.zero_le _
    · have hr := (h (m - 1) (by omega)).1
      by_cases e : E (m - 1) = (n : Int)
      · have h1 := ids_cnt n (m - 1) (fun i hi => ⟨⟨(h i (by omega)).1.1, by have := ids_lt h (m - 1) i hi (by omega); omega⟩, (h i (by omega)).2⟩) (fun k hk => ha k (by obtain ⟨i, hi, e2⟩ := hk; exact ⟨i, by omega, e2⟩))
        unfold cnt
        rw [if_pos (ha n ⟨m - 1, by omega, e⟩)]
        omega
      · have h1 := ids_cnt n m (fun i hi => ⟨⟨(h i hi).1.1, by
          rcases Nat.lt_or_ge i (m - 1) with z | z
          · have := ids_lt h (m - 1) i z (by omega); omega
          · have : i = m - 1 := by omega
            rw [this]; omega⟩, (h i hi).2⟩) ha
        unfold cnt
        omega
theorem maj_cnt {n : Nat} {A : Nat → Prop} (h : Maj n A) : cnt (fun i => ¬ A i) n + majN n ≤ n := by
  obtain ⟨m, E, hE, hm, ha⟩ := h
  have h1 := ids_cnt n m hE ha
  have h2 := cnt_both A n
  omega
/-- The counter of what was acknowledged last, or none. -/
def LastOf (s : Sv) (x : Int) : Prop := x = 0 ∨ ∃ i, i < s.m ∧ (s.W i).en ≠ -1 ∧ (s.W i).mc = x
theorem SInv.holders {s : Sv} {x : Int} (v : SInv s) (ho : s.Ok) (hx : LastOf s x) : cnt (fun i => (s.R i).mute = false) s.n + majN s.n ≤ cnt (Hold s x) s.n + s.n := by
  have hn := ho.1.1
  rcases hx with rfl | ⟨i, hi, he, rfl⟩
  · have h1 : cnt (fun i => (s.R i).mute = false) s.n ≤ cnt (Hold s 0) s.n + cnt (fun _ => False) s.n := cnt_le_add s.n (fun i hi hm => .inl ⟨hm, (ho.2.2.1 i hi).2.2.1.1.1⟩)
    have h2 : ∀ n, cnt (fun _ => False) n = 0 := fun n => by
      induction n with
      | zero => rfl
      | succ n ih => unfold cnt; rw [ih, if_neg (fun z => z)]
    rw [h2] at h1
    unfold majN
    omega
  · obtain ⟨A, hA, w⟩ := v.e i hi he
    have h1 : cnt (fun i => (s.R i).mute = false) s.n ≤ cnt (Hold s (s.W i).mc) s.n + cnt (fun i => ¬ A i) s.n := cnt_le_add s.n (fun k hk hm => by
      by_cases q : A k
      · exact .inl ⟨hm, (w.r k hk (fun z => z q)).1 hm⟩
      · exact .inr q)
    have h2 := maj_cnt hA
    omega
theorem WInv.time {s : Sv} {a b : Int} {A Q : Nat → Prop} (w : WInv s a b A Q) (t : Int) : WInv { s with t := t } a b A Q := ⟨w.r, w.q, w.d⟩
theorem StepS.winv {s s' : Sv} {x : Qa} {c a b : Int} {A Q : Nat → Prop} (h : StepS s x s' c) (ho : s.Ok) (hM : Maj s.n A) (w : WInv s a b A Q) : WInv s' a b A Q := by
  rcases h with ⟨_, rfl, _⟩ | ⟨ht, h⟩
  · exact w
  · exact h.winv (ho.up ht) hM (w.time _)
theorem StepS.boot {s s' : Sv} {k : Nat} {z c a b : Int} {A Q : Nat → Prop} (h : StepS s ⟨6, k, z⟩ s' c) (ht : s.t < 200) (hk : k < s.n) (w : WInv s a b A Q) : WInv s' a b A (fun i => Q i ∧ i ≠ k) ∧ (s'.R k).mute = true ∧ c = 0 := by
  rcases h with ⟨e, _⟩ | ⟨_, h⟩
  · omega
  · have bm : ∀ r : Rp, ∀ y, (r.boot y).mute = true := fun r y => by cases y <;> rfl
    have q0 : ∀ x : Int, (6 : Int) = x → x = 6 := fun x e => e.symm
    cases h with
    | twice1 h => exact absurd h (by show (6 : Int) ≠ 1; omega)
    | begin h => exact absurd h (by show (6 : Int) ≠ 1; omega)
    | ask h => exact absurd h (by show (6 : Int) ≠ 3; omega)
    | away h hr => exact absurd (show (0 : Int) ≤ (k : Int) ∧ (k : Int) < (s.n : Int) by omega) hr
    | form h => exact absurd (show (1 : Int) ≤ 6 ∧ (6 : Int) ≤ 7 by omega) h
    | store0 j hj hr h => exact absurd h (by show (6 : Int) ≠ 2; omega)
    | store1 j hj hr h => exact absurd h (by show (6 : Int) ≠ 2; omega)
    | store j hj hr h => exact absurd h (by show (6 : Int) ≠ 2; omega)
    | reply0 j hj hr h => exact absurd h (by show (6 : Int) ≠ 4; omega)
    | reply1 j q hj hr h => exact absurd h (by show (6 : Int) ≠ 4; omega)
    | reply2 j q hj hr h => exact absurd h (by show (6 : Int) ≠ 4; omega)
    | reply j q hj hr h => exact absurd h (by show (6 : Int) ≠ 4; omega)
    | save j hj hr h => exact absurd h (by show (6 : Int) ≠ 5; omega)
    | restart j hj hr h hm =>
      have hr' : (k : Int) = (j : Int) := hr
      obtain rfl : j = k := by omega
      exact ⟨(w.time _).boot j _ s.W, by show (updE s.R j _ j).mute = true; rw [updE_at, if_pos rfl]; exact bm _ _, rfl⟩
    | restartW j hj hr h hm he =>
      have hr' : (k : Int) = (j : Int) := hr
      obtain rfl : j = k := by omega
      exact ⟨(w.time _).boot j _ _, by show (updE s.R j _ j).mute = true; rw [updE_at, if_pos rfl]; exact bm _ _, rfl⟩
    | echo0 j hj hr h => exact absurd h (by show (6 : Int) ≠ 7; omega)
    | echo1 j hj hr h => exact absurd h (by show (6 : Int) ≠ 7; omega)
    | echo2 j f hj hr h => exact absurd h (by show (6 : Int) ≠ 7; omega)
    | echo3 j f hj hr h => exact absurd h (by show (6 : Int) ≠ 7; omega)
    | echo j f hj hr h => exact absurd h (by show (6 : Int) ≠ 7; omega)
/-- What is kept of a replica that started again behind a run: if it speaks, it has what was acknowledged. -/
def ToldInv (s : Sv) (x : Int) (k : Nat) : Prop := x = 0 ∨ ∃ (b : Int) (A Q : Nat → Prop), Maj s.n A ∧ WInv s x b A Q ∧ ¬ Q k
theorem SInv.told {s s' : Sv} {k : Nat} {z c x : Int} (v : SInv s) (hx : LastOf s x) (h : StepS s ⟨6, k, z⟩ s' c) (ht : s.t < 200) (hk : k < s.n) : ToldInv s' x k := by
  rcases hx with rfl | ⟨i, hi, he, rfl⟩
  · exact .inl rfl
  · obtain ⟨A, hA, w⟩ := v.e i hi he
    have hn : s'.n = s.n := by
      rcases h with ⟨_, rfl, _⟩ | ⟨_, h⟩
      · rfl
      · exact h.n
    exact .inr ⟨_, A, _, by rw [hn]; exact hA, (h.boot ht hk w).1, fun q => q.2 rfl⟩
theorem ToldInv.step {s s' : Sv} {y : Qa} {k : Nat} {c x : Int} (w : ToldInv s x k) (ho : s.Ok) (h : StepS s y s' c) : ToldInv s' x k := by
  rcases w with rfl | ⟨b, A, Q, hA, w, hq⟩
  · exact .inl rfl
  · have hn : s'.n = s.n := by
      rcases h with ⟨_, rfl, _⟩ | ⟨_, h⟩
      · rfl
      · exact h.n
    exact .inr ⟨b, A, Q, by rw [hn]; exact hA, h.winv ho hA w, hq⟩
theorem ToldInv.has {s : Sv} {k : Nat} {x : Int} (w : ToldInv s x k) (ho : s.Ok) (hk : k < s.n) : (s.R k).mute = true ∨ x ≤ (s.R k).nc := by
  cases e : (s.R k).mute with
  | true => exact .inl rfl
  | false =>
    rcases w with rfl | ⟨b, A, Q, hA, w, hq⟩
    · exact .inr (ho.2.2.1 k hk).2.2.1.1.1
    · exact .inr ((w.r k hk hq).1 e)
theorem SInv.zero {s : Sv} (hm : s.m = 0) (hl : s.l = 0) : SInv s := ⟨fun i hi => by omega, fun i hi => by omega, fun i hi => by omega⟩
end Go.Proofs.Ytdoacpnjggdojaa
