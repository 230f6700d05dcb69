/-
  The mathematics of FnMoves: what is moved back, where nothing stood, is as it was.
-/
import Derived.Test.YtbdoablokoghbaaGreatV04
namespace Go.Proofs.YtbdoablokoghbaaGreat
open Go.ChangeShapes Go.WideShapes Go.ChangeAt Go.RowKit
set_option linter.unusedVariables false
theorem pigeonM : ∀ (n m : Nat) (f : Nat → Nat), (∀ i, i < m → f i < n) → (∀ i j, i < m → j < m → f i = f j → i = j) → m ≤ n
  | 0, m, f, h, _ => by
    rcases Nat.eq_zero_or_pos m with q | q
    · omega
    · exact absurd (h 0 q) (by omega)
  | n + 1, 0, f, h, hi => by omega
  | n + 1, m + 1, f, h, hi => by
    have := pigeonM n m (fun i => if f i = n then f m else f i) (fun i hm => by
      have h1 := h i (by omega)
      have h2 := h m (by omega)
      by_cases e : f i = n
      · rw [if_pos e]
        have : f m ≠ n := fun q => by
          have := hi i m (by omega) (by omega) (e.trans q.symm)
          omega
        omega
      · rw [if_neg e]; omega) (fun i j h1 h2 e => by
      by_cases e1 : f i = n <;> by_cases e2 : f j = n
      · exact hi i j (by omega) (by omega) (e1.trans e2.symm)
      · rw [if_pos e1, if_neg e2] at e
        have := hi m j (by omega) (by omega) e
        omega
      · rw [if_neg e1, if_pos e2] at e
        have := hi i m (by omega) (by omega) e
        omega
      · rw [if_neg e1, if_neg e2] at e
        exact hi i j (by omega) (by omega) e)
    omega
theorem mvd_size {fr p : ByteArray} (h : Mvd fr p) : fr.size ≤ p.size := by
  rcases h with rfl | h
  · exact Nat.le_refl _
  · have := h.1; rw [size_slM] at this; omega
/-- Right files of which none stands at tp: none stands below it. -/
theorem none_under {n : Nat} {F : Nat → Fi} (h : FsOk n F) {tp : ByteArray} (ht : 0 < tp.size) (hn : ∀ j, j < n → (F j).p = tp → (F j).d = false) {i : Nat} (hi : i < n) : ¬ HasPre (F i).p (tp ++ ⟨#[47]⟩) := fun q => by
  obtain ⟨j, hj, e, d⟩ := under_dir h ht _ i hi (Nat.le_refl _) q
  rw [hn j hj e] at d
  cases d
/-- What was moved is moved back. -/
theorem mv_back {fr tp p : ByteArray} (h : Mvd fr p) : Mvd tp (mvT fr tp p) ∧ mvT tp fr (mvT fr tp p) = p := by
  have h1 : Mvd tp (mvT fr tp p) := mvT_under h
  refine ⟨h1, ?_⟩
  rw [mvT_yes h1]
  have h2 := mvd_join h1
  have h3 := mvT_yes (tp := tp) h
  have h4 : (mvT fr tp p).extract tp.size (mvT fr tp p).size = p.extract fr.size p.size := by
    refine app_cancel (a := tp) ?_
    rw [← h2, h3]
  rw [h4, ← mvd_join h]
theorem mv_stay {fr tp p : ByteArray} (h : ¬ Mvd fr p) (h' : ¬ Mvd tp p) : mvT tp fr (mvT fr tp p) = p := by
  rw [mvT_no h, mvT_no h']
/-- The facts of a move that went through. -/
structure MvYes (n : Nat) (F : Nat → Fi) (fr tp : ByteArray) (k m : Nat) (G : Nat → Fi) : Prop where
  ok : FsOk n F
  pf : PathOk fr
  pt : PathOk tp
  hk : k < n
  ek : (F k).p = fr
  ne : fr ≠ tp
  ab : ¬ HasPre tp (fr ++ ⟨#[47]⟩)
  dir : DirIs n F (par tp) 0
  two : ¬ ∃ j, j < n ∧ (F j).p = tp ∧ ((F j).d = true ∨ (F k).d = true)
  len : ¬ ∃ i, i < n ∧ HasPre (F i).p (fr ++ ⟨#[47]⟩) ∧ 40 < tp.size + ((F i).p.size - fr.size)
  arr : ArrM n F fr tp m G
theorem MvIs.yes {n : Nat} {F : Nat → Fi} {fr tp : ByteArray} {m : Nat} {G : Nat → Fi} (h : MvIs n F fr tp m G 0) (hne : fr ≠ tp) : ∃ k, MvYes n F fr tp k m G := by
  rcases h with ⟨_, e, _⟩ | ⟨a, ⟨_, e, _⟩ | ⟨k, hk, ek, ⟨e, _⟩ | ⟨_, ⟨_, e, _⟩ | ⟨u, ⟨_, e, _⟩ | ⟨d, ⟨_, e, _⟩ | ⟨t, ⟨_, e, _⟩ | ⟨l, _, r⟩⟩⟩⟩⟩⟩⟩
  · exact absurd rfl e
  · omega
  · exact absurd e hne
  · omega
  · exact absurd rfl e
  · omega
  · omega
  · obtain ⟨h1, h2, _⟩ := a.ok
    exact ⟨k, h1, by simpa using h2 0 (by omega), by simpa using h2 1 (by omega), hk, ek, hne, u, d, t, l, r⟩
theorem Home.dir {n : Nat} {F : Nat → Fi} {q : ByteArray} (h : Home n F q) : DirIs n F q 0 := by
  rcases h with e | ⟨j, hj, ej, d⟩
  · exact .inl ⟨e, rfl⟩
  · rcases Nat.eq_zero_or_pos q.size with e | e
    · exact .inl ⟨e, rfl⟩
    · exact .inr (.inr ⟨e, j, hj, ej, .inr ⟨d, rfl⟩⟩)
theorem MvYes.keeps {n : Nat} {F : Nat → Fi} {fr tp : ByteArray} {k m : Nat} {G : Nat → Fi} (h : MvYes n F fr tp k m G) : FsOk m G := h.arr.keeps h.ok h.pf h.pt h.hk h.ek h.ab (h.dir.home rfl) h.two h.len
theorem MvYes.above {n : Nat} {F : Nat → Fi} {fr tp : ByteArray} {k m : Nat} {G : Nat → Fi} (h : MvYes n F fr tp k m G) : ¬ HasPre fr (tp ++ ⟨#[47]⟩) := fun q => by
  obtain ⟨j, hj, e, d⟩ := under_dir h.ok (pathOk_pos h.pt) _ k h.hk (Nat.le_refl _) (by rw [h.ek]; exact q)
  exact h.two ⟨j, hj, e, .inl d⟩
/-- Nothing stands any more where it was. -/
theorem MvYes.gone {n : Nat} {F : Nat → Fi} {fr tp : ByteArray} {k m : Nat} {G : Nat → Fi} (h : MvYes n F fr tp k m G) {i : Nat} (hi : i < m) : (G i).p ≠ fr := fun e => by
  obtain ⟨j, hj, _, hG⟩ := h.arr.src i hi
  rw [hG] at e
  have e' : mvT fr tp (F j).p = fr := e
  by_cases hm : Mvd fr (F j).p
  · rcases mvT_under (tp := tp) hm with q | q
    · exact h.ne (e'.symm.trans q)
    · rw [e'] at q; exact h.above q
  · rw [mvT_no hm] at e'
    exact hm (.inl e')
theorem MvYes.back {n : Nat} {F : Nat → Fi} {fr tp : ByteArray} {k m : Nat} {G : Nat → Fi} (h : MvYes n F fr tp k m G) (hs : ∀ j, j < n → (F j).p ≠ tp) : m = n ∧ MvIs m G tp fr n F 0 := by
  have hG := h.keeps
  have t0 := pathOk_pos h.pt
  have hnot : ∀ j, j < n → ¬ Mvd tp (F j).p := fun j hj q => q.elim (hs j hj) (none_under h.ok t0 (fun i hi e => absurd e (hs i hi)) hj)
  have bk : ∀ j, j < n → mvF tp fr (mvF fr tp (F j)) = F j := fun j hj => by
    have e : mvT tp fr (mvT fr tp (F j).p) = (F j).p := by
      by_cases hm : Mvd fr (F j).p
      · exact (mv_back hm).2
      · exact mv_stay hm (hnot j hj)
    show (⟨mvT tp fr (mvT fr tp (F j).p), (F j).d, (F j).t⟩ : Fi) = F j
    rw [e]
  have hnm : n ≤ m := by
    have hc : ∀ j, ∃ i, j < n → i < m ∧ G i = mvF fr tp (F j) := fun j => by
      by_cases hj : j < n
      · obtain ⟨i, hi, e⟩ := h.arr.all j hj (hs j hj)
        exact ⟨i, fun _ => ⟨hi, e⟩⟩
      · exact ⟨0, fun q => absurd q hj⟩
    refine pigeonM m n (fun j => (hc j).choose) (fun j hj => ((hc j).choose_spec hj).1) (fun i j hi hj e => ?_)
    have e1 := ((hc i).choose_spec hi).2
    have e2 := ((hc j).choose_spec hj).2
    have e3 : mvF fr tp (F i) = mvF fr tp (F j) := by rw [← e1, ← e2]; exact congrArg G e
    exact mv_apart h.ok t0 (fun j hj e => absurd e (hs j hj)) hi hj (hs i hi) (hs j hj) (congrArg Fi.p e3)
  have hmn : m = n := Nat.le_antisymm h.arr.le hnm
  refine ⟨hmn, .inr ⟨?_, .inr ?_⟩⟩
  · have := hG.1
    refine .inr ⟨?_, .inr ⟨hG, .inr ⟨fun i hi => ?_, rfl⟩⟩⟩
    · rintro (q | ⟨i, hi, q⟩)
      · omega
      · have hf := h.pf.1
        have ht := h.pt.1
        dsimp only at q
        split at q <;> omega
    · dsimp only
      split
      · exact h.pt
      · exact h.pf
  · obtain ⟨k', hk', ek'⟩ := h.arr.all k h.hk (hs k h.hk)
    refine ⟨k', hk', ?_, .inr ⟨fun e => h.ne e.symm, .inr ⟨h.above, .inr ⟨?_, .inr ⟨?_, .inr ⟨?_, rfl, ?_⟩⟩⟩⟩⟩⟩
    · rw [ek']
      show mvT fr tp (F k).p = tp
      rw [h.ek]
      exact mvT_selfK fr tp
    · refine Home.dir ?_
      have hh := (h.ok.2 k h.hk).2.2
      rw [h.ek] at hh
      rcases hh with q | ⟨j, hj, ej, dj⟩
      · exact .inl q
      · obtain ⟨i, hi, e⟩ := h.arr.all j hj (hs j hj)
        refine .inr ⟨i, hi, ?_, by rw [e]; exact dj⟩
        rw [e]
        show mvT fr tp (F j).p = par fr
        rw [ej]
        refine mvT_no (fun q => ?_)
        rcases q with q | q
        · exact par_lt h.pf q
        · have h1 := q.1
          rw [size_slM] at h1
          have h2 : (par fr).size ≤ fr.size := by unfold par; rw [ByteArray.size_extract]; omega
          omega
    · rintro ⟨j, hj, e, _⟩
      exact h.gone hj e
    · rintro ⟨i, hi, q, l⟩
      obtain ⟨j, hj, _, e⟩ := h.arr.src i hi
      rw [e] at q l
      have q' : HasPre (mvT fr tp (F j).p) (tp ++ ⟨#[47]⟩) := q
      have l' : 40 < fr.size + ((mvT fr tp (F j).p).size - tp.size) := l
      by_cases hm : Mvd fr (F j).p
      · have h1 := (h.ok.2 j hj).1.1.1
        rw [mvT_yes hm, ByteArray.size_append, ByteArray.size_extract] at l'
        have := mvd_size hm
        omega
      · rw [mvT_no hm] at q'
        exact hnot j hj (.inr q')
    · refine ⟨hnm, fun i hi => ?_, fun j hj hne => ?_, h.ok.srt.up⟩
      · obtain ⟨j, hj, e⟩ := h.arr.all i hi (hs i hi)
        exact ⟨j, hj, h.gone hj, by rw [e, bk i hi]⟩
      · obtain ⟨i, hi, _, e⟩ := h.arr.src j hj
        exact ⟨i, hi, by rw [e, bk i hi]⟩
end Go.Proofs.YtbdoablokoghbaaGreat
