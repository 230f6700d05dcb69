/-
  Moves of files: the mathematics.
-/
import Derived.Test.YtglfhajfbdjjcaaFileLs
import Derived.Test.YtglfhajfbdjjcaaFileW
import Derived.Test.YtglfhajfbdjjcaaFileFt
namespace Go.Proofs.Ytglfhajfbdjjcaa
open Go.ChangeShapes Go.WideShapes Go.ChangeAt Go.RowKit
set_option linter.unusedVariables false
theorem size_slM (p : ByteArray) : (p ++ (⟨#[47]⟩ : ByteArray)).size = p.size + 1 := by rw [ByteArray.size_append]; rfl
/-- A path that is moved with fr: fr itself, or below it. -/
def Mvd (fr p : ByteArray) : Prop := p = fr ∨ HasPre p (fr ++ ⟨#[47]⟩)
open Classical in
/-- Where a path stands once fr is moved to tp. -/
noncomputable def mvT (fr tp p : ByteArray) : ByteArray := if Mvd fr p then tp ++ p.extract fr.size p.size else p
noncomputable def mvF (fr tp : ByteArray) (x : Fi) : Fi := ⟨mvT fr tp x.p, x.d, x.t⟩
theorem mvT_yes {fr tp p : ByteArray} (h : Mvd fr p) : mvT fr tp p = tp ++ p.extract fr.size p.size := by unfold mvT; rw [if_pos h]
theorem mvT_no {fr tp p : ByteArray} (h : ¬ Mvd fr p) : mvT fr tp p = p := by unfold mvT; rw [if_neg h]
theorem toL_inj {s t : ByteArray} (h : s.data.toList = t.data.toList) : s = t := ByteArray.ext (Array.toList_inj.1 h)
theorem toL_app (s t : ByteArray) : (s ++ t).data.toList = s.data.toList ++ t.data.toList := by rw [ByteArray.data_append, Array.toList_append]
theorem toL_ext (s : ByteArray) (o e : Nat) : (s.extract o e).data.toList = (s.data.toList.take e).drop o := by
  simp [ByteArray.data_extract, List.extract_eq_take_drop, List.drop_take]
theorem toL_len (s : ByteArray) : s.data.toList.length = s.size := by rw [Array.length_toList]; rfl
theorem ext_join (s : ByteArray) (k : Nat) (hk : k ≤ s.size) : s.extract 0 k ++ s.extract k s.size = s := by
  refine toL_inj ?_
  have e : List.take s.size s.data.toList = s.data.toList := List.take_of_length_le (by rw [toL_len]; exact Nat.le_refl _)
  rw [toL_app, toL_ext, toL_ext, List.drop_zero, e, List.take_append_drop]
theorem hasPre_ex {s t : ByteArray} : HasPre s t ↔ ∃ r, s = t ++ r := by
  constructor
  · rintro ⟨h1, h2⟩
    exact ⟨s.extract t.size s.size, by conv => lhs; rw [← ext_join s t.size h1]; rw [h2]⟩
  · rintro ⟨r, rfl⟩
    refine ⟨by rw [ByteArray.size_append]; omega, toL_inj ?_⟩
    rw [toL_ext, toL_app, List.drop_zero, ← toL_len t, List.take_left]
theorem app_cancel {a b c : ByteArray} (h : a ++ b = a ++ c) : b = c := by
  refine toL_inj ?_
  have := congrArg (fun x => x.data.toList) h
  simp only [toL_app] at this
  exact List.append_cancel_left this
theorem mvd_join {fr p : ByteArray} (h : Mvd fr p) : p = fr ++ p.extract fr.size p.size := by
  rcases h with rfl | h
  · refine toL_inj ?_
    rw [toL_app, toL_ext, List.take_of_length_le (by rw [toL_len]; exact Nat.le_refl _), List.drop_of_length_le (by rw [toL_len]; exact Nat.le_refl _), List.append_nil]
  · obtain ⟨r, hr⟩ := hasPre_ex.1 h
    have h1 := h.1
    rw [size_slM] at h1
    conv => lhs; rw [← ext_join p fr.size (by omega)]
    congr 1
    rw [hr]
    refine toL_inj ?_
    rw [toL_ext, toL_app, toL_app, List.drop_zero, ← toL_len fr, List.append_assoc, List.take_left]
theorem mvT_inj {fr tp p q : ByteArray} (hp : Mvd fr p) (hq : Mvd fr q) (h : mvT fr tp p = mvT fr tp q) : p = q := by
  rw [mvT_yes hp, mvT_yes hq] at h
  rw [mvd_join hp, mvd_join hq, app_cancel h]
/-- What is moved stands at tp, or below it. -/
theorem mvT_under {fr tp p : ByteArray} (hp : Mvd fr p) : mvT fr tp p = tp ∨ HasPre (mvT fr tp p) (tp ++ ⟨#[47]⟩) := by
  rw [mvT_yes hp]
  rcases hp with rfl | h
  · left
    refine toL_inj ?_
    rw [toL_app, toL_ext, List.take_of_length_le (by rw [toL_len]; exact Nat.le_refl _), List.drop_of_length_le (by rw [toL_len]; exact Nat.le_refl _), List.append_nil]
  · right
    obtain ⟨r, rfl⟩ := hasPre_ex.1 h
    refine hasPre_ex.2 ⟨r, toL_inj ?_⟩
    rw [toL_app, toL_ext, List.take_of_length_le (by rw [toL_len]; exact Nat.le_refl _), toL_app, toL_app, toL_app, toL_app, ← toL_len fr, List.append_assoc, List.drop_left, List.append_assoc]
/-- Where something stands below a path, there is a directory. -/
theorem under_dir {n : Nat} {F : Nat → Fi} (h : FsOk n F) {tp : ByteArray} (ht : 0 < tp.size) : ∀ (s i : Nat), i < n → (F i).p.size ≤ s → HasPre (F i).p (tp ++ ⟨#[47]⟩) → ∃ j, j < n ∧ (F j).p = tp ∧ (F j).d = true := by
  intro s
  induction s with
  | zero => intro i hi hs hu; have := hu.1; rw [size_slM] at this; omega
  | succ s ih =>
    intro i hi hs hu
    have hsz := hu.1
    rw [size_slM] at hsz
    have hby : byteAt (F i).p tp.size = 47 := by
      obtain ⟨r, hr⟩ := hasPre_ex.1 hu
      refine (byteAt_sl _ _ (by omega)).2 ?_
      rw [hr, toL_app, toL_app, List.append_assoc, List.getElem?_append_right (by rw [toL_len]; exact Nat.le_refl _), toL_len, Nat.sub_self]
      rfl
    rcases lastTo_spec (F i).p (F i).p.size with ⟨h1, _⟩ | ⟨h1, h2, h3⟩
    · exact absurd hby (h1 _ (by omega) (by omega))
    · have hle : tp.size ≤ lastTo (F i).p (F i).p.size := by
        rcases Nat.lt_or_ge (lastTo (F i).p (F i).p.size) tp.size with q | q
        · exact absurd hby (h3 _ (by omega) (by omega))
        · exact q
      have hq : (par (F i).p).size = lastTo (F i).p (F i).p.size := by unfold par; rw [ByteArray.size_extract]; omega
      rcases (h.2 i hi).2.2 with z | ⟨j, hj, ej, dj⟩
      · omega
      · rcases Nat.eq_or_lt_of_le hle with e | e
        · refine ⟨j, hj, ?_, dj⟩
          rw [ej]
          unfold par
          rw [← e]
          obtain ⟨r, hr⟩ := hasPre_ex.1 hu
          rw [hr]
          refine toL_inj ?_
          rw [toL_ext, toL_app, toL_app, List.drop_zero, ← toL_len tp, List.append_assoc, List.take_left]
        · refine ih j hj (by rw [ej, hq]; omega) ?_
          rw [ej]
          refine ⟨by rw [size_slM, hq]; omega, ?_⟩
          refine Eq.trans ?_ hu.2
          unfold par
          refine toL_inj ?_
          rw [toL_ext, toL_ext, toL_ext, List.drop_zero, List.drop_zero, List.drop_zero, List.take_take, size_slM]
          congr 1
          omega
/-- Moved paths are all different. -/
theorem mv_apart {n : Nat} {F : Nat → Fi} (h : FsOk n F) {fr tp : ByteArray} (ht : 0 < tp.size) (hd : ∀ j, j < n → (F j).p = tp → (F j).d = false) {i j : Nat} (hi : i < n) (hj : j < n) (ei : (F i).p ≠ tp) (ej : (F j).p ≠ tp) (e : mvT fr tp (F i).p = mvT fr tp (F j).p) : i = j := by
  have key : ∀ {i j : Nat}, i < n → j < n → (F j).p ≠ tp → Mvd fr (F i).p → ¬ Mvd fr (F j).p → mvT fr tp (F i).p = mvT fr tp (F j).p → False := fun {i j} hi hj ej hm hu e => by
    rw [mvT_no hu] at e
    rcases mvT_under (tp := tp) hm with q | q
    · rw [q] at e; exact ej e.symm
    · rw [e] at q
      obtain ⟨a, ha, ea, da⟩ := under_dir h ht _ j hj (Nat.le_refl _) q
      rw [hd a ha ea] at da
      cases da
  by_cases hm : Mvd fr (F i).p
  · by_cases hu : Mvd fr (F j).p
    · exact h.srt.uniq hi hj (mvT_inj hm hu e)
    · exact (key hi hj ej hm hu e).elim
  · by_cases hu : Mvd fr (F j).p
    · exact (key hj hi ei hu hm e.symm).elim
    · rw [mvT_no hm, mvT_no hu] at e
      exact h.srt.uniq hi hj e
/-- The files behind a move, in their order. -/
structure ArrM (n : Nat) (F : Nat → Fi) (fr tp : ByteArray) (m : Nat) (G : Nat → Fi) : Prop where
  le : m ≤ n
  src : ∀ i, i < m → ∃ j, j < n ∧ (F j).p ≠ tp ∧ G i = mvF fr tp (F j)
  all : ∀ j, j < n → (F j).p ≠ tp → ∃ i, i < m ∧ G i = mvF fr tp (F j)
  up : Rises (fun i => ord (G i).p) m
theorem ArrM.to {n : Nat} {F : Nat → Fi} {fr tp : ByteArray} {m m' : Nat} {G G' : Nat → Fi} (h : ArrM n F fr tp m G) (h' : ArrM n F fr tp m' G') {i : Nat} (hi : i < m) : ∃ a, a < m' ∧ G i = G' a := by
  obtain ⟨j, hj, e, hG⟩ := h.src i hi
  obtain ⟨a, ha, hG'⟩ := h'.all j hj e
  exact ⟨a, ha, hG.trans hG'.symm⟩
theorem ArrM.same {n : Nat} {F : Nat → Fi} {fr tp : ByteArray} {m m' : Nat} {G G' : Nat → Fi} (h : ArrM n F fr tp m G) (h' : ArrM n F fr tp m' G') : ∀ (k i : Nat), i < k → i < m → i < m' ∧ G i = G' i := by
  intro k
  induction k with
  | zero => intro i hi; omega
  | succ k ih =>
    intro i hik him
    obtain ⟨a, ha, ea⟩ := h.to h' him
    have hlow : i ≤ a := by
      rcases Nat.lt_or_ge a i with q | q
      · obtain ⟨_, e2⟩ := ih a (by omega) (by omega)
        have h1 := h.up a i q him
        have h2 : ord (G i).p = ord (G a).p := by rw [ea, e2]
        simp only at h1
        omega
      · exact q
    have him' : i < m' := by omega
    refine ⟨him', ?_⟩
    obtain ⟨b, hb, eb⟩ := h'.to h him'
    have hlow2 : i ≤ b := by
      rcases Nat.lt_or_ge b i with q | q
      · obtain ⟨_, e2⟩ := ih b (by omega) (by omega)
        have h1 := h'.up b i q him'
        have h2 : ord (G' i).p = ord (G' b).p := by rw [eb, e2]
        simp only at h1
        omega
      · exact q
    rcases Nat.eq_or_lt_of_le hlow with q | q
    · subst q; exact ea
    · have h1 := h'.up i a q ha
      rcases Nat.eq_or_lt_of_le hlow2 with q2 | q2
      · subst q2; exact eb.symm
      · have h2 := h.up i b q2 hb
        simp only at h1 h2
        rw [ea] at h2
        rw [eb] at h1
        omega
theorem ArrM.uniq {n : Nat} {F : Nat → Fi} {fr tp : ByteArray} {m m' : Nat} {G G' : Nat → Fi} (h : ArrM n F fr tp m G) (h' : ArrM n F fr tp m' G') : m = m' ∧ ∀ i, i < m → G i = G' i := by
  refine ⟨?_, fun i hi => (h.same h' _ i (Nat.lt_succ_self i) hi).2⟩
  rcases Nat.lt_trichotomy m m' with q | q | q
  · have := (h'.same h _ m (Nat.lt_succ_self m) q).1; omega
  · exact q
  · have := (h.same h' _ m' (Nat.lt_succ_self m') q).1; omega
/-- What MoveFile does. -/
def MvIs (n : Nat) (F : Nat → Fi) (fr tp : ByteArray) (m : Nat) (G : Nat → Fi) (c : Int) : Prop :=
  (FtIs n F 2 (fun i => if i = 0 then fr else tp) c ∧ c ≠ 0 ∧ m = 0) ∨ (FtIs n F 2 (fun i => if i = 0 then fr else tp) 0 ∧
    (((∀ j, j < n → (F j).p ≠ fr) ∧ c = 5 ∧ m = n ∧ G = F) ∨ ∃ k, k < n ∧ (F k).p = fr ∧
      ((fr = tp ∧ c = 0 ∧ m = n ∧ G = F) ∨ (fr ≠ tp ∧
        ((HasPre tp (fr ++ ⟨#[47]⟩) ∧ c = 15 ∧ m = n ∧ G = F) ∨ (¬ HasPre tp (fr ++ ⟨#[47]⟩) ∧
          ((DirIs n F (par tp) c ∧ c ≠ 0 ∧ m = n ∧ G = F) ∨ (DirIs n F (par tp) 0 ∧
            (((∃ j, j < n ∧ (F j).p = tp ∧ ((F j).d = true ∨ (F k).d = true)) ∧ c = 9 ∧ m = n ∧ G = F) ∨ ((¬ ∃ j, j < n ∧ (F j).p = tp ∧ ((F j).d = true ∨ (F k).d = true)) ∧
              (((∃ i, i < n ∧ HasPre (F i).p (fr ++ ⟨#[47]⟩) ∧ 40 < tp.size + ((F i).p.size - fr.size)) ∧ c = 16 ∧ m = n ∧ G = F) ∨ ((¬ ∃ i, i < n ∧ HasPre (F i).p (fr ++ ⟨#[47]⟩) ∧ 40 < tp.size + ((F i).p.size - fr.size)) ∧ c = 0 ∧ ArrM n F fr tp m G))))))))))))
theorem MvIs.uniq {n : Nat} {F : Nat → Fi} {fr tp : ByteArray} {m m' : Nat} {G G' : Nat → Fi} {c c' : Int} (h : MvIs n F fr tp m G c) (h' : MvIs n F fr tp m' G' c') : m = m' ∧ c = c' ∧ ∀ i, i < m → G i = G' i := by
  rcases h with ⟨a, b, rfl⟩ | ⟨a, q⟩ <;> rcases h' with ⟨a', b', rfl⟩ | ⟨a', q'⟩
  · exact ⟨rfl, a.uniq a', fun i hi => absurd hi (by omega)⟩
  · exact absurd (a.uniq a') b
  · exact absurd (a'.uniq a) b'
  · have hs := a.ok.1.srt
    rcases q with ⟨e, rfl, rfl, rfl⟩ | ⟨k, hk, ek, q⟩ <;> rcases q' with ⟨e', rfl, rfl, rfl⟩ | ⟨k', hk', ek', q'⟩
    · exact ⟨rfl, rfl, fun _ _ => rfl⟩
    · exact absurd ek' (e k' hk')
    · exact absurd ek (e' k hk)
    · obtain rfl := hs.uniq hk hk' (ek.trans ek'.symm)
      rcases q with ⟨e, rfl, rfl, rfl⟩ | ⟨e, q⟩ <;> rcases q' with ⟨e', rfl, rfl, rfl⟩ | ⟨e', q'⟩
      · exact ⟨rfl, rfl, fun _ _ => rfl⟩
      · exact absurd e e'
      · exact absurd e' e
      · rcases q with ⟨u, rfl, rfl, rfl⟩ | ⟨u, q⟩ <;> rcases q' with ⟨u', rfl, rfl, rfl⟩ | ⟨u', q'⟩
        · exact ⟨rfl, rfl, fun _ _ => rfl⟩
        · exact absurd u u'
        · exact absurd u' u
        · rcases q with ⟨d, d0, rfl, rfl⟩ | ⟨d, q⟩ <;> rcases q' with ⟨d', d0', rfl, rfl⟩ | ⟨d', q'⟩
          · exact ⟨rfl, DirIs.uniq hs d d', fun _ _ => rfl⟩
          · exact absurd (DirIs.uniq hs d d') d0
          · exact absurd (DirIs.uniq hs d' d) d0'
          · rcases q with ⟨t, rfl, rfl, rfl⟩ | ⟨t, q⟩ <;> rcases q' with ⟨t', rfl, rfl, rfl⟩ | ⟨t', q'⟩
            · exact ⟨rfl, rfl, fun _ _ => rfl⟩
            · exact absurd t t'
            · exact absurd t' t
            · rcases q with ⟨g, rfl, rfl, rfl⟩ | ⟨g, rfl, r⟩ <;> rcases q' with ⟨g', rfl, rfl, rfl⟩ | ⟨g', rfl, r'⟩
              · exact ⟨rfl, rfl, fun _ _ => rfl⟩
              · exact absurd g g'
              · exact absurd g' g
              · obtain ⟨h1, h2⟩ := r.uniq r'
                exact ⟨h1, rfl, h2⟩
theorem MvIs.bound {n : Nat} {F : Nat → Fi} {fr tp : ByteArray} {m : Nat} {G : Nat → Fi} {c : Int} (h : MvIs n F fr tp m G c) : m ≤ 13 := by
  rcases h with ⟨_, _, rfl⟩ | ⟨a, q⟩
  · omega
  · have hn := a.ok.1.1
    rcases q with ⟨_, _, rfl, _⟩ | ⟨_, _, _, ⟨_, _, rfl, _⟩ | ⟨_, ⟨_, _, rfl, _⟩ | ⟨_, ⟨_, _, rfl, _⟩ | ⟨_, ⟨_, _, rfl, _⟩ | ⟨_, ⟨_, _, rfl, _⟩ | ⟨_, _, r⟩⟩⟩⟩⟩⟩
    all_goals first | omega | (have := r.le; omega)
end Go.Proofs.Ytglfhajfbdjjcaa
