/-
  What stands in a directory: its paths' parent, told by their beginning.
-/
import Derived.Test.YtgcdoabcopihlaaGreatE01
import Derived.Test.YtgcdoabcopihlaaGreatFileW
import Derived.Test.YtgcdoabcopihlaaGreatFileFt
import Derived.Test.YtgcdoabcopihlaaGreatBelowI
import Derived.Test.YtgcdoabcopihlaaGreatFileRm
namespace Go.Proofs.YtgcdoabcopihlaaGreat
open Go.ChangeShapes Go.WideShapes Go.ChangeAt Go.RowKit
set_option linter.unusedVariables false
theorem lastTo_spec (s : ByteArray) : ∀ k, (NoSl s 0 k ∧ lastTo s k = 0) ∨ (lastTo s k < k ∧ byteAt s (lastTo s k) = 47 ∧ NoSl s (lastTo s k + 1) k)
  | 0 => .inl ⟨fun j _ h => absurd h (by omega), rfl⟩
  | k + 1 => by
    unfold lastTo
    by_cases e : byteAt s k = 47
    · rw [if_pos e]
      exact .inr ⟨by omega, e, fun j h1 h2 => by omega⟩
    · rw [if_neg e]
      rcases lastTo_spec s k with ⟨h1, h2⟩ | ⟨h1, h2, h3⟩
      · refine .inl ⟨fun j a b => ?_, h2⟩
        by_cases q : j = k
        · subst q; exact e
        · exact h1 j a (by omega)
      · refine .inr ⟨by omega, h2, fun j a b => ?_⟩
        by_cases q : j = k
        · subst q; exact e
        · exact h3 j a (by omega)
theorem PathOk.first {s : ByteArray} (h : PathOk s) : byteAt s 0 ≠ 47 := fun e => by
  have h1 := h.2 (s.extract 0 0) (by rw [scan_hit s 0 0 (pathOk_pos h) e]; simp)
  have := h1.1
  rw [extract_size _ _ _ (Nat.zero_le _)] at this
  omega
theorem extract_snoc (s : ByteArray) (q : Nat) (h : q < s.size) (e : byteAt s q = 47) : s.extract 0 (q + 1) = s.extract 0 q ++ ⟨#[47]⟩ := by
  have g := (byteAt_sl s q h).1 e
  apply ByteArray.ext
  apply Array.ext'
  rw [ByteArray.data_append, Array.toList_append, extract_take, extract_take, List.take_add_one, g]
  rfl
theorem hasPre_sl {s p : ByteArray} (h : p.size + 1 ≤ s.size) (e : s.extract 0 (p.size + 1) = p ++ ⟨#[47]⟩) : s.extract 0 p.size = p ∧ byteAt s p.size = 47 := by
  have g : (s.extract 0 (p.size + 1)).data.toList = (p ++ (⟨#[47]⟩ : ByteArray)).data.toList := by rw [e]
  rw [extract_take, ByteArray.data_append, Array.toList_append, List.take_add_one] at g
  have hl : (s.data.toList.take p.size).length = p.data.toList.length := by
    rw [List.length_take, Array.length_toList, Array.length_toList]
    show min p.size s.size = p.size
    omega
  obtain ⟨g1, g2⟩ := List.append_inj g hl
  constructor
  · apply ByteArray.ext
    apply Array.ext'
    rw [extract_take]
    exact g1
  · refine (byteAt_sl s p.size (by omega)).2 ?_
    cases hh : s.data.toList[p.size]? with
    | none => rw [hh] at g2; cases g2
    | some x =>
      rw [hh] at g2
      have : [x] = ([47] : List UInt8) := g2
      cases this
      rfl
/-- A path's parent: what it begins with, and no slash behind that. -/
theorem par_iff {s p : ByteArray} (hs : PathOk s) : par s = p ↔ (HasPre s (aheadT p) ∧ NoSl s (aheadT p).size s.size) := by
  have hp := pathOk_pos hs
  constructor
  · rintro rfl
    rcases lastTo_spec s s.size with ⟨h1, h2⟩ | ⟨h1, h2, h3⟩
    · have e : par s = ⟨#[]⟩ := by unfold par; rw [h2]; exact extract_none s
      have e2 : aheadT (par s) = ⟨#[]⟩ := by rw [e]; rfl
      rw [e2]
      exact ⟨⟨Nat.zero_le _, extract_none s⟩, h1⟩
    · have hq : 0 < lastTo s s.size := by
        rcases Nat.eq_zero_or_pos (lastTo s s.size) with z | z
        · rw [z] at h2; exact absurd h2 hs.first
        · exact z
      have hps : (par s).size = lastTo s s.size := by unfold par; rw [extract_size _ _ _ (lastTo_le _ _)]; omega
      have e2 : aheadT (par s) = par s ++ ⟨#[47]⟩ := by unfold aheadT; rw [if_neg (by omega)]
      rw [e2]
      unfold HasPre
      rw [size_sl, hps]
      exact ⟨⟨by omega, extract_snoc s _ h1 h2⟩, h3⟩
  · rintro ⟨⟨h1, h2⟩, h3⟩
    by_cases e : p.size = 0
    · have e2 : aheadT p = ⟨#[]⟩ := by unfold aheadT; rw [if_pos e]
      rw [e2] at h3
      have ep : p = ⟨#[]⟩ := by
        apply ByteArray.ext
        apply Array.ext'
        have : p.data.toList.length = 0 := by rw [Array.length_toList]; exact e
        exact List.length_eq_zero_iff.1 this
      rcases lastTo_spec s s.size with ⟨_, g2⟩ | ⟨g1, g2, _⟩
      · unfold par; rw [g2, ep]; exact extract_none s
      · exact absurd g2 (h3 _ (Nat.zero_le _) g1)
    · have e2 : aheadT p = p ++ ⟨#[47]⟩ := by unfold aheadT; rw [if_neg e]
      rw [e2, size_sl] at h1 h2 h3
      obtain ⟨g1, g2⟩ := hasPre_sl h1 h2
      rcases lastTo_spec s s.size with ⟨k1, _⟩ | ⟨k1, k2, k3⟩
      · exact absurd g2 (k1 _ (Nat.zero_le _) (by omega))
      · have : lastTo s s.size = p.size := by
          rcases Nat.lt_trichotomy (lastTo s s.size) p.size with z | z | z
          · exact absurd g2 (k3 _ (by omega) (by omega))
          · exact z
          · exact absurd k2 (h3 _ (by omega) k1)
        unfold par
        rw [this]
        exact g1
end Go.Proofs.YtgcdoabcopihlaaGreat

/-
  Moves of files: the mathematics.
-/
namespace Go.Proofs.YtgcdoabcopihlaaGreat
open Go.ChangeShapes Go.WideShapes Go.ChangeAt Go.RowKit
set_option linter.unusedVariables false
theorem size_slM (p : ByteArray) : (p ++ (⟨#[47]⟩ : ByteArray)).size = p.size + 1 := by rw [ByteArray.size_append]; rfl
/-- A path that is moved with fr: fr itself, or below it. -/
def Mvd (fr p : ByteArray) : Prop := p = fr ∨ HasPre p (fr ++ ⟨#[47]⟩)
open Classical in
/-- Where a path stands once fr is moved to tp. -/
noncomputable def mvT (fr tp p : ByteArray) : ByteArray := if Mvd fr p then tp ++ p.extract fr.size p.size else p
noncomputable def mvF (fr tp : ByteArray) (x : Fi) : Fi := ⟨mvT fr tp x.p, x.d, x.t⟩
theorem mvT_yes {fr tp p : ByteArray} (h : Mvd fr p) : mvT fr tp p = tp ++ p.extract fr.size p.size := by unfold mvT; rw [if_pos h]
theorem mvT_no {fr tp p : ByteArray} (h : ¬ Mvd fr p) : mvT fr tp p = p := by unfold mvT; rw [if_neg h]
theorem toL_inj {s t : ByteArray} (h : s.data.toList = t.data.toList) : s = t := ByteArray.ext (Array.toList_inj.1 h)
theorem toL_app (s t : ByteArray) : (s ++ t).data.toList = s.data.toList ++ t.data.toList := by rw [ByteArray.data_append, Array.toList_append]
theorem toL_ext (s : ByteArray) (o e : Nat) : (s.extract o e).data.toList = (s.data.toList.take e).drop o := by
  simp [ByteArray.data_extract, List.extract_eq_take_drop, List.drop_take]
theorem toL_len (s : ByteArray) : s.data.toList.length = s.size := by rw [Array.length_toList]; rfl
theorem ext_join (s : ByteArray) (k : Nat) (hk : k ≤ s.size) : s.extract 0 k ++ s.extract k s.size = s := by
  refine toL_inj ?_
  have e : List.take s.size s.data.toList = s.data.toList := List.take_of_length_le (by rw [toL_len]; exact Nat.le_refl _)
  rw [toL_app, toL_ext, toL_ext, List.drop_zero, e, List.take_append_drop]
theorem hasPre_ex {s t : ByteArray} : HasPre s t ↔ ∃ r, s = t ++ r := by
  constructor
  · rintro ⟨h1, h2⟩
    exact ⟨s.extract t.size s.size, by conv => lhs; rw [← ext_join s t.size h1]; rw [h2]⟩
  · rintro ⟨r, rfl⟩
    refine ⟨by rw [ByteArray.size_append]; omega, toL_inj ?_⟩
    rw [toL_ext, toL_app, List.drop_zero, ← toL_len t, List.take_left]
theorem app_cancel {a b c : ByteArray} (h : a ++ b = a ++ c) : b = c := by
  refine toL_inj ?_
  have := congrArg (fun x => x.data.toList) h
  simp only [toL_app] at this
  exact List.append_cancel_left this
theorem mvd_join {fr p : ByteArray} (h : Mvd fr p) : p = fr ++ p.extract fr.size p.size := by
  rcases h with rfl | h
  · refine toL_inj ?_
    rw [toL_app, toL_ext, List.take_of_length_le (by rw [toL_len]; exact Nat.le_refl _), List.drop_of_length_le (by rw [toL_len]; exact Nat.le_refl _), List.append_nil]
  · obtain ⟨r, hr⟩ := hasPre_ex.1 h
    have h1 := h.1
    rw [size_slM] at h1
    conv => lhs; rw [← ext_join p fr.size (by omega)]
    congr 1
    rw [hr]
    refine toL_inj ?_
    rw [toL_ext, toL_app, toL_app, List.drop_zero, ← toL_len fr, List.append_assoc, List.take_left]
theorem mvT_inj {fr tp p q : ByteArray} (hp : Mvd fr p) (hq : Mvd fr q) (h : mvT fr tp p = mvT fr tp q) : p = q := by
  rw [mvT_yes hp, mvT_yes hq] at h
  rw [mvd_join hp, mvd_join hq, app_cancel h]
/-- What is moved stands at tp, or below it. -/
theorem mvT_under {fr tp p : ByteArray} (hp : Mvd fr p) : mvT fr tp p = tp ∨ HasPre (mvT fr tp p) (tp ++ ⟨#[47]⟩) := by
  rw [mvT_yes hp]
  rcases hp with rfl | h
  · left
    refine toL_inj ?_
    rw [toL_app, toL_ext, List.take_of_length_le (by rw [toL_len]; exact Nat.le_refl _), List.drop_of_length_le (by rw [toL_len]; exact Nat.le_refl _), List.append_nil]
  · right
    obtain ⟨r, rfl⟩ := hasPre_ex.1 h
    refine hasPre_ex.2 ⟨r, toL_inj ?_⟩
    rw [toL_app, toL_ext, List.take_of_length_le (by rw [toL_len]; exact Nat.le_refl _), toL_app, toL_app, toL_app, toL_app, ← toL_len fr, List.append_assoc, List.drop_left, List.append_assoc]
/-- Where something stands below a path, there is a directory. -/
theorem under_dir {n : Nat} {F : Nat → Fi} (h : FsOk n F) {tp : ByteArray} (ht : 0 < tp.size) : ∀ (s i : Nat), i < n → (F i).p.size ≤ s → HasPre (F i).p (tp ++ ⟨#[47]⟩) → ∃ j, j < n ∧ (F j).p = tp ∧ (F j).d = true := by
  intro s
  induction s with
  | zero => intro i hi hs hu; have := hu.1; rw [size_slM] at this; omega
  | succ s ih =>
    intro i hi hs hu
    have hsz := hu.1
    rw [size_slM] at hsz
    have hby : byteAt (F i).p tp.size = 47 := by
      obtain ⟨r, hr⟩ := hasPre_ex.1 hu
      refine (byteAt_sl _ _ (by omega)).2 ?_
      rw [hr, toL_app, toL_app, List.append_assoc, List.getElem?_append_right (by rw [toL_len]; exact Nat.le_refl _), toL_len, Nat.sub_self]
      rfl
    rcases lastTo_spec (F i).p (F i).p.size with ⟨h1, _⟩ | ⟨h1, h2, h3⟩
    · exact absurd hby (h1 _ (by omega) (by omega))
    · have hle : tp.size ≤ lastTo (F i).p (F i).p.size := by
        rcases Nat.lt_or_ge (lastTo (F i).p (F i).p.size) tp.size with q | q
        · exact absurd hby (h3 _ (by omega) (by omega))
        · exact q
      have hq : (par (F i).p).size = lastTo (F i).p (F i).p.size := by unfold par; rw [ByteArray.size_extract]; omega
      rcases (h.2 i hi).2.2 with z | ⟨j, hj, ej, dj⟩
      · omega
      · rcases Nat.eq_or_lt_of_le hle with e | e
        · refine ⟨j, hj, ?_, dj⟩
          rw [ej]
          unfold par
          rw [← e]
          obtain ⟨r, hr⟩ := hasPre_ex.1 hu
          rw [hr]
          refine toL_inj ?_
          rw [toL_ext, toL_app, toL_app, List.drop_zero, ← toL_len tp, List.append_assoc, List.take_left]
        · refine ih j hj (by rw [ej, hq]; omega) ?_
          rw [ej]
          refine ⟨by rw [size_slM, hq]; omega, ?_⟩
          refine Eq.trans ?_ hu.2
          unfold par
          refine toL_inj ?_
          rw [toL_ext, toL_ext, toL_ext, List.drop_zero, List.drop_zero, List.drop_zero, List.take_take, size_slM]
          congr 1
          omega
/-- Moved paths are all different. -/
theorem mv_apart {n : Nat} {F : Nat → Fi} (h : FsOk n F) {fr tp : ByteArray} (ht : 0 < tp.size) (hd : ∀ j, j < n → (F j).p = tp → (F j).d = false) {i j : Nat} (hi : i < n) (hj : j < n) (ei : (F i).p ≠ tp) (ej : (F j).p ≠ tp) (e : mvT fr tp (F i).p = mvT fr tp (F j).p) : i = j := by
  have key : ∀ {i j : Nat}, i < n → j < n → (F j).p ≠ tp → Mvd fr (F i).p → ¬ Mvd fr (F j).p → mvT fr tp (F i).p = mvT fr tp (F j).p → False := fun {i j} hi hj ej hm hu e => by
    rw [mvT_no hu] at e
    rcases mvT_under (tp := tp) hm with q | q
    · rw [q] at e; exact ej e.symm
    · rw [e] at q
      obtain ⟨a, ha, ea, da⟩ := under_dir h ht _ j hj (Nat.le_refl _) q
      rw [hd a ha ea] at da
      cases da
  by_cases hm : Mvd fr (F i).p
  · by_cases hu : Mvd fr (F j).p
    · exact h.srt.uniq hi hj (mvT_inj hm hu e)
    · exact (key hi hj ej hm hu e).elim
  · by_cases hu : Mvd fr (F j).p
    · exact (key hj hi ei hu hm e.symm).elim
    · rw [mvT_no hm, mvT_no hu] at e
      exact h.srt.uniq hi hj e
/-- The files behind a move, in their order. -/
structure ArrM (n : Nat) (F : Nat → Fi) (fr tp : ByteArray) (m : Nat) (G : Nat → Fi) : Prop where
  le : m ≤ n
  src : ∀ i, i < m → ∃ j, j < n ∧ (F j).p ≠ tp ∧ G i = mvF fr tp (F j)
  all : ∀ j, j < n → (F j).p ≠ tp → ∃ i, i < m ∧ G i = mvF fr tp (F j)
  up : Rises (fun i => ord (G i).p) m
theorem ArrM.to {n : Nat} {F : Nat → Fi} {fr tp : ByteArray} {m m' : Nat} {G G' : Nat → Fi} (h : ArrM n F fr tp m G) (h' : ArrM n F fr tp m' G') {i : Nat} (hi : i < m) : ∃ a, a < m' ∧ G i = G' a := by
  obtain ⟨j, hj, e, hG⟩ := h.src i hi
  obtain ⟨a, ha, hG'⟩ := h'.all j hj e
  exact ⟨a, ha, hG.trans hG'.symm⟩
theorem ArrM.same {n : Nat} {F : Nat → Fi} {fr tp : ByteArray} {m m' : Nat} {G G' : Nat → Fi} (h : ArrM n F fr tp m G) (h' : ArrM n F fr tp m' G') : ∀ (k i : Nat), i < k → i < m → i < m' ∧ G i = G' i := by
  intro k
  induction k with
  | zero => intro i hi; omega
  | succ k ih =>
    intro i hik him
    obtain ⟨a, ha, ea⟩ := h.to h' him
    have hlow : i ≤ a := by
      rcases Nat.lt_or_ge a i with q | q
      · obtain ⟨_, e2⟩ := ih a (by omega) (by omega)
        have h1 := h.up a i q him
        have h2 : ord (G i).p = ord (G a).p := by rw [ea, e2]
        simp only at h1
        omega
      · exact q
    have him' : i < m' := by omega
    refine ⟨him', ?_⟩
    obtain ⟨b, hb, eb⟩ := h'.to h him'
    have hlow2 : i ≤ b := by
      rcases Nat.lt_or_ge b i with q | q
      · obtain ⟨_, e2⟩ := ih b (by omega) (by omega)
        have h1 := h'.up b i q him'
        have h2 : ord (G' i).p = ord (G' b).p := by rw [eb, e2]
        simp only at h1
        omega
      · exact q
    rcases Nat.eq_or_lt_of_le hlow with q | q
    · subst q; exact ea
    · have h1 := h'.up i a q ha
      rcases Nat.eq_or_lt_of_le hlow2 with q2 | q2
      · subst q2; exact eb.symm
      · have h2 := h.up i b q2 hb
        simp only at h1 h2
        rw [ea] at h2
        rw [eb] at h1
        omega
theorem ArrM.uniq {n : Nat} {F : Nat → Fi} {fr tp : ByteArray} {m m' : Nat} {G G' : Nat → Fi} (h : ArrM n F fr tp m G) (h' : ArrM n F fr tp m' G') : m = m' ∧ ∀ i, i < m → G i = G' i := by
  refine ⟨?_, fun i hi => (h.same h' _ i (Nat.lt_succ_self i) hi).2⟩
  rcases Nat.lt_trichotomy m m' with q | q | q
  · have := (h'.same h _ m (Nat.lt_succ_self m) q).1; omega
  · exact q
  · have := (h.same h' _ m' (Nat.lt_succ_self m') q).1; omega
/-- What MoveFile does. -/
def MvIs (n : Nat) (F : Nat → Fi) (fr tp : ByteArray) (m : Nat) (G : Nat → Fi) (c : Int) : Prop :=
  (FtIs n F 2 (fun i => if i = 0 then fr else tp) c ∧ c ≠ 0 ∧ m = 0) ∨ (FtIs n F 2 (fun i => if i = 0 then fr else tp) 0 ∧
    (((∀ j, j < n → (F j).p ≠ fr) ∧ c = 5 ∧ m = n ∧ G = F) ∨ ∃ k, k < n ∧ (F k).p = fr ∧
      ((fr = tp ∧ c = 0 ∧ m = n ∧ G = F) ∨ (fr ≠ tp ∧
        ((HasPre tp (fr ++ ⟨#[47]⟩) ∧ c = 15 ∧ m = n ∧ G = F) ∨ (¬ HasPre tp (fr ++ ⟨#[47]⟩) ∧
          ((DirIs n F (par tp) c ∧ c ≠ 0 ∧ m = n ∧ G = F) ∨ (DirIs n F (par tp) 0 ∧
            (((∃ j, j < n ∧ (F j).p = tp ∧ ((F j).d = true ∨ (F k).d = true)) ∧ c = 9 ∧ m = n ∧ G = F) ∨ ((¬ ∃ j, j < n ∧ (F j).p = tp ∧ ((F j).d = true ∨ (F k).d = true)) ∧
              (((∃ i, i < n ∧ HasPre (F i).p (fr ++ ⟨#[47]⟩) ∧ 40 < tp.size + ((F i).p.size - fr.size)) ∧ c = 16 ∧ m = n ∧ G = F) ∨ ((¬ ∃ i, i < n ∧ HasPre (F i).p (fr ++ ⟨#[47]⟩) ∧ 40 < tp.size + ((F i).p.size - fr.size)) ∧ c = 0 ∧ ArrM n F fr tp m G))))))))))))
theorem MvIs.uniq {n : Nat} {F : Nat → Fi} {fr tp : ByteArray} {m m' : Nat} {G G' : Nat → Fi} {c c' : Int} (h : MvIs n F fr tp m G c) (h' : MvIs n F fr tp m' G' c') : m = m' ∧ c = c' ∧ ∀ i, i < m → G i = G' i := by
  rcases h with ⟨a, b, rfl⟩ | ⟨a, q⟩ <;> rcases h' with ⟨a', b', rfl⟩ | ⟨a', q'⟩
  · exact ⟨rfl, a.uniq a', fun i hi => absurd hi (by omega)⟩
  · exact absurd (a.uniq a') b
  · exact absurd (a'.uniq a) b'
  · have hs := a.ok.1.srt
    rcases q with ⟨e, rfl, rfl, rfl⟩ | ⟨k, hk, ek, q⟩ <;> rcases q' with ⟨e', rfl, rfl, rfl⟩ | ⟨k', hk', ek', q'⟩
    · exact ⟨rfl, rfl, fun _ _ => rfl⟩
    · exact absurd ek' (e k' hk')
    · exact absurd ek (e' k hk)
    · obtain rfl := hs.uniq hk hk' (ek.trans ek'.symm)
      rcases q with ⟨e, rfl, rfl, rfl⟩ | ⟨e, q⟩ <;> rcases q' with ⟨e', rfl, rfl, rfl⟩ | ⟨e', q'⟩
      · exact ⟨rfl, rfl, fun _ _ => rfl⟩
      · exact absurd e e'
      · exact absurd e' e
      · rcases q with ⟨u, rfl, rfl, rfl⟩ | ⟨u, q⟩ <;> rcases q' with ⟨u', rfl, rfl, rfl⟩ | ⟨u', q'⟩
        · exact ⟨rfl, rfl, fun _ _ => rfl⟩
        · exact absurd u u'
        · exact absurd u' u
        · rcases q with ⟨d, d0, rfl, rfl⟩ | ⟨d, q⟩ <;> rcases q' with ⟨d', d0', rfl, rfl⟩ | ⟨d', q'⟩
          · exact ⟨rfl, DirIs.uniq hs d d', fun _ _ => rfl⟩
          · exact absurd (DirIs.uniq hs d d') d0
          · exact absurd (DirIs.uniq hs d' d) d0'
          · rcases q with ⟨t, rfl, rfl, rfl⟩ | ⟨t, q⟩ <;> rcases q' with ⟨t', rfl, rfl, rfl⟩ | ⟨t', q'⟩
            · exact ⟨rfl, rfl, fun _ _ => rfl⟩
            · exact absurd t t'
            · exact absurd t' t
            · rcases q with ⟨g, rfl, rfl, rfl⟩ | ⟨g, rfl, r⟩ <;> rcases q' with ⟨g', rfl, rfl, rfl⟩ | ⟨g', rfl, r'⟩
              · exact ⟨rfl, rfl, fun _ _ => rfl⟩
              · exact absurd g g'
              · exact absurd g' g
              · obtain ⟨h1, h2⟩ := r.uniq r'
                exact ⟨h1, rfl, h2⟩
theorem MvIs.bound {n : Nat} {F : Nat → Fi} {fr tp : ByteArray} {m : Nat} {G : Nat → Fi} {c : Int} (h : MvIs n F fr tp m G c) : m ≤ 13 := by
  rcases h with ⟨_, _, rfl⟩ | ⟨a, q⟩
  · omega
  · have hn := a.ok.1.1
    rcases q with ⟨_, _, rfl, _⟩ | ⟨_, _, _, ⟨_, _, rfl, _⟩ | ⟨_, ⟨_, _, rfl, _⟩ | ⟨_, ⟨_, _, rfl, _⟩ | ⟨_, ⟨_, _, rfl, _⟩ | ⟨_, ⟨_, _, rfl, _⟩ | ⟨_, _, r⟩⟩⟩⟩⟩⟩
    all_goals first | omega | (have := r.le; omega)
end Go.Proofs.YtgcdoabcopihlaaGreat

/-
  The iterator below, told of the files by their places (so that a round knows that its file is one of them).
-/
namespace Go.Proofs.YtgcdoabcopihlaaGreat
open Go.ChangeShapes Go.WideShapes Go.ChangeAt Go.RowKit
set_option linter.unusedVariables false
open Classical in
/-- The places of the files below, of the first k. -/
noncomputable def blwN (F : Nat → Fi) (h : ByteArray) (n : Nat) : Nat → List {i : Nat // i < n}
  | 0 => []
  | k + 1 => blwN F h n k ++ (if hk : k < n then (if HasPre (F k).p h then [⟨k, hk⟩] else []) else [])
theorem blwN_yes {F : Nat → Fi} {h : ByteArray} {n k : Nat} (hk : k < n) (p : HasPre (F k).p h) : blwN F h n (k + 1) = blwN F h n k ++ [⟨k, hk⟩] := by
  rw [blwN, dif_pos hk, if_pos p]
theorem blwN_no {F : Nat → Fi} {h : ByteArray} {n k : Nat} (p : ¬ HasPre (F k).p h) : blwN F h n (k + 1) = blwN F h n k := by
  by_cases hk : k < n
  · rw [blwN, dif_pos hk, if_neg p, List.append_nil]
  · rw [blwN, dif_neg hk, List.append_nil]
theorem blwN_pre (F : Nat → Fi) (h : ByteArray) (n k : Nat) : ∀ m, blwN F h n k <+: blwN F h n (k + m)
  | 0 => List.prefix_refl _
  | m + 1 => (blwN_pre F h n k m).trans ⟨_, rfl⟩
def encN (F : Nat → Fi) (h : ByteArray) (n : Nat) (x : {i : Nat // i < n}) : Array Value := encB ((F x.1).p.extract h.size (F x.1).p.size, F x.1)
set_option maxRecDepth 100000 in
set_option maxHeartbeats 4000000 in
theorem below_stopsN (Q : Nat → Prop) (Bp Bl : Nat) (a : Option Addr) (n c : Nat) (F : Nat → Fi) (q : ByteArray) (w : World) (m : Nat) (hp : w.cell? ⟨Bp, 0, none⟩ = some (.string q)) (hl : w.cell? ⟨Bl, 0, none⟩ = some (.slice a n c)) (hE : Els w 3 a n (fiF F)) (hQp : Q Bp) (hQl : Q Bl) (hQa : 0 < n → ∀ p, a = some p → Q p.block) (hn : n ≤ 4096) (hqs : q.size ≤ 40) (hQw : ∀ g, Q g → g < w.heap.size) :
    SeqStopsK Fence.wide m Tryz.prog 113 #[.pointer (some ⟨Bp, 0, none⟩), .pointer (some ⟨Bl, 0, none⟩)] (encN F (aheadT q) n) (KpQ Q) (fun xs => xs = blwN F (aheadT q) n n) (fun pre => pre <+: blwN F (aheadT q) n n) (blwN F (aheadT q) n n).length w := fun l J Jx W hW hJ hJx hY h0 => by
  have hp' : W.cell? ⟨Bp, 0, none⟩ = some (.string q) := by rw [hW.cell (p := ⟨Bp, 0, none⟩) (strBlock hp)]; exact hp
  have hl' : W.cell? ⟨Bl, 0, none⟩ = some (.slice a n c) := by rw [hW.cell (p := ⟨Bl, 0, none⟩) (strBlock hl)]; exact hl
  have HE : Hid (Els W 3 a n (fiF F)) := hE.below hW
  have HC : Hid (∀ (s t : ByteArray) (w : World), CallsIn Fence.wide (m - 1) Tryz.prog 110 #[.string s, .string t] w fun e w' => CutP s t e ∧ w' = w) := fun s t w => callsIn_wide.2 (cutPre_any s t w)
  obtain ⟨ah, hah⟩ : ∃ x, x = aheadT q := ⟨_, rfl⟩
  have HAH : Hid (ah = aheadT q) := hah
  rw [← hah] at hY ⊢
  clear hp hl hE hah
  have hqa : q.size + 1 ≤ 9223372036854775807 := by omega
  have hqb : ¬ 9223372036854775807 < q.size + 1 := by omega
  rcases Nat.eq_zero_or_pos q.size with hz | hz
  · obtain rfl : q = ⟨#[]⟩ := ByteArray.ext (Array.eq_empty_of_size_eq_zero hz)
    obtain rfl : ⟨#[]⟩ = ah := by rw [HAH.out]; rfl
    clear HAH hz
    refine callsIn_of_wp Tryz.func113 rfl trivial ?_ rfl
    simp only [Tryz.ntmps113, List.size_toArray, List.length_cons, List.length_nil, Nat.reduceAdd, Nat.reduceSub, Array.replicate_succ, Array.replicate_zero, List.push_toArray, List.append_toArray, List.nil_append, List.cons_append]
    gi_wp2
    gi_loopw [15] (fun i wr => ∃ k : Nat, k ≤ n ∧ i = .int .i64 k ∧ J (blwN F (⟨#[]⟩ : ByteArray) n k) wr ∧ KpQ Q W wr) (fun i _ => n - (intOf i).toNat)
    case atStart => exact ⟨0, by omega, rfl, h0, KpQ.refl _ _⟩
    case round =>
      obtain ⟨k, hk, rfl, hJs, hkp⟩ := hrel
      have HK : Hid (KpQ Q W wr) := hkp
      by_cases hlt : k < n
      · have hlt' : (k : Int) < (n : Int) := by omega
        obtain ⟨b, off, ha, hc⟩ := (hkp.els HE.out hQa).opened (by omega)
        cases ha
        obtain ⟨c0, c1, c2⟩ := Els.fiC hc k hlt
        have HF : Hid (HasPre (F k).p (⟨#[]⟩ : ByteArray) → blwN F (⟨#[]⟩ : ByteArray) n (k + 1) = blwN F (⟨#[]⟩ : ByteArray) n k ++ [⟨k, hlt⟩]) := fun p => blwN_yes hlt p
        have HEN : Hid (encN F (⟨#[]⟩ : ByteArray) n ⟨k, hlt⟩ = encB ((F k).p.extract (⟨#[]⟩ : ByteArray).size (F k).p.size, F k)) := rfl
        have HG : Hid (¬ HasPre (F k).p (⟨#[]⟩ : ByteArray) → blwN F (⟨#[]⟩ : ByteArray) n (k + 1) = blwN F (⟨#[]⟩ : ByteArray) n k) := fun p => blwN_no p
        have HPr : Hid (blwN F (⟨#[]⟩ : ByteArray) n (k + 1) <+: blwN F (⟨#[]⟩ : ByteArray) n n) := by have := blwN_pre F (⟨#[]⟩ : ByteArray) n (k + 1) (n - (k + 1)); rwa [show k + 1 + (n - (k + 1)) = n by omega] at this
        generalize hy0 : F k = y at *
        clear hy0
        obtain ⟨yp, yd, yt⟩ := y
        dsimp only at *
        clear hc
        obtain ⟨v, hv⟩ : ∃ v, v = wr.alloc (.cells #[.string yp, .bool yd, .string yt] 51) := ⟨_, rfl⟩
        have hJv : J (blwN F (⟨#[]⟩ : ByteArray) n k) v := by rw [hv]; exact hJ _ wr _ none hJs (World.grownBy_alloc _ _ _) (fun r e => by cases e)
        have XB : Box3 v wr.heap.size 51 (.string yp) (.bool yd) (.string yt) := by rw [hv]; exact Box3.made _ _ _ _ _
        have KV : Hid (KpQ Q W v) := HK.out.tr (by rw [hv]; exact ⟨by simp, fun g hg => Below.heap_alloc _ _ _ (by have := hQw g hg; have := HK.out.size; have := hW.size; omega)⟩)
        have HV : Hid (wr.alloc (.cells #[.string yp, .bool yd, .string yt] 51) = v) := hv.symm
        have t0 := XB.c0
        have t1 := XB.c1
        have t2 := XB.c2
        clear hv hJs XB
        gi_wp2_with fail
        rw [HV.out]
        refine ⟨trivial, fun h => by (cases h), (HC.out _ _ _).mono ?_⟩
        rintro e w' ⟨hcp, rfl⟩
        clear HV c0 c1 c2
        rcases hcp with ⟨hpre, rfl⟩ | ⟨hpre, rfl⟩
        · have hb1 := HF.out hpre
          have hlen : (blwN F (⟨#[]⟩ : ByteArray) n k).length < (blwN F (⟨#[]⟩ : ByteArray) n n).length := by
            have := HPr.out.length_le
            rw [hb1, List.length_append] at this
            simp at this
            omega
          obtain ⟨fn, tmps, assign, body, hy, hR⟩ := hY (blwN F (⟨#[]⟩ : ByteArray) n k) ⟨k, hlt⟩ w' hJv hlen
          rw [HEN.out] at hy
          dsimp only [encB] at hy
          rw [show (⟨#[]⟩ : ByteArray).size = 0 from rfl, ByteArray.extract_zero_size] at hy
          have HB1 : Hid (blwN F (⟨#[]⟩ : ByteArray) n (k + 1) = blwN F (⟨#[]⟩ : ByteArray) n k ++ [⟨k, hlt⟩]) := hb1
          clear hpre hb1 HF HG
          gi_wp2
          refine ⟨fun h => by (cases h), hR.mono ?_⟩
          rintro e W3 (⟨rfl, hJ3, hk3⟩ | ⟨rfl, hJx3⟩)
          · rw [← HB1.out] at hJ3
            have K3 : Hid (KpQ Q W W3) := KV.out.tr hk3
            clear hk3
            gi_wp2
            go_roundw
            case rel => exact ⟨k + 1, by omega, by go_num, hJ3, K3.out⟩
            case measure => simp [intOf]; omega
          · rw [← HB1.out] at hJx3
            gi_wp2
            refine bodyPost_ret (results_none rfl _ _ _) rfl ?_
            exact ⟨⟨_, rfl⟩, .inr ⟨_, HPr.out, hJx3⟩⟩
        · have hb1 := HG.out hpre
          rw [← hb1] at hJv
          clear hpre hb1 HF HG
          gi_wp2
          refine ⟨fun _ h => (by cases h), ?_⟩
          gi_wp2
          go_roundw
          case rel => exact ⟨k + 1, by omega, by go_num, hJv, KV.out⟩
          case measure => simp [intOf]; omega
      · obtain rfl : k = n := by omega
        have hlt' : ¬ (k : Int) < (k : Int) := by omega
        gi_wp2
        go_end0
        exact ⟨⟨_, rfl⟩, .inl hJs⟩
  · have g1 : (q.toList == []) = false := textEmpty hz
    have g2 : q.toList.isEmpty = false := textEmpty2 hz
    have hah : q ++ ⟨#[47]⟩ = ah := by rw [HAH.out]; unfold aheadT; rw [if_neg (by omega)]
    clear HAH hz
    refine callsIn_of_wp Tryz.func113 rfl trivial ?_ rfl
    simp only [Tryz.ntmps113, List.size_toArray, List.length_cons, List.length_nil, Nat.reduceAdd, Nat.reduceSub, Array.replicate_succ, Array.replicate_zero, List.push_toArray, List.append_toArray, List.nil_append, List.cons_append]
    gi_wp2
    gi_loopw [15] (fun i wr => ∃ k : Nat, k ≤ n ∧ i = .int .i64 k ∧ J (blwN F ah n k) wr ∧ KpQ Q W wr) (fun i _ => n - (intOf i).toNat)
    case atStart => exact ⟨0, by omega, rfl, h0, KpQ.refl _ _⟩
    case round =>
      obtain ⟨k, hk, rfl, hJs, hkp⟩ := hrel
      have HK : Hid (KpQ Q W wr) := hkp
      by_cases hlt : k < n
      · have hlt' : (k : Int) < (n : Int) := by omega
        obtain ⟨b, off, ha, hc⟩ := (hkp.els HE.out hQa).opened (by omega)
        cases ha
        obtain ⟨c0, c1, c2⟩ := Els.fiC hc k hlt
        have HF : Hid (HasPre (F k).p ah → blwN F ah n (k + 1) = blwN F ah n k ++ [⟨k, hlt⟩]) := fun p => blwN_yes hlt p
        have HEN : Hid (encN F ah n ⟨k, hlt⟩ = encB ((F k).p.extract ah.size (F k).p.size, F k)) := rfl
        have HG : Hid (¬ HasPre (F k).p ah → blwN F ah n (k + 1) = blwN F ah n k) := fun p => blwN_no p
        have HPr : Hid (blwN F ah n (k + 1) <+: blwN F ah n n) := by have := blwN_pre F ah n (k + 1) (n - (k + 1)); rwa [show k + 1 + (n - (k + 1)) = n by omega] at this
        generalize hy0 : F k = y at *
        clear hy0
        obtain ⟨yp, yd, yt⟩ := y
        dsimp only at *
        clear hc
        obtain ⟨v, hv⟩ : ∃ v, v = wr.alloc (.cells #[.string yp, .bool yd, .string yt] 51) := ⟨_, rfl⟩
        have hJv : J (blwN F ah n k) v := by rw [hv]; exact hJ _ wr _ none hJs (World.grownBy_alloc _ _ _) (fun r e => by cases e)
        have XB : Box3 v wr.heap.size 51 (.string yp) (.bool yd) (.string yt) := by rw [hv]; exact Box3.made _ _ _ _ _
        have KV : Hid (KpQ Q W v) := HK.out.tr (by rw [hv]; exact ⟨by simp, fun g hg => Below.heap_alloc _ _ _ (by have := hQw g hg; have := HK.out.size; have := hW.size; omega)⟩)
        have HV : Hid (wr.alloc (.cells #[.string yp, .bool yd, .string yt] 51) = v) := hv.symm
        have t0 := XB.c0
        have t1 := XB.c1
        have t2 := XB.c2
        clear hv hJs XB
        gi_wp2_with fail
        rw [HV.out]
        refine ⟨trivial, fun h => by (cases h), (HC.out _ _ _).mono ?_⟩
        rintro e w' ⟨hcp, rfl⟩
        clear HV c0 c1 c2
        rcases hcp with ⟨hpre, rfl⟩ | ⟨hpre, rfl⟩
        · have hb1 := HF.out hpre
          have hlen : (blwN F ah n k).length < (blwN F ah n n).length := by
            have := HPr.out.length_le
            rw [hb1, List.length_append] at this
            simp at this
            omega
          obtain ⟨fn, tmps, assign, body, hy, hR⟩ := hY (blwN F ah n k) ⟨k, hlt⟩ w' hJv hlen
          rw [HEN.out] at hy
          dsimp only [encB] at hy
          have HB1 : Hid (blwN F ah n (k + 1) = blwN F ah n k ++ [⟨k, hlt⟩]) := hb1
          clear hpre hb1 HF HG
          gi_wp2
          refine ⟨fun h => by (cases h), hR.mono ?_⟩
          rintro e W3 (⟨rfl, hJ3, hk3⟩ | ⟨rfl, hJx3⟩)
          · rw [← HB1.out] at hJ3
            have K3 : Hid (KpQ Q W W3) := KV.out.tr hk3
            clear hk3
            gi_wp2
            go_roundw
            case rel => exact ⟨k + 1, by omega, by go_num, hJ3, K3.out⟩
            case measure => simp [intOf]; omega
          · rw [← HB1.out] at hJx3
            gi_wp2
            refine bodyPost_ret (results_none rfl _ _ _) rfl ?_
            exact ⟨⟨_, rfl⟩, .inr ⟨_, HPr.out, hJx3⟩⟩
        · have hb1 := HG.out hpre
          rw [← hb1] at hJv
          clear hpre hb1 HF HG
          gi_wp2
          refine ⟨fun _ h => (by cases h), ?_⟩
          gi_wp2
          go_roundw
          case rel => exact ⟨k + 1, by omega, by go_num, hJv, KV.out⟩
          case measure => simp [intOf]; omega
      · obtain rfl : k = n := by omega
        have hlt' : ¬ (k : Int) < (k : Int) := by omega
        gi_wp2
        go_end0
        exact ⟨⟨_, rfl⟩, .inl hJs⟩
end Go.Proofs.YtgcdoabcopihlaaGreat

/-
  movedPath and moveFault of the program.
-/
namespace Go.Proofs.YtgcdoabcopihlaaGreat
open Go.ChangeShapes Go.WideShapes Go.ChangeAt Go.RowKit Go.Shelf
set_option linter.unusedVariables false
attribute [local go_sem] Oper.semAt_some
theorem mvT_self (fr tp : ByteArray) : mvT fr tp fr = tp := by
  rw [mvT_yes (.inl rfl)]
  refine toL_inj ?_
  rw [toL_app, toL_ext, List.take_of_length_le (by rw [toL_len]; exact Nat.le_refl _), List.drop_of_length_le (by rw [toL_len]; exact Nat.le_refl _), List.append_nil]
theorem mvT_below {fr tp p : ByteArray} (h : HasPre p (fr ++ ⟨#[47]⟩)) : mvT fr tp p = (tp ++ ⟨#[47]⟩) ++ p.extract (fr ++ ⟨#[47]⟩).size p.size := by
  rw [mvT_yes (.inr h)]
  obtain ⟨r, rfl⟩ := hasPre_ex.1 h
  have e1 : List.take (fr ++ ⟨#[47]⟩ ++ r).size (fr ++ ⟨#[47]⟩ ++ r).data.toList = (fr ++ ⟨#[47]⟩ ++ r).data.toList := List.take_of_length_le (by rw [toL_len]; exact Nat.le_refl _)
  have eR : (fr ++ ⟨#[47]⟩ ++ r).extract (fr ++ ⟨#[47]⟩).size (fr ++ ⟨#[47]⟩ ++ r).size = r := toL_inj (by rw [toL_ext, e1, toL_app (fr ++ ⟨#[47]⟩) r, ← toL_len (fr ++ ⟨#[47]⟩), List.drop_left])
  have eL : (fr ++ ⟨#[47]⟩ ++ r).extract fr.size (fr ++ ⟨#[47]⟩ ++ r).size = ⟨#[47]⟩ ++ r := toL_inj (by rw [toL_ext, e1, toL_app, toL_app, toL_app, List.append_assoc, ← toL_len fr, List.drop_left])
  rw [eL, eR, ByteArray.append_assoc]
set_option maxRecDepth 100000 in
theorem hasPrefix_any (s t : ByteArray) (w : World) : Calls Tryz.prog 108 #[.string s, .string t] w fun e w' => Says e (HasPre s t) ∧ w = w' := by
  have HP : Hid (Calls Tryz.prog 123 #[.string s, .string t] w fun e w' => Says e (HasPre s t) ∧ w' = w) := hasPre_any s t w
  go_enter Tryz.func108, Tryz.ntmps108
  go_wp2_with fail
  refine (Calls.mono HP.out) ?_
  rintro e w' ⟨⟨b, rfl, hb⟩, hw⟩
  have HB : Hid ((b = true ↔ HasPre s t) ∧ w' = w) := ⟨hb, hw⟩
  clear hb hw HP
  go_wp2
  go_ret
  exact ⟨⟨b, rfl, HB.out.1⟩, HB.out.2.symm⟩
set_option maxRecDepth 100000 in
set_option maxHeartbeats 1000000 in
theorem movedPath_any (p fr tp : ByteArray) (hp : p.size ≤ 1048576) (hf : fr.size ≤ 1048576) (ht : tp.size ≤ 1048576) (w : World) :
    Calls Tryz.prog 86 #[.string p, .string fr, .string tp] w fun e w' => e = .returned (.string (mvT fr tp p)) ∧ w = w' := by
  have HC : Hid (Calls Tryz.prog 110 #[.string p, .string (fr ++ ⟨#[47]⟩)] w fun e w' => CutP p (fr ++ ⟨#[47]⟩) e ∧ w' = w) := cutPre_any p _ w
  have f1 : fr.size + 1 ≤ 9223372036854775807 := by omega
  have f2 : tp.size + 1 ≤ 9223372036854775807 := by omega
  have HB : Hid (HasPre p (fr ++ ⟨#[47]⟩) → mvT fr tp p = (tp ++ ⟨#[47]⟩) ++ p.extract (fr ++ ⟨#[47]⟩).size p.size) := mvT_below
  have HS : Hid (p = fr → mvT fr tp p = tp) := fun e => by rw [e]; exact mvT_self fr tp
  have HN : Hid (p ≠ fr → ¬ HasPre p (fr ++ ⟨#[47]⟩) → mvT fr tp p = p) := fun e h => mvT_no (fun q => q.elim e h)
  have sz : (tp ++ (⟨#[47]⟩ : ByteArray)).size + (p.extract (fr ++ ⟨#[47]⟩).size p.size).size ≤ 9223372036854775807 := by rw [size_slM, ByteArray.size_extract]; omega
  generalize mvT fr tp p = R at *
  go_enter Tryz.func86, Tryz.ntmps86
  go_wp2_with fail
  refine (Calls.mono HC.out) ?_
  rintro e w' ⟨hcp, hw⟩
  have HW : Hid (w = w') := hw.symm
  clear hw HC
  rcases hcp with ⟨hpre, rfl⟩ | ⟨hpre, rfl⟩
  · have hb := HB.out hpre
    have HBB : Hid (R = (tp ++ ⟨#[47]⟩) ++ p.extract (fr ++ ⟨#[47]⟩).size p.size) := hb
    clear hb HB HN hpre
    generalize p.extract (fr ++ ⟨#[47]⟩).size p.size = X at *
    by_cases e : p = fr
    · subst e
      have r : (p.toList == p.toList) = true := by simp
      have HR : Hid (R = tp) := HS.out rfl
      clear HS HBB
      go_wp2
      go_ret
      exact ⟨by rw [HR.out]; rfl, HW.out⟩
    · have r := textNe e
      clear HS e
      go_wp2
      go_ret
      exact ⟨by rw [HBB.out]; rfl, HW.out⟩
  · have HNN : Hid (p ≠ fr → R = p) := fun e => HN.out e hpre
    clear HB HN hpre sz
    by_cases e : p = fr
    · subst e
      have r : (p.toList == p.toList) = true := by simp
      have HR : Hid (R = tp) := HS.out rfl
      clear HS HNN
      go_wp2
      go_ret
      exact ⟨by rw [HR.out]; rfl, HW.out⟩
    · have r := textNe e
      have HR : Hid (R = p) := HNN.out e
      clear HS HNN e
      go_wp2
      go_ret
      exact ⟨by rw [HR.out]; rfl, HW.out⟩
def AllM {n : Nat} (F : Nat → Fi) (fr tp : ByteArray) (pre : List {i : Nat // i < n}) : Prop := ∀ x ∈ pre, tp.size + 1 + ((F x.1).p.size - (fr.size + 1)) ≤ 40
def SomeM {n : Nat} (F : Nat → Fi) (fr tp : ByteArray) (pre : List {i : Nat // i < n}) : Prop := ∃ x ∈ pre, 40 < tp.size + 1 + ((F x.1).p.size - (fr.size + 1))
def rsM (F : Nat → Fi) (fr : ByteArray) (i : Nat) : ByteArray := (F i).p.extract (fr.size + 1) (F i).p.size
theorem ahead_sl {fr : ByteArray} (h : 0 < fr.size) : aheadT fr = fr ++ ⟨#[47]⟩ := by unfold aheadT; rw [if_neg (by omega)]
theorem rsM_eq {F : Nat → Fi} {fr : ByteArray} {i : Nat} (h : 0 < fr.size) : (F i).p.extract (aheadT fr).size (F i).p.size = rsM F fr i := by rw [ahead_sl h, size_slM]; rfl
theorem rsM_size (F : Nat → Fi) (fr : ByteArray) (i : Nat) : (rsM F fr i).size = (F i).p.size - (fr.size + 1) := by unfold rsM; rw [ByteArray.size_extract]; omega
/-- What moveFault answers. -/
def MfIs (n : Nat) (F : Nat → Fi) (fr tp : ByteArray) (k : Nat) (c : Int) : Prop :=
  (HasPre tp (fr ++ ⟨#[47]⟩) ∧ c = 15) ∨ (¬ HasPre tp (fr ++ ⟨#[47]⟩) ∧
    ((DirIs n F (par tp) c ∧ c ≠ 0) ∨ (DirIs n F (par tp) 0 ∧
      (((∃ j, j < n ∧ (F j).p = tp ∧ ((F j).d = true ∨ (F k).d = true)) ∧ c = 9) ∨ ((¬ ∃ j, j < n ∧ (F j).p = tp ∧ ((F j).d = true ∨ (F k).d = true)) ∧
        (((∃ i, i < n ∧ HasPre (F i).p (fr ++ ⟨#[47]⟩) ∧ 40 < tp.size + ((F i).p.size - fr.size)) ∧ c = 16) ∨ ((¬ ∃ i, i < n ∧ HasPre (F i).p (fr ++ ⟨#[47]⟩) ∧ 40 < tp.size + ((F i).p.size - fr.size)) ∧ c = 0)))))))
theorem blwN_mem {F : Nat → Fi} {h : ByteArray} {n : Nat} {x : {i : Nat // i < n}} : ∀ {k : Nat}, x ∈ blwN F h n k ↔ x.1 < k ∧ HasPre (F x.1).p h
  | 0 => by simp [blwN]
  | k + 1 => by
    have ih := blwN_mem (F := F) (h := h) (x := x) (k := k)
    by_cases hk : k < n
    · by_cases hp : HasPre (F k).p h
      · rw [blwN_yes hk hp, List.mem_append, ih, List.mem_singleton]
        constructor
        · rintro (⟨a, b⟩ | rfl)
          · exact ⟨by omega, b⟩
          · exact ⟨by show k < k + 1; omega, hp⟩
        · rintro ⟨a, b⟩
          by_cases e : x.1 = k
          · right; exact Subtype.ext e
          · left; exact ⟨by omega, b⟩
      · rw [blwN_no hp, ih]
        constructor
        · rintro ⟨a, b⟩; exact ⟨by omega, b⟩
        · rintro ⟨a, b⟩
          refine ⟨?_, b⟩
          rcases Nat.lt_or_ge x.1 k with q | q
          · exact q
          · have : x.1 = k := by omega
            rw [this] at b
            exact absurd b hp
    · have hx := x.2
      rw [blwN, dif_neg hk, List.append_nil, ih]
      constructor
      · rintro ⟨a, b⟩; exact ⟨by omega, b⟩
      · rintro ⟨a, b⟩; exact ⟨by omega, b⟩
set_option maxRecDepth 100000 in
set_option maxHeartbeats 8000000 in
theorem moveFault_any (a : Option Addr) (n c : Nat) (F : Nat → Fi) (fr tp : ByteArray) (k : Nat) (ho : FsOk n F) (hfr : PathOk fr) (htp : PathOk tp) (hk : k < n) (ek : (F k).p = fr) (w : World) (h : Els w 3 a n (fiF F)) :
    Calls Tryz.prog 83 #[.slice a n c, .string fr, .string tp] w fun e w' => (∃ x : Int, e = .returned (.int .i64 x) ∧ MfIs n F fr tp k x) ∧ Below w.heap.size w w' := by
  refine (callsIn_wide (n := 3)).1 ?_
  have hs := ho.srt
  have hn := ho.1
  have hpp : (par tp).size ≤ 40 := by have := htp.1; have := lastTo_le tp tp.size; unfold par; rw [ByteArray.size_extract]; omega
  obtain ⟨v1, hv1⟩ : ∃ v, v = (w.alloc (.cells #[.string tp] 9)).alloc (.cells #[.int .i64 0] 3) := ⟨_, rfl⟩
  have A1 : Hid (Below w.heap.size w v1) := by show Below _ _ _; rw [hv1]; exact ((Below.refl _ _).alloc (Nat.le_refl _) _).alloc (by simp) _
  have P1 : Hid (Bx1 v1 w.heap.size (.string tp)) := by show Bx1 _ _ _; rw [hv1]; exact (Bx1.new w _ _).alloc _
  have R1 : Hid (Bx1 v1 (w.heap.size + 1) (.int .i64 0)) := by show Bx1 _ _ _; rw [hv1]; have := Bx1.new (w.alloc (.cells #[.string tp] 9)) (.int .i64 0) 3; rw [World.size_alloc] at this; exact this
  have S1 : Hid (v1.heap.size = w.heap.size + 2) := by show _ = _; rw [hv1]; simp
  have HV : Hid ((w.alloc (.cells #[.string tp] 9)).alloc (.cells #[.int .i64 0] 3) = v1) := hv1.symm
  have H : Hid (Els w 3 a n (fiF F)) := h
  have HP : Hid (∀ u : World, CallsIn Fence.wide 2 Tryz.prog 108 #[.string tp, .string (fr ++ ⟨#[47]⟩)] u fun e w' => Says e (HasPre tp (fr ++ ⟨#[47]⟩)) ∧ u = w') := fun u => callsIn_wide.2 (hasPrefix_any _ _ u)
  have PA : Hid (∀ u : World, CallsIn Fence.wide 2 Tryz.prog 33 #[.string tp] u fun e w' => e = .returned (.string (par tp)) ∧ u = w') := fun u => callsIn_wide.2 ((parentOf_any tp (by have := htp.1; omega) u).mono fun _ _ z => ⟨z.1, z.2.symm⟩)
  have DF : Hid (∀ u : World, Below w.heap.size w u → CallsIn Fence.wide 2 Tryz.prog 32 #[.slice a n c, .string (par tp)] u fun e w' => (∃ x : Int, e = .returned (.int .i64 x) ∧ DirIs n F (par tp) x) ∧ Below u.heap.size u w') := fun u hb => callsIn_wide.2 (dirFault_any a n c F (par tp) hs hpp (by omega) u (h.below hb))
  have TH : Hid (∀ u : World, Below w.heap.size w u → CallsIn Fence.wide 2 Tryz.prog 69 #[.slice a n c, .string tp] u fun e w' => Says e (∃ j, j < n ∧ (F j).p = tp) ∧ Below u.heap.size u w') := fun u hb => callsIn_wide.2 (isThere_any a n c F tp hs htp.1 (by omega) u (h.below hb))
  have FD : Hid (∀ (q : ByteArray) (u : World), q.size ≤ 40 → Below w.heap.size w u → CallsIn Fence.wide 2 Tryz.prog 70 #[.slice a n c, .string q, .func (.func 31) #[] #[]] u fun e w' => (∃ y : Fi, e = .returned (.agg #[.string y.p, .bool y.d, .string y.t]) ∧ FindIs n F q y) ∧ Below u.heap.size u w') := fun q u hq hb => callsIn_wide.2 (findF_any a n c F q hs hq (by omega) u (h.below hb))
  have BL : Hid (∀ u : World, CallsIn Fence.wide 2 Tryz.prog 89 #[.slice a n c, .string fr] u fun e w'' => e = .returned (.func (.func 113) #[] #[.pointer (some ⟨u.heap.size + 1, 0, none⟩), .pointer (some ⟨u.heap.size, 0, none⟩)]) ∧ w'' = (u.alloc (.cells #[.slice a n c] 23)).alloc (.cells #[.string fr] 9)) := fun u => callsIn_wide.2 (below_any a n c fr u)
  have HZ : Hid (fr.size ≤ 40 ∧ tp.size ≤ 40 ∧ 0 < fr.size) := ⟨hfr.1, htp.1, pathOk_pos hfr⟩
  have HKK : Hid (k < n ∧ (F k).p = fr ∧ n ≤ 12 ∧ Srt n F ∧ ∀ i, i < n → (F i).p.size ≤ 40) := ⟨hk, ek, hn, hs, fun i hi => (hs.ok i hi).1⟩
  have fz : fr.size + 1 ≤ 9223372036854775807 := by have := hfr.1; omega
  clear h ho hfr htp hk ek hs hpp hv1
  refine callsIn_of_wp_marks Tryz.func83 rfl trivial ?_ rfl
  simp only [Tryz.ntmps83, List.size_toArray, List.length_cons, List.length_nil, Nat.reduceAdd, Nat.reduceSub, Array.replicate_succ, Array.replicate_zero, List.push_toArray, List.append_toArray, List.nil_append, List.cons_append]
  have pc := P1.out.1
  rw [← HV.out] at pc
  gi_wp2_with fail
  rw [HV.out]
  clear pc HV
  refine ⟨trivial, (HP.out _).mono ?_⟩
  rintro e _ ⟨⟨b, rfl, hb⟩, rfl⟩
  have HB1 : Hid (b = true ↔ HasPre tp (fr ++ ⟨#[47]⟩)) := hb
  clear hb HP
  cases b with
  | true =>
    have HM : Hid (MfIs n F fr tp k 15) := .inl ⟨HB1.out.1 rfl, rfl⟩
    have r0 := R1.out.1
    have r1 := R1.out.2
    clear HB1
    gi_wp2
    have X1 := (R1.out.set (.int .i64 15)).1
    exact ⟨.int .i64 15, by simp [results, Tryz.f83, go_sem, X1], ⟨_, rfl, HM.out⟩, A1.out.setCell (p := ⟨w.heap.size + 1, 0, none⟩) (by simp) _⟩
  | false =>
    have HN1 : Hid (¬ HasPre tp (fr ++ ⟨#[47]⟩)) := fun q => by have := HB1.out.2 q; cases this
    clear HB1
    have pc := P1.out.1
    gi_wp2_with fail
    refine ⟨trivial, (PA.out _).mono ?_⟩
    rintro e _ ⟨rfl, rfl⟩
    clear PA pc
    gi_wp2_with fail
    refine ⟨trivial, (DF.out _ A1.out).mono ?_⟩
    rintro e v2 ⟨⟨x, rfl, hx⟩, hb⟩
    have B2 : Hid (Below w.heap.size w v2) := A1.out.trans (hb.mono A1.out.size)
    have P2 : Hid (Bx1 v2 w.heap.size (.string tp)) := P1.out.below hb
    have R2 : Hid (Bx1 v2 (w.heap.size + 1) (.int .i64 0)) := R1.out.below hb
    have S2 : Hid (w.heap.size + 2 ≤ v2.heap.size) := by have := hb.size; have := S1.out; show _ ≤ _; omega
    have HD : Hid (DirIs n F (par tp) x) := hx
    clear hx hb DF A1 P1 R1 S1
    by_cases h0 : x = 0
    · subst h0
      have pc := P2.out.1
      gi_wp2_with fail
      refine ⟨trivial, (TH.out _ B2.out).mono ?_⟩
      rintro e v3 ⟨⟨y, rfl, hy⟩, hb⟩
      have B3 : Hid (Below w.heap.size w v3) := B2.out.trans (hb.mono B2.out.size)
      have P3 : Hid (Bx1 v3 w.heap.size (.string tp)) := P2.out.below hb
      have R3 : Hid (Bx1 v3 (w.heap.size + 1) (.int .i64 0)) := R2.out.below hb
      have S3 : Hid (w.heap.size + 2 ≤ v3.heap.size) := by have := hb.size; have := S2.out; show _ ≤ _; omega
      have HY : Hid (y = true ↔ ∃ j, j < n ∧ (F j).p = tp) := hy
      clear hy hb TH B2 P2 R2 S2 pc
--@@LOOP
      cases y with
      | false =>
        have HNT : Hid (¬ ∃ j, j < n ∧ (F j).p = tp ∧ ((F j).d = true ∨ (F k).d = true)) := fun ⟨j, hj, e, _⟩ => by have := HY.out.2 ⟨j, hj, e⟩; cases this
        clear HY FD
        have BV : Hid (Below w.heap.size w v3) := B3.out
        have PV : Hid (Bx1 v3 w.heap.size (.string tp)) := P3.out
        have RV : Hid (Bx1 v3 (w.heap.size + 1) (.int .i64 0)) := R3.out
        have SV : Hid (w.heap.size + 2 ≤ v3.heap.size) := S3.out
        have pcl := True.intro
        clear B3 P3 R3 S3
        gi_wp2_with fail
        refine ⟨trivial, ?_⟩
        gi_wp2_with fail
        · rename_i h1 h2; exact absurd h1 (by simp [undef])
        · rename_i h1 h2; exact absurd h1 (by simp [undef])
        refine ⟨trivial, ?_⟩
        gi_wp2_with fail
        refine ⟨trivial, (BL.out _).mono ?_⟩
        rintro e v6 ⟨rfl, hv6⟩
        have hb6 : Below v3.heap.size v3 v6 := by rw [hv6]; exact ((Below.refl _ _).alloc (Nat.le_refl _) _).alloc (by simp) _
        have L6 : Bx1 v6 v3.heap.size (.slice a n c) := by rw [hv6]; exact (Bx1.new _ _ _).alloc _
        have M6 : Bx1 v6 (v3.heap.size + 1) (.string fr) := by rw [hv6]; have := Bx1.new (v3.alloc (.cells #[.slice a n c] 23)) (.string fr) 9; rw [World.size_alloc] at this; exact this
        have s6 : v6.heap.size = v3.heap.size + 2 := by rw [hv6]; simp
        have B6 : Hid (Below w.heap.size w v6) := BV.out.trans (hb6.mono BV.out.size)
        have P6 : Hid (Bx1 v6 w.heap.size (.string tp)) := PV.out.below hb6
        have R6 : Hid (Bx1 v6 (w.heap.size + 1) (.int .i64 0)) := RV.out.below hb6
        have HQ : Hid (∀ g, (g = v3.heap.size ∨ g = v3.heap.size + 1 ∨ g < w.heap.size) → g < v6.heap.size ∧ g ≠ w.heap.size + 1) := fun g hg => by have h1 := SV.out; have h2 := s6; rcases hg with rfl | rfl | hg <;> omega
        clear s6
        have SQ := below_stopsN (fun g => g = v3.heap.size ∨ g = v3.heap.size + 1 ∨ g < w.heap.size) (v3.heap.size + 1) v3.heap.size a n c F fr v6 (3 - 1) M6.1 L6.1 (H.out.below B6.out) (.inr (.inl rfl)) (.inl rfl) (fun hn0 q e => by
            obtain ⟨b', off', e', hc⟩ := H.out 0 hn0
            have hlt := strBlock (hc 0 (by omega))
            rw [e'] at e
            cases e
            exact .inr (.inr hlt)) (by omega) HZ.out.1 (fun g hg => (HQ.out g hg).1)
        clear hb6 L6 M6 hv6 BV PV RV BL pcl
        gi_wp2_with fail
        refine wpIn_rangeFunc_ownF rfl (by omega) (gf := 113) (lb := #[.pointer (some ⟨v3.heap.size + 1, 0, none⟩), .pointer (some ⟨v3.heap.size, 0, none⟩)]) rfl trivial (enters_of Tryz.func113 (by kernel_rfl) rfl)
          SQ KpQ.tr (fun W l o o' hl hh _ _ => KpQ.put (w := v6) (fun g hg => (HQ.out g hg).1) W l o o' hl hh) (Below.refl _ _) (fun _ => rfl)
          (fun (pre : List {i : Nat // i < n}) W => AllM F fr tp pre ∧ Below v6.heap.size v6 W)
          (fun cc (pre : List {i : Nat // i < n}) W => ((cc = .ret ∧ SomeM F fr tp pre) ∧ Bx1 W (w.heap.size + 1) (.int .i64 16)) ∧ Below w.heap.size w W)
          (OwnFrom.and (ownFrom_pure _ (fun (pre : List {i : Nat // i < n}) => AllM F fr tp pre)) (ownFrom_below (Nat.le_refl _) (Nat.le_refl _)))
          (fun cc => OwnFrom.and (OwnFrom.and (ownFrom_pure _ (fun (pre : List {i : Nat // i < n}) => cc = .ret ∧ SomeM F fr tp pre)) (Own.from (bx1_own _ _) _)) (ownFrom_below (Nat.le_refl _) B6.out.size))
          ⟨(fun x hx => by cases hx), Below.refl _ _⟩
          (fun x => { tmps := #[.slice a n c, .string fr, .string tp, undef, undef, .pointer (some ⟨w.heap.size, 0, none⟩), .pointer (some ⟨w.heap.size + 1, 0, none⟩), .int .i64 0, .string (rsM F fr x.1), .string tp, .string fr, .string (fr ++ ⟨#[47]⟩), .bool false, .slice a n c, .string tp, .string (par tp), .int .i64 0, .int .i64 0, .bool false, undef, .slice a n c, .string tp, .bool false, .bool false, undef, undef, undef, undef, undef, undef, undef, undef, undef, undef, .bool false, .slice a n c, .string fr, .func (.func 113) #[] #[.pointer (some ⟨v3.heap.size + 1, 0, none⟩), .pointer (some ⟨v3.heap.size, 0, none⟩)], .string (rsM F fr x.1), .agg #[.string (F x.1).p, .bool (F x.1).d, .string (F x.1).t], undef, undef, undef, undef, undef, undef, undef], defers := [] }) ?assign ?body ?done ?stop
        case assign =>
          intro l x W K hK
          simp only [encN, encB]
          have HR : Hid ((F x.1).p.extract (aheadT fr).size (F x.1).p.size = rsM F fr x.1) := rsM_eq HZ.out.2.2
          rw [HR.out]
          gi_wp2
          simpa using hK
        case body =>
          rintro l pre x W ⟨hpre, hB⟩ _
          have xz : (F x.1).p.size ≤ 40 := HKK.out.2.2.2.2 x.1 x.2
          have rz : (rsM F fr x.1).size = (F x.1).p.size - (fr.size + 1) := rsM_size _ _ _
          have hz := HZ.out
          have p1 := (P6.out.below hB).1
          have r0 := (R6.out.below hB).1
          have r1 := (R6.out.below hB).2
          have RW : Hid (Bx1 W (w.heap.size + 1) (.int .i64 0)) := R6.out.below hB
          have BW : Hid (Below w.heap.size w W) := B6.out.trans (hB.mono B6.out.size)
          have HPR : Hid (AllM F fr tp pre) := hpre
          have HBv : Hid (Below v6.heap.size v6 W) := hB
          have HRZ : Hid ((rsM F fr x.1).size = (F x.1).p.size - (fr.size + 1)) := rz
          clear hpre hB SQ
          dsimp only
          generalize rsM F fr x.1 = R at *
          have rl : R.size ≤ 40 := by omega
          have tl := hz.2.1
          clear hz rz
          by_cases hlong : 40 < tp.size + 1 + R.size
          · have g1 : (40 : Int) < (tp.size : Int) + 1 + (R.size : Int) := by omega
            have HL : Hid (40 < tp.size + 1 + ((F x.1).p.size - (fr.size + 1))) := by have := HRZ.out; show _ < _; omega
            clear HRZ
            gi_wp2
            exact ⟨KeepsOthers.setCell _ _ _, ⟨⟨rfl, x, by simp, HL.out⟩, RW.out.set _⟩, BW.out.setCell (p := ⟨w.heap.size + 1, 0, none⟩) (by simp) _⟩
          · have g1 : ¬ (40 : Int) < (tp.size : Int) + 1 + (R.size : Int) := by omega
            have HL : Hid (tp.size + 1 + ((F x.1).p.size - (fr.size + 1)) ≤ 40) := by have := HRZ.out; show _ ≤ _; omega
            clear HRZ
            gi_wp2
            refine ⟨KeepsOthers.refl _, KpQ.refl _ _, fun y hy => ?_, HBv.out⟩
            rcases List.mem_append.1 hy with q | q
            · exact HPR.out y q
            · obtain rfl := List.mem_singleton.1 q
              exact HL.out
        case stop =>
          rintro D cc pre W hD hpre ⟨⟨⟨rfl, x, hx, hlong⟩, q1⟩, hB⟩ hK
          have HM : Hid (MfIs n F fr tp k 16) := by
            refine .inr ⟨HN1.out, .inr ⟨HD.out, .inr ⟨HNT.out, .inl ⟨?_, rfl⟩⟩⟩⟩
            have hm := (blwN_mem (k := n)).1 (hpre.subset hx)
            have hp := hm.2
            rw [ahead_sl HZ.out.2.2] at hp
            have h1 := hp.1
            rw [size_slM] at h1
            exact ⟨x.1, x.2, hp, by omega⟩
          clear hx hlong hpre SQ
          gi_wp2
          refine ⟨by simp, .inl ⟨_, _, rfl, run_takeDeferred hK, ?_⟩⟩
          have X1 := (q1.putO (.deferred none) hK rfl).1
          exact ⟨.int .i64 16, by simp [results, Tryz.f83, go_sem, X1], ⟨_, rfl, HM.out⟩, hB.trans (belowK_b (w := w) (Nat.le_refl _) W D _ _ (by have := B6.out.size; omega) hK rfl rfl)⟩
        case done =>
          rintro D xs W hD hxs ⟨hall, hB⟩ hK
          have HM : Hid (MfIs n F fr tp k 0) := by
            refine .inr ⟨HN1.out, .inr ⟨HD.out, .inr ⟨HNT.out, .inr ⟨?_, rfl⟩⟩⟩⟩
            rintro ⟨i, hi, hp, hl⟩
            subst hxs
            have h1 := hp.1
            rw [size_slM] at h1
            have := hall ⟨i, hi⟩ ((blwN_mem (k := n)).2 ⟨hi, by rw [ahead_sl HZ.out.2.2]; exact hp⟩)
            simp only at this
            omega
          have RW : Hid (Bx1 W (w.heap.size + 1) (.int .i64 0)) := R6.out.below hB
          have BW : Hid (Below w.heap.size w W) := B6.out.trans (hB.mono B6.out.size)
          have r0 := RW.out.1
          have r1 := RW.out.2
          have HK0 : Hid (W.heap[D]? = some (.deferred (some []))) := hK
          clear hall hxs hB hK SQ
          gi_wp2
          have K3 := (KeepsOthers.setCell W ⟨w.heap.size + 1, 0, none⟩ (.int .i64 0)).same D _ HK0.out rfl
          refine ⟨by simp, .inl ⟨_, _, rfl, run_takeDeferred K3, ?_⟩⟩
          have X1 := ((RW.out.set (.int .i64 0)).putO (.deferred none) K3 rfl).1
          exact ⟨.int .i64 0, by simp [results, Tryz.f83, go_sem, X1], ⟨_, rfl, HM.out⟩, (BW.out.setCell (p := ⟨w.heap.size + 1, 0, none⟩) (by simp) _).trans (belowK_b (w := w) (Nat.le_refl _) _ D _ _ (by have := B6.out.size; omega) K3 rfl rfl)⟩
      | true =>
        have HJ : Hid (∃ j, j < n ∧ (F j).p = tp) := HY.out.1 rfl
        have HF1 : Hid (∀ (p : ByteArray) (d : Bool) (t : ByteArray) (w : World), (Instr.field 51 (.agg #[.string p, .bool d, .string t]) 1).run Tryz.prog w = .ok (.bool d) w) := fieldFi1
        clear HY
        gi_wp2_with fail
        refine ⟨trivial, (FD.out fr _ HZ.out.1 B3.out).mono ?_⟩
        rintro e v4 ⟨⟨y1, rfl, hy1⟩, hb⟩
        have B4 : Hid (Below w.heap.size w v4) := B3.out.trans (hb.mono B3.out.size)
        have P4 : Hid (Bx1 v4 w.heap.size (.string tp)) := P3.out.below hb
        have R4 : Hid (Bx1 v4 (w.heap.size + 1) (.int .i64 0)) := R3.out.below hb
        have S4 : Hid (w.heap.size + 2 ≤ v4.heap.size) := by have := hb.size; have := S3.out; show _ ≤ _; omega
        have HY1 : Hid (y1 = F k) := by
          show y1 = F k
          rcases hy1 with ⟨j, hj, e, rfl⟩ | ⟨hno, _⟩
          · rw [HKK.out.2.2.2.1.uniq hj HKK.out.1 (e.trans HKK.out.2.1.symm)]
          · exact absurd HKK.out.2.1 (hno k HKK.out.1)
        have ff1 := HF1.out y1.p y1.d y1.t
        clear hy1 hb B3 P3 R3 S3
        obtain ⟨q1, d1, t1⟩ := y1
        dsimp only at *
        cases d1 with
        | true =>
          have HM : Hid (MfIs n F fr tp k 9) := by
            obtain ⟨j, hj, e⟩ := HJ.out
            exact .inr ⟨HN1.out, .inr ⟨HD.out, .inl ⟨⟨j, hj, e, .inr (by rw [← HY1.out])⟩, rfl⟩⟩⟩
          have r0 := R4.out.1
          have r1 := R4.out.2
          clear HY1 HJ FD HF1
          gi_wp2_with fail
          refine ⟨trivial, ?_⟩
          gi_wp2
          have X1 := (R4.out.set (.int .i64 9)).1
          exact ⟨.int .i64 9, by simp [results, Tryz.f83, go_sem, X1], ⟨_, rfl, HM.out⟩, B4.out.setCell (p := ⟨w.heap.size + 1, 0, none⟩) (by simp) _⟩
        | false =>
          have HDK : Hid ((F k).d = false) := by show _ = _; rw [← HY1.out]
          have pcl := P4.out.1
          clear HY1
          gi_wp2_with fail
          refine ⟨trivial, (FD.out tp _ HZ.out.2.1 B4.out).mono ?_⟩
          rintro e v5 ⟨⟨y2, rfl, hy2⟩, hb⟩
          have BV : Hid (Below w.heap.size w v5) := B4.out.trans (hb.mono B4.out.size)
          have PV : Hid (Bx1 v5 w.heap.size (.string tp)) := P4.out.below hb
          have RV : Hid (Bx1 v5 (w.heap.size + 1) (.int .i64 0)) := R4.out.below hb
          have SV : Hid (w.heap.size + 2 ≤ v5.heap.size) := by have := hb.size; have := S4.out; show _ ≤ _; omega
          have HY2 : Hid (∃ j, j < n ∧ (F j).p = tp ∧ y2 = F j) := by
            rcases hy2 with h | ⟨hno, _⟩
            · exact h
            · obtain ⟨j, hj, e⟩ := HJ.out
              exact absurd e (hno j hj)
          have ff2 := HF1.out y2.p y2.d y2.t
          clear hy2 hb B4 P4 R4 S4 FD HF1 HJ
          obtain ⟨q2, d2, t2⟩ := y2
          dsimp only at *
          cases d2 with
          | true =>
            have HM : Hid (MfIs n F fr tp k 9) := by
              obtain ⟨j, hj, e, ey⟩ := HY2.out
              exact .inr ⟨HN1.out, .inr ⟨HD.out, .inl ⟨⟨j, hj, e, .inl (by rw [← ey])⟩, rfl⟩⟩⟩
            have r0 := RV.out.1
            have r1 := RV.out.2
            clear HY2 HDK
            gi_wp2
            have X1 := (RV.out.set (.int .i64 9)).1
            exact ⟨.int .i64 9, by simp [results, Tryz.f83, go_sem, X1], ⟨_, rfl, HM.out⟩, BV.out.setCell (p := ⟨w.heap.size + 1, 0, none⟩) (by simp) _⟩
          | false =>
            have HNT : Hid (¬ ∃ j, j < n ∧ (F j).p = tp ∧ ((F j).d = true ∨ (F k).d = true)) := fun ⟨j, hj, e, hd⟩ => by
              obtain ⟨j2, hj2, e2, ey⟩ := HY2.out
              obtain rfl := HKK.out.2.2.2.1.uniq hj hj2 (e.trans e2.symm)
              rcases hd with q | q
              · rw [← ey] at q; cases q
              · rw [HDK.out] at q; cases q
            clear HY2 HDK
            gi_wp2_with fail
            refine ⟨trivial, (BL.out _).mono ?_⟩
            rintro e v6 ⟨rfl, hv6⟩
            have hb6 : Below v5.heap.size v5 v6 := by rw [hv6]; exact ((Below.refl _ _).alloc (Nat.le_refl _) _).alloc (by simp) _
            have L6 : Bx1 v6 v5.heap.size (.slice a n c) := by rw [hv6]; exact (Bx1.new _ _ _).alloc _
            have M6 : Bx1 v6 (v5.heap.size + 1) (.string fr) := by rw [hv6]; have := Bx1.new (v5.alloc (.cells #[.slice a n c] 23)) (.string fr) 9; rw [World.size_alloc] at this; exact this
            have s6 : v6.heap.size = v5.heap.size + 2 := by rw [hv6]; simp
            have B6 : Hid (Below w.heap.size w v6) := BV.out.trans (hb6.mono BV.out.size)
            have P6 : Hid (Bx1 v6 w.heap.size (.string tp)) := PV.out.below hb6
            have R6 : Hid (Bx1 v6 (w.heap.size + 1) (.int .i64 0)) := RV.out.below hb6
            have HQ : Hid (∀ g, (g = v5.heap.size ∨ g = v5.heap.size + 1 ∨ g < w.heap.size) → g < v6.heap.size ∧ g ≠ w.heap.size + 1) := fun g hg => by have h1 := SV.out; have h2 := s6; rcases hg with rfl | rfl | hg <;> omega
            clear s6
            have SQ := below_stopsN (fun g => g = v5.heap.size ∨ g = v5.heap.size + 1 ∨ g < w.heap.size) (v5.heap.size + 1) v5.heap.size a n c F fr v6 (3 - 1) M6.1 L6.1 (H.out.below B6.out) (.inr (.inl rfl)) (.inl rfl) (fun hn0 q e => by
                obtain ⟨b', off', e', hc⟩ := H.out 0 hn0
                have hlt := strBlock (hc 0 (by omega))
                rw [e'] at e
                cases e
                exact .inr (.inr hlt)) (by omega) HZ.out.1 (fun g hg => (HQ.out g hg).1)
            clear hb6 L6 M6 hv6 BV PV RV BL pcl
            gi_wp2_with fail
            refine wpIn_rangeFunc_ownF rfl (by omega) (gf := 113) (lb := #[.pointer (some ⟨v5.heap.size + 1, 0, none⟩), .pointer (some ⟨v5.heap.size, 0, none⟩)]) rfl trivial (enters_of Tryz.func113 (by kernel_rfl) rfl)
              SQ KpQ.tr (fun W l o o' hl hh _ _ => KpQ.put (w := v6) (fun g hg => (HQ.out g hg).1) W l o o' hl hh) (Below.refl _ _) (fun _ => rfl)
              (fun (pre : List {i : Nat // i < n}) W => AllM F fr tp pre ∧ Below v6.heap.size v6 W)
              (fun cc (pre : List {i : Nat // i < n}) W => ((cc = .ret ∧ SomeM F fr tp pre) ∧ Bx1 W (w.heap.size + 1) (.int .i64 16)) ∧ Below w.heap.size w W)
              (OwnFrom.and (ownFrom_pure _ (fun (pre : List {i : Nat // i < n}) => AllM F fr tp pre)) (ownFrom_below (Nat.le_refl _) (Nat.le_refl _)))
              (fun cc => OwnFrom.and (OwnFrom.and (ownFrom_pure _ (fun (pre : List {i : Nat // i < n}) => cc = .ret ∧ SomeM F fr tp pre)) (Own.from (bx1_own _ _) _)) (ownFrom_below (Nat.le_refl _) B6.out.size))
              ⟨(fun x hx => by cases hx), Below.refl _ _⟩
              (fun x => { tmps := #[.slice a n c, .string fr, .string tp, undef, undef, .pointer (some ⟨w.heap.size, 0, none⟩), .pointer (some ⟨w.heap.size + 1, 0, none⟩), .int .i64 0, .string (rsM F fr x.1), .string tp, .string fr, .string (fr ++ ⟨#[47]⟩), .bool false, .slice a n c, .string tp, .string (par tp), .int .i64 0, .int .i64 0, .bool false, undef, .slice a n c, .string tp, .bool true, .bool true, .slice a n c, .string fr, .agg #[.string q1, .bool false, .string t1], .bool false, .bool false, .slice a n c, .string tp, .agg #[.string q2, .bool false, .string t2], .bool false, .bool false, .bool false, .slice a n c, .string fr, .func (.func 113) #[] #[.pointer (some ⟨v5.heap.size + 1, 0, none⟩), .pointer (some ⟨v5.heap.size, 0, none⟩)], .string (rsM F fr x.1), .agg #[.string (F x.1).p, .bool (F x.1).d, .string (F x.1).t], undef, undef, undef, undef, undef, undef, undef], defers := [] }) ?assign ?body ?done ?stop
            case assign =>
              intro l x W K hK
              simp only [encN, encB]
              have HR : Hid ((F x.1).p.extract (aheadT fr).size (F x.1).p.size = rsM F fr x.1) := rsM_eq HZ.out.2.2
              rw [HR.out]
              gi_wp2
              simpa using hK
            case body =>
              rintro l pre x W ⟨hpre, hB⟩ _
              have xz : (F x.1).p.size ≤ 40 := HKK.out.2.2.2.2 x.1 x.2
              have rz : (rsM F fr x.1).size = (F x.1).p.size - (fr.size + 1) := rsM_size _ _ _
              have hz := HZ.out
              have p1 := (P6.out.below hB).1
              have r0 := (R6.out.below hB).1
              have r1 := (R6.out.below hB).2
              have RW : Hid (Bx1 W (w.heap.size + 1) (.int .i64 0)) := R6.out.below hB
              have BW : Hid (Below w.heap.size w W) := B6.out.trans (hB.mono B6.out.size)
              have HPR : Hid (AllM F fr tp pre) := hpre
              have HBv : Hid (Below v6.heap.size v6 W) := hB
              have HRZ : Hid ((rsM F fr x.1).size = (F x.1).p.size - (fr.size + 1)) := rz
              clear hpre hB SQ
              dsimp only
              generalize rsM F fr x.1 = R at *
              have rl : R.size ≤ 40 := by omega
              have tl := hz.2.1
              clear hz rz
              by_cases hlong : 40 < tp.size + 1 + R.size
              · have g1 : (40 : Int) < (tp.size : Int) + 1 + (R.size : Int) := by omega
                have HL : Hid (40 < tp.size + 1 + ((F x.1).p.size - (fr.size + 1))) := by have := HRZ.out; show _ < _; omega
                clear HRZ
                gi_wp2
                exact ⟨KeepsOthers.setCell _ _ _, ⟨⟨rfl, x, by simp, HL.out⟩, RW.out.set _⟩, BW.out.setCell (p := ⟨w.heap.size + 1, 0, none⟩) (by simp) _⟩
              · have g1 : ¬ (40 : Int) < (tp.size : Int) + 1 + (R.size : Int) := by omega
                have HL : Hid (tp.size + 1 + ((F x.1).p.size - (fr.size + 1)) ≤ 40) := by have := HRZ.out; show _ ≤ _; omega
                clear HRZ
                gi_wp2
                refine ⟨KeepsOthers.refl _, KpQ.refl _ _, fun y hy => ?_, HBv.out⟩
                rcases List.mem_append.1 hy with q | q
                · exact HPR.out y q
                · obtain rfl := List.mem_singleton.1 q
                  exact HL.out
            case stop =>
              rintro D cc pre W hD hpre ⟨⟨⟨rfl, x, hx, hlong⟩, q1⟩, hB⟩ hK
              have HM : Hid (MfIs n F fr tp k 16) := by
                refine .inr ⟨HN1.out, .inr ⟨HD.out, .inr ⟨HNT.out, .inl ⟨?_, rfl⟩⟩⟩⟩
                have hm := (blwN_mem (k := n)).1 (hpre.subset hx)
                have hp := hm.2
                rw [ahead_sl HZ.out.2.2] at hp
                have h1 := hp.1
                rw [size_slM] at h1
                exact ⟨x.1, x.2, hp, by omega⟩
              clear hx hlong hpre SQ
              gi_wp2
              refine ⟨by simp, .inl ⟨_, _, rfl, run_takeDeferred hK, ?_⟩⟩
              have X1 := (q1.putO (.deferred none) hK rfl).1
              exact ⟨.int .i64 16, by simp [results, Tryz.f83, go_sem, X1], ⟨_, rfl, HM.out⟩, hB.trans (belowK_b (w := w) (Nat.le_refl _) W D _ _ (by have := B6.out.size; omega) hK rfl rfl)⟩
            case done =>
              rintro D xs W hD hxs ⟨hall, hB⟩ hK
              have HM : Hid (MfIs n F fr tp k 0) := by
                refine .inr ⟨HN1.out, .inr ⟨HD.out, .inr ⟨HNT.out, .inr ⟨?_, rfl⟩⟩⟩⟩
                rintro ⟨i, hi, hp, hl⟩
                subst hxs
                have h1 := hp.1
                rw [size_slM] at h1
                have := hall ⟨i, hi⟩ ((blwN_mem (k := n)).2 ⟨hi, by rw [ahead_sl HZ.out.2.2]; exact hp⟩)
                simp only at this
                omega
              have RW : Hid (Bx1 W (w.heap.size + 1) (.int .i64 0)) := R6.out.below hB
              have BW : Hid (Below w.heap.size w W) := B6.out.trans (hB.mono B6.out.size)
              have r0 := RW.out.1
              have r1 := RW.out.2
              have HK0 : Hid (W.heap[D]? = some (.deferred (some []))) := hK
              clear hall hxs hB hK SQ
              gi_wp2
              have K3 := (KeepsOthers.setCell W ⟨w.heap.size + 1, 0, none⟩ (.int .i64 0)).same D _ HK0.out rfl
              refine ⟨by simp, .inl ⟨_, _, rfl, run_takeDeferred K3, ?_⟩⟩
              have X1 := ((RW.out.set (.int .i64 0)).putO (.deferred none) K3 rfl).1
              exact ⟨.int .i64 0, by simp [results, Tryz.f83, go_sem, X1], ⟨_, rfl, HM.out⟩, (BW.out.setCell (p := ⟨w.heap.size + 1, 0, none⟩) (by simp) _).trans (belowK_b (w := w) (Nat.le_refl _) _ D _ _ (by have := B6.out.size; omega) K3 rfl rfl)⟩
--@@END
    · have g : (x != 0) = true := by simpa using h0
      have HM : Hid (MfIs n F fr tp k x) := .inr ⟨HN1.out, .inl ⟨HD.out, h0⟩⟩
      have r0 := R2.out.1
      have r1 := R2.out.2
      clear HD h0
      gi_wp2
      have X1 := (R2.out.set (.int .i64 x)).1
      exact ⟨.int .i64 x, by simp [results, Tryz.f83, go_sem, X1], ⟨_, rfl, HM.out⟩, B2.out.setCell (p := ⟨w.heap.size + 1, 0, none⟩) (by simp) _⟩
end Go.Proofs.YtgcdoabcopihlaaGreat
