/-
  What stands in a directory: its paths' parent, told by their beginning.
-/
import Derived.Test.YtbdoablokoghbaaB01
import Derived.Test.YtbdoablokoghbaaFileW
import Derived.Test.YtbdoablokoghbaaFileFt
import Derived.Test.YtbdoablokoghbaaBelowI
import Derived.Test.YtbdoablokoghbaaFileRm
namespace Go.Proofs.Ytbdoablokoghbaa
open Go.ChangeShapes Go.WideShapes Go.ChangeAt Go.RowKit
set_option linter.unusedVariables false
theorem lastTo_spec (s : ByteArray) : ∀ k, (NoSl s 0 k ∧ lastTo s k = 0) ∨ (lastTo s k < k ∧ byteAt s (lastTo s k) = 47 ∧ NoSl s (lastTo s k + 1) k)
  | 0 => .inl ⟨fun j _ h => absurd h (by omega), rfl⟩
  | k + 1 => by
    unfold lastTo
    by_cases e : byteAt s k = 47
    · rw [if_pos e]
      exact .inr ⟨by omega, e, fun j h1 h2 => by omega⟩
    · rw [if_neg e]
      rcases lastTo_spec s k with ⟨h1, h2⟩ | ⟨h1, h2, h3⟩
      · refine .inl ⟨fun j a b => ?_, h2⟩
        by_cases q : j = k
        · subst q; exact e
        · exact h1 j a (by omega)
      · refine .inr ⟨by omega, h2, fun j a b => ?_⟩
        by_cases q : j = k
        · subst q; exact e
        · exact h3 j a (by omega)
theorem PathOk.first {s : ByteArray} (h : PathOk s) : byteAt s 0 ≠ 47 := fun e => by
  have h1 := h.2 (s.extract 0 0) (by rw [scan_hit s 0 0 (pathOk_pos h) e]; simp)
  have := h1.1
  rw [extract_size _ _ _ (Nat.zero_le _)] at this
  omega
theorem extract_snoc (s : ByteArray) (q : Nat) (h : q < s.size) (e : byteAt s q = 47) : s.extract 0 (q + 1) = s.extract 0 q ++ ⟨#[47]⟩ := by
  have g := (byteAt_sl s q h).1 e
  apply ByteArray.ext
  apply Array.ext'
  rw [ByteArray.data_append, Array.toList_append, extract_take, extract_take, List.take_add_one, g]
  rfl
theorem hasPre_sl {s p : ByteArray} (h : p.size + 1 ≤ s.size) (e : s.extract 0 (p.size + 1) = p ++ ⟨#[47]⟩) : s.extract 0 p.size = p ∧ byteAt s p.size = 47 := by
  have g : (s.extract 0 (p.size + 1)).data.toList = (p ++ (⟨#[47]⟩ : ByteArray)).data.toList := by rw [e]
  rw [extract_take, ByteArray.data_append, Array.toList_append, List.take_add_one] at g
  have hl : (s.data.toList.take p.size).length = p.data.toList.length := by
    rw [List.length_take, Array.length_toList, Array.length_toList]
    show min p.size s.size = p.size
    omega
  obtain ⟨g1, g2⟩ := List.append_inj g hl
  constructor
  · apply ByteArray.ext
    apply Array.ext'
    rw [extract_take]
    exact g1
  · refine (byteAt_sl s p.size (by omega)).2 ?_
    cases hh : s.data.toList[p.size]? with
    | none => rw [hh] at g2; cases g2
    | some x =>
      rw [hh] at g2
      have : [x] = ([47] : List UInt8) := g2
      cases this
      rfl
/-- A path's parent: what it begins with, and no slash behind that. -/
theorem par_iff {s p : ByteArray} (hs : PathOk s) : par s = p ↔ (HasPre s (aheadT p) ∧ NoSl s (aheadT p).size s.size) := by
  have hp := pathOk_pos hs
  constructor
  · rintro rfl
    rcases lastTo_spec s s.size with ⟨h1, h2⟩ | ⟨h1, h2, h3⟩
    · have e : par s = ⟨#[]⟩ := by unfold par; rw [h2]; exact extract_none s
      have e2 : aheadT (par s) = ⟨#[]⟩ := by rw [e]; rfl
      rw [e2]
      exact ⟨⟨Nat.zero_le _, extract_none s⟩, h1⟩
    · have hq : 0 < lastTo s s.size := by
        rcases Nat.eq_zero_or_pos (lastTo s s.size) with z | z
        · rw [z] at h2; exact absurd h2 hs.first
        · exact z
      have hps : (par s).size = lastTo s s.size := by unfold par; rw [extract_size _ _ _ (lastTo_le _ _)]; omega
      have e2 : aheadT (par s) = par s ++ ⟨#[47]⟩ := by unfold aheadT; rw [if_neg (by omega)]
      rw [e2]
      unfold HasPre
      rw [size_sl, hps]
      exact ⟨⟨by omega, extract_snoc s _ h1 h2⟩, h3⟩
  · rintro ⟨⟨h1, h2⟩, h3⟩
    by_cases e : p.size = 0
    · have e2 : aheadT p = ⟨#[]⟩ := by unfold aheadT; rw [if_pos e]
      rw [e2] at h3
      have ep : p = ⟨#[]⟩ := by
        apply ByteArray.ext
        apply Array.ext'
        have : p.data.toList.length = 0 := by rw [Array.length_toList]; exact e
        exact List.length_eq_zero_iff.1 this
      rcases lastTo_spec s s.size with ⟨_, g2⟩ | ⟨g1, g2, _⟩
      · unfold par; rw [g2, ep]; exact extract_none s
      · exact absurd g2 (h3 _ (Nat.zero_le _) g1)
    · have e2 : aheadT p = p ++ ⟨#[47]⟩ := by unfold aheadT; rw [if_neg e]
      rw [e2, size_sl] at h1 h2 h3
      obtain ⟨g1, g2⟩ := hasPre_sl h1 h2
      rcases lastTo_spec s s.size with ⟨k1, _⟩ | ⟨k1, k2, k3⟩
      · exact absurd g2 (k1 _ (Nat.zero_le _) (by omega))
      · have : lastTo s s.size = p.size := by
          rcases Nat.lt_trichotomy (lastTo s s.size) p.size with z | z | z
          · exact absurd g2 (k3 _ (by omega) (by omega))
          · exact z
          · exact absurd k2 (h3 _ (by omega) k1)
        unfold par
        rw [this]
        exact g1
end Go.Proofs.Ytbdoablokoghbaa

/-
  Moves of files: the mathematics.
-/
namespace Go.Proofs.Ytbdoablokoghbaa
open Go.ChangeShapes Go.WideShapes Go.ChangeAt Go.RowKit
set_option linter.unusedVariables false
theorem size_slM (p : ByteArray) : (p ++ (⟨#[47]⟩ : ByteArray)).size = p.size + 1 := by rw [ByteArray.size_append]; rfl
/-- A path that is moved with fr: fr itself, or below it. -/
def Mvd (fr p : ByteArray) : Prop := p = fr ∨ HasPre p (fr ++ ⟨#[47]⟩)
open Classical in
/-- Where a path stands once fr is moved to tp. -/
noncomputable def mvT (fr tp p : ByteArray) : ByteArray := if Mvd fr p then tp ++ p.extract fr.size p.size else p
noncomputable def mvF (fr tp : ByteArray) (x : Fi) : Fi := ⟨mvT fr tp x.p, x.d, x.t⟩
theorem mvT_yes {fr tp p : ByteArray} (h : Mvd fr p) : mvT fr tp p = tp ++ p.extract fr.size p.size := by unfold mvT; rw [if_pos h]
theorem mvT_no {fr tp p : ByteArray} (h : ¬ Mvd fr p) : mvT fr tp p = p := by unfold mvT; rw [if_neg h]
theorem toL_inj {s t : ByteArray} (h : s.data.toList = t.data.toList) : s = t := ByteArray.ext (Array.toList_inj.1 h)
theorem toL_app (s t : ByteArray) : (s ++ t).data.toList = s.data.toList ++ t.data.toList := by rw [ByteArray.data_append, Array.toList_append]
theorem toL_ext (s : ByteArray) (o e : Nat) : (s.extract o e).data.toList = (s.data.toList.take e).drop o := by
  simp [ByteArray.data_extract, List.extract_eq_take_drop, List.drop_take]
theorem toL_len (s : ByteArray) : s.data.toList.length = s.size := by rw [Array.length_toList]; rfl
theorem ext_join (s : ByteArray) (k : Nat) (hk : k ≤ s.size) : s.extract 0 k ++ s.extract k s.size = s := by
  refine toL_inj ?_
  have e : List.take s.size s.data.toList = s.data.toList := List.take_of_length_le (by rw [toL_len]; exact Nat.le_refl _)
  rw [toL_app, toL_ext, toL_ext, List.drop_zero, e, List.take_append_drop]
theorem hasPre_ex {s t : ByteArray} : HasPre s t ↔ ∃ r, s = t ++ r := by
  constructor
  · rintro ⟨h1, h2⟩
    exact ⟨s.extract t.size s.size, by conv => lhs; rw [← ext_join s t.size h1]; rw [h2]⟩
  · rintro ⟨r, rfl⟩
    refine ⟨by rw [ByteArray.size_append]; omega, toL_inj ?_⟩
    rw [toL_ext, toL_app, List.drop_zero, ← toL_len t, List.take_left]
theorem app_cancel {a b c : ByteArray} (h : a ++ b = a ++ c) : b = c := by
  refine toL_inj ?_
  have := congrArg (fun x => x.data.toList) h
  simp only [toL_app] at this
  exact List.append_cancel_left this
theorem mvd_join {fr p : ByteArray} (h : Mvd fr p) : p = fr ++ p.extract fr.size p.size := by
  rcases h with rfl | h
  · refine toL_inj ?_
    rw [toL_app, toL_ext, List.take_of_length_le (by rw [toL_len]; exact Nat.le_refl _), List.drop_of_length_le (by rw [toL_len]; exact Nat.le_refl _), List.append_nil]
  · obtain ⟨r, hr⟩ := hasPre_ex.1 h
    have h1 := h.1
    rw [size_slM] at h1
    conv => lhs; rw [← ext_join p fr.size (by omega)]
    congr 1
    rw [hr]
    refine toL_inj ?_
    rw [toL_ext, toL_app, toL_app, List.drop_zero, ← toL_len fr, List.append_assoc, List.take_left]
theorem mvT_inj {fr tp p q : ByteArray} (hp : Mvd fr p) (hq : Mvd fr q) (h : mvT fr tp p = mvT fr tp q) : p = q := by
  rw [mvT_yes hp, mvT_yes hq] at h
  rw [mvd_join hp, mvd_join hq, app_cancel h]
/-- What is moved stands at tp, or below it. -/
theorem mvT_under {fr tp p : ByteArray} (hp : Mvd fr p) : mvT fr tp p = tp ∨ HasPre (mvT fr tp p) (tp ++ ⟨#[47]⟩) := by
  rw [mvT_yes hp]
  rcases hp with rfl | h
  · left
    refine toL_inj ?_
    rw [toL_app, toL_ext, List.take_of_length_le (by rw [toL_len]; exact Nat.le_refl _), List.drop_of_length_le (by rw [toL_len]; exact Nat.le_refl _), List.append_nil]
  · right
    obtain ⟨r, rfl⟩ := hasPre_ex.1 h
    refine hasPre_ex.2 ⟨r, toL_inj ?_⟩
    rw [toL_app, toL_ext, List.take_of_length_le (by rw [toL_len]; exact Nat.le_refl _), toL_app, toL_app, toL_app, toL_app, ← toL_len fr, List.append_assoc, List.drop_left, List.append_assoc]
/-- Where something stands below a path, there is a directory. -/
theorem under_dir {n : Nat} {F : Nat → Fi} (h : FsOk n F) {tp : ByteArray} (ht : 0 < tp.size) : ∀ (s i : Nat), i < n → (F i).p.size ≤ s → HasPre (F i).p (tp ++ ⟨#[47]⟩) → ∃ j, j < n ∧ (F j).p = tp ∧ (F j).d = true := by
  intro s
  induction s with
  | zero => intro i hi hs hu; have := hu.1; rw [size_slM] at this; omega
  | succ s ih =>
    intro i hi hs hu
    have hsz := hu.1
    rw [size_slM] at hsz
    have hby : byteAt (F i).p tp.size = 47 := by
      obtain ⟨r, hr⟩ := hasPre_ex.1 hu
      refine (byteAt_sl _ _ (by omega)).2 ?_
      rw [hr, toL_app, toL_app, List.append_assoc, List.getElem?_append_right (by rw [toL_len]; exact Nat.le_refl _), toL_len, Nat.sub_self]
      rfl
    rcases lastTo_spec (F i).p (F i).p.size with ⟨h1, _⟩ | ⟨h1, h2, h3⟩
    · exact absurd hby (h1 _ (by omega) (by omega))
    · have hle : tp.size ≤ lastTo (F i).p (F i).p.size := by
        rcases Nat.lt_or_ge (lastTo (F i).p (F i).p.size) tp.size with q | q
        · exact absurd hby (h3 _ (by omega) (by omega))
        · exact q
      have hq : (par (F i).p).size = lastTo (F i).p (F i).p.size := by unfold par; rw [ByteArray.size_extract]; omega
      rcases (h.2 i hi).2.2 with z | ⟨j, hj, ej, dj⟩
      · omega
      · rcases Nat.eq_or_lt_of_le hle with e | e
        · refine ⟨j, hj, ?_, dj⟩
          rw [ej]
          unfold par
          rw [← e]
          obtain ⟨r, hr⟩ := hasPre_ex.1 hu
          rw [hr]
          refine toL_inj ?_
          rw [toL_ext, toL_app, toL_app, List.drop_zero, ← toL_len tp, List.append_assoc, List.take_left]
        · refine ih j hj (by rw [ej, hq]; omega) ?_
          rw [ej]
          refine ⟨by rw [size_slM, hq]; omega, ?_⟩
          refine Eq.trans ?_ hu.2
          unfold par
          refine toL_inj ?_
          rw [toL_ext, toL_ext, toL_ext, List.drop_zero, List.drop_zero, List.drop_zero, List.take_take, size_slM]
          congr 1
          omega
/-- Moved paths are all different. -/
theorem mv_apart {n : Nat} {F : Nat → Fi} (h : FsOk n F) {fr tp : ByteArray} (ht : 0 < tp.size) (hd : ∀ j, j < n → (F j).p = tp → (F j).d = false) {i j : Nat} (hi : i < n) (hj : j < n) (ei : (F i).p ≠ tp) (ej : (F j).p ≠ tp) (e : mvT fr tp (F i).p = mvT fr tp (F j).p) : i = j := by
  have key : ∀ {i j : Nat}, i < n → j < n → (F j).p ≠ tp → Mvd fr (F i).p → ¬ Mvd fr (F j).p → mvT fr tp (F i).p = mvT fr tp (F j).p → False := fun {i j} hi hj ej hm hu e => by
    rw [mvT_no hu] at e
    rcases mvT_under (tp := tp) hm with q | q
    · rw [q] at e; exact ej e.symm
    · rw [e] at q
      obtain ⟨a, ha, ea, da⟩ := under_dir h ht _ j hj (Nat.le_refl _) q
      rw [hd a ha ea] at da
      cases da
  by_cases hm : Mvd fr (F i).p
  · by_cases hu : Mvd fr (F j).p
    · exact h.srt.uniq hi hj (mvT_inj hm hu e)
    · exact (key hi hj ej hm hu e).elim
  · by_cases hu : Mvd fr (F j).p
    · exact (key hj hi ei hu hm e.symm).elim
    · rw [mvT_no hm, mvT_no hu] at e
      exact h.srt.uniq hi hj e
/-- The files behind a move, in their order. -/
structure ArrM (n : Nat) (F : Nat → Fi) (fr tp : ByteArray) (m : Nat) (G : Nat → Fi) : Prop where
  le : m ≤ n
  src : ∀ i, i < m → ∃ j, j < n ∧ (F j).p ≠ tp ∧ G i = mvF fr tp (F j)
  all : ∀ j, j < n → (F j).p ≠ tp → ∃ i, i < m ∧ G i = mvF fr tp (F j)
  up : Rises (fun i => ord (G i).p) m
theorem ArrM.to {n : Nat} {F : Nat → Fi} {fr tp : ByteArray} {m m' : Nat} {G G' : Nat → Fi} (h : ArrM n F fr tp m G) (h' : ArrM n F fr tp m' G') {i : Nat} (hi : i < m) : ∃ a, a < m' ∧ G i = G' a := by
  obtain ⟨j, hj, e, hG⟩ := h.src i hi
  obtain ⟨a, ha, hG'⟩ := h'.all j hj e
  exact ⟨a, ha, hG.trans hG'.symm⟩
theorem ArrM.same {n : Nat} {F : Nat → Fi} {fr tp : ByteArray} {m m' : Nat} {G G' : Nat → Fi} (h : ArrM n F fr tp m G) (h' : ArrM n F fr tp m' G') : ∀ (k i : Nat), i < k → i < m → i < m' ∧ G i = G' i := by
  intro k
  induction k with
  | zero => intro i hi; omega
  | succ k ih =>
    intro i hik him
    obtain ⟨a, ha, ea⟩ := h.to h' him
    have hlow : i ≤ a := by
      rcases Nat.lt_or_ge a i with q | q
      · obtain ⟨_, e2⟩ := ih a (by omega) (by omega)
        have h1 := h.up a i q him
        have h2 : ord (G i).p = ord (G a).p := by rw [ea, e2]
        simp only at h1
        omega
      · exact q
    have him' : i < m' := by omega
    refine ⟨him', ?_⟩
    obtain ⟨b, hb, eb⟩ := h'.to h him'
    have hlow2 : i ≤ b := by
      rcases Nat.lt_or_ge b i with q | q
      · obtain ⟨_, e2⟩ := ih b (by omega) (by omega)
        have h1 := h'.up b i q him'
        have h2 : ord (G' i).p = ord (G' b).p := by rw [eb, e2]
        simp only at h1
        omega
      · exact q
    rcases Nat.eq_or_lt_of_le hlow with q | q
    · subst q; exact ea
    · have h1 := h'.up i a q ha
      rcases Nat.eq_or_lt_of_le hlow2 with q2 | q2
      · subst q2; exact eb.symm
      · have h2 := h.up i b q2 hb
        simp only at h1 h2
        rw [ea] at h2
        rw [eb] at h1
        omega
theorem ArrM.uniq {n : Nat} {F : Nat → Fi} {fr tp : ByteArray} {m m' : Nat} {G G' : Nat → Fi} (h : ArrM n F fr tp m G) (h' : ArrM n F fr tp m' G') : m = m' ∧ ∀ i, i < m → G i = G' i := by
  refine ⟨?_, fun i hi => (h.same h' _ i (Nat.lt_succ_self i) hi).2⟩
  rcases Nat.lt_trichotomy m m' with q | q | q
  · have := (h'.same h _ m (Nat.lt_succ_self m) q).1; omega
  · exact q
  · have := (h.same h' _ m' (Nat.lt_succ_self m') q).1; omega
/-- What MoveFile does. -/
def MvIs (n : Nat) (F : Nat → Fi) (fr tp : ByteArray) (m : Nat) (G : Nat → Fi) (c : Int) : Prop :=
  (FtIs n F 2 (fun i => if i = 0 then fr else tp) c ∧ c ≠ 0 ∧ m = 0) ∨ (FtIs n F 2 (fun i => if i = 0 then fr else tp) 0 ∧
    (((∀ j, j < n → (F j).p ≠ fr) ∧ c = 5 ∧ m = n ∧ G = F) ∨ ∃ k, k < n ∧ (F k).p = fr ∧
      ((fr = tp ∧ c = 0 ∧ m = n ∧ G = F) ∨ (fr ≠ tp ∧
        ((HasPre tp (fr ++ ⟨#[47]⟩) ∧ c = 15 ∧ m = n ∧ G = F) ∨ (¬ HasPre tp (fr ++ ⟨#[47]⟩) ∧
          ((DirIs n F (par tp) c ∧ c ≠ 0 ∧ m = n ∧ G = F) ∨ (DirIs n F (par tp) 0 ∧
            (((∃ j, j < n ∧ (F j).p = tp ∧ ((F j).d = true ∨ (F k).d = true)) ∧ c = 9 ∧ m = n ∧ G = F) ∨ ((¬ ∃ j, j < n ∧ (F j).p = tp ∧ ((F j).d = true ∨ (F k).d = true)) ∧
              (((∃ i, i < n ∧ HasPre (F i).p (fr ++ ⟨#[47]⟩) ∧ 40 < tp.size + ((F i).p.size - fr.size)) ∧ c = 16 ∧ m = n ∧ G = F) ∨ ((¬ ∃ i, i < n ∧ HasPre (F i).p (fr ++ ⟨#[47]⟩) ∧ 40 < tp.size + ((F i).p.size - fr.size)) ∧ c = 0 ∧ ArrM n F fr tp m G))))))))))))
theorem MvIs.uniq {n : Nat} {F : Nat → Fi} {fr tp : ByteArray} {m m' : Nat} {G G' : Nat → Fi} {c c' : Int} (h : MvIs n F fr tp m G c) (h' : MvIs n F fr tp m' G' c') : m = m' ∧ c = c' ∧ ∀ i, i < m → G i = G' i := by
  rcases h with ⟨a, b, rfl⟩ | ⟨a, q⟩ <;> rcases h' with ⟨a', b', rfl⟩ | ⟨a', q'⟩
  · exact ⟨rfl, a.uniq a', fun i hi => absurd hi (by omega)⟩
  · exact absurd (a.uniq a') b
  · exact absurd (a'.uniq a) b'
  · have hs := a.ok.1.srt
    rcases q with ⟨e, rfl, rfl, rfl⟩ | ⟨k, hk, ek, q⟩ <;> rcases q' with ⟨e', rfl, rfl, rfl⟩ | ⟨k', hk', ek', q'⟩
    · exact ⟨rfl, rfl, fun _ _ => rfl⟩
    · exact absurd ek' (e k' hk')
    · exact absurd ek (e' k hk)
    · obtain rfl := hs.uniq hk hk' (ek.trans ek'.symm)
      rcases q with ⟨e, rfl, rfl, rfl⟩ | ⟨e, q⟩ <;> rcases q' with ⟨e', rfl, rfl, rfl⟩ | ⟨e', q'⟩
      · exact ⟨rfl, rfl, fun _ _ => rfl⟩
      · exact absurd e e'
      · exact absurd e' e
      · rcases q with ⟨u, rfl, rfl, rfl⟩ | ⟨u, q⟩ <;> rcases q' with ⟨u', rfl, rfl, rfl⟩ | ⟨u', q'⟩
        · exact ⟨rfl, rfl, fun _ _ => rfl⟩
        · exact absurd u u'
        · exact absurd u' u
        · rcases q with ⟨d, d0, rfl, rfl⟩ | ⟨d, q⟩ <;> rcases q' with ⟨d', d0', rfl, rfl⟩ | ⟨d', q'⟩
          · exact ⟨rfl, DirIs.uniq hs d d', fun _ _ => rfl⟩
          · exact absurd (DirIs.uniq hs d d') d0
          · exact absurd (DirIs.uniq hs d' d) d0'
          · rcases q with ⟨t, rfl, rfl, rfl⟩ | ⟨t, q⟩ <;> rcases q' with ⟨t', rfl, rfl, rfl⟩ | ⟨t', q'⟩
            · exact ⟨rfl, rfl, fun _ _ => rfl⟩
            · exact absurd t t'
            · exact absurd t' t
            · rcases q with ⟨g, rfl, rfl, rfl⟩ | ⟨g, rfl, r⟩ <;> rcases q' with ⟨g', rfl, rfl, rfl⟩ | ⟨g', rfl, r'⟩
              · exact ⟨rfl, rfl, fun _ _ => rfl⟩
              · exact absurd g g'
              · exact absurd g' g
              · obtain ⟨h1, h2⟩ := r.uniq r'
                exact ⟨h1, rfl, h2⟩
theorem MvIs.bound {n : Nat} {F : Nat → Fi} {fr tp : ByteArray} {m : Nat} {G : Nat → Fi} {c : Int} (h : MvIs n F fr tp m G c) : m ≤ 13 := by
  rcases h with ⟨_, _, rfl⟩ | ⟨a, q⟩
  · omega
  · have hn := a.ok.1.1
    rcases q with ⟨_, _, rfl, _⟩ | ⟨_, _, _, ⟨_, _, rfl, _⟩ | ⟨_, ⟨_, _, rfl, _⟩ | ⟨_, ⟨_, _, rfl, _⟩ | ⟨_, ⟨_, _, rfl, _⟩ | ⟨_, ⟨_, _, rfl, _⟩ | ⟨_, _, r⟩⟩⟩⟩⟩⟩
    all_goals first | omega | (have := r.le; omega)
end Go.Proofs.Ytbdoablokoghbaa

/-
  The iterator below, told of the files by their places (so that a round knows that its file is one of them).
-/
namespace Go.Proofs.Ytbdoablokoghbaa
open Go.ChangeShapes Go.WideShapes Go.ChangeAt Go.RowKit
set_option linter.unusedVariables false
open Classical in
/-- The places of the files below, of the first k. -/
noncomputable def blwN (F : Nat → Fi) (h : ByteArray) (n : Nat) : Nat → List {i : Nat // i < n}
  | 0 => []
  | k + 1 => blwN F h n k ++ (if hk : k < n then (if HasPre (F k).p h then [⟨k, hk⟩] else []) else [])
theorem blwN_yes {F : Nat → Fi} {h : ByteArray} {n k : Nat} (hk : k < n) (p : HasPre (F k).p h) : blwN F h n (k + 1) = blwN F h n k ++ [⟨k, hk⟩] := by
  rw [blwN, dif_pos hk, if_pos p]
theorem blwN_no {F : Nat → Fi} {h : ByteArray} {n k : Nat} (p : ¬ HasPre (F k).p h) : blwN F h n (k + 1) = blwN F h n k := by
  by_cases hk : k < n
  · rw [blwN, dif_pos hk, if_neg p, List.append_nil]
  · rw [blwN, dif_neg hk, List.append_nil]
theorem blwN_pre (F : Nat → Fi) (h : ByteArray) (n k : Nat) : ∀ m, blwN F h n k <+: blwN F h n (k + m)
  | 0 => List.prefix_refl _
  | m + 1 => (blwN_pre F h n k m).trans ⟨_, rfl⟩
def encN (F : Nat → Fi) (h : ByteArray) (n : Nat) (x : {i : Nat // i < n}) : Array Value := encB ((F x.1).p.extract h.size (F x.1).p.size, F x.1)
set_option maxRecDepth 100000 in
set_option maxHeartbeats 4000000 in
theorem below_stopsN (Q : Nat → Prop) (Bp Bl : Nat) (a : Option Addr) (n c : Nat) (F : Nat → Fi) (q : ByteArray) (w : World) (m : Nat) (hp : w.cell? ⟨Bp, 0, none⟩ = some (.string q)) (hl : w.cell? ⟨Bl, 0, none⟩ = some (.slice a n c)) (hE : Els w 3 a n (fiF F)) (hQp : Q Bp) (hQl : Q Bl) (hQa : 0 < n → ∀ p, a = some p → Q p.block) (hn : n ≤ 4096) (hqs : q.size ≤ 40) (hQw : ∀ g, Q g → g < w.heap.size) :
    SeqStopsK Fence.wide m Try.prog 79 #[.pointer (some ⟨Bp, 0, none⟩), .pointer (some ⟨Bl, 0, none⟩)] (encN F (aheadT q) n) (KpQ Q) (fun xs => xs = blwN F (aheadT q) n n) (fun pre => pre <+: blwN F (aheadT q) n n) (blwN F (aheadT q) n n).length w := fun l J Jx W hW hJ hJx hY h0 => by
  have hp' : W.cell? ⟨Bp, 0, none⟩ = some (.string q) := by rw [hW.cell (p := ⟨Bp, 0, none⟩) (strBlock hp)]; exact hp
  have hl' : W.cell? ⟨Bl, 0, none⟩ = some (.slice a n c) := by rw [hW.cell (p := ⟨Bl, 0, none⟩) (strBlock hl)]; exact hl
  have HE : Hid (Els W 3 a n (fiF F)) := hE.below hW
  have HC : Hid (∀ (s t : ByteArray) (w : World), CallsIn Fence.wide (m - 1) Try.prog 80 #[.string s, .string t] w fun e w' => CutP s t e ∧ w' = w) := fun s t w => callsIn_wide.2 (cutPre_any s t w)
  obtain ⟨ah, hah⟩ : ∃ x, x = aheadT q := ⟨_, rfl⟩
  have HAH : Hid (ah = aheadT q) := hah
  rw [← hah] at hY ⊢
  clear hp hl hE hah
  have hqa : q.size + 1 ≤ 9223372036854775807 := by omega
  have hqb : ¬ 9223372036854775807 < q.size + 1 := by omega
  rcases Nat.eq_zero_or_pos q.size with hz | hz
  · obtain rfl : q = ⟨#[]⟩ := ByteArray.ext (Array.eq_empty_of_size_eq_zero hz)
    obtain rfl : ⟨#[]⟩ = ah := by rw [HAH.out]; rfl
    clear HAH hz
    refine callsIn_of_wp Try.func79 rfl trivial ?_ rfl
    simp only [Try.ntmps79, List.size_toArray, List.length_cons, List.length_nil, Nat.reduceAdd, Nat.reduceSub, Array.replicate_succ, Array.replicate_zero, List.push_toArray, List.append_toArray, List.nil_append, List.cons_append]
    gi_wp2
    gi_loopw [15] (fun i wr => ∃ k : Nat, k ≤ n ∧ i = .int .i64 k ∧ J (blwN F (⟨#[]⟩ : ByteArray) n k) wr ∧ KpQ Q W wr) (fun i _ => n - (intOf i).toNat)
    case atStart => exact ⟨0, by omega, rfl, h0, KpQ.refl _ _⟩
    case round =>
      obtain ⟨k, hk, rfl, hJs, hkp⟩ := hrel
      have HK : Hid (KpQ Q W wr) := hkp
      by_cases hlt : k < n
      · have hlt' : (k : Int) < (n : Int) := by omega
        obtain ⟨b, off, ha, hc⟩ := (hkp.els HE.out hQa).opened (by omega)
        cases ha
        obtain ⟨c0, c1, c2⟩ := Els.fiC hc k hlt
        have HF : Hid (HasPre (F k).p (⟨#[]⟩ : ByteArray) → blwN F (⟨#[]⟩ : ByteArray) n (k + 1) = blwN F (⟨#[]⟩ : ByteArray) n k ++ [⟨k, hlt⟩]) := fun p => blwN_yes hlt p
        have HEN : Hid (encN F (⟨#[]⟩ : ByteArray) n ⟨k, hlt⟩ = encB ((F k).p.extract (⟨#[]⟩ : ByteArray).size (F k).p.size, F k)) := rfl
        have HG : Hid (¬ HasPre (F k).p (⟨#[]⟩ : ByteArray) → blwN F (⟨#[]⟩ : ByteArray) n (k + 1) = blwN F (⟨#[]⟩ : ByteArray) n k) := fun p => blwN_no p
        have HPr : Hid (blwN F (⟨#[]⟩ : ByteArray) n (k + 1) <+: blwN F (⟨#[]⟩ : ByteArray) n n) := by have := blwN_pre F (⟨#[]⟩ : ByteArray) n (k + 1) (n - (k + 1)); rwa [show k + 1 + (n - (k + 1)) = n by omega] at this
        generalize hy0 : F k = y at *
        clear hy0
        obtain ⟨yp, yd, yt⟩ := y
        dsimp only at *
        clear hc
        obtain ⟨v, hv⟩ : ∃ v, v = wr.alloc (.cells #[.string yp, .bool yd, .string yt] 37) := ⟨_, rfl⟩
        have hJv : J (blwN F (⟨#[]⟩ : ByteArray) n k) v := by rw [hv]; exact hJ _ wr _ none hJs (World.grownBy_alloc _ _ _) (fun r e => by cases e)
        have XB : Box3 v wr.heap.size 37 (.string yp) (.bool yd) (.string yt) := by rw [hv]; exact Box3.made _ _ _ _ _
        have KV : Hid (KpQ Q W v) := HK.out.tr (by rw [hv]; exact ⟨by simp, fun g hg => Below.heap_alloc _ _ _ (by have := hQw g hg; have := HK.out.size; have := hW.size; omega)⟩)
        have HV : Hid (wr.alloc (.cells #[.string yp, .bool yd, .string yt] 37) = v) := hv.symm
        have t0 := XB.c0
        have t1 := XB.c1
        have t2 := XB.c2
        clear hv hJs XB
        gi_wp2_with fail
        rw [HV.out]
        refine ⟨trivial, fun h => by (cases h), (HC.out _ _ _).mono ?_⟩
        rintro e w' ⟨hcp, rfl⟩
        clear HV c0 c1 c2
        rcases hcp with ⟨hpre, rfl⟩ | ⟨hpre, rfl⟩
        · have hb1 := HF.out hpre
          have hlen : (blwN F (⟨#[]⟩ : ByteArray) n k).length < (blwN F (⟨#[]⟩ : ByteArray) n n).length := by
            have := HPr.out.length_le
            rw [hb1, List.length_append] at this
            simp at this
            omega
          obtain ⟨fn, tmps, assign, body, hy, hR⟩ := hY (blwN F (⟨#[]⟩ : ByteArray) n k) ⟨k, hlt⟩ w' hJv hlen
          rw [HEN.out] at hy
          dsimp only [encB] at hy
          rw [show (⟨#[]⟩ : ByteArray).size = 0 from rfl, ByteArray.extract_zero_size] at hy
          have HB1 : Hid (blwN F (⟨#[]⟩ : ByteArray) n (k + 1) = blwN F (⟨#[]⟩ : ByteArray) n k ++ [⟨k, hlt⟩]) := hb1
          clear hpre hb1 HF HG
          gi_wp2
          refine ⟨fun h => by (cases h), hR.mono ?_⟩
          rintro e W3 (⟨rfl, hJ3, hk3⟩ | ⟨rfl, hJx3⟩)
          · rw [← HB1.out] at hJ3
            have K3 : Hid (KpQ Q W W3) := KV.out.tr hk3
            clear hk3
            gi_wp2
            go_roundw
            case rel => exact ⟨k + 1, by omega, by go_num, hJ3, K3.out⟩
            case measure => simp [intOf]; omega
          · rw [← HB1.out] at hJx3
            gi_wp2
            refine bodyPost_ret (results_none rfl _ _ _) rfl ?_
            exact ⟨⟨_, rfl⟩, .inr ⟨_, HPr.out, hJx3⟩⟩
        · have hb1 := HG.out hpre
          rw [← hb1] at hJv
          clear hpre hb1 HF HG
          gi_wp2
          refine ⟨fun _ h => (by cases h), ?_⟩
          gi_wp2
          go_roundw
          case rel => exact ⟨k + 1, by omega, by go_num, hJv, KV.out⟩
          case measure => simp [intOf]; omega
      · obtain rfl : k = n := by omega
        have hlt' : ¬ (k : Int) < (k : Int) := by omega
        gi_wp2
        go_end0
        exact ⟨⟨_, rfl⟩, .inl hJs⟩
  · have g1 : (q.toList == []) = false := textEmpty hz
    have g2 : q.toList.isEmpty = false := textEmpty2 hz
    have hah : q ++ ⟨#[47]⟩ = ah := by rw [HAH.out]; unfold aheadT; rw [if_neg (by omega)]
    clear HAH hz
    refine callsIn_of_wp Try.func79 rfl trivial ?_ rfl
    simp only [Try.ntmps79, List.size_toArray, List.length_cons, List.length_nil, Nat.reduceAdd, Nat.reduceSub, Array.replicate_succ, Array.replicate_zero, List.push_toArray, List.append_toArray, List.nil_append, List.cons_append]
    gi_wp2
    gi_loopw [15] (fun i wr => ∃ k : Nat, k ≤ n ∧ i = .int .i64 k ∧ J (blwN F ah n k) wr ∧ KpQ Q W wr) (fun i _ => n - (intOf i).toNat)
    case atStart => exact ⟨0, by omega, rfl, h0, KpQ.refl _ _⟩
    case round =>
      obtain ⟨k, hk, rfl, hJs, hkp⟩ := hrel
      have HK : Hid (KpQ Q W wr) := hkp
      by_cases hlt : k < n
      · have hlt' : (k : Int) < (n : Int) := by omega
        obtain ⟨b, off, ha, hc⟩ := (hkp.els HE.out hQa).opened (by omega)
        cases ha
        obtain ⟨c0, c1, c2⟩ := Els.fiC hc k hlt
        have HF : Hid (HasPre (F k).p ah → blwN F ah n (k + 1) = blwN F ah n k ++ [⟨k, hlt⟩]) := fun p => blwN_yes hlt p
        have HEN : Hid (encN F ah n ⟨k, hlt⟩ = encB ((F k).p.extract ah.size (F k).p.size, F k)) := rfl
        have HG : Hid (¬ HasPre (F k).p ah → blwN F ah n (k + 1) = blwN F ah n k) := fun p => blwN_no p
        have HPr : Hid (blwN F ah n (k + 1) <+: blwN F ah n n) := by have := blwN_pre F ah n (k + 1) (n - (k + 1)); rwa [show k + 1 + (n - (k + 1)) = n by omega] at this
        generalize hy0 : F k = y at *
        clear hy0
        obtain ⟨yp, yd, yt⟩ := y
        dsimp only at *
        clear hc
        obtain ⟨v, hv⟩ : ∃ v, v = wr.alloc (.cells #[.string yp, .bool yd, .string yt] 37) := ⟨_, rfl⟩
        have hJv : J (blwN F ah n k) v := by rw [hv]; exact hJ _ wr _ none hJs (World.grownBy_alloc _ _ _) (fun r e => by cases e)
        have XB : Box3 v wr.heap.size 37 (.string yp) (.bool yd) (.string yt) := by rw [hv]; exact Box3.made _ _ _ _ _
        have KV : Hid (KpQ Q W v) := HK.out.tr (by rw [hv]; exact ⟨by simp, fun g hg => Below.heap_alloc _ _ _ (by have := hQw g hg; have := HK.out.size; have := hW.size; omega)⟩)
        have HV : Hid (wr.alloc (.cells #[.string yp, .bool yd, .string yt] 37) = v) := hv.symm
        have t0 := XB.c0
        have t1 := XB.c1
        have t2 := XB.c2
        clear hv hJs XB
        gi_wp2_with fail
        rw [HV.out]
        refine ⟨trivial, fun h => by (cases h), (HC.out _ _ _).mono ?_⟩
        rintro e w' ⟨hcp, rfl⟩
        clear HV c0 c1 c2
        rcases hcp with ⟨hpre, rfl⟩ | ⟨hpre, rfl⟩
        · have hb1 := HF.out hpre
          have hlen : (blwN F ah n k).length < (blwN F ah n n).length := by
            have := HPr.out.length_le
            rw [hb1, List.length_append] at this
            simp at this
            omega
          obtain ⟨fn, tmps, assign, body, hy, hR⟩ := hY (blwN F ah n k) ⟨k, hlt⟩ w' hJv hlen
          rw [HEN.out] at hy
          dsimp only [encB] at hy
          have HB1 : Hid (blwN F ah n (k + 1) = blwN F ah n k ++ [⟨k, hlt⟩]) := hb1
          clear hpre hb1 HF HG
          gi_wp2
          refine ⟨fun h => by (cases h), hR.mono ?_⟩
          rintro e W3 (⟨rfl, hJ3, hk3⟩ | ⟨rfl, hJx3⟩)
          · rw [← HB1.out] at hJ3
            have K3 : Hid (KpQ Q W W3) := KV.out.tr hk3
            clear hk3
            gi_wp2
            go_roundw
            case rel => exact ⟨k + 1, by omega, by go_num, hJ3, K3.out⟩
            case measure => simp [intOf]; omega
          · rw [← HB1.out] at hJx3
            gi_wp2
            refine bodyPost_ret (results_none rfl _ _ _) rfl ?_
            exact ⟨⟨_, rfl⟩, .inr ⟨_, HPr.out, hJx3⟩⟩
        · have hb1 := HG.out hpre
          rw [← hb1] at hJv
          clear hpre hb1 HF HG
          gi_wp2
          refine ⟨fun _ h => (by cases h), ?_⟩
          gi_wp2
          go_roundw
          case rel => exact ⟨k + 1, by omega, by go_num, hJv, KV.out⟩
          case measure => simp [intOf]; omega
      · obtain rfl : k = n := by omega
        have hlt' : ¬ (k : Int) < (k : Int) := by omega
        gi_wp2
        go_end0
        exact ⟨⟨_, rfl⟩, .inl hJs⟩
end Go.Proofs.Ytbdoablokoghbaa

/-
  movedPath and moveFault of the program.
-/
namespace Go.Proofs.Ytbdoablokoghbaa
open Go.ChangeShapes Go.WideShapes Go.ChangeAt Go.RowKit Go.Shelf
set_option linter.unusedVariables false
attribute [local go_sem] Oper.semAt_some
theorem mvT_self (fr tp : ByteArray) : mvT fr tp fr = tp := by
  rw [mvT_yes (.inl rfl)]
  refine toL_inj ?_
  rw [toL_app, toL_ext, List.take_of_length_le (by rw [toL_len]; exact Nat.le_refl _), List.drop_of_length_le (by rw [toL_len]; exact Nat.le_refl _), List.append_nil]
theorem mvT_below {fr tp p : ByteArray} (h : HasPre p (fr ++ ⟨#[47]⟩)) : mvT fr tp p = (tp ++ ⟨#[47]⟩) ++ p.extract (fr ++ ⟨#[47]⟩).size p.size := by
  rw [mvT_yes (.inr h)]
  obtain ⟨r, rfl⟩ := hasPre_ex.1 h
  have e1 : List.take (fr ++ ⟨#[47]⟩ ++ r).size (fr ++ ⟨#[47]⟩ ++ r).data.toList = (fr ++ ⟨#[47]⟩ ++ r).data.toList := List.take_of_length_le (by rw [toL_len]; exact Nat.le_refl _)
  have eR : (fr ++ ⟨#[47]⟩ ++ r).extract (fr ++ ⟨#[47]⟩).size (fr ++ ⟨#[47]⟩ ++ r).size = r := toL_inj (by rw [toL_ext, e1, toL_app (fr ++ ⟨#[47]⟩) r, ← toL_len (fr ++ ⟨#[47]⟩), List.drop_left])
  have eL : (fr ++ ⟨#[47]⟩ ++ r).extract fr.size (fr ++ ⟨#[47]⟩ ++ r).size = ⟨#[47]⟩ ++ r := toL_inj (by rw [toL_ext, e1, toL_app, toL_app, toL_app, List.append_assoc, ← toL_len fr, List.drop_left])
  rw [eL, eR, ByteArray.append_assoc]
def AllM {n : Nat} (F : Nat → Fi) (fr tp : ByteArray) (pre : List {i : Nat // i < n}) : Prop := ∀ x ∈ pre, tp.size + 1 + ((F x.1).p.size - (fr.size + 1)) ≤ 40
def SomeM {n : Nat} (F : Nat → Fi) (fr tp : ByteArray) (pre : List {i : Nat // i < n}) : Prop := ∃ x ∈ pre, 40 < tp.size + 1 + ((F x.1).p.size - (fr.size + 1))
def rsM (F : Nat → Fi) (fr : ByteArray) (i : Nat) : ByteArray := (F i).p.extract (fr.size + 1) (F i).p.size
theorem ahead_sl {fr : ByteArray} (h : 0 < fr.size) : aheadT fr = fr ++ ⟨#[47]⟩ := by unfold aheadT; rw [if_neg (by omega)]
theorem rsM_eq {F : Nat → Fi} {fr : ByteArray} {i : Nat} (h : 0 < fr.size) : (F i).p.extract (aheadT fr).size (F i).p.size = rsM F fr i := by rw [ahead_sl h, size_slM]; rfl
theorem rsM_size (F : Nat → Fi) (fr : ByteArray) (i : Nat) : (rsM F fr i).size = (F i).p.size - (fr.size + 1) := by unfold rsM; rw [ByteArray.size_extract]; omega
/-- What moveFault answers. -/
def MfIs (n : Nat) (F : Nat → Fi) (fr tp : ByteArray) (k : Nat) (c : Int) : Prop :=
  (HasPre tp (fr ++ ⟨#[47]⟩) ∧ c = 15) ∨ (¬ HasPre tp (fr ++ ⟨#[47]⟩) ∧
    ((DirIs n F (par tp) c ∧ c ≠ 0) ∨ (DirIs n F (par tp) 0 ∧
      (((∃ j, j < n ∧ (F j).p = tp ∧ ((F j).d = true ∨ (F k).d = true)) ∧ c = 9) ∨ ((¬ ∃ j, j < n ∧ (F j).p = tp ∧ ((F j).d = true ∨ (F k).d = true)) ∧
        (((∃ i, i < n ∧ HasPre (F i).p (fr ++ ⟨#[47]⟩) ∧ 40 < tp.size + ((F i).p.size - fr.size)) ∧ c = 16) ∨ ((¬ ∃ i, i < n ∧ HasPre (F i).p (fr ++ ⟨#[47]⟩) ∧ 40 < tp.size + ((F i).p.size - fr.size)) ∧ c = 0)))))))
theorem blwN_mem {F : Nat → Fi} {h : ByteArray} {n : Nat} {x : {i : Nat // i < n}} : ∀ {k : Nat}, x ∈ blwN F h n k ↔ x.1 < k ∧ HasPre (F x.1).p h
  | 0 => by simp [blwN]
  | k + 1 => by
    have ih := blwN_mem (F := F) (h := h) (x := x) (k := k)
    by_cases hk : k < n
    · by_cases hp : HasPre (F k).p h
      · rw [blwN_yes hk hp, List.mem_append, ih, List.mem_singleton]
        constructor
        · rintro (⟨a, b⟩ | rfl)
          · exact ⟨by omega, b⟩
          · exact ⟨by show k < k + 1; omega, hp⟩
        · rintro ⟨a, b⟩
          by_cases e : x.1 = k
          · right; exact Subtype.ext e
          · left; exact ⟨by omega, b⟩
      · rw [blwN_no hp, ih]
        constructor
        · rintro ⟨a, b⟩; exact ⟨by omega, b⟩
        · rintro ⟨a, b⟩
          refine ⟨?_, b⟩
          rcases Nat.lt_or_ge x.1 k with q | q
          · exact q
          · have : x.1 = k := by omega
            rw [this] at b
            exact absurd b hp
    · have hx := x.2
      rw [blwN, dif_neg hk, List.append_nil, ih]
      constructor
      · rintro ⟨a, b⟩; exact ⟨by omega, b⟩
      · rintro ⟨a, b⟩; exact ⟨by omega, b⟩
end Go.Proofs.Ytbdoablokoghbaa

/-
  slices.SortFunc of files by their paths.
-/
namespace Go.Proofs.Ytbdoablokoghbaa
open Go.ChangeShapes Go.WideShapes Go.ChangeAt Go.RowKit
set_option linter.unusedVariables false
end Go.Proofs.Ytbdoablokoghbaa

/-
  MoveFile of the program.
-/
namespace Go.Proofs.Ytbdoablokoghbaa
open Go.ChangeShapes Go.WideShapes Go.ChangeAt Go.RowKit
set_option linter.unusedVariables false
theorem mvT_size {fr tp p : ByteArray} (h : Mvd fr p) : (mvT fr tp p).size = tp.size + (p.size - fr.size) := by
  rw [mvT_yes h, ByteArray.size_append, ByteArray.size_extract]
  omega
theorem mvd_le {fr p : ByteArray} (h : Mvd fr p) : fr.size ≤ p.size := by
  have := congrArg ByteArray.size (mvd_join h)
  rw [ByteArray.size_append] at this
  omega
/-- Moved paths are short. -/
theorem mv_short {n : Nat} {F : Nat → Fi} {fr tp : ByteArray} {j : Nat} (hj : j < n) (hp : (F j).p.size ≤ 40) (ht : tp.size ≤ 40) (hl : ¬ ∃ i, i < n ∧ HasPre (F i).p (fr ++ ⟨#[47]⟩) ∧ 40 < tp.size + ((F i).p.size - fr.size)) : (mvT fr tp (F j).p).size ≤ 40 := by
  by_cases hm : Mvd fr (F j).p
  · rw [mvT_size hm]
    rcases hm with e | q
    · rw [e]; omega
    · rcases Nat.lt_or_ge 40 (tp.size + ((F j).p.size - fr.size)) with z | z
      · exact absurd ⟨j, hj, q, z⟩ hl
      · exact z
  · rw [mvT_no hm]; exact hp
end Go.Proofs.Ytbdoablokoghbaa

/-
  Moves of files by the model: the mathematics of its two lists.
-/
namespace Go.Proofs.Ytbdoablokoghbaa
open Go.ChangeShapes Go.WideShapes Go.ChangeAt Go.RowKit
set_option linter.unusedVariables false
open Classical in
/-- The places of files that stay, of the first i. -/
noncomputable def kpL (F : Nat → Fi) (fr tp : ByteArray) : Nat → List Nat
  | 0 => []
  | i + 1 => kpL F fr tp i ++ (if ¬ Mvd fr (F i).p ∧ (F i).p ≠ tp then [i] else [])
open Classical in
/-- The places of files that are moved, of the first i. -/
noncomputable def mvL (F : Nat → Fi) (fr : ByteArray) : Nat → List Nat
  | 0 => []
  | i + 1 => mvL F fr i ++ (if Mvd fr (F i).p then [i] else [])
theorem kpL_yes {F : Nat → Fi} {fr tp : ByteArray} {i : Nat} (h : ¬ Mvd fr (F i).p) (e : (F i).p ≠ tp) : kpL F fr tp (i + 1) = kpL F fr tp i ++ [i] := by rw [kpL, if_pos ⟨h, e⟩]
theorem kpL_mv {F : Nat → Fi} {fr tp : ByteArray} {i : Nat} (h : Mvd fr (F i).p) : kpL F fr tp (i + 1) = kpL F fr tp i := by rw [kpL, if_neg (fun q => q.1 h), List.append_nil]
theorem kpL_to {F : Nat → Fi} {fr tp : ByteArray} {i : Nat} (e : (F i).p = tp) : kpL F fr tp (i + 1) = kpL F fr tp i := by rw [kpL, if_neg (fun q => q.2 e), List.append_nil]
theorem mvL_yes {F : Nat → Fi} {fr : ByteArray} {i : Nat} (h : Mvd fr (F i).p) : mvL F fr (i + 1) = mvL F fr i ++ [i] := by rw [mvL, if_pos h]
theorem mvL_no {F : Nat → Fi} {fr : ByteArray} {i : Nat} (h : ¬ Mvd fr (F i).p) : mvL F fr (i + 1) = mvL F fr i := by rw [mvL, if_neg h, List.append_nil]
theorem kpL_mem {F : Nat → Fi} {fr tp : ByteArray} {x : Nat} : ∀ {i : Nat}, x ∈ kpL F fr tp i ↔ x < i ∧ ¬ Mvd fr (F x).p ∧ (F x).p ≠ tp
  | 0 => by simp [kpL]
  | i + 1 => by
    rw [kpL, List.mem_append, kpL_mem]
    by_cases h : ¬ Mvd fr (F i).p ∧ (F i).p ≠ tp
    · rw [if_pos h, List.mem_singleton]
      constructor
      · rintro (q | rfl)
        · exact ⟨by omega, q.2⟩
        · exact ⟨by omega, h⟩
      · rintro ⟨q1, q2⟩
        by_cases e : x = i
        · exact .inr e
        · exact .inl ⟨by omega, q2⟩
    · rw [if_neg h]
      constructor
      · rintro (q | q)
        · exact ⟨by omega, q.2⟩
        · cases q
      · rintro ⟨q1, q2⟩
        by_cases e : x = i
        · subst e; exact absurd q2 h
        · exact .inl ⟨by omega, q2⟩
theorem mvL_mem {F : Nat → Fi} {fr : ByteArray} {x : Nat} : ∀ {i : Nat}, x ∈ mvL F fr i ↔ x < i ∧ Mvd fr (F x).p
  | 0 => by simp [mvL]
  | i + 1 => by
    rw [mvL, List.mem_append, mvL_mem]
    by_cases h : Mvd fr (F i).p
    · rw [if_pos h, List.mem_singleton]
      constructor
      · rintro (q | rfl)
        · exact ⟨by omega, q.2⟩
        · exact ⟨by omega, h⟩
      · rintro ⟨q1, q2⟩
        by_cases e : x = i
        · exact .inr e
        · exact .inl ⟨by omega, q2⟩
    · rw [if_neg h]
      constructor
      · rintro (q | q)
        · exact ⟨by omega, q.2⟩
        · cases q
      · rintro ⟨q1, q2⟩
        by_cases e : x = i
        · subst e; exact absurd q2 h
        · exact .inl ⟨by omega, q2⟩
theorem lists_len (F : Nat → Fi) (fr tp : ByteArray) : ∀ i, (kpL F fr tp i).length + (mvL F fr i).length ≤ i
  | 0 => Nat.le_refl _
  | i + 1 => by
    have := lists_len F fr tp i
    by_cases h : Mvd fr (F i).p
    · rw [kpL_mv h, mvL_yes h, List.length_append]; simp; omega
    · rw [mvL_no h]
      by_cases e : (F i).p = tp
      · rw [kpL_to e]; omega
      · rw [kpL_yes h e, List.length_append]; simp; omega
/-- Each list goes up. -/
theorem kpL_up (F : Nat → Fi) (fr tp : ByteArray) : ∀ i, (kpL F fr tp i).Pairwise (· < ·)
  | 0 => List.Pairwise.nil
  | i + 1 => by
    rw [kpL]
    refine List.pairwise_append.2 ⟨kpL_up F fr tp i, by split <;> simp, fun a ha b hb => ?_⟩
    have h1 := (kpL_mem.1 ha).1
    split at hb
    · obtain rfl := List.mem_singleton.1 hb; exact h1
    · cases hb
theorem mvL_up (F : Nat → Fi) (fr : ByteArray) : ∀ i, (mvL F fr i).Pairwise (· < ·)
  | 0 => List.Pairwise.nil
  | i + 1 => by
    rw [mvL]
    refine List.pairwise_append.2 ⟨mvL_up F fr i, by split <;> simp, fun a ha b hb => ?_⟩
    have h1 := (mvL_mem.1 ha).1
    split at hb
    · obtain rfl := List.mem_singleton.1 hb; exact h1
    · cases hb
def nAt (L : List Nat) (r : Nat) : Nat := L.getD r 0
theorem nAt_mem {L : List Nat} {r : Nat} (h : r < L.length) : nAt L r ∈ L := by unfold nAt; simp [h]
theorem nAt_lt {L : List Nat} (h : L.Pairwise (· < ·)) {r s : Nat} (hrs : r < s) (hs : s < L.length) : nAt L r < nAt L s := by
  have := List.pairwise_iff_getElem.1 h r s (by omega) hs hrs
  unfold nAt
  simpa [hs, show r < L.length by omega] using this
theorem nAt_of {L : List Nat} {x : Nat} (h : x ∈ L) : ∃ r, r < L.length ∧ nAt L r = x := by
  obtain ⟨r, hr, e⟩ := List.mem_iff_getElem.1 h
  exact ⟨r, hr, by unfold nAt; simp [hr, e]⟩
theorem nAt_snoc (L : List Nat) (x : Nat) (r : Nat) (h : r < L.length + 1) : nAt (L ++ [x]) r = if r = L.length then x else nAt L r := by
  unfold nAt
  by_cases e : r = L.length
  · subst e; simp
  · rw [if_neg e]
    simp [List.getD_eq_getElem?_getD, List.getElem?_append_left (show r < L.length by omega)]
/-- What has been put so far. -/
def MemP (F : Nat → Fi) (fr tp : ByteArray) (n r : Nat) (y : Fi) : Prop := (∃ x, x ∈ kpL F fr tp n ∧ y = mvF fr tp (F x)) ∨ ∃ s, s < r ∧ y = mvF fr tp (F (nAt (mvL F fr n) s))
structure InvP (F : Nat → Fi) (fr tp : ByteArray) (n r m : Nat) (K : Nat → Fi) : Prop where
  len : m = (kpL F fr tp n).length + r
  src : ∀ i, i < m → MemP F fr tp n r (K i)
  all : ∀ y, MemP F fr tp n r y → ∃ i, i < m ∧ K i = y
  up : Rises (fun i => ord (K i).p) m
theorem mvF_kp {F : Nat → Fi} {fr tp : ByteArray} {n x : Nat} (h : x ∈ kpL F fr tp n) : mvF fr tp (F x) = F x := by
  unfold mvF
  rw [mvT_no (kpL_mem.1 h).2.1]
theorem invP_start {n : Nat} {F : Nat → Fi} {fr tp : ByteArray} (hs : Srt n F) : InvP F fr tp n 0 (kpL F fr tp n).length (fun r => F (nAt (kpL F fr tp n) r)) := by
  refine ⟨rfl, fun i hi => .inl ⟨_, nAt_mem hi, (mvF_kp (nAt_mem hi)).symm⟩, fun y hy => ?_, fun i j hij hj => ?_⟩
  · rcases hy with ⟨x, hx, rfl⟩ | ⟨s, hs', _⟩
    · obtain ⟨r, hr, e⟩ := nAt_of hx
      exact ⟨r, hr, by show F (nAt _ r) = _; rw [e, mvF_kp hx]⟩
    · omega
  · have h1 := nAt_lt (kpL_up F fr tp n) hij hj
    exact hs.up _ _ h1 (kpL_mem.1 (nAt_mem hj)).1
theorem ins_rises {f : Nat → Int} {n k : Nat} {x : Int} (h : Rises f n) (hp : Pos f n x k) (hne : ∀ i, i < n → f i ≠ x) : Rises (insE f k x) (n + 1) := fun i j hij hj => by
  obtain ⟨h1, h2, h3⟩ := hp
  rcases Nat.lt_trichotomy i k with a | a | a
  · rw [insE_lt _ _ a]
    rcases Nat.lt_trichotomy j k with b | b | b
    · rw [insE_lt _ _ b]; exact h i j hij (by omega)
    · subst b; rw [insE_eq]; exact h2 i a
    · rw [insE_gt _ _ b]; exact h i (j - 1) (by omega) (by omega)
  · subst a
    rw [insE_eq, insE_gt _ _ hij]
    have h4 := h3 (j - 1) (by omega) (by omega)
    have h5 := hne (j - 1) (by omega)
    omega
  · rw [insE_gt _ _ a, insE_gt _ _ (by omega)]
    exact h (i - 1) (j - 1) (by omega) (by omega)
/-- One more is put. -/
theorem InvP.put {n : Nat} {F : Nat → Fi} {fr tp : ByteArray} {r m m' : Nat} {K G : Nat → Fi} (h : InvP F fr tp n r m K) (hr : r < (mvL F fr n).length) (hap : ∀ i j, i < n → j < n → (F i).p ≠ tp → (F j).p ≠ tp → mvT fr tp (F i).p = mvT fr tp (F j).p → i = j) (hmt : ∀ j, j < n → Mvd fr (F j).p → (F j).p ≠ tp) (hsh : ∀ j, j < n → (mvT fr tp (F j).p).size ≤ 40)
    (hp : PutIs m K (mvF fr tp (F (nAt (mvL F fr n) r))) m' G) : InvP F fr tp n (r + 1) m' G := by
  obtain ⟨a, ha⟩ : ∃ a, a = nAt (mvL F fr n) r := ⟨_, rfl⟩
  have hma := mvL_mem.1 (ha ▸ nAt_mem hr)
  rw [← ha] at hp
  have hne : ∀ y, MemP F fr tp n r y → y.p ≠ (mvF fr tp (F a)).p := fun y hy e => by
    rcases hy with ⟨x, hx, rfl⟩ | ⟨s, hs, rfl⟩
    · have hm := kpL_mem.1 hx
      have := hap x a hm.1 hma.1 hm.2.2 (hmt a hma.1 hma.2) e
      subst this
      exact hm.2.1 hma.2
    · have hm := mvL_mem.1 (nAt_mem (show s < (mvL F fr n).length by omega))
      have := hap _ a hm.1 hma.1 (hmt _ hm.1 hm.2) (hmt a hma.1 hma.2) e
      have h2 := nAt_lt (mvL_up F fr n) hs hr
      rw [this, ha] at h2
      omega
  have hsz : ∀ y, MemP F fr tp n r y → y.p.size ≤ 40 := fun y hy => by
    rcases hy with ⟨x, hx, rfl⟩ | ⟨s, hs, rfl⟩
    · exact hsh x (kpL_mem.1 hx).1
    · exact hsh _ (mvL_mem.1 (nAt_mem (show s < (mvL F fr n).length by omega))).1
  rcases hp with ⟨k, hk, e, _, _⟩ | ⟨_, rfl, k, hP, hG⟩
  · exact absurd e (hne _ (h.src k hk))
  · have hkm := hP.1
    have hG' : ∀ i, i < m + 1 → G i = insE K k (mvF fr tp (F a)) i := hG
    have hmem : ∀ i, i < m + 1 → G i = mvF fr tp (F a) ∨ ∃ j, j < m ∧ G i = K j := fun i hi => by
      rw [hG' i hi]
      rcases Nat.lt_trichotomy i k with q | q | q
      · rw [insE_lt _ _ q]; exact .inr ⟨i, by omega, rfl⟩
      · subst q; rw [insE_eq]; exact .inl rfl
      · rw [insE_gt _ _ q]; exact .inr ⟨i - 1, by omega, rfl⟩
    refine ⟨by have := h.len; omega, fun i hi => ?_, fun y hy => ?_, ?_⟩
    · rcases hmem i hi with e | ⟨j, hj, e⟩
      · exact .inr ⟨r, by omega, by rw [e, ha]⟩
      · rw [e]
        rcases h.src j hj with q | ⟨s, hs, q⟩
        · exact .inl q
        · exact .inr ⟨s, by omega, q⟩
    · have old : ∀ y, MemP F fr tp n r y → ∃ i, i < m + 1 ∧ G i = y := fun y hy => by
        obtain ⟨j, hj, e⟩ := h.all y hy
        rcases Nat.lt_or_ge j k with q | q
        · exact ⟨j, by omega, by rw [hG' j (by omega), insE_lt _ _ q]; exact e⟩
        · exact ⟨j + 1, by omega, by rw [hG' (j + 1) (by omega), insE_gt _ _ (by omega)]; exact e⟩
      rcases hy with q | ⟨s, hs, q⟩
      · exact old y (.inl q)
      · rcases Nat.lt_or_ge s r with z | z
        · exact old y (.inr ⟨s, z, q⟩)
        · obtain rfl : s = r := by omega
          exact ⟨k, by omega, by rw [hG' k (by omega), insE_eq, q, ha]⟩
    · have h8 : Rises (insE (fun i => ord (K i).p) k (ord (mvF fr tp (F a)).p)) (m + 1) := ins_rises h.up hP (fun i hi e => by
        have h9 := h.src i hi
        exact hne _ h9 (ord_inj (hsz _ h9) (hsh a hma.1) e))
      intro i j hij hj
      have e1 : ∀ i, i < m + 1 → ord (G i).p = insE (fun i => ord (K i).p) k (ord (mvF fr tp (F a)).p) i := fun i hi => by
        rw [hG' i hi]
        unfold insE
        split
        · rfl
        · split <;> rfl
      show ord (G i).p < ord (G j).p
      rw [e1 i (by omega), e1 j hj]
      exact h8 i j hij hj
/-- Behind all. -/
theorem InvP.arr {n : Nat} {F : Nat → Fi} {fr tp : ByteArray} {m : Nat} {K : Nat → Fi} (h : InvP F fr tp n (mvL F fr n).length m K) (hmt : ∀ j, j < n → Mvd fr (F j).p → (F j).p ≠ tp) : ArrM n F fr tp m K := by
  refine ⟨by have := h.len; have := lists_len F fr tp n; omega, fun i hi => ?_, fun j hj hne => h.all _ ?_, h.up⟩
  · rcases h.src i hi with ⟨x, hx, e⟩ | ⟨s, hs, e⟩
    · have hm := kpL_mem.1 hx; exact ⟨x, hm.1, hm.2.2, e⟩
    · have hm := mvL_mem.1 (nAt_mem hs); exact ⟨_, hm.1, hmt _ hm.1 hm.2, e⟩
  · by_cases hm : Mvd fr (F j).p
    · obtain ⟨s, hs, e⟩ := nAt_of (mvL_mem.2 ⟨hj, hm⟩)
      exact .inr ⟨s, hs, by rw [e]⟩
    · exact .inl ⟨j, kpL_mem.2 ⟨hj, hm, hne⟩, rfl⟩
theorem mvd_ne {fr tp p : ByteArray} (h : Mvd fr p) (h1 : fr ≠ tp) (h2 : ¬ HasPre tp (fr ++ ⟨#[47]⟩)) : p ≠ tp := fun e => by
  subst e
  rcases h with q | q
  · exact h1 q.symm
  · exact h2 q
end Go.Proofs.Ytbdoablokoghbaa
