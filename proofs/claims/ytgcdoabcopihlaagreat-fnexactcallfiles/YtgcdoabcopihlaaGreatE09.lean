/-
  The mathematics of FnMoves: what is moved back, where nothing stood, is as it was.
-/
import Derived.Test.YtgcdoabcopihlaaGreatE04
import Derived.Test.YtgcdoabcopihlaaGreatE02
import Derived.Test.YtgcdoabcopihlaaGreatTxE
import Derived.Test.YtgcdoabcopihlaaGreatE08
import Derived.Test.YtgcdoabcopihlaaGreatE05
namespace Go.Proofs.YtgcdoabcopihlaaGreat
open Go.ChangeShapes Go.WideShapes Go.ChangeAt Go.RowKit
set_option linter.unusedVariables false
theorem pigeonM : ∀ (n m : Nat) (f : Nat → Nat), (∀ i, i < m → f i < n) → (∀ i j, i < m → j < m → f i = f j → i = j) → m ≤ n
  | 0, m, f, h, _ => by
    rcases Nat.eq_zero_or_pos m with q | q
    · omega
    · exact absurd (h 0 q) (by omega)
  | n + 1, 0, f, h, hi => by omega
  | n + 1, m + 1, f, h, hi => by
    have := pigeonM n m (fun i => if f i = n then f m else f i) (fun i hm => by
      have h1 := h i (by omega)
      have h2 := h m (by omega)
      by_cases e : f i = n
      · rw [if_pos e]
        have : f m ≠ n := fun q => by
          have := hi i m (by omega) (by omega) (e.trans q.symm)
          omega
        omega
      · rw [if_neg e]; omega) (fun i j h1 h2 e => by
      by_cases e1 : f i = n <;> by_cases e2 : f j = n
      · exact hi i j (by omega) (by omega) (e1.trans e2.symm)
      · rw [if_pos e1, if_neg e2] at e
        have := hi m j (by omega) (by omega) e
        omega
      · rw [if_neg e1, if_pos e2] at e
        have := hi i m (by omega) (by omega) e
        omega
      · rw [if_neg e1, if_neg e2] at e
        exact hi i j (by omega) (by omega) e)
    omega
theorem mvd_size {fr p : ByteArray} (h : Mvd fr p) : fr.size ≤ p.size := by
  rcases h with rfl | h
  · exact Nat.le_refl _
  · have := h.1; rw [size_slM] at this; omega
/-- Right files of which none stands at tp: none stands below it. -/
theorem none_under {n : Nat} {F : Nat → Fi} (h : FsOk n F) {tp : ByteArray} (ht : 0 < tp.size) (hn : ∀ j, j < n → (F j).p = tp → (F j).d = false) {i : Nat} (hi : i < n) : ¬ HasPre (F i).p (tp ++ ⟨#[47]⟩) := fun q => by
  obtain ⟨j, hj, e, d⟩ := under_dir h ht _ i hi (Nat.le_refl _) q
  rw [hn j hj e] at d
  cases d
/-- What was moved is moved back. -/
theorem mv_back {fr tp p : ByteArray} (h : Mvd fr p) : Mvd tp (mvT fr tp p) ∧ mvT tp fr (mvT fr tp p) = p := by
  have h1 : Mvd tp (mvT fr tp p) := mvT_under h
  refine ⟨h1, ?_⟩
  rw [mvT_yes h1]
  have h2 := mvd_join h1
  have h3 := mvT_yes (tp := tp) h
  have h4 : (mvT fr tp p).extract tp.size (mvT fr tp p).size = p.extract fr.size p.size := by
    refine app_cancel (a := tp) ?_
    rw [← h2, h3]
  rw [h4, ← mvd_join h]
theorem mv_stay {fr tp p : ByteArray} (h : ¬ Mvd fr p) (h' : ¬ Mvd tp p) : mvT tp fr (mvT fr tp p) = p := by
  rw [mvT_no h, mvT_no h']
/-- The facts of a move that went through. -/
structure MvYes (n : Nat) (F : Nat → Fi) (fr tp : ByteArray) (k m : Nat) (G : Nat → Fi) : Prop where
  ok : FsOk n F
  pf : PathOk fr
  pt : PathOk tp
  hk : k < n
  ek : (F k).p = fr
  ne : fr ≠ tp
  ab : ¬ HasPre tp (fr ++ ⟨#[47]⟩)
  dir : DirIs n F (par tp) 0
  two : ¬ ∃ j, j < n ∧ (F j).p = tp ∧ ((F j).d = true ∨ (F k).d = true)
  len : ¬ ∃ i, i < n ∧ HasPre (F i).p (fr ++ ⟨#[47]⟩) ∧ 40 < tp.size + ((F i).p.size - fr.size)
  arr : ArrM n F fr tp m G
theorem MvIs.yes {n : Nat} {F : Nat → Fi} {fr tp : ByteArray} {m : Nat} {G : Nat → Fi} (h : MvIs n F fr tp m G 0) (hne : fr ≠ tp) : ∃ k, MvYes n F fr tp k m G := by
  rcases h with ⟨_, e, _⟩ | ⟨a, ⟨_, e, _⟩ | ⟨k, hk, ek, ⟨e, _⟩ | ⟨_, ⟨_, e, _⟩ | ⟨u, ⟨_, e, _⟩ | ⟨d, ⟨_, e, _⟩ | ⟨t, ⟨_, e, _⟩ | ⟨l, _, r⟩⟩⟩⟩⟩⟩⟩
  · exact absurd rfl e
  · omega
  · exact absurd e hne
  · omega
  · exact absurd rfl e
  · omega
  · omega
  · obtain ⟨h1, h2, _⟩ := a.ok
    exact ⟨k, h1, by simpa using h2 0 (by omega), by simpa using h2 1 (by omega), hk, ek, hne, u, d, t, l, r⟩
theorem Home.dir {n : Nat} {F : Nat → Fi} {q : ByteArray} (h : Home n F q) : DirIs n F q 0 := by
  rcases h with e | ⟨j, hj, ej, d⟩
  · exact .inl ⟨e, rfl⟩
  · rcases Nat.eq_zero_or_pos q.size with e | e
    · exact .inl ⟨e, rfl⟩
    · exact .inr (.inr ⟨e, j, hj, ej, .inr ⟨d, rfl⟩⟩)
theorem MvYes.keeps {n : Nat} {F : Nat → Fi} {fr tp : ByteArray} {k m : Nat} {G : Nat → Fi} (h : MvYes n F fr tp k m G) : FsOk m G := h.arr.keeps h.ok h.pf h.pt h.hk h.ek h.ab (h.dir.home rfl) h.two h.len
theorem MvYes.above {n : Nat} {F : Nat → Fi} {fr tp : ByteArray} {k m : Nat} {G : Nat → Fi} (h : MvYes n F fr tp k m G) : ¬ HasPre fr (tp ++ ⟨#[47]⟩) := fun q => by
  obtain ⟨j, hj, e, d⟩ := under_dir h.ok (pathOk_pos h.pt) _ k h.hk (Nat.le_refl _) (by rw [h.ek]; exact q)
  exact h.two ⟨j, hj, e, .inl d⟩
/-- Nothing stands any more where it was. -/
theorem MvYes.gone {n : Nat} {F : Nat → Fi} {fr tp : ByteArray} {k m : Nat} {G : Nat → Fi} (h : MvYes n F fr tp k m G) {i : Nat} (hi : i < m) : (G i).p ≠ fr := fun e => by
  obtain ⟨j, hj, _, hG⟩ := h.arr.src i hi
  rw [hG] at e
  have e' : mvT fr tp (F j).p = fr := e
  by_cases hm : Mvd fr (F j).p
  · rcases mvT_under (tp := tp) hm with q | q
    · exact h.ne (e'.symm.trans q)
    · rw [e'] at q; exact h.above q
  · rw [mvT_no hm] at e'
    exact hm (.inl e')
theorem MvYes.back {n : Nat} {F : Nat → Fi} {fr tp : ByteArray} {k m : Nat} {G : Nat → Fi} (h : MvYes n F fr tp k m G) (hs : ∀ j, j < n → (F j).p ≠ tp) : m = n ∧ MvIs m G tp fr n F 0 := by
  have hG := h.keeps
  have t0 := pathOk_pos h.pt
  have hnot : ∀ j, j < n → ¬ Mvd tp (F j).p := fun j hj q => q.elim (hs j hj) (none_under h.ok t0 (fun i hi e => absurd e (hs i hi)) hj)
  have bk : ∀ j, j < n → mvF tp fr (mvF fr tp (F j)) = F j := fun j hj => by
    have e : mvT tp fr (mvT fr tp (F j).p) = (F j).p := by
      by_cases hm : Mvd fr (F j).p
      · exact (mv_back hm).2
      · exact mv_stay hm (hnot j hj)
    show (⟨mvT tp fr (mvT fr tp (F j).p), (F j).d, (F j).t⟩ : Fi) = F j
    rw [e]
  have hnm : n ≤ m := by
    have hc : ∀ j, ∃ i, j < n → i < m ∧ G i = mvF fr tp (F j) := fun j => by
      by_cases hj : j < n
      · obtain ⟨i, hi, e⟩ := h.arr.all j hj (hs j hj)
        exact ⟨i, fun _ => ⟨hi, e⟩⟩
      · exact ⟨0, fun q => absurd q hj⟩
    refine pigeonM m n (fun j => (hc j).choose) (fun j hj => ((hc j).choose_spec hj).1) (fun i j hi hj e => ?_)
    have e1 := ((hc i).choose_spec hi).2
    have e2 := ((hc j).choose_spec hj).2
    have e3 : mvF fr tp (F i) = mvF fr tp (F j) := by rw [← e1, ← e2]; exact congrArg G e
    exact mv_apart h.ok t0 (fun j hj e => absurd e (hs j hj)) hi hj (hs i hi) (hs j hj) (congrArg Fi.p e3)
  have hmn : m = n := Nat.le_antisymm h.arr.le hnm
  refine ⟨hmn, .inr ⟨?_, .inr ?_⟩⟩
  · have := hG.1
    refine .inr ⟨?_, .inr ⟨hG, .inr ⟨fun i hi => ?_, rfl⟩⟩⟩
    · rintro (q | ⟨i, hi, q⟩)
      · omega
      · have hf := h.pf.1
        have ht := h.pt.1
        dsimp only at q
        split at q <;> omega
    · dsimp only
      split
      · exact h.pt
      · exact h.pf
  · obtain ⟨k', hk', ek'⟩ := h.arr.all k h.hk (hs k h.hk)
    refine ⟨k', hk', ?_, .inr ⟨fun e => h.ne e.symm, .inr ⟨h.above, .inr ⟨?_, .inr ⟨?_, .inr ⟨?_, rfl, ?_⟩⟩⟩⟩⟩⟩
    · rw [ek']
      show mvT fr tp (F k).p = tp
      rw [h.ek]
      exact mvT_selfK fr tp
    · refine Home.dir ?_
      have hh := (h.ok.2 k h.hk).2.2
      rw [h.ek] at hh
      rcases hh with q | ⟨j, hj, ej, dj⟩
      · exact .inl q
      · obtain ⟨i, hi, e⟩ := h.arr.all j hj (hs j hj)
        refine .inr ⟨i, hi, ?_, by rw [e]; exact dj⟩
        rw [e]
        show mvT fr tp (F j).p = par fr
        rw [ej]
        refine mvT_no (fun q => ?_)
        rcases q with q | q
        · exact par_lt h.pf q
        · have h1 := q.1
          rw [size_slM] at h1
          have h2 : (par fr).size ≤ fr.size := by unfold par; rw [ByteArray.size_extract]; omega
          omega
    · rintro ⟨j, hj, e, _⟩
      exact h.gone hj e
    · rintro ⟨i, hi, q, l⟩
      obtain ⟨j, hj, _, e⟩ := h.arr.src i hi
      rw [e] at q l
      have q' : HasPre (mvT fr tp (F j).p) (tp ++ ⟨#[47]⟩) := q
      have l' : 40 < fr.size + ((mvT fr tp (F j).p).size - tp.size) := l
      by_cases hm : Mvd fr (F j).p
      · have h1 := (h.ok.2 j hj).1.1.1
        rw [mvT_yes hm, ByteArray.size_append, ByteArray.size_extract] at l'
        have := mvd_size hm
        omega
      · rw [mvT_no hm] at q'
        exact hnot j hj (.inr q')
    · refine ⟨hnm, fun i hi => ?_, fun j hj hne => ?_, h.ok.srt.up⟩
      · obtain ⟨j, hj, e⟩ := h.arr.all i hi (hs i hi)
        exact ⟨j, hj, h.gone hj, by rw [e, bk i hi]⟩
      · obtain ⟨i, hi, _, e⟩ := h.arr.src j hj
        exact ⟨i, hi, by rw [e, bk i hi]⟩
end Go.Proofs.YtgcdoabcopihlaaGreat

/-
  ListDir of the model.
-/
namespace Go.Proofs.YtgcdoabcopihlaaGreat
open Go.ChangeShapes Go.WideShapes Go.ChangeAt Go.RowKit
set_option linter.unusedVariables false
/-- The name of a file in a directory. -/
def chT (x : Fi) (p : ByteArray) : ByteArray := if x.d then x.p.extract (aheadT p).size x.p.size ++ ⟨#[47]⟩ else x.p.extract (aheadT p).size x.p.size
/-- The names in a directory. -/
noncomputable def lsL (F : Nat → Fi) (p : ByteArray) : Nat → List ByteArray
  | 0 => []
  | k + 1 => open Classical in if par (F k).p = p then lsL F p k ++ [chT (F k) p] else lsL F p k
theorem lsL_yes {F : Nat → Fi} {p : ByteArray} {k : Nat} (h : par (F k).p = p) : lsL F p (k + 1) = lsL F p k ++ [chT (F k) p] := by
  show (open Classical in if par (F k).p = p then lsL F p k ++ [chT (F k) p] else lsL F p k) = _
  rw [if_pos h]
theorem lsL_no {F : Nat → Fi} {p : ByteArray} {k : Nat} (h : ¬ par (F k).p = p) : lsL F p (k + 1) = lsL F p k := by
  show (open Classical in if par (F k).p = p then lsL F p k ++ [chT (F k) p] else lsL F p k) = _
  rw [if_neg h]
theorem lsL_le (F : Nat → Fi) (p : ByteArray) : ∀ k, (lsL F p k).length ≤ k
  | 0 => Nat.le_refl _
  | k + 1 => by
    have := lsL_le F p k
    by_cases h : par (F k).p = p
    · rw [lsL_yes h, List.length_append]; simp; omega
    · rw [lsL_no h]; omega
theorem EO.pxCongr {w : World} {B : Nat} {v : Value} {n : Nat} {f g : Nat → ByteArray} (h : EO w B 9 1 v n (pxF f)) (e : ∀ i, i < n → f i = g i) : EO w B 9 1 v n (pxF g) := h.congr (fun i hi j hj => by unfold pxF; rw [e i hi])
/-- One more name. -/
theorem appName {v1 wr : World} {a : Option Addr} {q c : Nat} {L : List ByteArray} (x : ByteArray) (hq : q = L.length) (hl : q ≤ 1000) (h : EO wr v1.heap.size 9 1 (.slice a q c) q (pxF (nthT L))) (hb : Below v1.heap.size v1 wr) :
    ∃ a' c' w', (∀ ty, (Builtin.append_ #[73, 73] ty #[.slice a q c, .slice (some ⟨wr.heap.size, 0, none⟩) 1 1]).run Tryz.prog (wr.alloc (.cells #[.string x] 9)) = .ok (.slice a' (q + 1) c') w') ∧ EO w' v1.heap.size 9 1 (.slice a' (q + 1) c') (q + 1) (pxF (nthT (L ++ [x]))) ∧ Below v1.heap.size v1 w' := by
  have hsz := hb.size
  have WB : Below wr.heap.size wr (wr.alloc (.cells #[.string x] 9)) := (Below.refl _ _).alloc (Nat.le_refl _) _
  obtain ⟨v', w', hr, ho, hg, hloc⟩ := appPx (wr.alloc (.cells #[.string x] 9)) v1.heap.size _ q wr.heap.size (nthT L) x (by simp; omega) (by omega) (h.below WB) (fun j hj => by
    obtain rfl : j = 0 := by omega
    simp [pxV])
  obtain ⟨a', c', rfl⟩ := ho.form
  refine ⟨a', c', w', hr, ho.pxCongr (fun i hi => ?_), ?_⟩
  · subst hq; exact nthT_snoc L x i hi
  · exact (hb.trans (WB.mono (by omega))).grown hg (by simp; omega) (fun g e => (h.ge g e).1)
set_option maxRecDepth 100000 in
set_option maxHeartbeats 2000000 in
theorem l11List_any (a : Option Addr) (n c : Nat) (F : Nat → Fi) (p : ByteArray) (hok : ∀ i, i < n → PathOk (F i).p) (hn : n ≤ 12) (hp : p.size ≤ 40) (v1 : World) (h : Els v1 3 a n (fiF F)) :
    Calls Tryz.prog 98 #[.slice a n c, .string p] v1 fun e w' => (∃ a' c', e = .returned (.slice a' (lsL F p n).length c') ∧ EO w' v1.heap.size 9 1 (.slice a' (lsL F p n).length c') (lsL F p n).length (pxF (nthT (lsL F p n)))) ∧ Below v1.heap.size v1 w' := by
  have H1 : Hid (Els v1 3 a n (fiF F)) := h
  have HO : Hid (∀ i, i < n → PathOk (F i).p) := hok
  have PA : Hid (∀ i, i < n → ∀ w : World, Calls Tryz.prog 62 #[.string (F i).p] w fun e w' => e = .returned (.string (par (F i).p)) ∧ w' = w) := fun i hi => l11Parent_any _ (by have := (hok i hi).1; omega)
  have L0 : Hid (EO (v1.alloc (.cells #[] 9)) v1.heap.size 9 1 (.slice (some ⟨v1.heap.size, 0, none⟩) 0 0) 0 (pxF (nthT []))) := EO.lit v1 v1.heap.size _ 1 (Nat.le_refl _) _
  have LB : Hid (Below v1.heap.size v1 (v1.alloc (.cells #[] 9))) := (Below.refl _ _).alloc (Nat.le_refl _) _
  clear h hok
  go_enter Tryz.func98, Tryz.ntmps98
  go_wp2
  go_loopw [5, 6] (fun v i wr => ∃ (k q cc : Nat) (aa : Option Addr), k ≤ n ∧ v = .slice aa q cc ∧ i = .int .i64 k ∧ q = (lsL F p k).length ∧ EO wr v1.heap.size 9 1 (.slice aa q cc) q (pxF (nthT (lsL F p k))) ∧ Below v1.heap.size v1 wr) (fun _ i _ => n - (intOf i).toNat)
  case atStart => exact ⟨0, 0, 0, _, by omega, rfl, rfl, rfl, L0.out, LB.out⟩
  case round =>
    obtain ⟨k, q, cc, aa, hk, rfl, rfl, hq, ho, hb⟩ := hrel
    have HE : Hid (EO wr v1.heap.size 9 1 (.slice aa q cc) q (pxF (nthT (lsL F p k)))) := ho
    have HB : Hid (Below v1.heap.size v1 wr) := hb
    have HQ : Hid (q = (lsL F p k).length) := hq
    have hq12 : q ≤ 12 := by have := lsL_le F p k; omega
    clear ho hb hq L0 LB
    by_cases hlt : k < n
    · have hlt' : (k : Int) < (n : Int) := by omega
      obtain ⟨b, off, rfl, hc⟩ := (H1.out.below HB.out).opened (by omega)
      obtain ⟨c0, c1, c2⟩ := Els.fiC hc k hlt
      have hP := HO.out k hlt
      have hps := hP.1
      have PK : Hid (∀ w : World, Calls Tryz.prog 62 #[.string (F k).p] w fun e w' => e = .returned (.string (par (F k).p)) ∧ w' = w) := PA.out k hlt
      by_cases hpar : par (F k).p = p
      · have hpi := (par_iff hP).1 hpar
        have HL : Hid (lsL F p (k + 1) = lsL F p k ++ [chT (F k) p]) := lsL_yes hpar
        have g1 : ((par (F k).p).toList == p.toList) = true := by rw [hpar]; simp
        have Q3 : Hid (q + 1 = (lsL F p (k + 1)).length) := by show _ = _; rw [HL.out, List.length_append, HQ.out]; rfl
        have REST : ∀ X, chT (F k) p = X → ∃ a3 c3 u3, Hid (∀ ty, (Builtin.append_ #[73, 73] ty #[.slice aa q cc, .slice (some ⟨wr.heap.size, 0, none⟩) 1 1]).run Tryz.prog (wr.alloc (.cells #[.string X] 9)) = .ok (.slice a3 (q + 1) c3) u3) ∧ Hid (EO u3 v1.heap.size 9 1 (.slice a3 (q + 1) c3) (q + 1) (pxF (nthT (lsL F p (k + 1))))) ∧ Hid (Below v1.heap.size v1 u3) := fun X hX => by
          obtain ⟨a3, c3, u3, r3, o3, b3⟩ := appName (chT (F k) p) HQ.out (by omega) HE.out HB.out
          rw [← HL.out] at o3
          rw [hX] at r3
          exact ⟨a3, c3, u3, r3, o3, b3⟩
        have hah : (aheadT p).size ≤ (F k).p.size := hpi.1.1
        have CHD : Hid True := trivial
        generalize par (F k).p = pk at *
        clear hpi hP hc HL HQ HE HB
        by_cases e0 : p.size = 0
        · have hp0 : p = ⟨#[]⟩ := by
            apply ByteArray.ext
            apply Array.ext'
            have : p.data.toList.length = 0 := by rw [Array.length_toList]; exact e0
            exact List.length_eq_zero_iff.1 this
          have hx : (F k).p.extract (aheadT p).size (F k).p.size = (F k).p := by
            rw [show (aheadT p).size = 0 by unfold aheadT; rw [if_pos e0]; rfl]
            exact ByteArray.extract_zero_size
          subst hp0
          subst hpar
          cases hd : (F k).d with
          | false =>
            have CX : chT (F k) ⟨#[]⟩ = (F k).p := by unfold chT; rw [hd, hx]; rfl
            obtain ⟨a3, c3, u3, r3, O3, B3⟩ := REST _ CX
            rw [hd] at c1
            clear REST CX hd hx CHD
            go_wp2_with fail
            refine (PK.out _).mono ?_
            rintro e w1 ⟨rfl, hw⟩
            cases hw
            clear PK
            go_wp2_with (at_builtin; refine Lib.wpList_append_run _ rfl (.tmp 42) (.tmp 44) 73 73 rfl (.slice aa q cc) (.slice (some ⟨wr.heap.size, 0, none⟩) 1 1) rfl rfl _ _ (r3.out _) ?_)
            go_roundw
            case rel => exact ⟨k + 1, q + 1, c3, a3, by omega, rfl, by go_num, Q3.out, O3.out, B3.out⟩
            case measure => simp [intOf]; omega
          | true =>
            have CX : chT (F k) ⟨#[]⟩ = (F k).p ++ (⟨#[47]⟩ : ByteArray) := by unfold chT; rw [hd, hx]; rfl
            obtain ⟨a3, c3, u3, r3, O3, B3⟩ := REST _ CX
            rw [hd] at c1
            have hjn : (F k).p.size + 1 ≤ 9223372036854775807 := by omega
            have hjn2 : ¬ 9223372036854775807 < (F k).p.size + 1 := by omega
            clear REST CX hd hx CHD
            go_wp2_with fail
            refine (PK.out _).mono ?_
            rintro e w1 ⟨rfl, hw⟩
            cases hw
            clear PK
            go_wp2_with (at_builtin; refine Lib.wpList_append_run _ rfl (.tmp 42) (.tmp 44) 73 73 rfl (.slice aa q cc) (.slice (some ⟨wr.heap.size, 0, none⟩) 1 1) rfl rfl _ _ (r3.out _) ?_)
            go_roundw
            case rel => exact ⟨k + 1, q + 1, c3, a3, by omega, rfl, by go_num, Q3.out, O3.out, B3.out⟩
            case measure => simp [intOf]; omega
        · clear hpar
          have ha1 : (aheadT p).size = p.size + 1 := by unfold aheadT; rw [if_neg e0, size_sl]
          have hx : (F k).p.extract (aheadT p).size (F k).p.size = (F k).p.extract (p.size + 1) (F k).p.size := by rw [ha1]
          have ge := textEmpty (q := p) (by omega)
          have ge2 := textEmpty2 (q := p) (by omega)
          have wr1 : IntKind.i64.wrap ((p.size : Int) + 1) = (p.size : Int) + 1 := IntWalk.i64_in _ (by omega)
          have tn : ((p.size : Int) + 1).toNat = p.size + 1 := by omega
          have lo : (0 : Int) ≤ (p.size : Int) + 1 := by omega
          have hi : (p.size : Int) + 1 ≤ ((F k).p.size : Int) := by omega
          have hes : ((F k).p.extract (p.size + 1) (F k).p.size).size ≤ 40 := by rw [extract_size _ _ _ (Nat.le_refl _)]; omega
          clear ha1 hah
          cases hd : (F k).d with
          | false =>
            have CX : chT (F k) p = ((F k).p.extract (p.size + 1) (F k).p.size) := by unfold chT; rw [hd, hx]; rfl
            obtain ⟨a3, c3, u3, r3, O3, B3⟩ := REST _ CX
            rw [hd] at c1
            clear REST CX hd hx CHD
            go_wp2_with fail
            refine (PK.out _).mono ?_
            rintro e w1 ⟨rfl, hw⟩
            cases hw
            clear PK
            go_wp2_with (at_builtin; refine Lib.wpList_append_run _ rfl (.tmp 42) (.tmp 44) 73 73 rfl (.slice aa q cc) (.slice (some ⟨wr.heap.size, 0, none⟩) 1 1) rfl rfl _ _ (r3.out _) ?_)
            go_roundw
            case rel => exact ⟨k + 1, q + 1, c3, a3, by omega, rfl, by go_num, Q3.out, O3.out, B3.out⟩
            case measure => simp [intOf]; omega
          | true =>
            have CX : chT (F k) p = ((F k).p.extract (p.size + 1) (F k).p.size) ++ (⟨#[47]⟩ : ByteArray) := by unfold chT; rw [hd, hx]; rfl
            obtain ⟨a3, c3, u3, r3, O3, B3⟩ := REST _ CX
            rw [hd] at c1
            have hjn : ((F k).p.extract (p.size + 1) (F k).p.size).size + 1 ≤ 9223372036854775807 := by omega
            have hjn2 : ¬ 9223372036854775807 < ((F k).p.extract (p.size + 1) (F k).p.size).size + 1 := by omega
            clear REST CX hd hx CHD
            go_wp2_with fail
            refine (PK.out _).mono ?_
            rintro e w1 ⟨rfl, hw⟩
            cases hw
            clear PK
            go_wp2_with (at_builtin; refine Lib.wpList_append_run _ rfl (.tmp 42) (.tmp 44) 73 73 rfl (.slice aa q cc) (.slice (some ⟨wr.heap.size, 0, none⟩) 1 1) rfl rfl _ _ (r3.out _) ?_)
            go_roundw
            case rel => exact ⟨k + 1, q + 1, c3, a3, by omega, rfl, by go_num, Q3.out, O3.out, B3.out⟩
            case measure => simp [intOf]; omega
      · have g1 : ((par (F k).p).toList == p.toList) = false := textNe hpar
        have HL : lsL F p (k + 1) = lsL F p k := lsL_no hpar
        have O3 : Hid (EO wr v1.heap.size 9 1 (.slice aa q cc) q (pxF (nthT (lsL F p (k + 1))))) := by show EO _ _ _ _ _ _ _; rw [HL]; exact HE.out
        have Q3 : Hid (q = (lsL F p (k + 1)).length) := by show _ = _; rw [HL]; exact HQ.out
        generalize par (F k).p = pk at *
        clear hpar hP hc HL HQ HE
        go_wp2_with fail
        refine (PK.out _).mono ?_
        rintro e w1 ⟨rfl, hw⟩
        cases hw
        clear PK
        go_wp2
        go_roundw
        case rel => exact ⟨k + 1, q, cc, aa, by omega, rfl, by go_num, Q3.out, O3.out, HB.out⟩
        case measure => simp [intOf]; omega
    · obtain rfl : k = n := by omega
      have hlt' : ¬ (k : Int) < (k : Int) := by omega
      have HR : Hid (EO wr v1.heap.size 9 1 (.slice aa (lsL F p k).length cc) (lsL F p k).length (pxF (nthT (lsL F p k)))) := HQ.out ▸ HE.out
      have E2 : Hid (q = (lsL F p k).length) := HQ.out
      clear HQ HE
      go_wp2
      go_ret
      exact ⟨⟨_, _, by rw [E2.out]; rfl, HR.out⟩, HB.out⟩
/-- What ListDir does. -/
def LsIs (n : Nat) (F : Nat → Fi) (p : ByteArray) (L : List ByteArray) (c : Int) : Prop :=
  (p.size = 0 ∧ ((FtIs n F 0 (fun _ => p) c ∧ c ≠ 0 ∧ L = []) ∨ (FtIs n F 0 (fun _ => p) 0 ∧ c = 0 ∧ L = lsL F p n))) ∨ (0 < p.size ∧ ((FtIs n F 1 (fun _ => p) c ∧ c ≠ 0 ∧ L = []) ∨ (FtIs n F 1 (fun _ => p) 0 ∧ ((DirIs n F p c ∧ c ≠ 0 ∧ L = []) ∨ (DirIs n F p 0 ∧ c = 0 ∧ L = lsL F p n)))))
theorem LsIs.uniq {n : Nat} {F : Nat → Fi} {p : ByteArray} {L L' : List ByteArray} {c c' : Int} (h : LsIs n F p L c) (h' : LsIs n F p L' c') : L = L' ∧ c = c' := by
  rcases h with ⟨z, ⟨a, b, rfl⟩ | ⟨a, rfl, rfl⟩⟩ | ⟨z, ⟨a, b, rfl⟩ | ⟨a, q⟩⟩ <;> rcases h' with ⟨z', ⟨a', b', rfl⟩ | ⟨a', rfl, rfl⟩⟩ | ⟨z', ⟨a', b', rfl⟩ | ⟨a', q'⟩⟩ <;> try omega
  · exact ⟨rfl, a.uniq a'⟩
  · exact absurd (a.uniq a') b
  · exact absurd (a'.uniq a) b'
  · exact ⟨rfl, rfl⟩
  · exact ⟨rfl, a.uniq a'⟩
  · exact absurd (a.uniq a') b
  · exact absurd (a'.uniq a) b'
  · have hs := a.ok.1.srt
    rcases q with ⟨d, b, rfl⟩ | ⟨d, rfl, rfl⟩ <;> rcases q' with ⟨d', b', rfl⟩ | ⟨d', rfl, rfl⟩
    · exact ⟨rfl, d.uniq hs d'⟩
    · exact absurd (d.uniq hs d') b
    · exact absurd (d'.uniq hs d) b'
    · exact ⟨rfl, rfl⟩
/-- Names handed back. -/
def RetNm (L : List ByteArray) (cd : Int) (B : Nat) (e : Ending) (w : World) : Prop := ∃ a c, e = .returned (.tuple #[.slice a L.length c, .int .i64 cd]) ∧ EO w B 9 1 (.slice a L.length c) L.length (pxF (nthT L))
theorem retNm_lit (w : World) (cd : Int) (B : Nat) (hB : B ≤ w.heap.size) : RetNm [] cd B (.returned (.tuple #[.slice (some ⟨w.heap.size, 0, none⟩) 0 0, .int .i64 cd])) (w.alloc (.cells #[] 9)) := ⟨_, _, rfl, EO.lit w B _ 1 hB _⟩
set_option maxRecDepth 100000 in
set_option maxHeartbeats 2000000 in
theorem specLs_any (a : Option Addr) (n c : Nat) (F : Nat → Fi) (p : ByteArray) (hsz : ∀ i, i < n → (F i).p.size ≤ 1048576) (hnn : n ≤ 1048576) (hpz : p.size ≤ 1048576) (w : World) (h : Els w 3 a n (fiF F)) :
    Calls Tryz.prog 65 #[.slice a n c, .string p] w fun e w' => (∃ L cd, LsIs n F p L cd ∧ RetNm L cd w.heap.size e w') ∧ Below w.heap.size w w' := by
  have LS : Hid (∀ w' : World, Below w.heap.size w w' → FsOk n F → p.size ≤ 40 → Calls Tryz.prog 98 #[.slice a n c, .string p] w' fun e w'' => (∃ a' c', e = .returned (.slice a' (lsL F p n).length c') ∧ EO w'' w'.heap.size 9 1 (.slice a' (lsL F p n).length c') (lsL F p n).length (pxF (nthT (lsL F p n)))) ∧ Below w'.heap.size w' w'') := fun w' hb ho hp => l11List_any a n c F p ho.srt.ok ho.1 hp w' (h.below hb)
  have LIT : Hid (∀ (w' : World) (cd : Int), w.heap.size ≤ w'.heap.size → RetNm [] cd w.heap.size (.returned (.tuple #[.slice (some ⟨w'.heap.size, 0, none⟩) 0 0, .int .i64 cd])) (w'.alloc (.cells #[] 9))) := fun w' cd hB => retNm_lit w' cd _ hB
  by_cases h1 : 65536 < p.size
  · have g1 : (65536 : Int) < (p.size : Int) := by omega
    have HX : Hid (LsIs n F p [] 2) := .inr ⟨by omega, .inl ⟨.inl ⟨.inr ⟨0, by omega, h1⟩, rfl⟩, by decide, rfl⟩⟩
    clear h hsz h1
    go_enter Tryz.func65, Tryz.ntmps65
    go_wp2
    go_ret2
    exact ⟨⟨_, _, HX.out, LIT.out _ _ (Nat.le_refl _)⟩, (Below.refl _ _).alloc (Nat.le_refl _) _⟩
  have g1 : ¬ (65536 : Int) < (p.size : Int) := by omega
  have FO : Hid (Calls Tryz.prog 28 #[.slice a n c] w fun e w' => Says e (FsOk n F) ∧ Below w.heap.size w w') := specFilesOK_any a n c F hsz hnn w h
  have CD : Hid (Calls Tryz.prog 97 #[.slice a n c, .string p] w fun e w' => (∃ x : Int, e = .returned (.int .i64 x) ∧ FtIs n F 1 (fun _ => p) x) ∧ Below w.heap.size w w') := l11Code_any a n c F p hsz hnn hpz w h
  have FN : Hid (∀ w' : World, Below w.heap.size w w' → Calls Tryz.prog 73 #[.slice a n c, .string p] w' fun e w'' => (∃ r : Int, e = .returned (.int .i64 r) ∧ FstIs n F p r) ∧ w'' = w') := fun w' hb => l11Find_any a n c F p hnn w' (h.below hb)
  have H : Hid (Els w 3 a n (fiF F)) := h
  clear h hsz h1
  by_cases e0 : p.size = 0
  · have hnl : ¬ LongT 0 (fun _ : Nat => p) := fun ⟨i, hi, _⟩ => absurd hi (by omega)
    have LI : Hid (∀ L c, ((FtIs n F 0 (fun _ => p) c ∧ c ≠ 0 ∧ L = []) ∨ (FtIs n F 0 (fun _ => p) 0 ∧ c = 0 ∧ L = lsL F p n)) → LsIs n F p L c) := fun L c q => .inl ⟨e0, q⟩
    have hp0 : p = ⟨#[]⟩ := by
      apply ByteArray.ext
      apply Array.ext'
      have : p.data.toList.length = 0 := by rw [Array.length_toList]; exact e0
      exact List.length_eq_zero_iff.1 this
    have HPZ : Hid (p.size ≤ 40) := by show _ ≤ _; omega
    by_cases h4 : 4096 < n
    · have g4 : (4096 : Int) < (n : Int) := by omega
      have HX : Hid (LsIs n F p [] 2) := LI.out _ _ (.inl ⟨.inl ⟨.inl h4, rfl⟩, by decide, rfl⟩)
      clear LI h4 e0 hnl FO CD FN
      subst hp0
      go_enter Tryz.func65, Tryz.ntmps65
      go_wp2
      go_ret2
      exact ⟨⟨_, _, HX.out, LIT.out _ _ (Nat.le_refl _)⟩, (Below.refl _ _).alloc (Nat.le_refl _) _⟩
    · have g4 : ¬ (4096 : Int) < (n : Int) := by omega
      have NL : Hid (¬ (4096 < n ∨ LongT 0 (fun _ : Nat => p))) := fun q => q.elim h4 hnl
      have X1 : Hid (¬ FsOk n F → LsIs n F p [] 1) := fun q => LI.out _ _ (.inl ⟨.inr ⟨NL.out, .inl ⟨q, rfl⟩⟩, by decide, rfl⟩)
      have X0 : Hid (FsOk n F → LsIs n F p (lsL F p n) 0) := fun q => LI.out _ _ (.inr ⟨.inr ⟨NL.out, .inr ⟨q, .inr ⟨fun i hi => absurd hi (by omega), rfl⟩⟩⟩, rfl, rfl⟩)
      clear LI h4 e0 hnl CD FN NL
      subst hp0
      go_enter Tryz.func65, Tryz.ntmps65
      go_wp2_with fail
      refine (Calls.mono FO.out) ?_
      rintro e v1 ⟨⟨y, rfl, hy⟩, hb⟩
      have B1 : Hid (Below w.heap.size w v1) := hb
      have HY : Hid (y = true ↔ FsOk n F) := hy
      clear hb hy FO
      cases y with
      | false =>
        have HX : Hid (LsIs n F ⟨#[]⟩ [] 1) := X1.out (fun q => by have := HY.out.2 q; cases this)
        clear HY X1 X0
        go_wp2
        go_ret2
        exact ⟨⟨_, _, HX.out, LIT.out _ _ B1.out.size⟩, B1.out.alloc B1.out.size _⟩
      | true =>
        have HF : Hid (FsOk n F) := HY.out.1 rfl
        have HX : Hid (LsIs n F ⟨#[]⟩ (lsL F ⟨#[]⟩ n) 0) := X0.out HF.out
        have LV := LS.out v1 B1.out HF.out HPZ.out
        clear HY X1 X0
        generalize lsL F ⟨#[]⟩ n = LL at *
        go_wp2_with fail
        refine LV.mono ?_
        rintro e v2 ⟨⟨a9, c9, rfl, he⟩, hb⟩
        have HE : Hid (EO v2 w.heap.size 9 1 (.slice a9 LL.length c9) LL.length (pxF (nthT LL))) := he.mono B1.out.size
        have B2 : Hid (Below w.heap.size w v2) := B1.out.trans (hb.mono B1.out.size)
        clear he hb LS
        go_wp2
        go_ret2
        exact ⟨⟨_, _, HX.out, ⟨_, _, rfl, HE.out⟩⟩, B2.out⟩
  · have hp1 : 0 < p.size := by omega
    have LI : Hid (∀ L c, ((FtIs n F 1 (fun _ => p) c ∧ c ≠ 0 ∧ L = []) ∨ (FtIs n F 1 (fun _ => p) 0 ∧ ((DirIs n F p c ∧ c ≠ 0 ∧ L = []) ∨ (DirIs n F p 0 ∧ c = 0 ∧ L = lsL F p n)))) → LsIs n F p L c) := fun L c q => .inr ⟨hp1, q⟩
    have ge := textEmpty (q := p) hp1
    have ge2 := textEmpty2 (q := p) hp1
    have HP1 : Hid (0 < p.size) := hp1
    clear FO hp1 e0
    go_enter Tryz.func65, Tryz.ntmps65
    go_wp2_with fail
    refine (Calls.mono CD.out) ?_
    rintro e v1 ⟨⟨x, rfl, hx⟩, hb⟩
    have B1 : Hid (Below w.heap.size w v1) := hb
    have HX : Hid (FtIs n F 1 (fun _ => p) x) := hx
    clear hx hb CD
    by_cases h0 : x = 0
    · subst h0
      obtain ⟨ho, hp, hn4, -⟩ := HX.out.ok
      have HF : Hid (FsOk n F) := ho
      have HPZ : Hid (p.size ≤ 40) := (hp 0 (by omega)).1
      clear ho hp hn4
      go_wp2_with fail
      refine (FN.out _ B1.out).mono ?_
      rintro e w1 ⟨⟨r, rfl, hr⟩, hw⟩
      cases hw
      clear FN
      rcases hr with ⟨rfl, hno⟩ | ⟨j, rfl, hj, ej, hfst⟩
      · have HM : Hid (LsIs n F p [] 5) := LI.out _ _ (.inr ⟨HX.out, .inl ⟨.inr (.inl ⟨HP1.out, hno, rfl⟩), by decide, rfl⟩⟩)
        clear hno LI
        go_wp2
        go_ret2
        exact ⟨⟨_, _, HM.out, LIT.out _ _ B1.out.size⟩, B1.out.alloc B1.out.size _⟩
      · obtain ⟨b, off, rfl, hc⟩ := (H.out.below B1.out).opened (by omega)
        obtain ⟨c0, c1, c2⟩ := Els.fiC hc j hj
        have hlt' : (j : Int) < (n : Int) := by omega
        have h0' : ¬ (j : Int) < 0 := by omega
        have h1' : (0 : Int) ≤ (j : Int) := by omega
        clear hc hfst
        cases hd : (F j).d with
        | false =>
          have HM : Hid (LsIs n F p [] 17) := LI.out _ _ (.inr ⟨HX.out, .inl ⟨.inr (.inr ⟨HP1.out, j, hj, ej, .inl ⟨hd, rfl⟩⟩), by decide, rfl⟩⟩)
          rw [hd] at c1
          clear LI ej hd
          go_wp2
          go_ret2
          exact ⟨⟨_, _, HM.out, LIT.out _ _ B1.out.size⟩, B1.out.alloc B1.out.size _⟩
        | true =>
          have HM : Hid (LsIs n F p (lsL F p n) 0) := LI.out _ _ (.inr ⟨HX.out, .inr ⟨.inr (.inr ⟨HP1.out, j, hj, ej, .inr ⟨hd, rfl⟩⟩), rfl, rfl⟩⟩)
          have LV := LS.out v1 B1.out HF.out HPZ.out
          rw [hd] at c1
          clear LI ej hd
          generalize lsL F p n = LL at *
          go_wp2_with fail
          refine LV.mono ?_
          rintro e v2 ⟨⟨a9, c9, rfl, he⟩, hb⟩
          have HE : Hid (EO v2 w.heap.size 9 1 (.slice a9 LL.length c9) LL.length (pxF (nthT LL))) := he.mono B1.out.size
          have B2 : Hid (Below w.heap.size w v2) := B1.out.trans (hb.mono B1.out.size)
          clear he hb LS
          go_wp2
          go_ret2
          exact ⟨⟨_, _, HM.out, ⟨_, _, rfl, HE.out⟩⟩, B2.out⟩
    · have g : (x != 0) = true := by simpa using h0
      have HM : Hid (LsIs n F p [] x) := LI.out _ _ (.inl ⟨HX.out, h0, rfl⟩)
      clear h0 LI
      go_wp2
      go_ret2
      exact ⟨⟨_, _, HM.out, LIT.out _ _ B1.out.size⟩, B1.out.alloc B1.out.size _⟩
end Go.Proofs.YtgcdoabcopihlaaGreat

/-
  What a call does to right files: the mathematics of CallFiles.
-/
namespace Go.Proofs.YtgcdoabcopihlaaGreat
open Go.ChangeShapes Go.WideShapes Go.ChangeAt Go.RowKit
set_option linter.unusedVariables false
/-- The first k names with a blank between. -/
def joinT (L : List ByteArray) : Nat → ByteArray
  | 0 => ⟨#[]⟩
  | k + 1 => if k = 0 then joinT L k ++ nthT L k else joinT L k ++ ⟨#[32]⟩ ++ nthT L k
/-- A path of the call is none. -/
def PthBad (x : Fcl) : Prop := (¬ PathOk x.p ∧ ¬ (x.k = 7 ∧ x.p.size = 0)) ∨ (x.k = 5 ∧ ¬ PathOk x.o)
/-- What a call does to right files: the files behind it, its text and its code. -/
def CfP (n : Nat) (F : Nat → Fi) (x : Fcl) (m : Nat) (G : Nat → Fi) (t : ByteArray) (c : Int) : Prop :=
  (¬ (1 ≤ x.k ∧ x.k ≤ 7) ∧ c = 3 ∧ t = ⟨#[]⟩ ∧ m = n ∧ G = F) ∨ ((1 ≤ x.k ∧ x.k ≤ 7) ∧ ((PthBad x ∧ c = 16 ∧ t = ⟨#[]⟩ ∧ m = n ∧ G = F) ∨ (¬ PthBad x ∧
    ((x.k = 1 ∧ MkP n F x.p m G c ∧ t = ⟨#[]⟩) ∨ (x.k = 2 ∧ WrP n F x.p x.a x.d m G c ∧ t = ⟨#[]⟩) ∨ (x.k = 3 ∧ RdIs n F x.p x.a x.n t c ∧ m = n ∧ G = F) ∨
      (x.k = 4 ∧ CtP n F x.p x.n m G c ∧ t = ⟨#[]⟩) ∨ (x.k = 5 ∧ MvP n F x.p x.o m G c ∧ t = ⟨#[]⟩) ∨ (x.k = 6 ∧ RmP n F x.p m G c ∧ t = ⟨#[]⟩) ∨ (x.k = 7 ∧ m = n ∧ G = F ∧ ∃ L, LsIs n F x.p L c ∧ t = joinT L L.length)))))
theorem ft1 {n : Nat} {F : Nat → Fi} {p : ByteArray} {c : Int} (hF : FsOk n F) (hp : p.size ≤ 65536) (h : FtIs n F 1 (fun _ => p) c) : (PathOk p ∧ c = 0) ∨ (¬ PathOk p ∧ c = 16) := by
  have hn := hF.1
  rcases h with ⟨q | ⟨i, _, q⟩, _⟩ | ⟨_, ⟨q, _⟩ | ⟨_, ⟨⟨i, _, q⟩, e⟩ | ⟨q, e⟩⟩⟩
  · omega
  · dsimp only at q; omega
  · exact absurd hF q
  · exact .inr ⟨q, e⟩
  · exact .inl ⟨q 0 (by omega), e⟩
theorem ft2 {n : Nat} {F : Nat → Fi} {p o : ByteArray} {c : Int} (hF : FsOk n F) (hp : p.size ≤ 65536) (ho : o.size ≤ 65536) (h : FtIs n F 2 (fun i => if i = 0 then p else o) c) : (PathOk p ∧ PathOk o ∧ c = 0) ∨ (¬ (PathOk p ∧ PathOk o) ∧ c = 16) := by
  have hn := hF.1
  rcases h with ⟨q | ⟨i, _, q⟩, _⟩ | ⟨_, ⟨q, _⟩ | ⟨_, ⟨⟨i, _, q⟩, e⟩ | ⟨q, e⟩⟩⟩
  · omega
  · dsimp only at q; split at q <;> omega
  · exact absurd hF q
  · refine .inr ⟨fun z => q ?_, e⟩
    dsimp only
    split
    · exact z.1
    · exact z.2
  · exact .inl ⟨by simpa using q 0 (by omega), by simpa using q 1 (by omega), e⟩
/-- A code leaves the files as they were. -/
def Kept (n : Nat) (F : Nat → Fi) (m : Nat) (G : Nat → Fi) (c : Int) : Prop := c ≠ 0 → m = n ∧ G = F
theorem MkP.kept {n : Nat} {F : Nat → Fi} {p : ByteArray} {m : Nat} {G : Nat → Fi} {c : Int} (h : MkP n F p m G c) : Kept n F m G c := fun hc => by
  rcases h with ⟨_, _, e1, e2⟩ | ⟨_, ⟨_, _, e1, e2⟩ | ⟨_, e, _⟩⟩
  · exact ⟨e1, e2⟩
  · exact ⟨e1, e2⟩
  · exact absurd e hc
theorem WrP.kept {n : Nat} {F : Nat → Fi} {p : ByteArray} {k : Int} {s : ByteArray} {m : Nat} {G : Nat → Fi} {c : Int} (h : WrP n F p k s m G c) : Kept n F m G c := fun hc => by
  obtain ⟨y, _, h⟩ := h
  rcases h with ⟨_, _, e1, e2⟩ | ⟨_, ⟨_, _, e1, e2⟩ | ⟨_, ⟨_, _, _, e1, e2⟩ | ⟨_, e, _⟩⟩⟩
  · exact ⟨e1, e2⟩
  · exact ⟨e1, e2⟩
  · exact ⟨e1, e2⟩
  · exact absurd e hc
theorem CtP.kept {n : Nat} {F : Nat → Fi} {p : ByteArray} {k : Int} {m : Nat} {G : Nat → Fi} {c : Int} (h : CtP n F p k m G c) : Kept n F m G c := fun hc => by
  rcases h with ⟨_, _, e1, e2⟩ | ⟨_, ⟨_, _, e1, e2⟩ | ⟨_, e, _⟩⟩
  · exact ⟨e1, e2⟩
  · exact ⟨e1, e2⟩
  · exact absurd e hc
theorem RmP.kept {n : Nat} {F : Nat → Fi} {p : ByteArray} {m : Nat} {G : Nat → Fi} {c : Int} (h : RmP n F p m G c) : Kept n F m G c := fun hc => by
  rcases h with ⟨_, _, e1, e2⟩ | ⟨_, _, _, ⟨_, _, e1, e2⟩ | ⟨_, e, _⟩⟩
  · exact ⟨e1, e2⟩
  · exact ⟨e1, e2⟩
  · exact absurd e hc
theorem MvP.kept {n : Nat} {F : Nat → Fi} {fr tp : ByteArray} {m : Nat} {G : Nat → Fi} {c : Int} (h : MvP n F fr tp m G c) : Kept n F m G c := fun hc => by
  rcases h with ⟨_, _, e1, e2⟩ | ⟨_, _, _, ⟨_, e, _⟩ | ⟨_, ⟨_, _, e1, e2⟩ | ⟨_, ⟨_, _, e1, e2⟩ | ⟨_, ⟨_, _, e1, e2⟩ | ⟨_, ⟨_, _, e1, e2⟩ | ⟨_, e, _⟩⟩⟩⟩⟩⟩
  · exact ⟨e1, e2⟩
  · exact absurd e hc
  · exact ⟨e1, e2⟩
  · exact ⟨e1, e2⟩
  · exact ⟨e1, e2⟩
  · exact ⟨e1, e2⟩
  · exact absurd e hc
/-- Right files stay right. -/
theorem CfP.keeps {n : Nat} {F : Nat → Fi} {x : Fcl} {m : Nat} {G : Nat → Fi} {t : ByteArray} {c : Int} (hF : FsOk n F) (h : CfP n F x m G t c) : FsOk m G := by
  rcases h with ⟨_, _, _, rfl, rfl⟩ | ⟨_, ⟨_, _, _, rfl, rfl⟩ | ⟨hb, h⟩⟩
  · exact hF
  · exact hF
  · have hp : x.k ≠ 7 → PathOk x.p := fun e => Classical.byContradiction fun q => hb (.inl ⟨q, fun z => e z.1⟩)
    have ho : x.k = 5 → PathOk x.o := fun e => Classical.byContradiction fun q => hb (.inr ⟨e, q⟩)
    rcases h with ⟨e, h, _⟩ | ⟨e, h, _⟩ | ⟨e, _, rfl, rfl⟩ | ⟨e, h, _⟩ | ⟨e, h, _⟩ | ⟨e, h, _⟩ | ⟨e, rfl, rfl, _⟩
    · exact h.keeps hF (hp (by omega))
    · exact h.keeps hF (hp (by omega))
    · exact hF
    · exact h.keeps hF (hp (by omega))
    · exact h.keeps hF (hp (by omega)) (ho e)
    · exact h.keeps hF
    · exact hF
/-- A call with a code changes nothing. -/
theorem CfP.kept {n : Nat} {F : Nat → Fi} {x : Fcl} {m : Nat} {G : Nat → Fi} {t : ByteArray} {c : Int} (h : CfP n F x m G t c) : Kept n F m G c := fun hc => by
  rcases h with ⟨_, _, _, e1, e2⟩ | ⟨_, ⟨_, _, _, e1, e2⟩ | ⟨hb, h⟩⟩
  · exact ⟨e1, e2⟩
  · exact ⟨e1, e2⟩
  · rcases h with ⟨e, h, _⟩ | ⟨e, h, _⟩ | ⟨e, _, e1, e2⟩ | ⟨e, h, _⟩ | ⟨e, h, _⟩ | ⟨e, h, _⟩ | ⟨e, e1, e2, _⟩
    · exact h.kept hc
    · exact h.kept hc
    · exact ⟨e1, e2⟩
    · exact h.kept hc
    · exact h.kept hc
    · exact h.kept hc
    · exact ⟨e1, e2⟩
/-- Nor does one that only reads. -/
theorem CfP.reads {n : Nat} {F : Nat → Fi} {x : Fcl} {m : Nat} {G : Nat → Fi} {t : ByteArray} {c : Int} (h : CfP n F x m G t c) (hk : x.k = 3 ∨ x.k = 7) : m = n ∧ G = F := by
  rcases h with ⟨_, _, _, e1, e2⟩ | ⟨_, ⟨_, _, _, e1, e2⟩ | ⟨hb, h⟩⟩
  · exact ⟨e1, e2⟩
  · exact ⟨e1, e2⟩
  · rcases h with ⟨e, h, _⟩ | ⟨e, h, _⟩ | ⟨e, _, e1, e2⟩ | ⟨e, h, _⟩ | ⟨e, h, _⟩ | ⟨e, h, _⟩ | ⟨e, e1, e2, _⟩
    · omega
    · omega
    · exact ⟨e1, e2⟩
    · omega
    · omega
    · omega
    · exact ⟨e1, e2⟩
theorem CfP.uniq {n : Nat} {F : Nat → Fi} {x : Fcl} {m m' : Nat} {G G' : Nat → Fi} {t t' : ByteArray} {c c' : Int} (hF : FsOk n F) (hu : ∀ {m m' G G' c c'}, MkP n F x.p m G c → MkP n F x.p m' G' c' → m = m' ∧ c = c' ∧ ∀ i, i < m → G i = G' i) (hr : ∀ {m m' G G' c c'}, RmP n F x.p m G c → RmP n F x.p m' G' c' → m = m' ∧ c = c' ∧ ∀ i, i < m → G i = G' i) (hv : ∀ {m m' G G' c c'}, MvP n F x.p x.o m G c → MvP n F x.p x.o m' G' c' → m = m' ∧ c = c' ∧ ∀ i, i < m → G i = G' i)
    (h : CfP n F x m G t c) (h' : CfP n F x m' G' t' c') : m = m' ∧ t = t' ∧ c = c' ∧ ∀ i, i < m → G i = G' i := by
  rcases h with ⟨a, rfl, rfl, rfl, rfl⟩ | ⟨a, ⟨b, rfl, rfl, rfl, rfl⟩ | ⟨b, h⟩⟩ <;> rcases h' with ⟨a', rfl, rfl, rfl, rfl⟩ | ⟨a', ⟨b', rfl, rfl, rfl, rfl⟩ | ⟨b', h'⟩⟩
  · exact ⟨rfl, rfl, rfl, fun _ _ => rfl⟩
  · exact absurd a' a
  · exact absurd a' a
  · exact absurd a a'
  · exact ⟨rfl, rfl, rfl, fun _ _ => rfl⟩
  · exact absurd b b'
  · exact absurd a a'
  · exact absurd b' b
  · rcases h with ⟨e, h, rfl⟩ | ⟨e, h, rfl⟩ | ⟨e, h, rfl, rfl⟩ | ⟨e, h, rfl⟩ | ⟨e, h, rfl⟩ | ⟨e, h, rfl⟩ | ⟨e, rfl, rfl, L, h, rfl⟩ <;> rcases h' with ⟨e', h', rfl⟩ | ⟨e', h', rfl⟩ | ⟨e', h', rfl, rfl⟩ | ⟨e', h', rfl⟩ | ⟨e', h', rfl⟩ | ⟨e', h', rfl⟩ | ⟨e', rfl, rfl, L', h', rfl⟩ <;> first | (exfalso; omega) | skip
    · obtain ⟨h1, h2, h3⟩ := hu h h'
      exact ⟨h1, rfl, h2, h3⟩
    · obtain ⟨h1, h2, h3⟩ := WrP.uniq hF.srt h h'
      exact ⟨h1, rfl, h2, h3⟩
    · obtain ⟨h1, h2⟩ := h.uniq h'
      exact ⟨rfl, h1, h2, fun _ _ => rfl⟩
    · obtain ⟨h1, h2, h3⟩ := CtP.uniq hF.srt h h'
      exact ⟨h1, rfl, h2, h3⟩
    · obtain ⟨h1, h2, h3⟩ := hv h h'
      exact ⟨h1, rfl, h2, h3⟩
    · obtain ⟨h1, h2, h3⟩ := hr h h'
      exact ⟨h1, rfl, h2, h3⟩
    · obtain ⟨h1, h2⟩ := h.uniq h'
      subst h1
      exact ⟨rfl, rfl, h2, fun _ _ => rfl⟩
theorem lsL_lenC (F : Nat → Fi) (p : ByteArray) : ∀ n, (lsL F p n).length ≤ n
  | 0 => Nat.le_refl _
  | n + 1 => by
    have := lsL_lenC F p n
    by_cases g : par (F n).p = p
    · rw [lsL_yes g, List.length_append]; simp; omega
    · rw [lsL_no g]; omega
theorem LsIs.len {n : Nat} {F : Nat → Fi} {p : ByteArray} {L : List ByteArray} {c : Int} (h : LsIs n F p L c) : L.length ≤ n := by
  rcases h with ⟨_, ⟨_, _, rfl⟩ | ⟨_, _, rfl⟩⟩ | ⟨_, ⟨_, _, rfl⟩ | ⟨_, ⟨_, _, rfl⟩ | ⟨_, _, rfl⟩⟩⟩
  · simp
  · exact lsL_lenC _ _ _
  · simp
  · simp
  · exact lsL_lenC _ _ _
theorem chT_size (x : Fi) (p : ByteArray) (h : x.p.size ≤ 40) : (chT x p).size ≤ 41 := by
  unfold chT
  split
  · rw [ByteArray.size_append, ByteArray.size_extract]
    have : (⟨#[47]⟩ : ByteArray).size = 1 := rfl
    omega
  · rw [ByteArray.size_extract]; omega
theorem lsL_size {F : Nat → Fi} {p : ByteArray} : ∀ {n : Nat}, (∀ i, i < n → (F i).p.size ≤ 40) → ∀ x ∈ lsL F p n, x.size ≤ 41
  | 0, _, x, hx => by cases hx
  | n + 1, h, x, hx => by
    by_cases g : par (F n).p = p
    · rw [lsL_yes g] at hx
      rcases List.mem_append.1 hx with q | q
      · exact lsL_size (fun i hi => h i (by omega)) x q
      · rw [List.mem_singleton.1 q]; exact chT_size _ _ (h n (by omega))
    · rw [lsL_no g] at hx
      exact lsL_size (fun i hi => h i (by omega)) x hx
/-- Names are short. -/
theorem LsIs.short {n : Nat} {F : Nat → Fi} {p : ByteArray} {L : List ByteArray} {c : Int} (hF : FsOk n F) (h : LsIs n F p L c) (i : Nat) : (nthT L i).size ≤ 41 := by
  have hx : ∀ x ∈ L, x.size ≤ 41 := by
    rcases h with ⟨_, ⟨_, _, rfl⟩ | ⟨_, _, rfl⟩⟩ | ⟨_, ⟨_, _, rfl⟩ | ⟨_, ⟨_, _, rfl⟩ | ⟨_, _, rfl⟩⟩⟩
    · intro x hx; cases hx
    · exact lsL_size (fun i hi => (hF.2 i hi).1.1.1)
    · intro x hx; cases hx
    · intro x hx; cases hx
    · exact lsL_size (fun i hi => (hF.2 i hi).1.1.1)
  unfold nthT
  rw [List.getD_eq_getElem?_getD]
  rcases q : L[i]? with _ | x
  · show (0 : Nat) ≤ 41; omega
  · exact hx x (List.mem_of_getElem? q)
theorem joinT_size (L : List ByteArray) (h : ∀ i, (nthT L i).size ≤ 41) : ∀ k, (joinT L k).size ≤ 42 * k
  | 0 => Nat.le_refl _
  | k + 1 => by
    have h1 := joinT_size L h k
    have h2 := h k
    have h3 : (⟨#[32]⟩ : ByteArray).size = 1 := rfl
    unfold joinT
    split
    · rw [ByteArray.size_append]; omega
    · rw [ByteArray.size_append, ByteArray.size_append]; omega
end Go.Proofs.YtgcdoabcopihlaaGreat
