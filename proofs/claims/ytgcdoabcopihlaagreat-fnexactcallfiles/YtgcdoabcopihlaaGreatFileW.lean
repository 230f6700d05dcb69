/-
  New ones' faults, put by path, and MakeDir of the program.
-/
import Derived.Test.YtgcdoabcopihlaaGreatFileFt
import Derived.Test.YtgcdoabcopihlaaGreatPutFi
namespace Go.Proofs.YtgcdoabcopihlaaGreat
open Go.ChangeShapes Go.WideShapes Go.ChangeAt Go.RowKit
set_option linter.unusedVariables false
theorem Pos.uniq {f : Nat → Int} {n : Nat} {x : Int} {k k' : Nat} (h : Pos f n x k) (h' : Pos f n x k') : k = k' := by
  rcases Nat.lt_trichotomy k k' with g | g | g
  · have h1 := h'.2.1 k g
    have h2 := h.2.2 k (Nat.le_refl _) (by have := h'.1; omega)
    omega
  · exact g
  · have h1 := h.2.1 k' g
    have h2 := h'.2.2 k' (Nat.le_refl _) (by have := h.1; omega)
    omega
/-- What a new one's faults are. -/
def NewIs (n : Nat) (F : Nat → Fi) (p : ByteArray) (c : Int) : Prop := (DirIs n F (par p) c ∧ c ≠ 0) ∨ (DirIs n F (par p) 0 ∧ ((12 ≤ n ∧ c = 7) ∨ (n < 12 ∧ c = 0)))
theorem NewIs.uniq {n : Nat} {F : Nat → Fi} {p : ByteArray} {c c' : Int} (hs : Srt n F) (h : NewIs n F p c) (h' : NewIs n F p c') : c = c' := by
  rcases h with ⟨a, b⟩ | ⟨a, ⟨b, rfl⟩ | ⟨b, rfl⟩⟩ <;> rcases h' with ⟨a', b'⟩ | ⟨a', ⟨b', rfl⟩ | ⟨b', rfl⟩⟩ <;> first | rfl | exact a.uniq hs a' | exact absurd (a.uniq hs a') b | exact absurd (a.uniq hs a').symm b' | omega
/-- Files with one set at its path. -/
def PutIs (n : Nat) (F : Nat → Fi) (f : Fi) (m : Nat) (G : Nat → Fi) : Prop := (∃ k, k < n ∧ (F k).p = f.p ∧ m = n ∧ ∀ i, i < m → G i = updE F k f i) ∨ ((∀ j, j < n → (F j).p ≠ f.p) ∧ m = n + 1 ∧ ∃ k, Pos (fun i => ord (F i).p) n (ord f.p) k ∧ ∀ i, i < m → G i = insE F k f i)
theorem PutIs.uniq {n : Nat} {F : Nat → Fi} {f : Fi} {m m' : Nat} {G G' : Nat → Fi} (hs : Srt n F) (h : PutIs n F f m G) (h' : PutIs n F f m' G') : m = m' ∧ ∀ i, i < m → G i = G' i := by
  rcases h with ⟨k, hk, e, rfl, hG⟩ | ⟨hno, rfl, k, hP, hG⟩ <;> rcases h' with ⟨k', hk', e', rfl, hG'⟩ | ⟨hno', rfl, k', hP', hG'⟩
  · obtain rfl := hs.uniq hk hk' (e.trans e'.symm)
    exact ⟨rfl, fun i hi => (hG i hi).trans (hG' i hi).symm⟩
  · exact absurd e (hno' k hk)
  · exact absurd e' (hno k' hk')
  · obtain rfl := hP.uniq hP'
    exact ⟨rfl, fun i hi => (hG i hi).trans (hG' i hi).symm⟩
theorem fiF_congr {n : Nat} {F G : Nat → Fi} (h : ∀ i, i < n → F i = G i) : ∀ i, i < n → ∀ j, j < 3 → fiF F i j = fiF G i j := fun i hi j _ => by unfold fiF; rw [h i hi]
set_option maxRecDepth 100000 in
theorem newFault_any (a : Option Addr) (n c : Nat) (F : Nat → Fi) (q : ByteArray) (hs : Srt n F) (hq : q.size ≤ 40) (hn : n ≤ 1048576) (w : World) (h : Els w 3 a n (fiF F)) :
    Calls Tryz.prog 79 #[.slice a n c, .string q] w fun e w' => (∃ x : Int, e = .returned (.int .i64 x) ∧ NewIs n F q x) ∧ Below w.heap.size w w' := by
  have PA : Hid (∀ w : World, Calls Tryz.prog 33 #[.string q] w fun e w' => e = .returned (.string (par q)) ∧ w' = w) := parentOf_any q (by omega)
  have DF : Hid (Calls Tryz.prog 32 #[.slice a n c, .string (par q)] w fun e w' => (∃ x : Int, e = .returned (.int .i64 x) ∧ DirIs n F (par q) x) ∧ Below w.heap.size w w') := dirFault_any a n c F (par q) hs (by have := par_size q; omega) hn w h
  have HN : Hid (∀ c, NewIs n F q c ↔ (DirIs n F (par q) c ∧ c ≠ 0) ∨ (DirIs n F (par q) 0 ∧ ((12 ≤ n ∧ c = 7) ∨ (n < 12 ∧ c = 0)))) := fun c => Iff.rfl
  generalize par q = pq at *
  clear hs h hq
  go_enter Tryz.func79, Tryz.ntmps79
  go_wp2_with fail
  refine (PA.out _).mono ?_
  rintro e w1 ⟨rfl, rfl⟩
  go_wp2_with fail
  refine (Calls.mono DF.out) ?_
  rintro e w2 ⟨⟨x, rfl, hx⟩, hb⟩
  have HX : Hid (DirIs n F pq x) := hx
  have HB : Hid (Below w1.heap.size w1 w2) := hb
  clear hx hb DF PA
  by_cases h0 : x = 0
  · subst h0
    by_cases h12 : 12 ≤ n
    · have g : (12 : Int) ≤ (n : Int) := by omega
      have HR : Hid (NewIs n F q 7) := (HN.out 7).2 (.inr ⟨HX.out, .inl ⟨h12, rfl⟩⟩)
      clear h12 HX HN
      go_wp2
      go_ret
      exact ⟨⟨_, rfl, HR.out⟩, HB.out⟩
    · have g : ¬ (12 : Int) ≤ (n : Int) := by omega
      have HR : Hid (NewIs n F q 0) := (HN.out 0).2 (.inr ⟨HX.out, .inr ⟨by omega, rfl⟩⟩)
      clear h12 HX HN
      go_wp2
      go_ret
      exact ⟨⟨_, rfl, HR.out⟩, HB.out⟩
  · have g : (x != 0) = true := by simpa using h0
    have HR : Hid (NewIs n F q x) := (HN.out x).2 (.inl ⟨HX.out, h0⟩)
    clear h0 HX HN
    go_wp2
    go_ret
    exact ⟨⟨_, rfl, HR.out⟩, HB.out⟩
/-- A row of files of one's own is handed back. -/
def RetPut (n : Nat) (F : Nat → Fi) (f : Fi) (B : Nat) (e : Ending) (w : World) : Prop := ∃ (a : Option Addr) (m c : Nat) (G : Nat → Fi), e = .returned (.slice a m c) ∧ EO w B 51 3 (.slice a m c) m (fiF G) ∧ PutIs n F f m G
theorem putF_any (B : Nat) (a : Option Addr) (n c : Nat) (F : Nat → Fi) (f : Fi) (hs : Srt n F) (hf : f.p.size ≤ 40) (hn : n ≤ 100000) (w : World) (hB : B ≤ w.heap.size) (h : EO w B 51 3 (.slice a n c) n (fiF F)) :
    Calls Tryz.prog 80 #[.slice a n c, .string f.p, .agg #[.string f.p, .bool f.d, .string f.t], .func (.func 31) #[] #[]] w fun e w' => RetPut n F f B e w' ∧ Below B w w' := by
  have hP := pos_of hs.up (ord f.p)
  generalize posN (fun i => ord (F i).p) (ord f.p) n = k at hP
  by_cases e : k < n ∧ ord (F k).p = ord f.p
  · have hp := ord_inj (hs.size k e.1) hf e.2
    obtain ⟨g, h1, h2⟩ := h.rowE
    obtain rfl := h1.a (by omega)
    refine (putFi_there B g n c F f k ⟨hs.size, hf⟩ hP e.1 e.2 (by omega) w h).mono fun e' w' q => ⟨⟨_, n, c, updE F k f, q.1, q.2.1, .inl ⟨k, e.1, hp, rfl, fun _ _ => rfl⟩⟩, ?_⟩
    have hg := (h.ge g rfl)
    exact ⟨q.2.2.os, q.2.2.tape, q.2.2.output, q.2.2.size, fun b hb => q.2.2.block b (by omega) (by omega)⟩
  · have hno : ∀ j, j < n → (F j).p ≠ f.p := by
      obtain ⟨k', y, hP', hy, hi⟩ := find_is hs hf
      obtain rfl := hP.uniq hP'
      rcases hi with ⟨j, hj, ej, rfl⟩ | ⟨hno, _⟩
      · exfalso
        rcases hy with ⟨q1, q2, _⟩ | ⟨q, q2⟩
        · exact e ⟨q1, q2⟩
        · have := pathOk_pos (hs.ok j hj)
          rw [q2] at this
          exact absurd this (by show ¬ 0 < (⟨#[]⟩ : ByteArray).size; decide)
      · exact hno
    refine (putFi_new B a n c k F f ⟨hs.size, hf⟩ hP e hn w hB h).mono fun e' w' q => ?_
    obtain ⟨⟨v', rfl, ho, hl⟩, hg⟩ := q
    obtain ⟨a', c', rfl⟩ := ho.form
    refine ⟨⟨a', n + 1, c', insE F k f, rfl, ho, .inr ⟨hno, rfl, k, hP, fun _ _ => rfl⟩⟩, ?_⟩
    exact ⟨hg.os, hg.tape, hg.output, hg.size, fun b hb => hg.block b (by omega) (fun e => by have := (h.ge b e.symm).1; omega)⟩
end Go.Proofs.YtgcdoabcopihlaaGreat
