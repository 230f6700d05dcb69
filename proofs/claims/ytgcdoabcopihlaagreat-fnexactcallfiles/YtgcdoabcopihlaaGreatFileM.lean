/-
  Files that are right; what is found in them; isThere and dirFault of the program.
-/
import Derived.Test.YtgcdoabcopihlaaGreatFileF
import Derived.Test.YtgcdoabcopihlaaGreatPathI
namespace Go.Proofs.YtgcdoabcopihlaaGreat
open Go.ChangeShapes Go.WideShapes Go.ChangeAt Go.RowKit
set_option linter.unusedVariables false
theorem textEmpty {q : ByteArray} (h : 0 < q.size) : (q.toList == []) = false := by
  rw [ByteArray.toList_eq]
  cases e : q.data.toList with
  | nil =>
    have : q.data.toList.length = 0 := by rw [e]; rfl
    rw [Array.length_toList] at this
    exact absurd this (by show ¬ q.size = 0; omega)
  | cons x l => rfl
theorem textEmpty2 {q : ByteArray} (h : 0 < q.size) : q.toList.isEmpty = false := by
  have g1 := textEmpty h
  cases e : q.toList with
  | nil => rw [e] at g1; cases g1
  | cons x l => rfl
/-- A file is right by itself. -/
def Fi.Ok (x : Fi) : Prop := PathOk x.p ∧ x.t.size ≤ 200 ∧ (x.d = true → x.t.size = 0)
/-- Something may stand there: the top, or a directory that is there. -/
def Home (n : Nat) (F : Nat → Fi) (q : ByteArray) : Prop := q.size = 0 ∨ ∃ j, j < n ∧ (F j).p = q ∧ (F j).d = true
/-- Files are right. -/
def FsOk (n : Nat) (F : Nat → Fi) : Prop := n ≤ 12 ∧ ∀ i, i < n → (F i).Ok ∧ (0 < i → ord (F (i - 1)).p < ord (F i).p) ∧ Home n F (par (F i).p)
/-- Paths that are right and rise. -/
structure Srt (n : Nat) (F : Nat → Fi) : Prop where
  ok : ∀ i, i < n → PathOk (F i).p
  up : Rises (fun i => ord (F i).p) n
theorem Srt.size {n : Nat} {F : Nat → Fi} (h : Srt n F) : ∀ i, i < n → (F i).p.size ≤ 40 := fun i hi => (h.ok i hi).1
theorem Srt.uniq {n : Nat} {F : Nat → Fi} (h : Srt n F) {i j : Nat} (hi : i < n) (hj : j < n) (e : (F i).p = (F j).p) : i = j := by
  rcases Nat.lt_trichotomy i j with g | g | g
  · have := h.up i j g hj
    dsimp only at this
    rw [e] at this; omega
  · exact g
  · have := h.up j i g hi
    dsimp only at this
    rw [e] at this; omega
theorem Srt.pre {n k : Nat} {F : Nat → Fi} (h : Srt n F) (hk : k ≤ n) : Srt k F := ⟨fun i hi => h.ok i (by omega), fun i j hij hj => h.up i j hij (by omega)⟩
theorem FsOk.srt {n : Nat} {F : Nat → Fi} (h : FsOk n F) : Srt n F := ⟨fun i hi => (h.2 i hi).1.1, rises_of (fun i hi h0 => (h.2 i hi).2.1 h0)⟩
theorem Srt.next {k : Nat} {F : Nat → Fi} (h : Srt k F) (ho : PathOk (F k).p) (hu : 0 < k → ord (F (k - 1)).p < ord (F k).p) : Srt (k + 1) F := by
  refine ⟨fun i hi => ?_, rises_of (fun i hi h0 => ?_)⟩
  · by_cases e : i = k
    · subst e; exact ho
    · exact h.ok i (by omega)
  · by_cases e : i = k
    · subst e; exact hu h0
    · exact h.up (i - 1) i (by omega) (by omega)
/-- What find hands back. -/
def FindIs (n : Nat) (F : Nat → Fi) (q : ByteArray) (y : Fi) : Prop := (∃ j, j < n ∧ (F j).p = q ∧ y = F j) ∨ ((∀ j, j < n → (F j).p ≠ q) ∧ y = fiZ)
theorem FindIs.uniq {n : Nat} {F : Nat → Fi} {q : ByteArray} {y y' : Fi} (hs : Srt n F) (h : FindIs n F q y) (h' : FindIs n F q y') : y = y' := by
  rcases h with ⟨j, hj, e, rfl⟩ | ⟨hn, rfl⟩ <;> rcases h' with ⟨j', hj', e', rfl⟩ | ⟨hn', rfl⟩
  · rw [hs.uniq hj hj' (e.trans e'.symm)]
  · exact absurd e (hn' j hj)
  · exact absurd e' (hn j' hj')
  · rfl
theorem find_is {n : Nat} {F : Nat → Fi} (h : Srt n F) {q : ByteArray} (hq : q.size ≤ 40) : ∃ k y, Pos (fun i => ord (F i).p) n (ord q) k ∧ ((k < n ∧ ord (F k).p = ord q ∧ y = F k) ∨ (¬ (k < n ∧ ord (F k).p = ord q) ∧ y = fiZ)) ∧ FindIs n F q y := by
  have hP := pos_of h.up (ord q)
  generalize posN (fun i => ord (F i).p) (ord q) n = k at hP
  by_cases e : k < n ∧ ord (F k).p = ord q
  · exact ⟨k, F k, hP, .inl ⟨e.1, e.2, rfl⟩, .inl ⟨k, e.1, ord_inj (h.size k e.1) hq e.2, rfl⟩⟩
  · refine ⟨k, fiZ, hP, .inr ⟨e, rfl⟩, .inr ⟨fun j hj ej => ?_, rfl⟩⟩
    rcases Nat.lt_trichotomy j k with g | g | g
    · have := hP.2.1 j g
      dsimp only at this
      rw [ej] at this; omega
    · subst g; exact e ⟨hj, by rw [ej]⟩
    · have h1 := hP.2.2 k (Nat.le_refl _) (by omega)
      have h2 := h.up k j g hj
      dsimp only at h1 h2
      rw [ej] at h2; omega
/-- What dirFault tells of a path or the top. -/
def DirIs (n : Nat) (F : Nat → Fi) (q : ByteArray) (c : Int) : Prop :=
  (q.size = 0 ∧ c = 0) ∨ (0 < q.size ∧ (∀ j, j < n → (F j).p ≠ q) ∧ c = 5) ∨ (0 < q.size ∧ ∃ j, j < n ∧ (F j).p = q ∧ (((F j).d = false ∧ c = 17) ∨ ((F j).d = true ∧ c = 0)))
theorem DirIs.uniq {n : Nat} {F : Nat → Fi} {q : ByteArray} {c c' : Int} (hs : Srt n F) (h : DirIs n F q c) (h' : DirIs n F q c') : c = c' := by
  rcases h with ⟨a, rfl⟩ | ⟨a, b, rfl⟩ | ⟨a, j, hj, ej, g⟩ <;> rcases h' with ⟨a', rfl⟩ | ⟨a', b', rfl⟩ | ⟨a', j', hj', ej', g'⟩ <;> try omega
  · exact absurd ej' (b j' hj')
  · exact absurd ej (b' j hj)
  · obtain rfl := hs.uniq hj hj' (ej.trans ej'.symm)
    rcases g with ⟨g, rfl⟩ | ⟨g, rfl⟩ <;> rcases g' with ⟨g', rfl⟩ | ⟨g', rfl⟩ <;> first | rfl | (rw [g] at g'; cases g')
theorem DirIs.home {n : Nat} {F : Nat → Fi} {q : ByteArray} {c : Int} (h : DirIs n F q c) (hc : c = 0) : Home n F q := by
  subst hc
  rcases h with ⟨a, _⟩ | ⟨a, b, e⟩ | ⟨a, j, hj, ej, ⟨g, e⟩ | ⟨g, e⟩⟩
  · exact .inl a
  · cases e
  · cases e
  · exact .inr ⟨j, hj, ej, g⟩
theorem DirIs.ofHome {n : Nat} {F : Nat → Fi} {q : ByteArray} {c : Int} (hs : Srt n F) (h : DirIs n F q c) (hh : Home n F q) : c = 0 := by
  rcases hh with z | ⟨j', hj', ej', d'⟩
  · rcases h with ⟨a, rfl⟩ | ⟨a, _⟩ | ⟨a, _⟩
    · rfl
    · omega
    · omega
  · rcases h with ⟨a, rfl⟩ | ⟨a, b, rfl⟩ | ⟨a, j, hj, ej, g⟩
    · rfl
    · exact absurd ej' (b j' hj')
    · obtain rfl := hs.uniq hj hj' (ej.trans ej'.symm)
      rcases g with ⟨g, rfl⟩ | ⟨g, rfl⟩
      · rw [g] at d'; cases d'
      · rfl
/-- In right files a parent stands ahead. -/
theorem FsOk.ahead {n k : Nat} {F : Nat → Fi} (h : FsOk n F) (hk : k < n) : Home k F (par (F k).p) := by
  rcases (h.2 k hk).2.2 with z | ⟨j, hj, ej, dj⟩
  · exact .inl z
  · refine .inr ⟨j, ?_, ej, dj⟩
    have h0 := ord_par (pathOk_pos (h.2 k hk).1.1) (h.2 k hk).1.1.1
    rcases Nat.lt_or_ge j k with g | g
    · exact g
    · exfalso
      rcases Nat.lt_or_ge k j with g2 | g2
      · have := h.srt.up k j g2 hj
        dsimp only at this
        rw [ej] at this; omega
      · obtain rfl : j = k := by omega
        have e : ord (F j).p = ord (par (F j).p) := congrArg ord ej
        omega
theorem Home.mono {n k : Nat} {F : Nat → Fi} {q : ByteArray} (h : Home k F q) (hk : k ≤ n) : Home n F q := h.imp id (fun ⟨j, hj, r⟩ => ⟨j, by omega, r⟩)
theorem findF_any (a : Option Addr) (n c : Nat) (F : Nat → Fi) (q : ByteArray) (hs : Srt n F) (hq : q.size ≤ 40) (hn : n ≤ 1048576) (w : World) (h : Els w 3 a n (fiF F)) :
    Calls Tryz.prog 70 #[.slice a n c, .string q, .func (.func 31) #[] #[]] w fun e w' => (∃ y : Fi, e = .returned (.agg #[.string y.p, .bool y.d, .string y.t]) ∧ FindIs n F q y) ∧ Below w.heap.size w w' := by
  obtain ⟨k, y, hP, hy, hi⟩ := find_is hs hq
  exact (findFile_any a n c F q ⟨hs.size, hq⟩ k hP hn w h y hy).mono fun e w' h => ⟨⟨y, h.1, hi⟩, h.2⟩
set_option maxRecDepth 100000 in
theorem isThere_any (a : Option Addr) (n c : Nat) (F : Nat → Fi) (q : ByteArray) (hs : Srt n F) (hq : q.size ≤ 40) (hn : n ≤ 1048576) (w : World) (h : Els w 3 a n (fiF F)) :
    Calls Tryz.prog 69 #[.slice a n c, .string q] w fun e w' => Says e (∃ j, j < n ∧ (F j).p = q) ∧ Below w.heap.size w w' := by
  have HF : Hid (Calls Tryz.prog 70 #[.slice a n c, .string q, .func (.func 31) #[] #[]] w fun e w' => (∃ y : Fi, e = .returned (.agg #[.string y.p, .bool y.d, .string y.t]) ∧ FindIs n F q y) ∧ Below w.heap.size w w') := findF_any a n c F q hs hq hn w h
  have HS : Hid (Srt n F) := hs
  clear hs h hq hn
  go_enter Tryz.func69, Tryz.ntmps69
  go_wp2_with fail
  refine (Calls.mono HF.out) ?_
  rintro e w1 ⟨⟨y, rfl, hy⟩, hb⟩
  have HB : Hid (Below w.heap.size w w1) := hb
  clear hb HF
  rcases hy with ⟨j, hj, ej, rfl⟩ | ⟨hno, rfl⟩
  · have hp := pathOk_pos (HS.out.ok j hj)
    have HY : Hid (∃ j, j < n ∧ (F j).p = q) := ⟨j, hj, ej⟩
    have g1 : ((F j).p.toList == []) = false := textEmpty hp
    have g2 : (F j).p.toList.isEmpty = false := textEmpty2 hp
    generalize F j = y at *
    obtain ⟨p, d, t⟩ := y
    dsimp only at *
    clear hp ej hj HS
    go_wp2
    go_ret
    exact ⟨⟨true, rfl, by simpa using HY.out⟩, HB.out⟩
  · have HY : Hid (¬ ∃ j, j < n ∧ (F j).p = q) := fun ⟨j, hj, e⟩ => hno j hj e
    clear hno
    unfold fiZ
    go_wp2
    go_ret
    exact ⟨⟨false, rfl, by simpa using HY.out⟩, HB.out⟩
theorem fieldFi1 (p : ByteArray) (d : Bool) (t : ByteArray) (w : World) : (Instr.field 51 (.agg #[.string p, .bool d, .string t]) 1).run Tryz.prog w = .ok (.bool d) w := by kernel_rfl
set_option maxRecDepth 100000 in
set_option maxHeartbeats 1000000 in
theorem dirFault_any (a : Option Addr) (n c : Nat) (F : Nat → Fi) (q : ByteArray) (hs : Srt n F) (hq : q.size ≤ 40) (hn : n ≤ 1048576) (w : World) (h : Els w 3 a n (fiF F)) :
    Calls Tryz.prog 32 #[.slice a n c, .string q] w fun e w' => (∃ x : Int, e = .returned (.int .i64 x) ∧ DirIs n F q x) ∧ Below w.heap.size w w' := by
  rcases Nat.eq_zero_or_pos q.size with hz | hz
  · have HD : Hid (DirIs n F q 0) := .inl ⟨hz, rfl⟩
    obtain rfl : q = ⟨#[]⟩ := ByteArray.ext (Array.eq_empty_of_size_eq_zero hz)
    clear hz hs h hq hn
    go_enter Tryz.func32, Tryz.ntmps32
    go_wp2
    go_ret
    exact ⟨⟨_, rfl, HD.out⟩, Below.refl _ _⟩
  · have g1 : (q.toList == []) = false := textEmpty hz
    have g2 : q.toList.isEmpty = false := textEmpty2 hz
    have HT : Hid (Calls Tryz.prog 69 #[.slice a n c, .string q] w fun e w' => Says e (∃ j, j < n ∧ (F j).p = q) ∧ Below w.heap.size w w') := isThere_any a n c F q hs hq hn w h
    have HF : Hid (∀ w' : World, Below w.heap.size w w' → Calls Tryz.prog 70 #[.slice a n c, .string q, .func (.func 31) #[] #[]] w' fun e w'' => (∃ y : Fi, e = .returned (.agg #[.string y.p, .bool y.d, .string y.t]) ∧ FindIs n F q y) ∧ Below w'.heap.size w' w'') := fun w' hb => findF_any a n c F q hs hq hn w' (h.below hb)
    have HZ : Hid (0 < q.size) := hz
    have HF1 : Hid (∀ (p : ByteArray) (d : Bool) (t : ByteArray) (w : World), (Instr.field 51 (.agg #[.string p, .bool d, .string t]) 1).run Tryz.prog w = .ok (.bool d) w) := fieldFi1
    clear hs h hq hn hz
    go_enter Tryz.func32, Tryz.ntmps32
    go_wp2_with fail
    refine (Calls.mono HT.out) ?_
    rintro e w1 ⟨⟨b, rfl, hb'⟩, hb⟩
    have HB : Hid (Below w.heap.size w w1) := hb
    have HJ : Hid (b = true ↔ ∃ j, j < n ∧ (F j).p = q) := hb'
    clear hb hb' HT
    cases b with
    | false =>
      have HD : Hid (DirIs n F q 5) := .inr (.inl ⟨HZ.out, (fun j hj e => by have := HJ.out.2 ⟨j, hj, e⟩; cases this), rfl⟩)
      clear HJ
      go_wp2
      go_ret
      exact ⟨⟨_, rfl, HD.out⟩, HB.out⟩
    | true =>
      have HE : Hid (∃ j, j < n ∧ (F j).p = q) := HJ.out.1 rfl
      clear HJ
      go_wp2_with fail
      refine (HF.out _ HB.out).mono ?_
      rintro e w2 ⟨⟨y, rfl, hy⟩, hb⟩
      have B2 : Hid (Below w.heap.size w w2) := HB.out.trans (hb.mono HB.out.size)
      have ff := HF1.out y.p y.d y.t
      clear hb HB HF HF1
      obtain ⟨j, hj, ej, rfl⟩ : ∃ j, j < n ∧ (F j).p = q ∧ y = F j := by
        rcases hy with h | ⟨hno, _⟩
        · exact h
        · obtain ⟨j, hj, e⟩ := HE.out
          exact absurd e (hno j hj)
      have HD : Hid (∀ x : Int, (((F j).d = false ∧ x = 17) ∨ ((F j).d = true ∧ x = 0)) → DirIs n F q x) := fun x h => .inr (.inr ⟨HZ.out, j, hj, ej, h⟩)
      clear hy HE HZ ej hj
      generalize F j = y at *
      obtain ⟨p, d, t⟩ := y
      dsimp only at *
      cases d with
      | true =>
        go_wp2
        go_ret
        exact ⟨⟨_, rfl, HD.out 0 (.inr ⟨by trivial, rfl⟩)⟩, B2.out⟩
      | false =>
        go_wp2
        go_ret
        exact ⟨⟨_, rfl, HD.out 17 (.inl ⟨by trivial, rfl⟩)⟩, B2.out⟩
end Go.Proofs.YtgcdoabcopihlaaGreat
