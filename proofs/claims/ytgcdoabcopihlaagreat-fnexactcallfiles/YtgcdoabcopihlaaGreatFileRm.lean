/-
  RemoveFile of the program.
-/
import Derived.Test.YtgcdoabcopihlaaGreatBelowI
import Derived.Test.YtgcdoabcopihlaaGreatDelF
import Derived.Test.YtgcdoabcopihlaaGreatFileMk
namespace Go.Proofs.YtgcdoabcopihlaaGreat
open Go.ChangeShapes Go.WideShapes Go.ChangeAt Go.RowKit Go.Shelf
set_option linter.unusedVariables false
attribute [local go_sem] Oper.semAt_some
/-- Something stands below a path. -/
def Under (n : Nat) (F : Nat → Fi) (p : ByteArray) : Prop := ∃ i, i < n ∧ HasPre (F i).p (p ++ ⟨#[47]⟩)
/-- What RemoveFile does. -/
def RmIs (n : Nat) (F : Nat → Fi) (p : ByteArray) (m : Nat) (G : Nat → Fi) (c : Int) : Prop :=
  (FtIs n F 1 (fun _ => p) c ∧ c ≠ 0 ∧ m = 0) ∨ (FtIs n F 1 (fun _ => p) 0 ∧
    (((∀ j, j < n → (F j).p ≠ p) ∧ c = 5 ∧ m = n ∧ G = F) ∨ ∃ j, j < n ∧ (F j).p = p ∧ ((Under n F p ∧ c = 15 ∧ m = n ∧ G = F) ∨ (¬ Under n F p ∧ c = 0 ∧ m = n - 1 ∧ ∀ i, i < m → G i = delU F j n i))))
theorem RmIs.uniq {n : Nat} {F : Nat → Fi} {p : ByteArray} {m m' : Nat} {G G' : Nat → Fi} {c c' : Int} (h : RmIs n F p m G c) (h' : RmIs n F p m' G' c') : m = m' ∧ c = c' ∧ ∀ i, i < m → G i = G' i := by
  rcases h with ⟨a, b, rfl⟩ | ⟨a, q⟩ <;> rcases h' with ⟨a', b', rfl⟩ | ⟨a', q'⟩
  · exact ⟨rfl, a.uniq a', fun i hi => absurd hi (by omega)⟩
  · exact absurd (a.uniq a') b
  · exact absurd (a'.uniq a) b'
  · have hs := a.ok.1.srt
    rcases q with ⟨e, rfl, rfl, rfl⟩ | ⟨j, hj, ej, ⟨u, rfl, rfl, rfl⟩ | ⟨u, rfl, rfl, hG⟩⟩ <;> rcases q' with ⟨f, rfl, rfl, rfl⟩ | ⟨j', hj', ej', ⟨u', rfl, rfl, rfl⟩ | ⟨u', rfl, rfl, hG'⟩⟩
    · exact ⟨rfl, rfl, fun _ _ => rfl⟩
    · exact absurd ej' (e j' hj')
    · exact absurd ej' (e j' hj')
    · exact absurd ej (f j hj)
    · exact ⟨rfl, rfl, fun _ _ => rfl⟩
    · exact absurd u u'
    · exact absurd ej (f j hj)
    · exact absurd u' u
    · obtain rfl := hs.uniq hj hj' (ej.trans ej'.symm)
      exact ⟨rfl, rfl, fun i hi => (hG i hi).trans (hG' i hi).symm⟩
theorem RmIs.bound {n : Nat} {F : Nat → Fi} {p : ByteArray} {m : Nat} {G : Nat → Fi} {c : Int} (h : RmIs n F p m G c) : m ≤ 13 := by
  rcases h with ⟨_, _, rfl⟩ | ⟨a, q⟩
  · omega
  · have := a.ok.1.1
    rcases q with ⟨_, _, rfl, _⟩ | ⟨_, _, _, ⟨_, _, rfl, _⟩ | ⟨_, _, rfl, _⟩⟩ <;> omega
theorem blw_nil_iff {F : Nat → Fi} {h : ByteArray} {n : Nat} : blw F h n = [] ↔ ¬ ∃ i, i < n ∧ HasPre (F i).p h := by
  constructor
  · rintro e ⟨i, hi, hp⟩
    have := (blw_mem (n := n) (x := ((F i).p.extract h.size (F i).p.size, F i))).2 ⟨i, hi, hp, rfl⟩
    rw [e] at this
    cases this
  · intro hn
    cases e : blw F h n with
    | nil => rfl
    | cons x l =>
      have hx : x ∈ blw F h n := by rw [e]; simp
      obtain ⟨i, hi, hp, _⟩ := blw_mem.1 hx
      exact absurd ⟨i, hi, hp⟩ hn
theorem below_any (a : Option Addr) (n c : Nat) (q : ByteArray) (w : World) :
    Calls Tryz.prog 89 #[.slice a n c, .string q] w fun e w' => e = .returned (.func (.func 113) #[] #[.pointer (some ⟨w.heap.size + 1, 0, none⟩), .pointer (some ⟨w.heap.size, 0, none⟩)]) ∧ w' = (w.alloc (.cells #[.slice a n c] 23)).alloc (.cells #[.string q] 9) := by
  go_enter Tryz.func89, Tryz.ntmps89
  go_wp2
  go_ret
  exact ⟨rfl, rfl⟩
/-- Variables of one cell. -/
def Bx1 (w : World) (b : Nat) (v : Value) : Prop := w.cell? ⟨b, 0, none⟩ = some v ∧ w.frozen? ⟨b, 0, none⟩ = false
theorem Bx1.below {w w' : World} {b : Nat} {v : Value} (h : Bx1 w b v) (hb : Below w.heap.size w w') : Bx1 w' b v := ⟨(hb.cell (p := ⟨b, 0, none⟩) (strBlock h.1)).trans h.1, (hb.frozen (p := ⟨b, 0, none⟩) (strBlock h.1)).trans h.2⟩
theorem Bx1.new (W : World) (v : Value) (t : TypeId) : Bx1 (W.alloc (.cells #[v] t)) W.heap.size v := newC W v t
theorem Bx1.alloc {W : World} {b : Nat} {v : Value} (h : Bx1 W b v) (o : Obj) : Bx1 (W.alloc o) b v := ⟨keptC o h.1, keptZ o h.1 h.2⟩
theorem bx1_own {β : Type} (b : Nat) (v : Value) : Own (fun (_ : β) W => Bx1 W b v) := fun s A B row hs hg hr => ⟨cell_kept hs.1 hg hr, (frozen_kept hs.1 hg hr).trans hs.2⟩
theorem eo_own {β : Type} (B : Nat) (t : TypeId) (s : Nat) (v : Value) (n : Nat) (F : Nat → Nat → Value) : Own (fun (_ : β) W => EO W B t s v n F) := fun _ W W' row h hg hr => h.keep (fun g e => hg.block g (h.ge g e).2 (fun e' => by
  obtain ⟨o, ho, hc⟩ := hr g e'.symm
  obtain ⟨hl, ⟨h1, _⟩ | ⟨g', cap, cur, hv, _, hh, _⟩⟩ := h
  · rw [h1] at e; cases e
  · rw [hv] at e
    have q2 : g' = g := Option.some.inj e
    rw [← q2, hh] at ho
    cases ho
    cases hc))
theorem eo_heap {w : World} {B : Nat} {t : TypeId} {s : Nat} {v : Value} {n : Nat} {F : Nat → Nat → Value} (h : EO w B t s v n F) (g : Nat) (e : v.ownBlock = some g) : ∃ cur, w.heap[g]? = some (.cells cur t (0, 0)) := by
  obtain ⟨hl, ⟨h1, _⟩ | ⟨g', cap, cur, hv, _, hh, _⟩⟩ := h
  · rw [h1] at e; cases e
  · rw [hv] at e
    have q2 : g' = g := Option.some.inj e
    subst q2
    exact ⟨cur, hh⟩
theorem Bx1.ofBlock {w w' : World} {b : Nat} {v : Value} (h : Bx1 w b v) (e : w'.heap[b]? = w.heap[b]?) : Bx1 w' b v := ⟨(World.cell?_of_block (w := w) e).trans h.1, (World.frozen?_of_block (w := w) e).trans h.2⟩
theorem Bx1.lt {W : World} {b : Nat} {v : Value} (h : Bx1 W b v) : b < W.heap.size := strBlock h.1
theorem Bx1.set {W : World} {b : Nat} {v : Value} (h : Bx1 W b v) (u : Value) : Bx1 (W.setCell ⟨b, 0, none⟩ u) b u := ⟨World.cell?_setCell_same' _ _ _ (by rw [h.1]; rfl), by rw [World.frozen?_setCell]; exact h.2⟩
theorem Bx1.other {W : World} {b b' : Nat} {v : Value} (h : Bx1 W b v) (hne : b ≠ b') (u : Value) : Bx1 (W.setCell ⟨b', 0, none⟩ u) b v := by
  have e := Below.heap_setCell W ⟨b', 0, none⟩ u b hne
  exact ⟨(World.cell?_of_block (w := W) e).trans h.1, by rw [World.frozen?_setCell]; exact h.2⟩
theorem Bx1.putO {W : World} {b D : Nat} {v : Value} {o : Obj} (h : Bx1 W b v) (o' : Obj) (hD : W.heap[D]? = some o) (ho : o.isCells = false) : Bx1 (W.putObj D o') b v := ⟨cell_kept h.1 (grownBy_putObj' _ D o') (fun r e => by cases e; exact ⟨_, hD, ho⟩), (frozen_kept h.1 (grownBy_putObj' _ D o') (fun r e => by cases e; exact ⟨_, hD, ho⟩)).trans h.2⟩
set_option maxRecDepth 100000 in
set_option maxHeartbeats 4000000 in
theorem implRm_any (a : Option Addr) (n c : Nat) (F : Nat → Fi) (p : ByteArray) (hsz : ∀ i, i < n → (F i).p.size ≤ 1048576) (hnn : n ≤ 1048576) (hsl : SlP a n c) (w : World) (h : Els w 3 a n (fiF F)) :
    Calls Tryz.prog 57 #[.slice a n c, .string p] w fun e w' => (∃ m G cd, RmIs n F p m G cd ∧ RetFs m G cd w.heap.size e w') ∧ Below w.heap.size w w' := by
  refine (callsIn_wide (n := 3)).1 ?_
  obtain ⟨u0, hu0⟩ : ∃ u, u = ((w.alloc (.cells #[.string p] 9)).alloc (.cells #[.slice none 0 0] 23)).alloc (.cells #[.int .i64 0] 3) := ⟨_, rfl⟩
  have U0 : Below w.heap.size w u0 := by rw [hu0]; exact (((Below.refl _ _).alloc (Nat.le_refl _) _).alloc (by simp) _).alloc (by simp; omega) _
  have P0 : Bx1 u0 w.heap.size (.string p) := by rw [hu0]; exact ((Bx1.new w _ _).alloc _).alloc _
  have Q0 : Bx1 u0 (w.heap.size + 1) (.slice none 0 0) := by rw [hu0]; have := Bx1.new (w.alloc (.cells #[.string p] 9)) (.slice none 0 0) 23; rw [World.size_alloc] at this; exact this.alloc _
  have R0 : Bx1 u0 (w.heap.size + 1 + 1) (.int .i64 0) := by rw [hu0]; have := Bx1.new ((w.alloc (.cells #[.string p] 9)).alloc (.cells #[.slice none 0 0] 23)) (.int .i64 0) 3; simp only [World.size_alloc] at this; exact this
  have S0 : u0.heap.size = w.heap.size + 3 := by rw [hu0]; simp
  obtain ⟨v1, hv1⟩ : ∃ v, v = u0.alloc (.cells #[.string p] 9) := ⟨_, rfl⟩
  have A1 : Below u0.heap.size u0 v1 := by rw [hv1]; exact (Below.refl _ _).alloc (Nat.le_refl _) _
  have FF : Hid (CallsIn Fence.wide 2 Tryz.prog 78 #[.slice a n c, .slice (some ⟨w.heap.size + 1 + 1 + 1, 0, none⟩) 1 1] v1 fun e w' => (∃ x : Int, e = .returned (.int .i64 x) ∧ FtIs n F 1 (fun _ => p) x) ∧ Below v1.heap.size v1 w') := callsIn_wide.2 (filesFault_any a n c F _ 1 1 (fun _ => p) hsz hnn hsl (by omega) v1 ((h.below U0).below A1) (by rw [show w.heap.size + 1 + 1 + 1 = u0.heap.size by omega, hv1]; exact strs_lit u0 p))
  have BV : Hid (Below w.heap.size w v1) := U0.trans (A1.mono (by omega))
  have PV : Hid (Bx1 v1 w.heap.size (.string p)) := P0.below A1
  have QV : Hid (Bx1 v1 (w.heap.size + 1) (.slice none 0 0)) := Q0.below A1
  have RV : Hid (Bx1 v1 (w.heap.size + 1 + 1) (.int .i64 0)) := R0.below A1
  have SV : Hid (v1.heap.size = w.heap.size + 4) := by show _ = _; rw [hv1]; simp [S0]
  have HW : Hid ((((w.alloc (.cells #[.string p] 9)).alloc (.cells #[.slice none 0 0] 23)).alloc (.cells #[.int .i64 0] 3)).alloc (.cells #[.string p] 9) = v1) := by show _ = _; rw [hv1, hu0]
  have SU : Hid (u0.heap.size = w.heap.size + 3) := S0
  have H : Hid (Els w 3 a n (fiF F)) := h
  clear h hsz U0 P0 Q0 R0 S0 A1 hv1 hu0
  refine callsIn_of_wp_marks Tryz.func57 rfl trivial ?_ rfl
  simp only [Tryz.ntmps57, List.size_toArray, List.length_cons, List.length_nil, Nat.reduceAdd, Nat.reduceSub, Array.replicate_succ, Array.replicate_zero, List.push_toArray, List.append_toArray, List.nil_append, List.cons_append]
  gi_wp2_with fail
  rw [HW.out]
  refine ⟨trivial, (CallsIn.mono FF.out) ?_⟩
  rintro e v2 ⟨⟨x, rfl, hx⟩, hb⟩
  have B2 : Hid (Below w.heap.size w v2) := BV.out.trans (hb.mono BV.out.size)
  have P2 : Hid (Bx1 v2 w.heap.size (.string p)) := PV.out.below hb
  have Q2 : Hid (Bx1 v2 (w.heap.size + 1) (.slice none 0 0)) := QV.out.below hb
  have R2 : Hid (Bx1 v2 (w.heap.size + 1 + 1) (.int .i64 0)) := RV.out.below hb
  have S2 : Hid (w.heap.size + 4 ≤ v2.heap.size) := by have := hb.size; have := SV.out; show _ ≤ _; omega
  have HX : Hid (FtIs n F 1 (fun _ => p) x) := hx
  clear hx hb FF BV PV QV RV SV HW SU
  by_cases h0 : x = 0
  · subst h0
    obtain ⟨ho, hp, hn4, -⟩ := HX.out.ok
    have hP := hp 0 (by omega)
    have hn12 := ho.1
    have HS : Hid (Srt n F) := ho.srt
    have HP40 : Hid (p.size ≤ 40) := hP.1
    have HPP : Hid (0 < p.size) := pathOk_pos hP
    have TH : Hid (∀ w' : World, Below w.heap.size w w' → CallsIn Fence.wide 2 Tryz.prog 69 #[.slice a n c, .string p] w' fun e w'' => Says e (∃ j, j < n ∧ (F j).p = p) ∧ Below w'.heap.size w' w'') := fun w' hb => callsIn_wide.2 (isThere_any a n c F p ho.srt hP.1 hnn w' (H.out.below hb))
    have CL : Hid (∀ w' : World, Below w.heap.size w w' → CallsIn Fence.wide 2 Tryz.prog 23 #[.slice a n c] w' fun e w'' => RetFi n F w'.heap.size e w'' ∧ Below w'.heap.size w' w'') := fun w' hb => callsIn_wide.2 (cloneFi_any a n c F w' (by omega) (H.out.below hb) (fun e => by have := hsl.z e; have := hsl.le; omega))
    have BL : Hid (∀ w' : World, CallsIn Fence.wide 2 Tryz.prog 89 #[.slice a n c, .string p] w' fun e w'' => e = .returned (.func (.func 113) #[] #[.pointer (some ⟨w'.heap.size + 1, 0, none⟩), .pointer (some ⟨w'.heap.size, 0, none⟩)]) ∧ w'' = (w'.alloc (.cells #[.slice a n c] 23)).alloc (.cells #[.string p] 9)) := fun w' => callsIn_wide.2 (below_any a n c p w')
    clear ho hp hn4 hP
    gi_wp2_with fail
    refine ⟨trivial, (CL.out _ B2.out).mono ?_⟩
    rintro e v3 ⟨⟨b, d, rfl, he⟩, hb⟩
    have B3 : Hid (Below w.heap.size w v3) := B2.out.trans (hb.mono B2.out.size)
    have E3 : Hid (EO v3 v2.heap.size 51 3 (.slice b n d) n (fiF F)) := he
    have P3 : Hid (Bx1 v3 w.heap.size (.string p)) := P2.out.below hb
    have Q3 : Hid (Bx1 v3 (w.heap.size + 1) (.slice none 0 0)) := Q2.out.below hb
    have R3 : Hid (Bx1 v3 (w.heap.size + 1 + 1) (.int .i64 0)) := R2.out.below hb
    have S3 : Hid (v2.heap.size ≤ v3.heap.size) := hb.size
    obtain ⟨v4, hv4⟩ : ∃ v, v = v3.alloc (.cells #[.slice b n d] 23) := ⟨_, rfl⟩
    have hb4 : Below v3.heap.size v3 v4 := by rw [hv4]; exact (Below.refl _ _).alloc (Nat.le_refl _) _
    have N4 : Hid (Bx1 v4 v3.heap.size (.slice b n d)) := by show Bx1 _ _ _; rw [hv4]; exact Bx1.new _ _ _
    have HV4 : Hid (v3.alloc (.cells #[.slice b n d] 23) = v4) := hv4.symm
    have B4 : Hid (Below w.heap.size w v4) := B3.out.trans (hb4.mono B3.out.size)
    have E4 : Hid (EO v4 v2.heap.size 51 3 (.slice b n d) n (fiF F)) := E3.out.below hb4
    have P4 : Hid (Bx1 v4 w.heap.size (.string p)) := P3.out.below hb4
    have Q4 : Hid (Bx1 v4 (w.heap.size + 1) (.slice none 0 0)) := Q3.out.below hb4
    have R4 : Hid (Bx1 v4 (w.heap.size + 1 + 1) (.int .i64 0)) := R3.out.below hb4
    clear he hb CL B2 P2 Q2 R2 hb4 hv4 B3 E3 P3 Q3 R3
    have pc := P4.out.1
    rw [← HV4.out] at pc
    gi_wp2_with fail
    rw [HV4.out]
    refine ⟨trivial, (TH.out _ B4.out).mono ?_⟩
    rintro e v5 ⟨⟨y, rfl, hy⟩, hb⟩
    have B5 : Hid (Below w.heap.size w v5) := B4.out.trans (hb.mono B4.out.size)
    have E5 : Hid (EO v5 v2.heap.size 51 3 (.slice b n d) n (fiF F)) := E4.out.below hb
    have P5 : Hid (Bx1 v5 w.heap.size (.string p)) := P4.out.below hb
    have Q5 : Hid (Bx1 v5 (w.heap.size + 1) (.slice none 0 0)) := Q4.out.below hb
    have R5 : Hid (Bx1 v5 (w.heap.size + 1 + 1) (.int .i64 0)) := R4.out.below hb
    have N5 : Hid (Bx1 v5 v3.heap.size (.slice b n d)) := N4.out.below hb
    have HY : Hid (y = true ↔ ∃ j, j < n ∧ (F j).p = p) := hy
    clear hb hy TH B4 E4 P4 Q4 R4 N4 HV4 pc
    generalize v3.heap.size = Bn at *
    cases y with
    | false =>
      have HM : Hid (RmIs n F p n F 5) := .inr ⟨HX.out, .inl ⟨(fun j hj e => by have := HY.out.2 ⟨j, hj, e⟩; cases this), rfl, rfl, rfl⟩⟩
      have n1 := N5.out.1
      have q1 := Q5.out
      have r1 := R5.out
      have q2 := Q5.out.2
      have q0 := Q5.out.1
      have r0 := R5.out.1
      have r2 := R5.out.2
      clear HY HX
      gi_wp2
      have X1 := ((Q5.out.set (.slice b n d)).other (show w.heap.size + 1 ≠ w.heap.size + 1 + 1 by omega) (.int .i64 5)).1
      have X2 := ((R5.out.other (show w.heap.size + 1 + 1 ≠ w.heap.size + 1 by omega) (.slice b n d)).set (.int .i64 5)).1
      have E6 : EO ((v5.setCell ⟨w.heap.size + 1, 0, none⟩ (.slice b n d)).setCell ⟨w.heap.size + 1 + 1, 0, none⟩ (.int .i64 5)) v2.heap.size 51 3 (.slice b n d) n (fiF F) := E5.out.keep (fun g e => by
        have := (E5.out.ge g e).1
        have := S2.out
        rw [Below.heap_setCell _ _ _ g (by show g ≠ w.heap.size + 1 + 1; omega), Below.heap_setCell _ _ _ g (by show g ≠ w.heap.size + 1; omega)])
      exact ⟨.tuple #[.slice b n d, .int .i64 5], by simp [results, Tryz.f57, go_sem, X1, X2], ⟨n, F, 5, HM.out, ⟨_, _, rfl, E6.mono (by have := S2.out; omega)⟩⟩, (B5.out.setCell (p := ⟨w.heap.size + 1, 0, none⟩) (by simp) _).setCell (p := ⟨w.heap.size + 1 + 1, 0, none⟩) (by simp; omega) _⟩
    | true =>
      have HJ : Hid (∃ j, j < n ∧ (F j).p = p) := HY.out.1 rfl
      have p1 := P5.out.1
      clear HY
      gi_wp2_with fail
      refine ⟨trivial, (BL.out _).mono ?_⟩
      rintro e v6 ⟨rfl, hv6⟩
      have hb6 : Below v5.heap.size v5 v6 := by rw [hv6]; exact ((Below.refl _ _).alloc (Nat.le_refl _) _).alloc (by simp) _
      have L6 : Bx1 v6 v5.heap.size (.slice a n c) := by rw [hv6]; exact (Bx1.new _ _ _).alloc _
      have M6 : Bx1 v6 (v5.heap.size + 1) (.string p) := by rw [hv6]; have := Bx1.new (v5.alloc (.cells #[.slice a n c] 23)) (.string p) 9; rw [World.size_alloc] at this; exact this
      have s6 : v6.heap.size = v5.heap.size + 2 := by rw [hv6]; simp
      have B6 : Hid (Below w.heap.size w v6) := B5.out.trans (hb6.mono B5.out.size)
      have E6 : Hid (EO v6 v2.heap.size 51 3 (.slice b n d) n (fiF F)) := E5.out.below hb6
      have P6 : Hid (Bx1 v6 w.heap.size (.string p)) := P5.out.below hb6
      have Q6 : Hid (Bx1 v6 (w.heap.size + 1) (.slice none 0 0)) := Q5.out.below hb6
      have R6 : Hid (Bx1 v6 (w.heap.size + 1 + 1) (.int .i64 0)) := R5.out.below hb6
      have N6 : Hid (Bx1 v6 Bn (.slice b n d)) := N5.out.below hb6
      have T6 : Hid (Bn < v6.heap.size ∧ v2.heap.size ≤ v6.heap.size) := ⟨N6.out.lt, by have := (show v2.heap.size ≤ Bn from S3.out); have := N6.out.lt; omega⟩
      have SQ := below_stops (fun g => g = v5.heap.size ∨ g = v5.heap.size + 1 ∨ g < w.heap.size) (v5.heap.size + 1) v5.heap.size a n c F p v6 (3 - 1) M6.1 L6.1 (H.out.below B6.out) (.inr (.inl rfl)) (.inl rfl) (fun _ q e => by
        obtain ⟨j, hj, _⟩ := HJ.out
        obtain ⟨b', off', e', hc⟩ := H.out j hj
        have hlt := strBlock (hc 0 (by omega))
        rw [e'] at e
        cases e
        exact .inr (.inr hlt)) (by omega) HP40.out (fun g hg => by have := B5.out.size; rcases hg with rfl | rfl | hg <;> omega)
      clear hb6 L6 M6 hv6 B5 E5 P5 Q5 R5 N5 p1 BL
      gi_wp2_with fail
      refine wpIn_rangeFunc_ownF rfl (by omega) (gf := 113) (lb := #[.pointer (some ⟨v5.heap.size + 1, 0, none⟩), .pointer (some ⟨v5.heap.size, 0, none⟩)]) rfl trivial (enters_of Tryz.func113 (by kernel_rfl) rfl)
        SQ KpQ.tr (fun W l o o' hl hh _ _ => KpQ.put (w := v6) (fun g hg => by have := B6.out.size; rcases hg with rfl | rfl | hg <;> omega) W l o o' hl hh) (Below.refl _ _) (fun _ => rfl)
        (fun pre W => pre = [] ∧ Below v6.heap.size v6 W)
        (fun cc pre W => ((cc = .ret ∧ pre ≠ []) ∧ Bx1 W (w.heap.size + 1) (.slice b n d) ∧ Bx1 W (w.heap.size + 1 + 1) (.int .i64 15) ∧ EO W v2.heap.size 51 3 (.slice b n d) n (fiF F)) ∧ Below w.heap.size w W)
        (OwnFrom.and (ownFrom_pure _ (fun pre => pre = [])) (ownFrom_below (Nat.le_refl _) (Nat.le_refl _)))
        (fun cc => OwnFrom.and (OwnFrom.and (ownFrom_pure _ (fun pre => cc = .ret ∧ pre ≠ [])) (OwnFrom.and (Own.from (bx1_own _ _) _) (OwnFrom.and (Own.from (bx1_own _ _) _) (Own.from (eo_own _ _ _ _ _ _) _)))) (ownFrom_below (Nat.le_refl _) B6.out.size))
        ⟨rfl, Below.refl _ _⟩
        (fun x => { tmps := #[.slice a n c, .string p, undef, .pointer (some ⟨w.heap.size, 0, none⟩), .pointer (some ⟨w.heap.size + 1, 0, none⟩), .pointer (some ⟨w.heap.size + 1 + 1, 0, none⟩), .int .i64 0, .pointer (some ⟨Bn, 0, none⟩), .slice a n c, .string p, .slice (some ⟨w.heap.size + 1 + 1 + 1, 0, none⟩) 1 1, .int .i64 0, .int .i64 0, .bool false, undef, .slice a n c, .slice b n d, .slice a n c, .string p, .bool true, .bool false, undef, .slice a n c, .string p, .func (.func 113) #[] #[.pointer (some ⟨v5.heap.size + 1, 0, none⟩), .pointer (some ⟨v5.heap.size, 0, none⟩)], .string x.1, .agg #[.string x.2.p, .bool x.2.d, .string x.2.t], undef, undef, undef, undef], defers := [] }) ?assign ?body ?done ?stop
      case assign =>
        intro l x W K hK
        simp only [encB]
        gi_wp2
        simpa using hK
      case body =>
        rintro l pre x W ⟨rfl, hB⟩ _
        have n1 := (N6.out.below hB).1
        have q0 := (Q6.out.below hB).1
        have q2 := (Q6.out.below hB).2
        have r0 := (R6.out.below hB).1
        have r2 := (R6.out.below hB).2
        have QW := Q6.out.below hB
        have RW := R6.out.below hB
        have EW := E6.out.below hB
        have BW := B6.out.trans (hB.mono B6.out.size)
        have HQW : Hid (Bx1 W (w.heap.size + 1) (.slice none 0 0)) := QW
        have HRW : Hid (Bx1 W (w.heap.size + 1 + 1) (.int .i64 0)) := RW
        have HEW : Hid (EO W v2.heap.size 51 3 (.slice b n d) n (fiF F)) := EW
        have HBW : Hid (Below w.heap.size w W) := BW
        clear QW RW EW BW hB
        gi_wp2
        refine ⟨(KeepsOthers.setCell _ _ _).trans (KeepsOthers.setCell _ _ _), ⟨⟨rfl, by simp⟩, (HQW.out.set _).other (by omega) _, (HRW.out.other (by omega) _).set _, HEW.out.keep (fun g e => ?_)⟩, (HBW.out.setCell (p := ⟨w.heap.size + 1, 0, none⟩) (by simp) _).setCell (p := ⟨w.heap.size + 1 + 1, 0, none⟩) (by simp; omega) _⟩
        have := (HEW.out.ge g e).1
        have := S2.out
        rw [Below.heap_setCell _ _ _ g (by show g ≠ w.heap.size + 1 + 1; omega), Below.heap_setCell _ _ _ g (by show g ≠ w.heap.size + 1; omega)]
      case stop =>
        rintro D cc pre W hD hpre ⟨⟨⟨rfl, hne⟩, q1, r1, hE⟩, hB⟩ hK
        have HU : Under n F p := by
          have hnn' : blw F (aheadT p) n ≠ [] := fun e => hne (by rw [e] at hpre; exact List.prefix_nil.1 hpre)
          have : ∃ i, i < n ∧ HasPre (F i).p (aheadT p) := Classical.byContradiction (fun h => hnn' (blw_nil_iff.2 h))
          unfold aheadT at this
          rwa [if_neg (by have := HPP.out; omega)] at this
        obtain ⟨j, hj, ej⟩ := HJ.out
        have HM : Hid (RmIs n F p n F 15) := .inr ⟨HX.out, .inr ⟨j, hj, ej, .inl ⟨HU, rfl, rfl, rfl⟩⟩⟩
        clear HU hj ej hne hpre
        gi_wp2
        refine ⟨by simp, .inl ⟨_, _, rfl, run_takeDeferred hK, ?_⟩⟩
        have X1 := (q1.putO (.deferred none) hK rfl).1
        have X2 := (r1.putO (.deferred none) hK rfl).1
        have hEp : EO (W.putObj D (.deferred none)) v2.heap.size 51 3 (.slice b n d) n (fiF F) := eo_own (β := Unit) _ _ _ _ _ _ () W _ (some D) hE (grownBy_putObj' _ D _) (fun r e => by cases e; exact ⟨_, hK, rfl⟩)
        refine ⟨.tuple #[.slice b n d, .int .i64 15], by simp [results, Tryz.f57, go_sem, X1, X2], ⟨n, F, 15, HM.out, ⟨_, _, rfl, hEp.mono (by have := S2.out; omega)⟩⟩, hB.trans (belowK_b (w := w) (Nat.le_refl _) W D _ _ (by have := B6.out.size; omega) hK rfl rfl)⟩
      case done =>
        rintro D ys W hD hys ⟨hnil, hB⟩ hK
        have HU : ¬ Under n F p := by
          rw [hys] at hnil
          have := blw_nil_iff.1 hnil
          unfold aheadT at this
          rwa [if_neg (by have := HPP.out; omega)] at this
        obtain ⟨j, hj, ej⟩ := HJ.out
        obtain ⟨g, hg0, hg1⟩ : ∃ g, b = some ⟨g, 0, none⟩ ∧ v2.heap.size ≤ g := by
          obtain ⟨g, hr, hge⟩ := E6.out.rowE
          exact ⟨g, hr.a (by omega), hge (by omega)⟩
        subst hg0
        have EW : EO W v2.heap.size 51 3 (.slice (some ⟨g, 0, none⟩) n d) n (fiF F) := E6.out.below hB
        have DE : Hid (CallsIn Fence.wide 2 Tryz.prog 84 #[.slice (some ⟨g, 0, none⟩) n d, .func (.func 90) #[] #[.pointer (some ⟨w.heap.size, 0, none⟩)]] W fun e w' => (e = .returned (.slice (some ⟨g, 0, none⟩) (n - 1) d) ∧ EO w' v2.heap.size 51 3 (.slice (some ⟨g, 0, none⟩) (n - 1) d) (n - 1) (fiF (delU F j n))) ∧ OnlyB g W w') := callsIn_wide.2 (deleRemoveFile v2.heap.size g n d F p w.heap.size j HS.out (by omega) hj ej W (by have := S2.out; omega) (by have := T6.out.2; have := hB.size; omega) (P6.out.below hB).1 EW)
        have HM : Hid (RmIs n F p (n - 1) (delU F j n) 0) := .inr ⟨HX.out, .inr ⟨j, hj, ej, .inr ⟨HU, rfl, rfl, fun _ _ => rfl⟩⟩⟩
        have GD : Hid (D ≠ g) := fun e => by
          have := eo_heap EW g rfl
          rw [← e, hK] at this
          obtain ⟨_, h⟩ := this
          cases h
        have DW : Hid (D < W.heap.size) := (Array.getElem?_eq_some_iff.1 hK).1
        have n1 := (N6.out.below hB).1
        have QW : Hid (Bx1 W (w.heap.size + 1) (.slice none 0 0)) := Q6.out.below hB
        have RW : Hid (Bx1 W (w.heap.size + 1 + 1) (.int .i64 0)) := R6.out.below hB
        have HBW : Hid (Below w.heap.size w W) := B6.out.trans (hB.mono B6.out.size)
        have HK0 : Hid (W.heap[D]? = some (.deferred (some []))) := hK
        have hDw : w.heap.size ≤ D := by have := B6.out.size; omega
        clear HU hj ej hnil hys hB EW hK
        gi_wp2_with fail
        refine ⟨trivial, (CallsIn.mono DE.out) ?_⟩
        rintro e W2 ⟨⟨rfl, hE2⟩, hO⟩
        have gs := S2.out
        have Q2' : Bx1 W2 (w.heap.size + 1) (.slice none 0 0) := QW.out.ofBlock (hO.block _ QW.out.lt (by omega))
        have R2' : Bx1 W2 (w.heap.size + 1 + 1) (.int .i64 0) := RW.out.ofBlock (hO.block _ RW.out.lt (by omega))
        have B2' : Below w.heap.size w W2 := HBW.out.trans (hO.toBelow (by omega) HBW.out.size)
        have K2 : W2.heap[D]? = some (.deferred (some [])) := (hO.block D DW.out GD.out).trans HK0.out
        have HQ2 : Hid (Bx1 W2 (w.heap.size + 1) (.slice none 0 0)) := Q2'
        have HR2 : Hid (Bx1 W2 (w.heap.size + 1 + 1) (.int .i64 0)) := R2'
        have HE2 : Hid (EO W2 v2.heap.size 51 3 (.slice (some ⟨g, 0, none⟩) (n - 1) d) (n - 1) (fiF (delU F j n))) := hE2
        have q0 := Q2'.1
        have q2 := Q2'.2
        have r0 := R2'.1
        have r2 := R2'.2
        clear hE2 hO Q2' R2' DE n1
        gi_wp2
        have K3 := ((KeepsOthers.setCell W2 ⟨w.heap.size + 1, 0, none⟩ (.slice (some ⟨g, 0, none⟩) (n - 1) d)).trans (KeepsOthers.setCell _ ⟨w.heap.size + 1 + 1, 0, none⟩ (.int .i64 0))).same D _ K2 rfl
        refine ⟨by simp, .inl ⟨_, _, rfl, run_takeDeferred K3, ?_⟩⟩
        have X1 := (((HQ2.out.set (.slice (some ⟨g, 0, none⟩) (n - 1) d)).other (show w.heap.size + 1 ≠ w.heap.size + 1 + 1 by omega) (.int .i64 0)).putO (.deferred none) K3 rfl).1
        have X2 := (((HR2.out.other (show w.heap.size + 1 + 1 ≠ w.heap.size + 1 by omega) (.slice (some ⟨g, 0, none⟩) (n - 1) d)).set (.int .i64 0)).putO (.deferred none) K3 rfl).1
        have E3 : EO ((W2.setCell ⟨w.heap.size + 1, 0, none⟩ (.slice (some ⟨g, 0, none⟩) (n - 1) d)).setCell ⟨w.heap.size + 1 + 1, 0, none⟩ (.int .i64 0)) v2.heap.size 51 3 (.slice (some ⟨g, 0, none⟩) (n - 1) d) (n - 1) (fiF (delU F j n)) := HE2.out.keep (fun g' e => by
          have := (HE2.out.ge g' e).1
          rw [Below.heap_setCell _ _ _ g' (by show g' ≠ w.heap.size + 1 + 1; omega), Below.heap_setCell _ _ _ g' (by show g' ≠ w.heap.size + 1; omega)])
        have E4 := eo_own (β := Unit) _ _ _ _ _ _ () _ _ (some D) E3 (grownBy_putObj' _ D (.deferred none)) (fun r e => by cases e; exact ⟨_, K3, rfl⟩)
        refine ⟨.tuple #[.slice (some ⟨g, 0, none⟩) (n - 1) d, .int .i64 0], by simp [results, Tryz.f57, go_sem, X1, X2], ⟨n - 1, delU F j n, 0, HM.out, ⟨_, _, rfl, E4.mono (by omega)⟩⟩, ((B2'.setCell (p := ⟨w.heap.size + 1, 0, none⟩) (by simp) _).setCell (p := ⟨w.heap.size + 1 + 1, 0, none⟩) (by simp; omega) _).trans (belowK_b (w := w) (Nat.le_refl _) _ D _ _ hDw K3 rfl rfl)⟩
  · have g : (x != 0) = true := by simpa using h0
    have HM : Hid (RmIs n F p 0 F x) := .inl ⟨HX.out, h0, rfl⟩
    have q1 := Q2.out.1
    have q2 := Q2.out.2
    have r1 := R2.out.1
    have r2 := R2.out.2
    clear h0 HX
    gi_wp2
    have X1 := ((Q2.out.set (.slice none 0 0)).other (show w.heap.size + 1 ≠ w.heap.size + 1 + 1 by omega) (.int .i64 x)).1
    have X2 := ((R2.out.other (show w.heap.size + 1 + 1 ≠ w.heap.size + 1 by omega) (.slice none 0 0)).set (.int .i64 x)).1
    exact ⟨.tuple #[.slice none 0 0, .int .i64 x], by simp [results, Tryz.f57, go_sem, X1, X2], ⟨0, F, x, HM.out, retFs_nil _ _ _ _⟩, (B2.out.setCell (p := ⟨w.heap.size + 1, 0, none⟩) (by simp) _).setCell (p := ⟨w.heap.size + 1 + 1, 0, none⟩) (by simp; omega) _⟩
end Go.Proofs.YtgcdoabcopihlaaGreat
