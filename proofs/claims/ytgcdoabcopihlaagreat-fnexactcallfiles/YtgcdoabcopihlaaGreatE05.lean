/-
  ReadFile, of the program and of the model.
-/
import Derived.Test.YtgcdoabcopihlaaGreatE01
namespace Go.Proofs.YtgcdoabcopihlaaGreat
open Go.ChangeShapes Go.WideShapes Go.ChangeAt Go.RowKit
set_option linter.unusedVariables false
/-- What fileFault tells. -/
def FlIs (n : Nat) (F : Nat → Fi) (q : ByteArray) (c : Int) : Prop := ((∀ j, j < n → (F j).p ≠ q) ∧ c = 5) ∨ ∃ j, j < n ∧ (F j).p = q ∧ (((F j).d = true ∧ c = 17) ∨ ((F j).d = false ∧ c = 0))
theorem FlIs.uniq {n : Nat} {F : Nat → Fi} {q : ByteArray} {c c' : Int} (hs : Srt n F) (h : FlIs n F q c) (h' : FlIs n F q c') : c = c' := by
  rcases h with ⟨a, rfl⟩ | ⟨j, hj, e, g⟩ <;> rcases h' with ⟨a', rfl⟩ | ⟨j', hj', e', g'⟩
  · rfl
  · exact absurd e' (a j' hj')
  · exact absurd e (a' j hj)
  · obtain rfl := hs.uniq hj hj' (e.trans e'.symm)
    rcases g with ⟨g, rfl⟩ | ⟨g, rfl⟩ <;> rcases g' with ⟨g', rfl⟩ | ⟨g', rfl⟩ <;> first | rfl | (rw [g] at g'; cases g')
set_option maxRecDepth 100000 in
set_option maxHeartbeats 1000000 in
theorem fileFault_any (a : Option Addr) (n c : Nat) (F : Nat → Fi) (q : ByteArray) (hs : Srt n F) (hq : q.size ≤ 40) (hn : n ≤ 1048576) (w : World) (h : Els w 3 a n (fiF F)) :
    Calls Tryz.prog 82 #[.slice a n c, .string q] w fun e w' => (∃ x : Int, e = .returned (.int .i64 x) ∧ FlIs n F q x) ∧ Below w.heap.size w w' := by
  have HT : Hid (Calls Tryz.prog 69 #[.slice a n c, .string q] w fun e w' => Says e (∃ j, j < n ∧ (F j).p = q) ∧ Below w.heap.size w w') := isThere_any a n c F q hs hq hn w h
  have HF : Hid (∀ w' : World, Below w.heap.size w w' → Calls Tryz.prog 70 #[.slice a n c, .string q, .func (.func 31) #[] #[]] w' fun e w'' => (∃ y : Fi, e = .returned (.agg #[.string y.p, .bool y.d, .string y.t]) ∧ FindIs n F q y) ∧ Below w'.heap.size w' w'') := fun w' hb => findF_any a n c F q hs hq hn w' (h.below hb)
  have HF1 : Hid (∀ (p : ByteArray) (d : Bool) (t : ByteArray) (w : World), (Instr.field 51 (.agg #[.string p, .bool d, .string t]) 1).run Tryz.prog w = .ok (.bool d) w) := fieldFi1
  clear hs h hq hn
  go_enter Tryz.func82, Tryz.ntmps82
  go_wp2_with fail
  refine (Calls.mono HT.out) ?_
  rintro e w1 ⟨⟨b, rfl, hb'⟩, hb⟩
  have HB : Hid (Below w.heap.size w w1) := hb
  have HJ : Hid (b = true ↔ ∃ j, j < n ∧ (F j).p = q) := hb'
  clear hb hb' HT
  cases b with
  | false =>
    have HD : Hid (FlIs n F q 5) := .inl ⟨(fun j hj e => by have := HJ.out.2 ⟨j, hj, e⟩; cases this), rfl⟩
    clear HJ
    go_wp2
    go_ret
    exact ⟨⟨_, rfl, HD.out⟩, HB.out⟩
  | true =>
    have HE : Hid (∃ j, j < n ∧ (F j).p = q) := HJ.out.1 rfl
    clear HJ
    go_wp2_with fail
    refine (HF.out _ HB.out).mono ?_
    rintro e w2 ⟨⟨y, rfl, hy⟩, hb⟩
    have B2 : Hid (Below w.heap.size w w2) := HB.out.trans (hb.mono HB.out.size)
    have ff := HF1.out y.p y.d y.t
    clear hb HB HF HF1
    obtain ⟨j, hj, ej, rfl⟩ : ∃ j, j < n ∧ (F j).p = q ∧ y = F j := by
      rcases hy with h | ⟨hno, _⟩
      · exact h
      · obtain ⟨j, hj, e⟩ := HE.out
        exact absurd e (hno j hj)
    have HD : Hid (∀ x : Int, (((F j).d = true ∧ x = 17) ∨ ((F j).d = false ∧ x = 0)) → FlIs n F q x) := fun x h => .inr ⟨j, hj, ej, h⟩
    clear hy HE ej hj
    generalize F j = y at *
    obtain ⟨p, d, t⟩ := y
    dsimp only at *
    cases d with
    | true =>
      go_wp2
      go_ret
      exact ⟨⟨_, rfl, HD.out 17 (.inl ⟨by trivial, rfl⟩)⟩, B2.out⟩
    | false =>
      go_wp2
      go_ret
      exact ⟨⟨_, rfl, HD.out 0 (.inr ⟨by trivial, rfl⟩)⟩, B2.out⟩
set_option maxRecDepth 100000 in
set_option maxHeartbeats 1000000 in
theorem l11File_any (a : Option Addr) (n c : Nat) (F : Nat → Fi) (q : ByteArray) (hn : n ≤ 1048576) (w : World) (h : Els w 3 a n (fiF F)) :
    Calls Tryz.prog 77 #[.slice a n c, .string q] w fun e w' => (∃ r x : Int, e = .returned (.tuple #[.int .i64 r, .int .i64 x]) ∧ FlIs n F q x ∧ (x = 0 → ∃ j : Nat, r = (j : Int) ∧ j < n ∧ (F j).p = q ∧ (F j).d = false)) ∧ w' = w := by
  have HF : Hid (Calls Tryz.prog 73 #[.slice a n c, .string q] w fun e w' => (∃ r : Int, e = .returned (.int .i64 r) ∧ FstIs n F q r) ∧ w' = w) := l11Find_any a n c F q hn w h
  have H : Hid (Els w 3 a n (fiF F)) := h
  clear h
  go_enter Tryz.func77, Tryz.ntmps77
  go_wp2_with fail
  refine (Calls.mono HF.out) ?_
  rintro e w1 ⟨⟨r, rfl, hr⟩, rfl⟩
  clear HF
  rcases hr with ⟨rfl, hno⟩ | ⟨j, rfl, hj, ej, hfst⟩
  · have HD : Hid (FlIs n F q 5) := .inl ⟨hno, rfl⟩
    clear hno
    go_wp2
    go_ret2
    exact ⟨⟨_, _, rfl, HD.out, fun e => by cases e⟩, rfl⟩
  · obtain ⟨b, off, rfl, hc⟩ := H.out.opened (by omega)
    obtain ⟨c0, c1, c2⟩ := Els.fiC hc j hj
    have hlt' : (j : Int) < (n : Int) := by omega
    have h0 : ¬ (j : Int) < 0 := by omega
    have HD : Hid (∀ x : Int, (((F j).d = true ∧ x = 17) ∨ ((F j).d = false ∧ x = 0)) → FlIs n F q x) := fun x h => .inr ⟨j, hj, ej, h⟩
    have HJ : Hid ((F j).d = false → ∃ i : Nat, (j : Int) = (i : Int) ∧ i < n ∧ (F i).p = q ∧ (F i).d = false) := fun e => ⟨j, rfl, hj, ej, e⟩
    clear hfst ej hc
    generalize hy : F j = y at c0 c1 c2 HD HJ
    clear hy
    obtain ⟨p, d, t⟩ := y
    dsimp only at *
    cases d with
    | true =>
      go_wp2
      go_ret2
      exact ⟨⟨_, _, rfl, HD.out 17 (.inl ⟨by trivial, rfl⟩), fun e => by cases e⟩, rfl⟩
    | false =>
      go_wp2
      go_ret2
      exact ⟨⟨_, _, rfl, HD.out 0 (.inr ⟨by trivial, rfl⟩), fun _ => HJ.out (by trivial)⟩, rfl⟩
/-- So many bytes of a text from a place on, or as many as there are. -/
def partT (d : ByteArray) (at_ k : Nat) : ByteArray := d.extract (min at_ d.size) (min at_ d.size + min k (d.size - min at_ d.size))
theorem partT_two (d : ByteArray) (at_ k f m : Nat) (hf : f = min at_ d.size) (hm : m = min k (d.size - f)) : (d.extract f d.size).extract 0 m = partT d at_ k := by
  subst hf
  rw [extract_both d _ 0 m (by omega), Nat.add_zero, hm]
  rfl
theorem partT_one (d : ByteArray) (at_ k f m : Nat) (hf : f = min at_ d.size) (hm : m = min k (d.size - f)) : d.extract f (f + m) = partT d at_ k := by
  subst hf; subst hm; rfl
/-- What ReadFile answers. -/
def RdIs (n : Nat) (F : Nat → Fi) (p : ByteArray) (k l : Int) (t : ByteArray) (c : Int) : Prop :=
  (FtIs n F 1 (fun _ => p) c ∧ c ≠ 0 ∧ t = ⟨#[]⟩) ∨ (FtIs n F 1 (fun _ => p) 0 ∧
    ((FlIs n F p c ∧ c ≠ 0 ∧ t = ⟨#[]⟩) ∨ (FlIs n F p 0 ∧ (((k < 0 ∨ l < 0) ∧ c = 4 ∧ t = ⟨#[]⟩) ∨ (¬ (k < 0 ∨ l < 0) ∧ c = 0 ∧ ∃ j, j < n ∧ (F j).p = p ∧ t = partT (F j).t k.toNat l.toNat)))))
theorem RdIs.uniq {n : Nat} {F : Nat → Fi} {p : ByteArray} {k l : Int} {t t' : ByteArray} {c c' : Int} (h : RdIs n F p k l t c) (h' : RdIs n F p k l t' c') : t = t' ∧ c = c' := by
  rcases h with ⟨a, b, rfl⟩ | ⟨a, q⟩ <;> rcases h' with ⟨a', b', rfl⟩ | ⟨a', q'⟩
  · exact ⟨rfl, a.uniq a'⟩
  · exact absurd (a.uniq a') b
  · exact absurd (a'.uniq a) b'
  · have hs := a.ok.1.srt
    rcases q with ⟨e, e1, rfl⟩ | ⟨e, ⟨e1, rfl, rfl⟩ | ⟨e1, rfl, j, hj, ej, rfl⟩⟩ <;> rcases q' with ⟨f, f1, rfl⟩ | ⟨f, ⟨f1, rfl, rfl⟩ | ⟨f1, rfl, j', hj', ej', rfl⟩⟩
    · exact ⟨rfl, e.uniq hs f⟩
    · exact absurd (e.uniq hs f) e1
    · exact absurd (e.uniq hs f) e1
    · exact absurd (f.uniq hs e) f1
    · exact ⟨rfl, rfl⟩
    · exact absurd e1 f1
    · exact absurd (f.uniq hs e) f1
    · exact absurd f1 e1
    · obtain rfl := hs.uniq hj hj' (ej.trans ej'.symm)
      exact ⟨rfl, rfl⟩
theorem fieldFi2 (p : ByteArray) (d : Bool) (t : ByteArray) (w : World) : (Instr.field 51 (.agg #[.string p, .bool d, .string t]) 2).run Tryz.prog w = .ok (.string t) w := by kernel_rfl
set_option maxRecDepth 100000 in
set_option maxHeartbeats 2000000 in
theorem implRead_any (a : Option Addr) (n c : Nat) (F : Nat → Fi) (p : ByteArray) (k l : Int) (hsz : ∀ i, i < n → (F i).p.size ≤ 1048576) (hnn : n ≤ 1048576) (hsl : SlP a n c) (w : World) (h : Els w 3 a n (fiF F)) :
    Calls Tryz.prog 53 #[.slice a n c, .string p, .int .i64 k, .int .i64 l] w fun e w' => (∃ t cd, RdIs n F p k l t cd ∧ e = .returned (.tuple #[.string t, .int .i64 cd])) ∧ Below w.heap.size w w' := by
  obtain ⟨v1, hv1⟩ : ∃ v, v = w.alloc (.cells #[.string p] 9) := ⟨_, rfl⟩
  have A1 : Below w.heap.size w v1 := by rw [hv1]; exact (Below.refl _ _).alloc (Nat.le_refl _) _
  have FF : Hid (Calls Tryz.prog 78 #[.slice a n c, .slice (some ⟨w.heap.size, 0, none⟩) 1 1] v1 fun e w' => (∃ x : Int, e = .returned (.int .i64 x) ∧ FtIs n F 1 (fun _ => p) x) ∧ Below v1.heap.size v1 w') := filesFault_any a n c F _ 1 1 (fun _ => p) hsz hnn hsl (by omega) v1 (h.below A1) (by rw [hv1]; exact strs_lit w p)
  have HA : Hid (Below w.heap.size w v1) := A1
  have HV : Hid (v1 = w.alloc (.cells #[.string p] 9)) := hv1
  have H : Hid (Els w 3 a n (fiF F)) := h
  clear h hsz A1 hv1
  go_enter Tryz.func53, Tryz.ntmps53
  go_wp2_with fail
  rw [← HV.out]
  clear HV
  refine (Calls.mono FF.out) ?_
  rintro e v2 ⟨⟨x, rfl, hx⟩, hb⟩
  have B2 : Hid (Below w.heap.size w v2) := HA.out.trans (hb.mono HA.out.size)
  have HX : Hid (FtIs n F 1 (fun _ => p) x) := hx
  clear hx hb FF HA
  by_cases h0 : x = 0
  · subst h0
    obtain ⟨ho, hp, hn4, -⟩ := HX.out.ok
    have hP := hp 0 (by omega)
    have HS : Hid (FsOk n F) := ho
    have FL : Hid (∀ w' : World, Below w.heap.size w w' → Calls Tryz.prog 82 #[.slice a n c, .string p] w' fun e w'' => (∃ x : Int, e = .returned (.int .i64 x) ∧ FlIs n F p x) ∧ Below w'.heap.size w' w'') := fun w' hb => fileFault_any a n c F p ho.srt hP.1 hnn w' (H.out.below hb)
    have FN : Hid (∀ w' : World, Below w.heap.size w w' → Calls Tryz.prog 70 #[.slice a n c, .string p, .func (.func 31) #[] #[]] w' fun e w'' => (∃ y : Fi, e = .returned (.agg #[.string y.p, .bool y.d, .string y.t]) ∧ FindIs n F p y) ∧ Below w'.heap.size w' w'') := fun w' hb => findF_any a n c F p ho.srt hP.1 hnn w' (H.out.below hb)
    clear ho hp hn4 hP
    go_wp2_with fail
    refine (FL.out _ B2.out).mono ?_
    rintro e v3 ⟨⟨x, rfl, hx⟩, hb⟩
    have B3 : Hid (Below w.heap.size w v3) := B2.out.trans (hb.mono B2.out.size)
    have HL : Hid (FlIs n F p x) := hx
    clear hx hb FL B2
    by_cases h1 : x = 0
    · subst h1
      by_cases h2 : k < 0
      · have HM : Hid (RdIs n F p k l ⟨#[]⟩ 4) := .inr ⟨HX.out, .inr ⟨HL.out, .inl ⟨.inl h2, rfl, rfl⟩⟩⟩
        go_wp2
        go_ret2
        exact ⟨⟨_, _, HM.out, rfl⟩, B3.out⟩
      by_cases h3 : l < 0
      · have HM : Hid (RdIs n F p k l ⟨#[]⟩ 4) := .inr ⟨HX.out, .inr ⟨HL.out, .inl ⟨.inr h3, rfl, rfl⟩⟩⟩
        go_wp2
        go_ret2
        exact ⟨⟨_, _, HM.out, rfl⟩, B3.out⟩
      go_wp2_with fail
      refine (FN.out _ B3.out).mono ?_
      rintro e v4 ⟨⟨y, rfl, hy⟩, hb⟩
      have B4 : Hid (Below w.heap.size w v4) := B3.out.trans (hb.mono B3.out.size)
      obtain ⟨j, hj, ej, rfl⟩ : ∃ j, j < n ∧ (F j).p = p ∧ y = F j := by
        rcases hy with h | ⟨hno, _⟩
        · exact h
        · rcases HL.out with ⟨_, e⟩ | ⟨j, hj, e, _⟩
          · cases e
          · exact absurd e (hno j hj)
      have HM : Hid (RdIs n F p k l (partT (F j).t k.toNat l.toNat) 0) := .inr ⟨HX.out, .inr ⟨HL.out, .inr ⟨(fun q => by omega), rfl, j, hj, ej, rfl⟩⟩⟩
      have hts : (F j).t.size ≤ 200 := (HS.out.2 j hj).1.2.1
      have ff := fieldFi2 (F j).p (F j).d (F j).t
      generalize F j = y at *
      obtain ⟨q, d, t⟩ := y
      dsimp only at *
      have HT : Hid ((t.extract (min k ↑t.size).toNat t.size).extract 0 (min l ↑(t.size - (min k ↑t.size).toNat)).toNat = partT t k.toNat l.toNat) := partT_two t _ _ _ _ (by omega) (by omega)
      have hes : (t.extract (min k ↑t.size).toNat t.size).size = t.size - (min k ↑t.size).toNat := extract_size t _ t.size (Nat.le_refl _)
      clear hy hb HL HX HS FN B3 ej hj
      go_wp2
      go_ret2
      exact ⟨⟨_, _, HM.out, by rw [← HT.out]; rfl⟩, B4.out⟩
    · have g : (x != 0) = true := by simpa using h1
      have HM : Hid (RdIs n F p k l ⟨#[]⟩ x) := .inr ⟨HX.out, .inl ⟨HL.out, h1, rfl⟩⟩
      clear h1
      go_wp2
      go_ret2
      exact ⟨⟨_, _, HM.out, rfl⟩, B3.out⟩
  · have g : (x != 0) = true := by simpa using h0
    have HM : Hid (RdIs n F p k l ⟨#[]⟩ x) := .inl ⟨HX.out, h0, rfl⟩
    clear h0
    go_wp2
    go_ret2
    exact ⟨⟨_, _, HM.out, rfl⟩, B2.out⟩
set_option maxRecDepth 100000 in
set_option maxHeartbeats 2000000 in
theorem specRead_any (a : Option Addr) (n c : Nat) (F : Nat → Fi) (p : ByteArray) (k l : Int) (hsz : ∀ i, i < n → (F i).p.size ≤ 1048576) (hnn : n ≤ 1048576) (hpz : p.size ≤ 1048576) (w : World) (h : Els w 3 a n (fiF F)) :
    Calls Tryz.prog 64 #[.slice a n c, .string p, .int .i64 k, .int .i64 l] w fun e w' => (∃ t cd, RdIs n F p k l t cd ∧ e = .returned (.tuple #[.string t, .int .i64 cd])) ∧ Below w.heap.size w w' := by
  by_cases hl : 4096 < n ∨ 65536 < p.size
  · have HX : Hid (RdIs n F p k l ⟨#[]⟩ 2) := .inl ⟨.inl ⟨hl.imp id (fun q => ⟨0, by omega, q⟩), rfl⟩, by decide, rfl⟩
    by_cases h0 : 4096 < n
    · have g0 : (4096 : Int) < (n : Int) := by omega
      clear h hsz hl
      go_enter Tryz.func64, Tryz.ntmps64
      go_wp2
      go_ret2
      exact ⟨⟨_, _, HX.out, rfl⟩, Below.refl _ _⟩
    · have g0 : ¬ (4096 : Int) < (n : Int) := by omega
      have g1 : (65536 : Int) < (p.size : Int) := by rcases hl with q | q <;> omega
      clear h hsz hl
      go_enter Tryz.func64, Tryz.ntmps64
      go_wp2
      go_ret2
      exact ⟨⟨_, _, HX.out, rfl⟩, Below.refl _ _⟩
  · have g0 : ¬ (4096 : Int) < (n : Int) := fun q => hl (.inl (by omega))
    have g1 : ¬ (65536 : Int) < (p.size : Int) := fun q => hl (.inr (by omega))
    have CD : Hid (Calls Tryz.prog 97 #[.slice a n c, .string p] w fun e w' => (∃ x : Int, e = .returned (.int .i64 x) ∧ FtIs n F 1 (fun _ => p) x) ∧ Below w.heap.size w w') := l11Code_any a n c F p hsz hnn hpz w h
    have FL : Hid (∀ w' : World, Below w.heap.size w w' → Calls Tryz.prog 77 #[.slice a n c, .string p] w' fun e w'' => (∃ r x : Int, e = .returned (.tuple #[.int .i64 r, .int .i64 x]) ∧ FlIs n F p x ∧ (x = 0 → ∃ j : Nat, r = (j : Int) ∧ j < n ∧ (F j).p = p ∧ (F j).d = false)) ∧ w'' = w') := fun w' hb => l11File_any a n c F p hnn w' (h.below hb)
    have H : Hid (Els w 3 a n (fiF F)) := h
    clear h hsz hl
    go_enter Tryz.func64, Tryz.ntmps64
    go_wp2_with fail
    refine (Calls.mono CD.out) ?_
    rintro e v1 ⟨⟨x, rfl, hx⟩, hb⟩
    have B1 : Hid (Below w.heap.size w v1) := hb
    have HX : Hid (FtIs n F 1 (fun _ => p) x) := hx
    clear hx hb CD
    by_cases h0 : x = 0
    · subst h0
      have HS : Hid (FsOk n F) := HX.out.ok.1
      go_wp2_with fail
      refine (FL.out _ B1.out).mono ?_
      rintro e v2 ⟨⟨r, x, rfl, hx, hj⟩, hw⟩
      cases hw
      have HL : Hid (FlIs n F p x) := hx
      clear hx FL
      by_cases h1 : x = 0
      · subst h1
        obtain ⟨j, rfl, hj1, ej, dj⟩ := hj rfl
        obtain ⟨b, off, rfl, hc⟩ := (H.out.below B1.out).opened (by omega)
        obtain ⟨c0, c1, c2⟩ := Els.fiC hc j hj1
        have hlt' : (j : Int) < (n : Int) := by omega
        have hts : (F j).t.size ≤ 200 := (HS.out.2 j hj1).1.2.1
        have HM : Hid (¬ (k < 0 ∨ l < 0) → RdIs n F p k l (partT (F j).t k.toNat l.toNat) 0) := fun q => .inr ⟨HX.out, .inr ⟨HL.out, .inr ⟨q, rfl, j, hj1, ej, rfl⟩⟩⟩
        have HM4 : Hid ((k < 0 ∨ l < 0) → RdIs n F p k l ⟨#[]⟩ 4) := fun q => .inr ⟨HX.out, .inr ⟨HL.out, .inl ⟨q, rfl, rfl⟩⟩⟩
        clear hj hc ej dj HS HX HL
        generalize F j = y at *
        obtain ⟨q, d, t⟩ := y
        dsimp only at *
        by_cases h2 : k < 0
        · go_wp2
          go_ret2
          exact ⟨⟨_, _, HM4.out (.inl h2), rfl⟩, B1.out⟩
        by_cases h3 : l < 0
        · go_wp2
          go_ret2
          exact ⟨⟨_, _, HM4.out (.inr h3), rfl⟩, B1.out⟩
        have i0 : (0 : Int) ≤ min k ↑t.size := by omega
        have i1 : IntKind.i64.wrap (↑t.size - min k ↑t.size) = ↑t.size - min k ↑t.size := IntWalk.i64_in _ (by omega)
        have i2 : (0 : Int) ≤ min l (↑t.size - min k ↑t.size) := by omega
        have i3 : IntKind.i64.wrap (min k ↑t.size + min l (↑t.size - min k ↑t.size)) = min k ↑t.size + min l (↑t.size - min k ↑t.size) := IntWalk.i64_in _ (by omega)
        have i4 : min k ↑t.size ≤ min k ↑t.size + min l (↑t.size - min k ↑t.size) := by omega
        have i5 : min k ↑t.size + min l (↑t.size - min k ↑t.size) ≤ ↑t.size := by omega
        have i6 : (0 : Int) ≤ min k ↑t.size + min l (↑t.size - min k ↑t.size) := by omega
        have HT : Hid (t.extract (min k ↑t.size).toNat (min k ↑t.size + min l (↑t.size - min k ↑t.size)).toNat = partT t k.toNat l.toNat) := by
          show _ = _
          rw [← partT_one t k.toNat l.toNat (min k ↑t.size).toNat (min l.toNat (t.size - (min k ↑t.size).toNat)) (by omega) rfl]
          congr 1
          omega
        go_wp2
        go_ret2
        exact ⟨⟨_, _, HM.out (by omega), by rw [← HT.out]; rfl⟩, B1.out⟩
      · have g : (x != 0) = true := by simpa using h1
        have HM : Hid (RdIs n F p k l ⟨#[]⟩ x) := .inr ⟨HX.out, .inl ⟨HL.out, h1, rfl⟩⟩
        clear h1 hj
        go_wp2
        go_ret2
        exact ⟨⟨_, _, HM.out, rfl⟩, B1.out⟩
    · have g : (x != 0) = true := by simpa using h0
      have HM : Hid (RdIs n F p k l ⟨#[]⟩ x) := .inl ⟨HX.out, h0, rfl⟩
      clear h0
      go_wp2
      go_ret2
      exact ⟨⟨_, _, HM.out, rfl⟩, B1.out⟩
end Go.Proofs.YtgcdoabcopihlaaGreat
