/-
  MakeDir of the program.
-/
import Derived.Test.YtgcdoabcopihlaaGreatFileW
namespace Go.Proofs.YtgcdoabcopihlaaGreat
open Go.ChangeShapes Go.WideShapes Go.ChangeAt Go.RowKit
set_option linter.unusedVariables false
/-- Files of one's own and a code are handed back. -/
def RetFs (m : Nat) (G : Nat → Fi) (cd : Int) (B : Nat) (e : Ending) (w : World) : Prop := ∃ (a : Option Addr) (c : Nat), e = .returned (.tuple #[.slice a m c, .int .i64 cd]) ∧ EO w B 51 3 (.slice a m c) m (fiF G)
theorem retFs_nil (cd : Int) (B : Nat) (w : World) (G : Nat → Fi) : RetFs 0 G cd B (.returned (.tuple #[.slice none 0 0, .int .i64 cd])) w := ⟨none, 0, rfl, EO.nil _ _ _ _ _⟩
theorem strs_lit (w : World) (p : ByteArray) : Strs (w.alloc (.cells #[.string p] 9)) (some ⟨w.heap.size, 0, none⟩) 1 (fun _ => p) := fun i hi => by
  obtain rfl : i = 0 := by omega
  exact ⟨w.heap.size, 0, rfl, by simp⟩
theorem FtIs.ok {n : Nat} {F : Nat → Fi} {m : Nat} {t : Nat → ByteArray} (h : FtIs n F m t 0) : FsOk n F ∧ (∀ i, i < m → PathOk (t i)) ∧ n ≤ 4096 ∧ ¬ LongT m t := by
  rcases h with ⟨_, e⟩ | ⟨a, ⟨_, e⟩ | ⟨b, ⟨_, e⟩ | ⟨g, _⟩⟩⟩
  · cases e
  · cases e
  · cases e
  · exact ⟨b, g, by rcases Nat.lt_or_ge 4096 n with q | q; exact absurd (.inl q) a; exact q, fun q => a (.inr q)⟩
/-- What MakeDir does. -/
def MkIs (n : Nat) (F : Nat → Fi) (p : ByteArray) (m : Nat) (G : Nat → Fi) (c : Int) : Prop :=
  (FtIs n F 1 (fun _ => p) c ∧ c ≠ 0 ∧ m = 0) ∨ (FtIs n F 1 (fun _ => p) 0 ∧
    (((∃ j, j < n ∧ (F j).p = p) ∧ c = 9 ∧ m = n ∧ G = F) ∨ ((¬ ∃ j, j < n ∧ (F j).p = p) ∧
      ((NewIs n F p c ∧ c ≠ 0 ∧ m = n ∧ G = F) ∨ (NewIs n F p 0 ∧ c = 0 ∧ PutIs n F ⟨p, true, ⟨#[]⟩⟩ m G)))))
theorem MkIs.uniq {n : Nat} {F : Nat → Fi} {p : ByteArray} {m m' : Nat} {G G' : Nat → Fi} {c c' : Int} (h : MkIs n F p m G c) (h' : MkIs n F p m' G' c') : m = m' ∧ c = c' ∧ ∀ i, i < m → G i = G' i := by
  rcases h with ⟨a, b, rfl⟩ | ⟨a, q⟩ <;> rcases h' with ⟨a', b', rfl⟩ | ⟨a', q'⟩
  · exact ⟨rfl, a.uniq a', fun i hi => absurd hi (by omega)⟩
  · exact absurd (a.uniq a') b
  · exact absurd (a'.uniq a) b'
  · have hs := a.ok.1.srt
    rcases q with ⟨e, rfl, rfl, rfl⟩ | ⟨e, ⟨e1, e2, rfl, rfl⟩ | ⟨e1, rfl, e2⟩⟩ <;> rcases q' with ⟨f, rfl, rfl, rfl⟩ | ⟨f, ⟨f1, f2, rfl, rfl⟩ | ⟨f1, rfl, f2⟩⟩
    · exact ⟨rfl, rfl, fun _ _ => rfl⟩
    · exact absurd e f
    · exact absurd e f
    · exact absurd f e
    · exact ⟨rfl, e1.uniq hs f1, fun _ _ => rfl⟩
    · exact absurd (e1.uniq hs f1) e2
    · exact absurd f e
    · exact absurd (f1.uniq hs e1) f2
    · have := e2.uniq hs f2
      exact ⟨this.1, rfl, this.2⟩
set_option maxRecDepth 100000 in
set_option maxHeartbeats 2000000 in
theorem implMk_any (a : Option Addr) (n c : Nat) (F : Nat → Fi) (p : ByteArray) (hsz : ∀ i, i < n → (F i).p.size ≤ 1048576) (hnn : n ≤ 1048576) (hsl : SlP a n c) (w : World) (h : Els w 3 a n (fiF F)) :
    Calls Tryz.prog 51 #[.slice a n c, .string p] w fun e w' => (∃ m G cd, MkIs n F p m G cd ∧ RetFs m G cd w.heap.size e w') ∧ Below w.heap.size w w' := by
  obtain ⟨v1, hv1⟩ : ∃ v, v = w.alloc (.cells #[.string p] 9) := ⟨_, rfl⟩
  have A1 : Below w.heap.size w v1 := by rw [hv1]; exact (Below.refl _ _).alloc (Nat.le_refl _) _
  have FF : Hid (Calls Tryz.prog 78 #[.slice a n c, .slice (some ⟨w.heap.size, 0, none⟩) 1 1] v1 fun e w' => (∃ x : Int, e = .returned (.int .i64 x) ∧ FtIs n F 1 (fun _ => p) x) ∧ Below v1.heap.size v1 w') := filesFault_any a n c F _ 1 1 (fun _ => p) hsz hnn hsl (by omega) v1 (h.below A1) (by rw [hv1]; exact strs_lit w p)
  have HA : Hid (Below w.heap.size w v1) := A1
  have HV : Hid (v1 = w.alloc (.cells #[.string p] 9)) := hv1
  have H : Hid (Els w 3 a n (fiF F)) := h
  clear h hsz A1 hv1
  go_enter Tryz.func51, Tryz.ntmps51
  go_wp2_with fail
  rw [← HV.out]
  clear HV
  refine (Calls.mono FF.out) ?_
  rintro e v2 ⟨⟨x, rfl, hx⟩, hb⟩
  have B2 : Hid (Below w.heap.size w v2) := HA.out.trans (hb.mono HA.out.size)
  have HX : Hid (FtIs n F 1 (fun _ => p) x) := hx
  clear hx hb FF HA
  by_cases h0 : x = 0
  · subst h0
    obtain ⟨ho, hp, hn4, -⟩ := HX.out.ok
    have hP := hp 0 (by omega)
    have HS : Hid (Srt n F) := ho.srt
    have TH : Hid (∀ w' : World, Below w.heap.size w w' → Calls Tryz.prog 69 #[.slice a n c, .string p] w' fun e w'' => Says e (∃ j, j < n ∧ (F j).p = p) ∧ Below w'.heap.size w' w'') := fun w' hb => isThere_any a n c F p ho.srt hP.1 hnn w' (H.out.below hb)
    have NF : Hid (∀ w' : World, Below w.heap.size w w' → Calls Tryz.prog 79 #[.slice a n c, .string p] w' fun e w'' => (∃ x : Int, e = .returned (.int .i64 x) ∧ NewIs n F p x) ∧ Below w'.heap.size w' w'') := fun w' hb => newFault_any a n c F p ho.srt hP.1 hnn w' (H.out.below hb)
    have CL : Hid (∀ w' : World, Below w.heap.size w w' → Calls Tryz.prog 23 #[.slice a n c] w' fun e w'' => RetFi n F w'.heap.size e w'' ∧ Below w'.heap.size w' w'') := fun w' hb => cloneFi_any a n c F w' (by omega) (H.out.below hb) (fun e => by have := hsl.z e; have := hsl.le; omega)
    have PT : Hid (∀ (b : Option Addr) (d : Nat) (w' : World), w.heap.size ≤ w'.heap.size → EO w' w.heap.size 51 3 (.slice b n d) n (fiF F) → Calls Tryz.prog 80 #[.slice b n d, .string p, .agg #[.string p, .bool true, .string ⟨#[]⟩], .func (.func 31) #[] #[]] w' fun e w'' => RetPut n F ⟨p, true, ⟨#[]⟩⟩ w.heap.size e w'' ∧ Below w.heap.size w' w'') := fun b d w' hB hh => putF_any w.heap.size b n d F ⟨p, true, ⟨#[]⟩⟩ ho.srt hP.1 (by omega) w' hB hh
    clear ho hp hn4 hP
    go_wp2_with fail
    refine (CL.out _ B2.out).mono ?_
    rintro e v3 ⟨⟨b, d, rfl, he⟩, hb⟩
    have B3 : Hid (Below w.heap.size w v3) := B2.out.trans (hb.mono B2.out.size)
    have E3 : Hid (EO v3 w.heap.size 51 3 (.slice b n d) n (fiF F)) := he.mono B2.out.size
    clear he hb CL B2
    go_wp2_with fail
    refine (TH.out _ B3.out).mono ?_
    rintro e v4 ⟨⟨y, rfl, hy⟩, hb⟩
    have B4 : Hid (Below w.heap.size w v4) := B3.out.trans (hb.mono B3.out.size)
    have E4 : Hid (EO v4 w.heap.size 51 3 (.slice b n d) n (fiF F)) := E3.out.below hb
    have HY : Hid (y = true ↔ ∃ j, j < n ∧ (F j).p = p) := hy
    clear hb hy TH B3 E3
    cases y with
    | true =>
      have HM : Hid (MkIs n F p n F 9) := .inr ⟨HX.out, .inl ⟨HY.out.1 rfl, rfl, rfl, rfl⟩⟩
      clear HY HX
      go_wp2
      go_ret2
      exact ⟨⟨n, F, 9, HM.out, ⟨_, _, rfl, E4.out⟩⟩, B4.out⟩
    | false =>
      have HN : Hid (¬ ∃ j, j < n ∧ (F j).p = p) := fun q => by have := HY.out.2 q; cases this
      clear HY
      go_wp2_with fail
      refine (NF.out _ B4.out).mono ?_
      rintro e v5 ⟨⟨x, rfl, hx⟩, hb⟩
      have B5 : Hid (Below w.heap.size w v5) := B4.out.trans (hb.mono B4.out.size)
      have E5 : Hid (EO v5 w.heap.size 51 3 (.slice b n d) n (fiF F)) := E4.out.below hb
      have HW : Hid (NewIs n F p x) := hx
      clear hb hx NF B4 E4
      by_cases h1 : x = 0
      · subst h1
        go_wp2_with fail
        refine (PT.out _ _ _ B5.out.size E5.out).mono ?_
        rintro e v6 ⟨⟨a', m, c', G, rfl, he, hp⟩, hb⟩
        have B6 : Hid (Below w.heap.size w v6) := B5.out.trans hb
        have E6 : Hid (EO v6 w.heap.size 51 3 (.slice a' m c') m (fiF G)) := he
        have HM : Hid (MkIs n F p m G 0) := .inr ⟨HX.out, .inr ⟨HN.out, .inr ⟨HW.out, rfl, hp⟩⟩⟩
        clear he hp hb PT B5 E5 HX HN HW
        go_wp2
        go_ret2
        exact ⟨⟨m, G, 0, HM.out, ⟨_, _, rfl, E6.out⟩⟩, B6.out⟩
      · have g : (x != 0) = true := by simpa using h1
        have HM : Hid (MkIs n F p n F x) := .inr ⟨HX.out, .inr ⟨HN.out, .inl ⟨HW.out, h1, rfl, rfl⟩⟩⟩
        clear h1 HX HN HW
        go_wp2
        go_ret2
        exact ⟨⟨n, F, x, HM.out, ⟨_, _, rfl, E5.out⟩⟩, B5.out⟩
  · have g : (x != 0) = true := by simpa using h0
    have HM : Hid (MkIs n F p 0 F x) := .inl ⟨HX.out, h0, rfl⟩
    clear h0 HX
    go_wp2
    go_ret2
    exact ⟨⟨0, F, x, HM.out, retFs_nil _ _ _ _⟩, B2.out⟩
end Go.Proofs.YtgcdoabcopihlaaGreat
