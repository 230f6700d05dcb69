/-
  CutFile (written by tools/mkct.py).
-/
import Derived.Test.YtendfgepmjgldabFileRd
import Derived.Test.YtendfgepmjgldabSizT
import Derived.Test.YtendfgepmjgldabInAny
namespace Go.Proofs.Ytendfgepmjgldab
open Go.ChangeShapes Go.WideShapes Go.ChangeAt Go.RowKit
set_option linter.unusedVariables false
/-- A text cut to k bytes, with zeros where it has none. -/
def cutT (t : ByteArray) (k : Nat) : ByteArray := kstr (strB t) 0 k
/-- What l11Cut does. -/
def CtP (n : Nat) (F : Nat → Fi) (p : ByteArray) (k : Int) (m : Nat) (G : Nat → Fi) (c : Int) : Prop :=
  (FlIs n F p c ∧ c ≠ 0 ∧ m = n ∧ G = F) ∨ (FlIs n F p 0 ∧ (((k < 0 ∨ 200 < k) ∧ c = 4 ∧ m = n ∧ G = F) ∨ (¬ (k < 0 ∨ 200 < k) ∧ c = 0 ∧ ∃ j, j < n ∧ (F j).p = p ∧ PutIs n F ⟨p, false, cutT (F j).t k.toNat⟩ m G)))
/-- What CutFile does. -/
def CtIs (n : Nat) (F : Nat → Fi) (p : ByteArray) (k : Int) (m : Nat) (G : Nat → Fi) (c : Int) : Prop :=
  (FtIs n F 1 (fun _ => p) c ∧ c ≠ 0 ∧ m = 0) ∨ (FtIs n F 1 (fun _ => p) 0 ∧ CtP n F p k m G c)
theorem CtP.uniq {n : Nat} {F : Nat → Fi} {p : ByteArray} {k : Int} {m m' : Nat} {G G' : Nat → Fi} {c c' : Int} (hs : Srt n F) (h : CtP n F p k m G c) (h' : CtP n F p k m' G' c') : m = m' ∧ c = c' ∧ ∀ i, i < m → G i = G' i := by
  rcases h with ⟨a, b, rfl, rfl⟩ | ⟨a, ⟨e, rfl, rfl, rfl⟩ | ⟨e, rfl, j, hj, ej, hG⟩⟩ <;> rcases h' with ⟨a', b', rfl, rfl⟩ | ⟨a', ⟨e', rfl, rfl, rfl⟩ | ⟨e', rfl, j', hj', ej', hG'⟩⟩
  · exact ⟨rfl, a.uniq hs a', fun _ _ => rfl⟩
  · exact absurd (a.uniq hs a') b
  · exact absurd (a.uniq hs a') b
  · exact absurd (a'.uniq hs a) b'
  · exact ⟨rfl, rfl, fun _ _ => rfl⟩
  · exact absurd e e'
  · exact absurd (a'.uniq hs a) b'
  · exact absurd e' e
  · obtain rfl := hs.uniq hj hj' (ej.trans ej'.symm)
    have := hG.uniq hs hG'
    exact ⟨this.1, rfl, this.2⟩
theorem CtP.le {n : Nat} {F : Nat → Fi} {p : ByteArray} {k : Int} {m : Nat} {G : Nat → Fi} {c : Int} (h : CtP n F p k m G c) : m ≤ n + 1 := by
  rcases h with ⟨_, _, rfl, _⟩ | ⟨_, ⟨_, _, rfl, _⟩ | ⟨_, _, _, _, _, h⟩⟩
  · omega
  · omega
  · exact h.le
theorem CtIs.uniq {n : Nat} {F : Nat → Fi} {p : ByteArray} {k : Int} {m m' : Nat} {G G' : Nat → Fi} {c c' : Int} (h : CtIs n F p k m G c) (h' : CtIs n F p k m' G' c') : m = m' ∧ c = c' ∧ ∀ i, i < m → G i = G' i := by
  rcases h with ⟨a, b, rfl⟩ | ⟨a, q⟩ <;> rcases h' with ⟨a', b', rfl⟩ | ⟨a', q'⟩
  · exact ⟨rfl, a.uniq a', fun i hi => absurd hi (by omega)⟩
  · exact absurd (a.uniq a') b
  · exact absurd (a'.uniq a) b'
  · exact q.uniq a.ok.1.srt q'
theorem CtIs.bound {n : Nat} {F : Nat → Fi} {p : ByteArray} {k : Int} {m : Nat} {G : Nat → Fi} {c : Int} (h : CtIs n F p k m G c) : m ≤ 13 := by
  rcases h with ⟨_, _, rfl⟩ | ⟨a, q⟩
  · omega
  · have := a.ok.1.1
    have := q.le
    omega
set_option maxRecDepth 100000 in
set_option maxHeartbeats 2000000 in
theorem implCt_any (a : Option Addr) (n c : Nat) (F : Nat → Fi) (p : ByteArray) (k : Int) (hsz : ∀ i, i < n → (F i).p.size ≤ 1048576) (hnn : n ≤ 1048576) (hsl : SlP a n c) (w : World) (h : Els w 3 a n (fiF F)) :
    Calls Try.prog 23 #[.slice a n c, .string p, .int .i64 k] w fun e w' => (∃ m G cd, CtIs n F p k m G cd ∧ RetFs m G cd w.heap.size e w') ∧ Below w.heap.size w w' := by
  obtain ⟨v1, hv1⟩ : ∃ v, v = w.alloc (.cells #[.string p] 9) := ⟨_, rfl⟩
  have A1 : Below w.heap.size w v1 := by rw [hv1]; exact (Below.refl _ _).alloc (Nat.le_refl _) _
  have FF : Hid (Calls Try.prog 38 #[.slice a n c, .slice (some ⟨w.heap.size, 0, none⟩) 1 1] v1 fun e w' => (∃ x : Int, e = .returned (.int .i64 x) ∧ FtIs n F 1 (fun _ => p) x) ∧ Below v1.heap.size v1 w') := filesFault_any a n c F _ 1 1 (fun _ => p) hsz hnn hsl (by omega) v1 (h.below A1) (by rw [hv1]; exact strs_lit w p)
  have HA : Hid (Below w.heap.size w v1) := A1
  have HV : Hid (v1 = w.alloc (.cells #[.string p] 9)) := hv1
  have H : Hid (Els w 3 a n (fiF F)) := h
  clear h hsz A1 hv1
  go_enter Try.func23, Try.ntmps23
  go_wp2_with fail
  rw [← HV.out]
  clear HV
  refine (Calls.mono FF.out) ?_
  rintro e v2 ⟨⟨x, rfl, hx⟩, hb⟩
  have B2 : Hid (Below w.heap.size w v2) := HA.out.trans (hb.mono HA.out.size)
  have HX : Hid (FtIs n F 1 (fun _ => p) x) := hx
  clear hx hb FF HA
  by_cases h0 : x = 0
  · subst h0
    obtain ⟨ho, hp, hn4, -⟩ := HX.out.ok
    have hP := hp 0 (by omega)
    have FL : Hid (∀ w' : World, Below w.heap.size w w' → Calls Try.prog 48 #[.slice a n c, .string p] w' fun e w'' => (∃ x : Int, e = .returned (.int .i64 x) ∧ FlIs n F p x) ∧ Below w'.heap.size w' w'') := fun w' hb => fileFault_any a n c F p ho.srt hP.1 hnn w' (H.out.below hb)
    have FN : Hid (∀ w' : World, Below w.heap.size w w' → Calls Try.prog 45 #[.slice a n c, .string p, .func (.func 32) #[] #[]] w' fun e w'' => (∃ y : Fi, e = .returned (.agg #[.string y.p, .bool y.d, .string y.t]) ∧ FindIs n F p y) ∧ Below w'.heap.size w' w'') := fun w' hb => findF_any a n c F p ho.srt hP.1 hnn w' (H.out.below hb)
    have CL : Hid (∀ w' : World, Below w.heap.size w w' → Calls Try.prog 39 #[.slice a n c] w' fun e w'' => RetFi n F w'.heap.size e w'' ∧ Below w'.heap.size w' w'') := fun w' hb => cloneFi_any a n c F w' (by omega) (H.out.below hb) (fun e => by have := hsl.z e; have := hsl.le; omega)
    have PT : Hid (∀ (t : ByteArray) (b : Option Addr) (d : Nat) (w' : World), w.heap.size ≤ w'.heap.size → EO w' w.heap.size 45 3 (.slice b n d) n (fiF F) → Calls Try.prog 42 #[.slice b n d, .string p, .agg #[.string p, .bool false, .string t], .func (.func 32) #[] #[]] w' fun e w'' => RetPut n F ⟨p, false, t⟩ w.heap.size e w'' ∧ Below w.heap.size w' w'') := fun t b d w' hB hh => putF_any w.heap.size b n d F ⟨p, false, t⟩ ho.srt hP.1 (by omega) w' hB hh
    clear ho hp hn4 hP
    go_wp2_with fail
    refine (CL.out _ B2.out).mono ?_
    rintro e v3 ⟨⟨b, d, rfl, he⟩, hb⟩
    have B3 : Hid (Below w.heap.size w v3) := B2.out.trans (hb.mono B2.out.size)
    have E3 : Hid (EO v3 w.heap.size 45 3 (.slice b n d) n (fiF F)) := he.mono B2.out.size
    clear he hb CL B2
    go_wp2_with fail
    refine (FL.out _ B3.out).mono ?_
    rintro e v4 ⟨⟨x, rfl, hx⟩, hb⟩
    have B4 : Hid (Below w.heap.size w v4) := B3.out.trans (hb.mono B3.out.size)
    have E4 : Hid (EO v4 w.heap.size 45 3 (.slice b n d) n (fiF F)) := E3.out.below hb
    have HL : Hid (FlIs n F p x) := hx
    clear hx hb FL B3 E3
    by_cases h1 : x = 0
    · subst h1
      by_cases h2 : k < 0
      · have HM : Hid (CtIs n F p k n F 4) := .inr ⟨HX.out, .inr ⟨HL.out, .inl ⟨.inl h2, rfl, rfl, rfl⟩⟩⟩
        go_wp2
        go_ret2
        exact ⟨⟨_, _, _, HM.out, ⟨_, _, rfl, E4.out⟩⟩, B4.out⟩
      by_cases h3 : 200 < k
      · have HM : Hid (CtIs n F p k n F 4) := .inr ⟨HX.out, .inr ⟨HL.out, .inl ⟨.inr h3, rfl, rfl, rfl⟩⟩⟩
        go_wp2
        go_ret2
        exact ⟨⟨_, _, _, HM.out, ⟨_, _, rfl, E4.out⟩⟩, B4.out⟩
      obtain ⟨kn, rfl⟩ : ∃ q : Nat, k = (q : Int) := ⟨k.toNat, by omega⟩
      go_wp2_with fail
      refine (FN.out _ B4.out).mono ?_
      rintro e v5 ⟨⟨y, rfl, hy⟩, hb⟩
      have B5 : Hid (Below w.heap.size w v5) := B4.out.trans (hb.mono B4.out.size)
      have E5 : Hid (EO v5 w.heap.size 45 3 (.slice b n d) n (fiF F)) := E4.out.below hb
      obtain ⟨j, hj, ej, rfl⟩ : ∃ j, j < n ∧ (F j).p = p ∧ y = F j := by
        rcases hy with h | ⟨hno, _⟩
        · exact h
        · rcases HL.out with ⟨_, e⟩ | ⟨j, hj, e, _⟩
          · cases e
          · exact absurd e (hno j hj)
      have HM : Hid (∀ m G, PutIs n F ⟨p, false, cutT (F j).t kn⟩ m G → CtIs n F p (kn : Int) m G 0) := fun m G q => .inr ⟨HX.out, .inr ⟨HL.out, .inr ⟨(fun z => by omega), rfl, j, hj, ej, by rw [Int.toNat_natCast]; exact q⟩⟩⟩
      have ff := fieldFi2 (F j).p (F j).d (F j).t
      have SZ : Hid (∀ w' : World, Calls Try.prog 46 #[.string (F j).t, .int .i64 (kn : Int)] w' fun e w'' => RetZ w'.heap.size w'' e kn (strB (F j).t) ∧ Below w'.heap.size w' w'') := fun w' => sized_any (F j).t kn (by omega) w'
      have CT : Hid (kstr (strB (F j).t) 0 kn = cutT (F j).t kn) := rfl
      generalize F j = y at *
      obtain ⟨q, dd, t⟩ := y
      dsimp only at *
      generalize cutT t kn = tt at *
      clear hy hb HL HX FN B4 E4 ej hj
      go_wp2_with fail
      refine (SZ.out _).mono ?_
      rintro e v6 ⟨⟨g, rfl, hg, hrow⟩, hb⟩
      have B6 : Hid (Below w.heap.size w v6) := B5.out.trans (hb.mono B5.out.size)
      have E6 : Hid (EO v6 w.heap.size 45 3 (.slice b n d) n (fiF F)) := E5.out.below hb
      have cv := kstr_of_code (c := kn) hrow.code
      rw [CT.out] at cv
      clear hrow hb hg B5 E5 SZ CT
      go_wp2_with fail
      refine (PT.out tt b d _ B6.out.size E6.out).mono ?_
      rintro e v7 ⟨⟨a9, m9, c9, G, rfl, he, hpt⟩, hb⟩
      have HR : Hid (CtIs n F p (kn : Int) m9 G 0) := HM.out _ _ hpt
      have HE : Hid (EO v7 w.heap.size 45 3 (.slice a9 m9 c9) m9 (fiF G)) := he
      have B7 : Hid (Below w.heap.size w v7) := B6.out.trans hb
      clear he hpt hb cv HM PT B6 E6
      go_wp2
      go_ret2
      exact ⟨⟨_, _, _, HR.out, ⟨_, _, rfl, HE.out⟩⟩, B7.out⟩
    · have g : (x != 0) = true := by simpa using h1
      have HM : Hid (CtIs n F p k n F x) := .inr ⟨HX.out, .inl ⟨HL.out, h1, rfl, rfl⟩⟩
      clear h1
      go_wp2
      go_ret2
      exact ⟨⟨_, _, _, HM.out, ⟨_, _, rfl, E4.out⟩⟩, B4.out⟩
  · have g : (x != 0) = true := by simpa using h0
    have HM : Hid (CtIs n F p k 0 F x) := .inl ⟨HX.out, h0, rfl⟩
    clear h0
    go_wp2
    go_ret2
    exact ⟨⟨_, _, _, HM.out, retFs_nil _ _ _ _⟩, B2.out⟩
/-- A row of bytes cut. -/
theorem u8_elem : Try.prog.elem 58 = 5 := by kernel_rfl
theorem u8_under : Try.prog.underlying 58 = some (.slice (Try.prog.elem 58)) := by rw [u8_elem]; exact Try.underlying58
theorem u8_sizeOf (w : World) : (sizeOf (Try.prog.elem 58)).run Try.prog w = .ok 1 w := by
  obtain ⟨i, hi, hz, hsz, hby⟩ := info_parts Try.info8
  simp [sizeOf, typeInfo, u8_elem, hi, hsz]
theorem cutRowM (g n c k : Nat) (hk : k ≤ c) (w : World) : (Instr.slice 58 (.slice (some ⟨g, 0, none⟩) n c) none (some (.int .i64 (k : Int))) none).run Try.prog w = .ok (.slice (some ⟨g, 0, none⟩) k c) w := by
  rw [run_slice_h (P := Try.prog) (w := w) 58 _ n c u8_under .i64 (k : Int) (by omega) (by omega)]
  simp only [u8_sizeOf, Result.andThen, sliced, Int.toNat_natCast, Nat.zero_mul, Nat.sub_zero]
  simp [Go.WideShapes.add_plain]
set_option maxRecDepth 100000 in
set_option maxHeartbeats 2000000 in
theorem l11Cut_any (a : Option Addr) (n c : Nat) (F : Nat → Fi) (p : ByteArray) (k : Int) (hs : FsOk n F) (hp : p.size ≤ 40) (hz : a = none → c = 0) (w : World) (h : Els w 3 a n (fiF F)) :
    Calls Try.prog 49 #[.slice a n c, .string p, .int .i64 k] w fun e w' => (∃ (a' : Option Addr) (m c' : Nat) (G : Nat → Fi) (cd : Int), e = .returned (.tuple #[.slice a' m c', .int .i64 cd]) ∧ Els w' 3 a' m (fiF G) ∧ (a' = none → c' = 0) ∧ CtP n F p k m G cd) ∧ Below w.heap.size w w' := by
  have hn := hs.1
  have FL : Hid (Calls Try.prog 47 #[.slice a n c, .string p] w fun e w'' => (∃ r x : Int, e = .returned (.tuple #[.int .i64 r, .int .i64 x]) ∧ FlIs n F p x ∧ (x = 0 → ∃ j : Nat, r = (j : Int) ∧ j < n ∧ (F j).p = p ∧ (F j).d = false)) ∧ w'' = w) := l11File_any a n c F p (by omega) w h
  have PT : Hid (∀ (t : ByteArray) (w' : World), Below w.heap.size w w' → Calls Try.prog 65 #[.slice a n c, .agg #[.string p, .bool false, .string t]] w' fun e w'' => RetPut n F ⟨p, false, t⟩ w'.heap.size e w'' ∧ Below w'.heap.size w' w'') := fun t w' hb => l11Put_any a n c F ⟨p, false, t⟩ hs.srt hp (by omega) w' (h.below hb)
  have H : Hid (Els w 3 a n (fiF F)) := h
  have HZ : Hid (a = none → c = 0) := hz
  have HS : Hid (FsOk n F) := hs
  clear h hs hz
  go_enter Try.func49, Try.ntmps49
  go_wp2_with fail
  refine (Calls.mono FL.out) ?_
  rintro e w1 ⟨⟨r, x, rfl, hx, hj⟩, hw⟩
  cases hw
  have HL : Hid (FlIs n F p x) := hx
  clear hx FL
  by_cases h1 : x = 0
  · subst h1
    obtain ⟨j, rfl, hj1, ej, dj⟩ := hj rfl
    have HM4 : Hid ((k < 0 ∨ 200 < k) → CtP n F p k n F 4) := fun q => .inr ⟨HL.out, .inl ⟨q, rfl, rfl, rfl⟩⟩
    have HM : Hid (¬ (k < 0 ∨ 200 < k) → ∀ m G, PutIs n F ⟨p, false, cutT (F j).t k.toNat⟩ m G → CtP n F p k m G 0) := fun q m G z => .inr ⟨HL.out, .inr ⟨q, rfl, j, hj1, ej, z⟩⟩
    clear hj HL
    by_cases h2 : k < 0 ∨ 200 < k
    · have IN : Hid (∀ w : World, Calls Try.prog 70 #[.int .i64 k, .int .i64 0, .int .i64 200] w fun e w' => e = .returned (.bool false) ∧ w = w') := fun w => in_any k 0 200 false (by simp; omega) w
      go_wp2_with fail
      refine (IN.out _).mono ?_
      rintro e v2 ⟨rfl, hw⟩
      cases hw
      go_wp2
      go_ret2
      exact ⟨⟨_, _, _, F, _, rfl, H.out, HZ.out, HM4.out h2⟩, Below.refl _ _⟩
    · have IN : Hid (∀ w : World, Calls Try.prog 70 #[.int .i64 k, .int .i64 0, .int .i64 200] w fun e w' => e = .returned (.bool true) ∧ w = w') := fun w => in_any k 0 200 true (by simp; omega) w
      obtain ⟨kn, rfl⟩ : ∃ q : Nat, k = (q : Int) := ⟨k.toNat, by omega⟩
      replace HM : Hid (∀ m G, PutIs n F ⟨p, false, cutT (F j).t kn⟩ m G → CtP n F p (kn : Int) m G 0) := fun m G z => HM.out h2 m G (by rw [Int.toNat_natCast]; exact z)
      have hk2 : kn ≤ 200 := by omega
      clear h2 HM4
      go_wp2_with fail
      refine (IN.out _).mono ?_
      rintro e v2 ⟨rfl, hw⟩
      cases hw
      clear IN
      have hts : (F j).t.size ≤ 200 := (HS.out.2 j hj1).1.2.1
      obtain ⟨b, off, rfl, hc⟩ := H.out.opened (by omega)
      obtain ⟨c0, c1, c2⟩ := Els.fiC hc j hj1
      have hlt' : (j : Int) < (n : Int) := by omega
      clear hc
      have HM2 : Hid (∀ m G, PutIs n F ⟨p, false, kstr (strB (F j).t) 0 kn⟩ m G → CtP n F p (kn : Int) m G 0) := HM.out
      rw [ej] at c0
      rw [dj] at c1
      clear HM ej dj HS
      generalize (F j).t = t at *
      have BX : Box3 (w.alloc (.cells #[.string p, .bool false, .string t] 45)) w.heap.size 45 (.string p) (.bool false) (.string t) := Box3.made _ _ _ _ _
      have WB : Below w.heap.size w (w.alloc (.cells #[.string p, .bool false, .string t] 45)) := (Below.refl _ _).alloc (Nat.le_refl _) _
      obtain ⟨u2, gc, hcv, hrow, hb2⟩ := bytesOfR t (w.alloc (.cells #[.string p, .bool false, .string t] 45))
      have BX2 := BX.below hb2
      have B2 : Below w.heap.size w u2 := WB.trans (hb2.mono (by simp))
      rw [World.size_alloc] at hcv hrow hb2
      have hu2 : w.heap.size + 1 ≤ u2.heap.size := hb2.size |> fun q => by simpa using q
      obtain ⟨g9, c9, u3, hr, hrow3, hb3, hg9⟩ := appendMZ u2 (w.heap.size + 1) (w.heap.size + 1) t.size gc (strB t) (kn - t.size) (Nat.le_refl _) hu2 (by omega) (by omega) hrow (fun i hi => strB_out t i hi) 58
      have hmx : ((kn - t.size : Nat) : Int) = max 0 ((kn : Int) - (t.size : Int)) := by omega
      rw [hmx] at hr
      obtain ⟨N, hN⟩ : ∃ N, N = t.size + (kn - t.size) := ⟨_, rfl⟩
      rw [← hN] at hr hrow3
      have hkN : kn ≤ N := by omega
      have BX3 : Hid (Box3 u3 w.heap.size 45 (.string p) (.bool false) (.string t)) := BX2.ofBlock (hb3.block _ (by omega))
      have B3 : Hid (Below w.heap.size w u3) := B2.trans (hb3.mono (by omega))
      have y2 := BX2.c2
      have z2 := BX3.out.c2
      have f2 := BX3.out.fr 2
      have cut := cutRowM g9 N c9 kn (Nat.le_trans hkN hrow3.1)
      have cv := kstr_of_code (c := c9) (code8_of (b := g9) (o := 0) (n := kn) (f := strB t) (fun i hi => by rw [Nat.zero_add]; exact hrow3.2.1 i (by omega)))
      generalize kstr (strB t) 0 kn = tt at *
      have WR : IntKind.i64.wrap ((kn : Int) - (t.size : Int)) = (kn : Int) - (t.size : Int) := IntWalk.i64_in _ (by omega)
      clear BX WB hrow hrow3 hb2 hb3 BX2 B2 hmx hN hkN hu2 hg9
      go_upto_region 9 with (at_builtin; refine Lib.wpList_append_run _ rfl (.tmp 32) (.tmp 38) 58 3 rfl (.slice (some ⟨w.heap.size + 1, 0, none⟩) t.size gc) (.int .i64 (max 0 ((kn : Int) - (t.size : Int)))) rfl rfl _ _ hr ?_)
      have BX4 : Hid (Box3 (u3.setCell ⟨w.heap.size, 2, none⟩ (.string tt)) w.heap.size 45 (.string p) (.bool false) (.string tt)) := BX3.out.set2 _
      have B4 : Hid (Below w.heap.size w (u3.setCell ⟨w.heap.size, 2, none⟩ (.string tt))) := B3.out.setCell (Nat.le_refl _) _
      clear BX3 B3 y2 z2 f2 cut cv hcv hr WR c0 c1 c2
      generalize u3.setCell ⟨w.heap.size, 2, none⟩ (.string tt) = u4 at *
      have x0 := BX4.out.c0
      have x1 := BX4.out.c1
      have x2 := BX4.out.c2
      go_wp2_with fail
      refine (PT.out tt _ B4.out).mono ?_
      rintro e v7 ⟨⟨a7, m7, c7, G, rfl, he, hpt⟩, hb⟩
      have HR : Hid (Els v7 3 a7 m7 (fiF G) ∧ (a7 = none → c7 = 0) ∧ CtP n F p (kn : Int) m7 G 0) := ⟨he.els, he.zero, HM2.out _ _ hpt⟩
      have B7 : Hid (Below w.heap.size w v7) := B4.out.trans (hb.mono B4.out.size)
      clear he hpt hb HM2 PT BX4 B4 x0 x1 x2
      go_wp2
      go_ret2
      exact ⟨⟨_, _, _, G, _, rfl, HR.out⟩, B7.out⟩
  · have g : (x != 0) = true := by simpa using h1
    have HR : Hid (CtP n F p k n F x) := .inl ⟨HL.out, h1, rfl, rfl⟩
    clear h1 hj
    go_wp2
    go_ret2
    exact ⟨⟨_, _, _, F, _, rfl, H.out, HZ.out, HR.out⟩, Below.refl _ _⟩
set_option maxRecDepth 100000 in
set_option maxHeartbeats 2000000 in
theorem specCt_any (a : Option Addr) (n c : Nat) (F : Nat → Fi) (p : ByteArray) (k : Int) (hsz : ∀ i, i < n → (F i).p.size ≤ 1048576) (hnn : n ≤ 1048576) (hpz : p.size ≤ 1048576) (hsl : SlP a n c) (w : World) (h : Els w 3 a n (fiF F)) :
    Calls Try.prog 22 #[.slice a n c, .string p, .int .i64 k] w fun e w' => (∃ m G cd, CtIs n F p k m G cd ∧ RetFs m G cd w.heap.size e w') ∧ Below w.heap.size w w' := by
  have L0 : Hid (∀ w : World, EO (w.alloc (.cells #[] 45)) w.heap.size 45 3 (.slice (some ⟨w.heap.size, 0, none⟩) 0 0) 0 (fiF F)) := fun w => EO.lit w w.heap.size _ 3 (Nat.le_refl _) _
  by_cases hl : 4096 < n ∨ 65536 < p.size
  · have HX : Hid (CtIs n F p k 0 F 2) := .inl ⟨.inl ⟨hl.imp id (fun q => ⟨0, by omega, q⟩), rfl⟩, by decide, rfl⟩
    by_cases h0 : 4096 < n
    · have g0 : (4096 : Int) < (n : Int) := by omega
      clear h hsz hl
      go_enter Try.func22, Try.ntmps22
      go_wp2
      go_ret2
      exact ⟨⟨0, F, 2, HX.out, ⟨_, _, rfl, L0.out w⟩⟩, (Below.refl _ _).alloc (Nat.le_refl _) _⟩
    · have g0 : ¬ (4096 : Int) < (n : Int) := by omega
      have g1 : (65536 : Int) < (p.size : Int) := by rcases hl with q | q <;> omega
      clear h hsz hl
      go_enter Try.func22, Try.ntmps22
      go_wp2
      go_ret2
      exact ⟨⟨0, F, 2, HX.out, ⟨_, _, rfl, L0.out w⟩⟩, (Below.refl _ _).alloc (Nat.le_refl _) _⟩
  · have g0 : ¬ (4096 : Int) < (n : Int) := fun q => hl (.inl (by omega))
    have g1 : ¬ (65536 : Int) < (p.size : Int) := fun q => hl (.inr (by omega))
    have CD : Hid (Calls Try.prog 36 #[.slice a n c, .string p] w fun e w' => (∃ x : Int, e = .returned (.int .i64 x) ∧ FtIs n F 1 (fun _ => p) x) ∧ Below w.heap.size w w') := l11Code_any a n c F p hsz hnn hpz w h
    have H : Hid (Els w 3 a n (fiF F)) := h
    clear h hsz hl
    go_enter Try.func22, Try.ntmps22
    go_wp2_with fail
    refine (Calls.mono CD.out) ?_
    rintro e v1 ⟨⟨x, rfl, hx⟩, hb⟩
    have B1 : Hid (Below w.heap.size w v1) := hb
    have HX : Hid (FtIs n F 1 (fun _ => p) x) := hx
    clear hx hb CD
    by_cases h0 : x = 0
    · subst h0
      obtain ⟨ho, hp, hn4, -⟩ := HX.out.ok
      have MK : Hid (∀ w' : World, Below w.heap.size w w' → Calls Try.prog 49 #[.slice a n c, .string p, .int .i64 k] w' fun e w'' => (∃ (a' : Option Addr) (m c' : Nat) (G : Nat → Fi) (cd : Int), e = .returned (.tuple #[.slice a' m c', .int .i64 cd]) ∧ Els w'' 3 a' m (fiF G) ∧ (a' = none → c' = 0) ∧ CtP n F p k m G cd) ∧ Below w'.heap.size w' w'') := fun w' hb => l11Cut_any a n c F p k ho (hp 0 (by omega)).1 hsl.z w' (H.out.below hb)
      have hn12 := ho.1
      clear ho hp hn4
      go_wp2_with fail
      refine (MK.out _ B1.out).mono ?_
      rintro e v2 ⟨⟨a', m, c', G, cd, rfl, hE, hz', hM⟩, hb⟩
      have hml := hM.le
      have HM : Hid (CtIs n F p k m G cd) := .inr ⟨HX.out, hM⟩
      obtain ⟨a3, c3, v3, hr, ho3, hb3⟩ := ownAll (by omega) hE hz'
      have B3 : Hid (Below w.heap.size w v3) := (B1.out.trans (hb.mono B1.out.size)).trans (hb3.mono (by have := B1.out.size; have := hb.size; omega))
      have O3 : Hid (EO v3 w.heap.size 45 3 (.slice a3 m c3) m (fiF G)) := ho3.mono (by have := B1.out.size; have := hb.size; omega)
      clear hE hz' hM hb ho3 hb3 MK B1 HX L0
      go_wp2_with (at_builtin; refine Lib.wpList_append_run _ rfl (.tmp 34) (.tmp 35) 25 25 rfl (.slice (some ⟨v2.heap.size, 0, none⟩) 0 0) (.slice a' m c') rfl rfl _ _ (hr _) ?_)
      go_ret2
      exact ⟨⟨m, G, cd, HM.out, ⟨_, _, rfl, O3.out⟩⟩, B3.out⟩
    · have g : (x != 0) = true := by simpa using h0
      have HM : Hid (CtIs n F p k 0 F x) := .inl ⟨HX.out, h0, rfl⟩
      have L1 : Hid (EO (v1.alloc (.cells #[] 45)) w.heap.size 45 3 (.slice (some ⟨v1.heap.size, 0, none⟩) 0 0) 0 (fiF F)) := (L0.out v1).mono B1.out.size
      clear h0 HX
      go_wp2
      go_ret2
      exact ⟨⟨0, F, x, HM.out, ⟨_, _, rfl, L1.out⟩⟩, B1.out.alloc B1.out.size _⟩
end Go.Proofs.Ytendfgepmjgldab
