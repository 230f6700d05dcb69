/-
  CutFile (written by tools/mkct.py).
-/
import Derived.Test.YtgcdoabcopihlaaGreatE05
import Derived.Test.YtgcdoabcopihlaaGreatE06
namespace Go.Proofs.YtgcdoabcopihlaaGreat
open Go.ChangeShapes Go.WideShapes Go.ChangeAt Go.RowKit
set_option linter.unusedVariables false
/-- A text cut to k bytes, with zeros where it has none. -/
def cutT (t : ByteArray) (k : Nat) : ByteArray := kstr (strB t) 0 k
/-- What l11Cut does. -/
def CtP (n : Nat) (F : Nat → Fi) (p : ByteArray) (k : Int) (m : Nat) (G : Nat → Fi) (c : Int) : Prop :=
  (FlIs n F p c ∧ c ≠ 0 ∧ m = n ∧ G = F) ∨ (FlIs n F p 0 ∧ (((k < 0 ∨ 200 < k) ∧ c = 4 ∧ m = n ∧ G = F) ∨ (¬ (k < 0 ∨ 200 < k) ∧ c = 0 ∧ ∃ j, j < n ∧ (F j).p = p ∧ PutIs n F ⟨p, false, cutT (F j).t k.toNat⟩ m G)))
/-- What CutFile does. -/
def CtIs (n : Nat) (F : Nat → Fi) (p : ByteArray) (k : Int) (m : Nat) (G : Nat → Fi) (c : Int) : Prop :=
  (FtIs n F 1 (fun _ => p) c ∧ c ≠ 0 ∧ m = 0) ∨ (FtIs n F 1 (fun _ => p) 0 ∧ CtP n F p k m G c)
theorem CtP.uniq {n : Nat} {F : Nat → Fi} {p : ByteArray} {k : Int} {m m' : Nat} {G G' : Nat → Fi} {c c' : Int} (hs : Srt n F) (h : CtP n F p k m G c) (h' : CtP n F p k m' G' c') : m = m' ∧ c = c' ∧ ∀ i, i < m → G i = G' i := by
  rcases h with ⟨a, b, rfl, rfl⟩ | ⟨a, ⟨e, rfl, rfl, rfl⟩ | ⟨e, rfl, j, hj, ej, hG⟩⟩ <;> rcases h' with ⟨a', b', rfl, rfl⟩ | ⟨a', ⟨e', rfl, rfl, rfl⟩ | ⟨e', rfl, j', hj', ej', hG'⟩⟩
  · exact ⟨rfl, a.uniq hs a', fun _ _ => rfl⟩
  · exact absurd (a.uniq hs a') b
  · exact absurd (a.uniq hs a') b
  · exact absurd (a'.uniq hs a) b'
  · exact ⟨rfl, rfl, fun _ _ => rfl⟩
  · exact absurd e e'
  · exact absurd (a'.uniq hs a) b'
  · exact absurd e' e
  · obtain rfl := hs.uniq hj hj' (ej.trans ej'.symm)
    have := hG.uniq hs hG'
    exact ⟨this.1, rfl, this.2⟩
theorem CtP.le {n : Nat} {F : Nat → Fi} {p : ByteArray} {k : Int} {m : Nat} {G : Nat → Fi} {c : Int} (h : CtP n F p k m G c) : m ≤ n + 1 := by
  rcases h with ⟨_, _, rfl, _⟩ | ⟨_, ⟨_, _, rfl, _⟩ | ⟨_, _, _, _, _, h⟩⟩
  · omega
  · omega
  · exact h.le
theorem CtIs.uniq {n : Nat} {F : Nat → Fi} {p : ByteArray} {k : Int} {m m' : Nat} {G G' : Nat → Fi} {c c' : Int} (h : CtIs n F p k m G c) (h' : CtIs n F p k m' G' c') : m = m' ∧ c = c' ∧ ∀ i, i < m → G i = G' i := by
  rcases h with ⟨a, b, rfl⟩ | ⟨a, q⟩ <;> rcases h' with ⟨a', b', rfl⟩ | ⟨a', q'⟩
  · exact ⟨rfl, a.uniq a', fun i hi => absurd hi (by omega)⟩
  · exact absurd (a.uniq a') b
  · exact absurd (a'.uniq a) b'
  · exact q.uniq a.ok.1.srt q'
theorem CtIs.bound {n : Nat} {F : Nat → Fi} {p : ByteArray} {k : Int} {m : Nat} {G : Nat → Fi} {c : Int} (h : CtIs n F p k m G c) : m ≤ 13 := by
  rcases h with ⟨_, _, rfl⟩ | ⟨a, q⟩
  · omega
  · have := a.ok.1.1
    have := q.le
    omega
set_option maxRecDepth 100000 in
set_option maxHeartbeats 2000000 in
theorem implCt_any (a : Option Addr) (n c : Nat) (F : Nat → Fi) (p : ByteArray) (k : Int) (hsz : ∀ i, i < n → (F i).p.size ≤ 1048576) (hnn : n ≤ 1048576) (hsl : SlP a n c) (w : World) (h : Els w 3 a n (fiF F)) :
    Calls Tryz.prog 55 #[.slice a n c, .string p, .int .i64 k] w fun e w' => (∃ m G cd, CtIs n F p k m G cd ∧ RetFs m G cd w.heap.size e w') ∧ Below w.heap.size w w' := by
  obtain ⟨v1, hv1⟩ : ∃ v, v = w.alloc (.cells #[.string p] 9) := ⟨_, rfl⟩
  have A1 : Below w.heap.size w v1 := by rw [hv1]; exact (Below.refl _ _).alloc (Nat.le_refl _) _
  have FF : Hid (Calls Tryz.prog 78 #[.slice a n c, .slice (some ⟨w.heap.size, 0, none⟩) 1 1] v1 fun e w' => (∃ x : Int, e = .returned (.int .i64 x) ∧ FtIs n F 1 (fun _ => p) x) ∧ Below v1.heap.size v1 w') := filesFault_any a n c F _ 1 1 (fun _ => p) hsz hnn hsl (by omega) v1 (h.below A1) (by rw [hv1]; exact strs_lit w p)
  have HA : Hid (Below w.heap.size w v1) := A1
  have HV : Hid (v1 = w.alloc (.cells #[.string p] 9)) := hv1
  have H : Hid (Els w 3 a n (fiF F)) := h
  clear h hsz A1 hv1
  go_enter Tryz.func55, Tryz.ntmps55
  go_wp2_with fail
  rw [← HV.out]
  clear HV
  refine (Calls.mono FF.out) ?_
  rintro e v2 ⟨⟨x, rfl, hx⟩, hb⟩
  have B2 : Hid (Below w.heap.size w v2) := HA.out.trans (hb.mono HA.out.size)
  have HX : Hid (FtIs n F 1 (fun _ => p) x) := hx
  clear hx hb FF HA
  by_cases h0 : x = 0
  · subst h0
    obtain ⟨ho, hp, hn4, -⟩ := HX.out.ok
    have hP := hp 0 (by omega)
    have FL : Hid (∀ w' : World, Below w.heap.size w w' → Calls Tryz.prog 82 #[.slice a n c, .string p] w' fun e w'' => (∃ x : Int, e = .returned (.int .i64 x) ∧ FlIs n F p x) ∧ Below w'.heap.size w' w'') := fun w' hb => fileFault_any a n c F p ho.srt hP.1 hnn w' (H.out.below hb)
    have FN : Hid (∀ w' : World, Below w.heap.size w w' → Calls Tryz.prog 70 #[.slice a n c, .string p, .func (.func 31) #[] #[]] w' fun e w'' => (∃ y : Fi, e = .returned (.agg #[.string y.p, .bool y.d, .string y.t]) ∧ FindIs n F p y) ∧ Below w'.heap.size w' w'') := fun w' hb => findF_any a n c F p ho.srt hP.1 hnn w' (H.out.below hb)
    have CL : Hid (∀ w' : World, Below w.heap.size w w' → Calls Tryz.prog 23 #[.slice a n c] w' fun e w'' => RetFi n F w'.heap.size e w'' ∧ Below w'.heap.size w' w'') := fun w' hb => cloneFi_any a n c F w' (by omega) (H.out.below hb) (fun e => by have := hsl.z e; have := hsl.le; omega)
    have PT : Hid (∀ (t : ByteArray) (b : Option Addr) (d : Nat) (w' : World), w.heap.size ≤ w'.heap.size → EO w' w.heap.size 51 3 (.slice b n d) n (fiF F) → Calls Tryz.prog 80 #[.slice b n d, .string p, .agg #[.string p, .bool false, .string t], .func (.func 31) #[] #[]] w' fun e w'' => RetPut n F ⟨p, false, t⟩ w.heap.size e w'' ∧ Below w.heap.size w' w'') := fun t b d w' hB hh => putF_any w.heap.size b n d F ⟨p, false, t⟩ ho.srt hP.1 (by omega) w' hB hh
    clear ho hp hn4 hP
    go_wp2_with fail
    refine (CL.out _ B2.out).mono ?_
    rintro e v3 ⟨⟨b, d, rfl, he⟩, hb⟩
    have B3 : Hid (Below w.heap.size w v3) := B2.out.trans (hb.mono B2.out.size)
    have E3 : Hid (EO v3 w.heap.size 51 3 (.slice b n d) n (fiF F)) := he.mono B2.out.size
    clear he hb CL B2
    go_wp2_with fail
    refine (FL.out _ B3.out).mono ?_
    rintro e v4 ⟨⟨x, rfl, hx⟩, hb⟩
    have B4 : Hid (Below w.heap.size w v4) := B3.out.trans (hb.mono B3.out.size)
    have E4 : Hid (EO v4 w.heap.size 51 3 (.slice b n d) n (fiF F)) := E3.out.below hb
    have HL : Hid (FlIs n F p x) := hx
    clear hx hb FL B3 E3
    by_cases h1 : x = 0
    · subst h1
      by_cases h2 : k < 0
      · have HM : Hid (CtIs n F p k n F 4) := .inr ⟨HX.out, .inr ⟨HL.out, .inl ⟨.inl h2, rfl, rfl, rfl⟩⟩⟩
        go_wp2
        go_ret2
        exact ⟨⟨_, _, _, HM.out, ⟨_, _, rfl, E4.out⟩⟩, B4.out⟩
      by_cases h3 : 200 < k
      · have HM : Hid (CtIs n F p k n F 4) := .inr ⟨HX.out, .inr ⟨HL.out, .inl ⟨.inr h3, rfl, rfl, rfl⟩⟩⟩
        go_wp2
        go_ret2
        exact ⟨⟨_, _, _, HM.out, ⟨_, _, rfl, E4.out⟩⟩, B4.out⟩
      obtain ⟨kn, rfl⟩ : ∃ q : Nat, k = (q : Int) := ⟨k.toNat, by omega⟩
      go_wp2_with fail
      refine (FN.out _ B4.out).mono ?_
      rintro e v5 ⟨⟨y, rfl, hy⟩, hb⟩
      have B5 : Hid (Below w.heap.size w v5) := B4.out.trans (hb.mono B4.out.size)
      have E5 : Hid (EO v5 w.heap.size 51 3 (.slice b n d) n (fiF F)) := E4.out.below hb
      obtain ⟨j, hj, ej, rfl⟩ : ∃ j, j < n ∧ (F j).p = p ∧ y = F j := by
        rcases hy with h | ⟨hno, _⟩
        · exact h
        · rcases HL.out with ⟨_, e⟩ | ⟨j, hj, e, _⟩
          · cases e
          · exact absurd e (hno j hj)
      have HM : Hid (∀ m G, PutIs n F ⟨p, false, cutT (F j).t kn⟩ m G → CtIs n F p (kn : Int) m G 0) := fun m G q => .inr ⟨HX.out, .inr ⟨HL.out, .inr ⟨(fun z => by omega), rfl, j, hj, ej, by rw [Int.toNat_natCast]; exact q⟩⟩⟩
      have ff := fieldFi2 (F j).p (F j).d (F j).t
      have SZ : Hid (∀ w' : World, Calls Tryz.prog 81 #[.string (F j).t, .int .i64 (kn : Int)] w' fun e w'' => RetZ w'.heap.size w'' e kn (strB (F j).t) ∧ Below w'.heap.size w' w'') := fun w' => sized_any (F j).t kn (by omega) w'
      have CT : Hid (kstr (strB (F j).t) 0 kn = cutT (F j).t kn) := rfl
      generalize F j = y at *
      obtain ⟨q, dd, t⟩ := y
      dsimp only at *
      generalize cutT t kn = tt at *
      clear hy hb HL HX FN B4 E4 ej hj
      go_wp2_with fail
      refine (SZ.out _).mono ?_
      rintro e v6 ⟨⟨g, rfl, hg, hrow⟩, hb⟩
      have B6 : Hid (Below w.heap.size w v6) := B5.out.trans (hb.mono B5.out.size)
      have E6 : Hid (EO v6 w.heap.size 51 3 (.slice b n d) n (fiF F)) := E5.out.below hb
      have cv := kstr_of_code (c := kn) hrow.code
      rw [CT.out] at cv
      clear hrow hb hg B5 E5 SZ CT
      go_wp2_with fail
      refine (PT.out tt b d _ B6.out.size E6.out).mono ?_
      rintro e v7 ⟨⟨a9, m9, c9, G, rfl, he, hpt⟩, hb⟩
      have HR : Hid (CtIs n F p (kn : Int) m9 G 0) := HM.out _ _ hpt
      have HE : Hid (EO v7 w.heap.size 51 3 (.slice a9 m9 c9) m9 (fiF G)) := he
      have B7 : Hid (Below w.heap.size w v7) := B6.out.trans hb
      clear he hpt hb cv HM PT B6 E6
      go_wp2
      go_ret2
      exact ⟨⟨_, _, _, HR.out, ⟨_, _, rfl, HE.out⟩⟩, B7.out⟩
    · have g : (x != 0) = true := by simpa using h1
      have HM : Hid (CtIs n F p k n F x) := .inr ⟨HX.out, .inl ⟨HL.out, h1, rfl, rfl⟩⟩
      clear h1
      go_wp2
      go_ret2
      exact ⟨⟨_, _, _, HM.out, ⟨_, _, rfl, E4.out⟩⟩, B4.out⟩
  · have g : (x != 0) = true := by simpa using h0
    have HM : Hid (CtIs n F p k 0 F x) := .inl ⟨HX.out, h0, rfl⟩
    clear h0
    go_wp2
    go_ret2
    exact ⟨⟨_, _, _, HM.out, retFs_nil _ _ _ _⟩, B2.out⟩
/-- A row of bytes cut. -/
theorem u8_elem : Tryz.prog.elem 22 = 5 := by kernel_rfl
theorem u8_under : Tryz.prog.underlying 22 = some (.slice (Tryz.prog.elem 22)) := by rw [u8_elem]; exact Tryz.underlying22
theorem u8_sizeOf (w : World) : (sizeOf (Tryz.prog.elem 22)).run Tryz.prog w = .ok 1 w := by
  obtain ⟨i, hi, hz, hsz, hby⟩ := info_parts Tryz.info8
  simp [sizeOf, typeInfo, u8_elem, hi, hsz]
theorem cutRowM (g n c k : Nat) (hk : k ≤ c) (w : World) : (Instr.slice 22 (.slice (some ⟨g, 0, none⟩) n c) none (some (.int .i64 (k : Int))) none).run Tryz.prog w = .ok (.slice (some ⟨g, 0, none⟩) k c) w := by
  rw [run_slice_h (P := Tryz.prog) (w := w) 22 _ n c u8_under .i64 (k : Int) (by omega) (by omega)]
  simp only [u8_sizeOf, Result.andThen, sliced, Int.toNat_natCast, Nat.zero_mul, Nat.sub_zero]
  simp [Go.WideShapes.add_plain]
set_option maxRecDepth 100000 in
set_option maxHeartbeats 2000000 in
theorem l11Cut_any (a : Option Addr) (n c : Nat) (F : Nat → Fi) (p : ByteArray) (k : Int) (hs : FsOk n F) (hp : p.size ≤ 40) (hsl : SlP a n c) (Q : Nat → Prop) (hQ : ∀ x, a = some x → Q x.block) (w : World) (h : Els w 3 a n (fiF F)) :
    Calls Tryz.prog 45 #[.slice a n c, .string p, .int .i64 k] w fun e w' => (∃ (a' : Option Addr) (m c' : Nat) (G : Nat → Fi) (cd : Int), e = .returned (.tuple #[.slice a' m c', .int .i64 cd]) ∧ Els w' 3 a' m (fiF G) ∧ SlQ Q w.heap.size a' m c' ∧ CtP n F p k m G cd) ∧ Below w.heap.size w w' := by
  have hn := hs.1
  have FL : Hid (Calls Tryz.prog 77 #[.slice a n c, .string p] w fun e w'' => (∃ r x : Int, e = .returned (.tuple #[.int .i64 r, .int .i64 x]) ∧ FlIs n F p x ∧ (x = 0 → ∃ j : Nat, r = (j : Int) ∧ j < n ∧ (F j).p = p ∧ (F j).d = false)) ∧ w'' = w) := l11File_any a n c F p (by omega) w h
  have PT : Hid (∀ (t : ByteArray) (w' : World), Below w.heap.size w w' → Calls Tryz.prog 75 #[.slice a n c, .agg #[.string p, .bool false, .string t]] w' fun e w'' => RetPut n F ⟨p, false, t⟩ w'.heap.size e w'' ∧ Below w'.heap.size w' w'') := fun t w' hb => l11Put_any a n c F ⟨p, false, t⟩ hs.srt hp (by omega) w' (h.below hb)
  have H : Hid (Els w 3 a n (fiF F)) := h
  have HZ : Hid (SlQ Q w.heap.size a n c) := ⟨hsl, fun x e => .inl (hQ x e)⟩
  have HS : Hid (FsOk n F) := hs
  clear h hs hsl hQ
  go_enter Tryz.func45, Tryz.ntmps45
  go_wp2_with fail
  refine (Calls.mono FL.out) ?_
  rintro e w1 ⟨⟨r, x, rfl, hx, hj⟩, hw⟩
  cases hw
  have HL : Hid (FlIs n F p x) := hx
  clear hx FL
  by_cases h1 : x = 0
  · subst h1
    obtain ⟨j, rfl, hj1, ej, dj⟩ := hj rfl
    have HM4 : Hid ((k < 0 ∨ 200 < k) → CtP n F p k n F 4) := fun q => .inr ⟨HL.out, .inl ⟨q, rfl, rfl, rfl⟩⟩
    have HM : Hid (¬ (k < 0 ∨ 200 < k) → ∀ m G, PutIs n F ⟨p, false, cutT (F j).t k.toNat⟩ m G → CtP n F p k m G 0) := fun q m G z => .inr ⟨HL.out, .inr ⟨q, rfl, j, hj1, ej, z⟩⟩
    clear hj HL
    by_cases h2 : k < 0 ∨ 200 < k
    · have IN : Hid (∀ w : World, Calls Tryz.prog 63 #[.int .i64 k, .int .i64 0, .int .i64 200] w fun e w' => e = .returned (.bool false) ∧ w = w') := fun w => in_any k 0 200 false (by simp; omega) w
      go_wp2_with fail
      refine (IN.out _).mono ?_
      rintro e v2 ⟨rfl, hw⟩
      cases hw
      go_wp2
      go_ret2
      exact ⟨⟨_, _, _, F, _, rfl, H.out, HZ.out, HM4.out h2⟩, Below.refl _ _⟩
    · have IN : Hid (∀ w : World, Calls Tryz.prog 63 #[.int .i64 k, .int .i64 0, .int .i64 200] w fun e w' => e = .returned (.bool true) ∧ w = w') := fun w => in_any k 0 200 true (by simp; omega) w
      obtain ⟨kn, rfl⟩ : ∃ q : Nat, k = (q : Int) := ⟨k.toNat, by omega⟩
      replace HM : Hid (∀ m G, PutIs n F ⟨p, false, cutT (F j).t kn⟩ m G → CtP n F p (kn : Int) m G 0) := fun m G z => HM.out h2 m G (by rw [Int.toNat_natCast]; exact z)
      have hk2 : kn ≤ 200 := by omega
      clear h2 HM4
      go_wp2_with fail
      refine (IN.out _).mono ?_
      rintro e v2 ⟨rfl, hw⟩
      cases hw
      clear IN
      have hts : (F j).t.size ≤ 200 := (HS.out.2 j hj1).1.2.1
      obtain ⟨b, off, rfl, hc⟩ := H.out.opened (by omega)
      obtain ⟨c0, c1, c2⟩ := Els.fiC hc j hj1
      have hlt' : (j : Int) < (n : Int) := by omega
      clear hc
      have HM2 : Hid (∀ m G, PutIs n F ⟨p, false, kstr (strB (F j).t) 0 kn⟩ m G → CtP n F p (kn : Int) m G 0) := HM.out
      rw [ej] at c0
      rw [dj] at c1
      clear HM ej dj HS
      generalize (F j).t = t at *
      have BX : Box3 (w.alloc (.cells #[.string p, .bool false, .string t] 51)) w.heap.size 51 (.string p) (.bool false) (.string t) := Box3.made _ _ _ _ _
      have WB : Below w.heap.size w (w.alloc (.cells #[.string p, .bool false, .string t] 51)) := (Below.refl _ _).alloc (Nat.le_refl _) _
      obtain ⟨u2, gc, hcv, hrow, hb2⟩ := bytesOfR t (w.alloc (.cells #[.string p, .bool false, .string t] 51))
      have BX2 := BX.below hb2
      have B2 : Below w.heap.size w u2 := WB.trans (hb2.mono (by simp))
      rw [World.size_alloc] at hcv hrow hb2
      have hu2 : w.heap.size + 1 ≤ u2.heap.size := hb2.size |> fun q => by simpa using q
      obtain ⟨g9, c9, u3, hr, hrow3, hb3, hg9⟩ := appendMZ u2 (w.heap.size + 1) (w.heap.size + 1) t.size gc (strB t) (kn - t.size) (Nat.le_refl _) hu2 (by omega) (by omega) hrow (fun i hi => strB_out t i hi) 22
      have hmx : ((kn - t.size : Nat) : Int) = max 0 ((kn : Int) - (t.size : Int)) := by omega
      rw [hmx] at hr
      obtain ⟨N, hN⟩ : ∃ N, N = t.size + (kn - t.size) := ⟨_, rfl⟩
      rw [← hN] at hr hrow3
      have hkN : kn ≤ N := by omega
      have BX3 : Hid (Box3 u3 w.heap.size 51 (.string p) (.bool false) (.string t)) := BX2.ofBlock (hb3.block _ (by omega))
      have B3 : Hid (Below w.heap.size w u3) := B2.trans (hb3.mono (by omega))
      have y2 := BX2.c2
      have z2 := BX3.out.c2
      have f2 := BX3.out.fr 2
      have cut := cutRowM g9 N c9 kn (Nat.le_trans hkN hrow3.1)
      have cv := kstr_of_code (c := c9) (code8_of (b := g9) (o := 0) (n := kn) (f := strB t) (fun i hi => by rw [Nat.zero_add]; exact hrow3.2.1 i (by omega)))
      generalize kstr (strB t) 0 kn = tt at *
      have WR : IntKind.i64.wrap ((kn : Int) - (t.size : Int)) = (kn : Int) - (t.size : Int) := IntWalk.i64_in _ (by omega)
      clear BX WB hrow hrow3 hb2 hb3 BX2 B2 hmx hN hkN hu2 hg9
      go_upto_region 9 with (at_builtin; refine Lib.wpList_append_run _ rfl (.tmp 32) (.tmp 38) 22 3 rfl (.slice (some ⟨w.heap.size + 1, 0, none⟩) t.size gc) (.int .i64 (max 0 ((kn : Int) - (t.size : Int)))) rfl rfl _ _ hr ?_)
      have BX4 : Hid (Box3 (u3.setCell ⟨w.heap.size, 2, none⟩ (.string tt)) w.heap.size 51 (.string p) (.bool false) (.string tt)) := BX3.out.set2 _
      have B4 : Hid (Below w.heap.size w (u3.setCell ⟨w.heap.size, 2, none⟩ (.string tt))) := B3.out.setCell (Nat.le_refl _) _
      clear BX3 B3 y2 z2 f2 cut cv hcv hr WR c0 c1 c2
      generalize u3.setCell ⟨w.heap.size, 2, none⟩ (.string tt) = u4 at *
      have x0 := BX4.out.c0
      have x1 := BX4.out.c1
      have x2 := BX4.out.c2
      go_wp2_with fail
      refine (PT.out tt _ B4.out).mono ?_
      rintro e v7 ⟨⟨a7, m7, c7, G, rfl, he, hpt⟩, hb⟩
      have HR : Hid (Els v7 3 a7 m7 (fiF G) ∧ SlQ Q w.heap.size a7 m7 c7 ∧ CtP n F p (kn : Int) m7 G 0) := ⟨he.els, he.slq B4.out.size _, HM2.out _ _ hpt⟩
      have B7 : Hid (Below w.heap.size w v7) := B4.out.trans (hb.mono B4.out.size)
      clear he hpt hb HM2 PT BX4 B4 x0 x1 x2
      go_wp2
      go_ret2
      exact ⟨⟨_, _, _, G, _, rfl, HR.out⟩, B7.out⟩
  · have g : (x != 0) = true := by simpa using h1
    have HR : Hid (CtP n F p k n F x) := .inl ⟨HL.out, h1, rfl, rfl⟩
    clear h1 hj
    go_wp2
    go_ret2
    exact ⟨⟨_, _, _, F, _, rfl, H.out, HZ.out, HR.out⟩, Below.refl _ _⟩
end Go.Proofs.YtgcdoabcopihlaaGreat

/-
  WriteFile (written by tools/mkwr.py).
-/
namespace Go.Proofs.YtgcdoabcopihlaaGreat
open Go.ChangeShapes Go.WideShapes Go.ChangeAt Go.RowKit Go.Shelf
set_option linter.unusedVariables false
/-- A text with another written into it at a place, zeros between. -/
def wrT (t : ByteArray) (o : Nat) (s : ByteArray) : ByteArray := kstr (pasteF (strB t) o s s.size) 0 (max t.size (o + s.size))
/-- What l11Write does. -/
def WrP (n : Nat) (F : Nat → Fi) (p : ByteArray) (k : Int) (s : ByteArray) (m : Nat) (G : Nat → Fi) (c : Int) : Prop :=
  ∃ y, FindIs n F p y ∧ ((y.d = true ∧ c = 17 ∧ m = n ∧ G = F) ∨ (y.d = false ∧ (((k < 0 ∨ 200 < k + s.size) ∧ c = 4 ∧ m = n ∧ G = F) ∨ (¬ (k < 0 ∨ 200 < k + s.size) ∧
    (((¬ ∃ j, j < n ∧ (F j).p = p) ∧ NewIs n F p c ∧ c ≠ 0 ∧ m = n ∧ G = F) ∨ (((∃ j, j < n ∧ (F j).p = p) ∨ NewIs n F p 0) ∧ c = 0 ∧ PutIs n F ⟨p, false, wrT y.t k.toNat s⟩ m G))))))
/-- What WriteFile does. -/
def WrIs (n : Nat) (F : Nat → Fi) (p : ByteArray) (k : Int) (s : ByteArray) (m : Nat) (G : Nat → Fi) (c : Int) : Prop :=
  (65536 < s.size ∧ c = 2 ∧ m = 0) ∨ (¬ 65536 < s.size ∧ ((FtIs n F 1 (fun _ => p) c ∧ c ≠ 0 ∧ m = 0) ∨ (FtIs n F 1 (fun _ => p) 0 ∧ WrP n F p k s m G c)))
theorem WrP.uniq {n : Nat} {F : Nat → Fi} {p : ByteArray} {k : Int} {s : ByteArray} {m m' : Nat} {G G' : Nat → Fi} {c c' : Int} (hs : Srt n F) (h : WrP n F p k s m G c) (h' : WrP n F p k s m' G' c') : m = m' ∧ c = c' ∧ ∀ i, i < m → G i = G' i := by
  obtain ⟨y, hy, h⟩ := h
  obtain ⟨y', hy', h'⟩ := h'
  obtain rfl := hy.uniq hs hy'
  rcases h with ⟨e, rfl, rfl, rfl⟩ | ⟨e, ⟨r, rfl, rfl, rfl⟩ | ⟨r, ⟨q, a, b, rfl, rfl⟩ | ⟨q, rfl, hG⟩⟩⟩ <;> rcases h' with ⟨e', rfl, rfl, rfl⟩ | ⟨e', ⟨r', rfl, rfl, rfl⟩ | ⟨r', ⟨q', a', b', rfl, rfl⟩ | ⟨q', rfl, hG'⟩⟩⟩
  · exact ⟨rfl, rfl, fun _ _ => rfl⟩
  · rw [e] at e'; cases e'
  · rw [e] at e'; cases e'
  · rw [e] at e'; cases e'
  · rw [e] at e'; cases e'
  · exact ⟨rfl, rfl, fun _ _ => rfl⟩
  · exact absurd r r'
  · exact absurd r r'
  · rw [e] at e'; cases e'
  · exact absurd r' r
  · exact ⟨rfl, a.uniq hs a', fun _ _ => rfl⟩
  · rcases q' with z | z
    · exact absurd z q
    · exact absurd (a.uniq hs z) b
  · rw [e] at e'; cases e'
  · exact absurd r' r
  · rcases q with z | z
    · exact absurd z q'
    · exact absurd (a'.uniq hs z) b'
  · have := hG.uniq hs hG'
    exact ⟨this.1, rfl, this.2⟩
theorem WrP.le {n : Nat} {F : Nat → Fi} {p : ByteArray} {k : Int} {s : ByteArray} {m : Nat} {G : Nat → Fi} {c : Int} (h : WrP n F p k s m G c) : m ≤ n + 1 := by
  obtain ⟨y, hy, h⟩ := h
  rcases h with ⟨e, rfl, rfl, rfl⟩ | ⟨e, ⟨r, rfl, rfl, rfl⟩ | ⟨r, ⟨q, a, b, rfl, rfl⟩ | ⟨q, rfl, hG⟩⟩⟩
  · omega
  · omega
  · omega
  · exact hG.le
theorem WrIs.uniq {n : Nat} {F : Nat → Fi} {p : ByteArray} {k : Int} {s : ByteArray} {m m' : Nat} {G G' : Nat → Fi} {c c' : Int} (h : WrIs n F p k s m G c) (h' : WrIs n F p k s m' G' c') : m = m' ∧ c = c' ∧ ∀ i, i < m → G i = G' i := by
  rcases h with ⟨z, rfl, rfl⟩ | ⟨z, ⟨a, b, rfl⟩ | ⟨a, q⟩⟩ <;> rcases h' with ⟨z', rfl, rfl⟩ | ⟨z', ⟨a', b', rfl⟩ | ⟨a', q'⟩⟩
  · exact ⟨rfl, rfl, fun i hi => absurd hi (by omega)⟩
  · exact absurd z z'
  · exact absurd z z'
  · exact absurd z' z
  · exact ⟨rfl, a.uniq a', fun i hi => absurd hi (by omega)⟩
  · exact absurd (a.uniq a') b
  · exact absurd z' z
  · exact absurd (a'.uniq a) b'
  · exact q.uniq a.ok.1.srt q'
theorem WrIs.bound {n : Nat} {F : Nat → Fi} {p : ByteArray} {k : Int} {s : ByteArray} {m : Nat} {G : Nat → Fi} {c : Int} (h : WrIs n F p k s m G c) : m ≤ 13 := by
  rcases h with ⟨z, rfl, rfl⟩ | ⟨z, ⟨a, b, rfl⟩ | ⟨a, q⟩⟩
  · omega
  · omega
  · have := a.ok.1.1
    have := q.le
    omega
theorem find_t {n : Nat} {F : Nat → Fi} (h : FsOk n F) {p : ByteArray} {y : Fi} (hy : FindIs n F p y) : y.t.size ≤ 200 := by
  rcases hy with ⟨j, hj, _, rfl⟩ | ⟨_, rfl⟩
  · exact (h.2 j hj).1.2.1
  · show (0 : Nat) ≤ 200
    omega
/-- b[at:] of a row of bytes. -/
theorem u8_elemW : Tryz.prog.elem 22 = 5 := by kernel_rfl
theorem u8_underW : Tryz.prog.underlying 22 = some (.slice (Tryz.prog.elem 22)) := by rw [u8_elemW]; exact Tryz.underlying22
theorem u8_sizeOfW (w : World) : (sizeOf (Tryz.prog.elem 22)).run Tryz.prog w = .ok 1 w := by
  obtain ⟨i, hi, hz, hsz, hby⟩ := info_parts Tryz.info8
  simp [sizeOf, typeInfo, u8_elemW, hi, hsz]
/-- copy(b[at:], s): where it lies, and what the row is behind it. -/
theorem copyAt (w : World) (B g K o : Nat) (F : Nat → Nat) (s : ByteArray) (hB : B ≤ g) (hK : o + s.size ≤ K) (hm : K ≤ maxLen) (h : RowM w g K K F) :
    ∃ (a : Option Addr) (x : Int) (w' : World), (∀ w : World, (Instr.slice 22 (.slice (some ⟨g, 0, none⟩) K K) (some (.int .i64 (o : Int))) none none).run Tryz.prog w = .ok (.slice a (K - o) (K - o)) w) ∧
      (∀ ty, (Builtin.copy_ #[22, 9] ty #[.slice a (K - o) (K - o), .string s]).run Tryz.prog w = .ok (.int .i64 x) w') ∧ RowM w' g K K (pasteF F o s s.size) ∧ Below B w w' := by
  have SP : SlP (some (⟨g, 0, none⟩ : Addr)) K K := ⟨(fun e => by cases e), .inr ⟨_, _, rfl⟩, Nat.le_refl _, hm⟩
  have hcut := run_cut_from (P := Tryz.prog) 22 u8_underW 1 u8_sizeOfW SP o (by omega)
  by_cases e : K = o
  · have hs0 : s.size = 0 := by omega
    obtain ⟨x, w', hr, hR, hb⟩ := copyM w B g K K 0 (K - o) (K - o) 0 F s hB (by omega) (by rw [hs0]; exact (Nat.zero_min _).symm) h
    refine ⟨some ⟨g, 0, none⟩, x, w', fun w => ?_, hr, hR.congr (fun i hi => ?_), hb⟩
    · have := hcut w
      unfold cutA at this
      rw [if_pos e] at this
      exact this
    · rw [hs0]
      unfold pasteF
      rw [if_neg (by omega), if_neg (by omega)]
  · obtain ⟨x, w', hr, hR, hb⟩ := copyM w B g K K o (K - o) (K - o) s.size F s hB (by omega) (by exact (Nat.min_eq_left (by omega)).symm) h
    refine ⟨some ⟨g, o, none⟩, x, w', fun w => ?_, hr, hR, hb⟩
    have := hcut w
    unfold cutA at this
    rw [if_neg e] at this
    rw [this]
    show Result.ok (Value.slice (some (Addr.add ⟨g, 0, none⟩ (o * 1))) _ _) _ = _
    rw [Go.WideShapes.add_plain, Nat.zero_add, Nat.mul_one]
set_option maxRecDepth 100000 in
set_option maxHeartbeats 4000000 in
theorem implWr_any (a : Option Addr) (n c : Nat) (F : Nat → Fi) (p : ByteArray) (k : Int) (s : ByteArray) (hsz : ∀ i, i < n → (F i).p.size ≤ 1048576) (hnn : n ≤ 1048576) (hsl : SlP a n c) (w : World) (h : Els w 3 a n (fiF F)) :
    Calls Tryz.prog 52 #[.slice a n c, .string p, .int .i64 k, .string s] w fun e w' => (∃ m G cd, WrIs n F p k s m G cd ∧ RetFs m G cd w.heap.size e w') ∧ Below w.heap.size w w' := by
  by_cases hl : 65536 < s.size
  · have HM : Hid (WrIs n F p k s 0 F 2) := .inl ⟨hl, rfl, rfl⟩
    have g1 : (65536 : Int) < (s.size : Int) := by omega
    clear h hsz hl
    go_enter Tryz.func52, Tryz.ntmps52
    go_wp2
    go_ret2
    exact ⟨⟨_, _, _, HM.out, retFs_nil _ _ _ _⟩, Below.refl _ _⟩
  have gl : ¬ (65536 : Int) < (s.size : Int) := by omega
  have HSL : Hid (¬ 65536 < s.size) := hl
  obtain ⟨v1, hv1⟩ : ∃ v, v = w.alloc (.cells #[.string p] 9) := ⟨_, rfl⟩
  have A1 : Below w.heap.size w v1 := by rw [hv1]; exact (Below.refl _ _).alloc (Nat.le_refl _) _
  have FF : Hid (Calls Tryz.prog 78 #[.slice a n c, .slice (some ⟨w.heap.size, 0, none⟩) 1 1] v1 fun e w' => (∃ x : Int, e = .returned (.int .i64 x) ∧ FtIs n F 1 (fun _ => p) x) ∧ Below v1.heap.size v1 w') := filesFault_any a n c F _ 1 1 (fun _ => p) hsz hnn hsl (by omega) v1 (h.below A1) (by rw [hv1]; exact strs_lit w p)
  have HA : Hid (Below w.heap.size w v1) := A1
  have HV : Hid (v1 = w.alloc (.cells #[.string p] 9)) := hv1
  have H : Hid (Els w 3 a n (fiF F)) := h
  clear h hsz A1 hv1 hl
  go_enter Tryz.func52, Tryz.ntmps52
  go_wp2_with fail
  rw [← HV.out]
  clear HV
  refine (Calls.mono FF.out) ?_
  rintro e v2 ⟨⟨x, rfl, hx⟩, hb⟩
  have B2 : Hid (Below w.heap.size w v2) := HA.out.trans (hb.mono HA.out.size)
  have HX : Hid (FtIs n F 1 (fun _ => p) x) := hx
  clear hx hb FF HA
  by_cases h0 : x = 0
  · subst h0
    obtain ⟨ho, hp, hn4, -⟩ := HX.out.ok
    have hP := hp 0 (by omega)
    have TH : Hid (∀ w' : World, Below w.heap.size w w' → Calls Tryz.prog 69 #[.slice a n c, .string p] w' fun e w'' => Says e (∃ j, j < n ∧ (F j).p = p) ∧ Below w'.heap.size w' w'') := fun w' hb => isThere_any a n c F p ho.srt hP.1 hnn w' (H.out.below hb)
    have NF : Hid (∀ w' : World, Below w.heap.size w w' → Calls Tryz.prog 79 #[.slice a n c, .string p] w' fun e w'' => (∃ x : Int, e = .returned (.int .i64 x) ∧ NewIs n F p x) ∧ Below w'.heap.size w' w'') := fun w' hb => newFault_any a n c F p ho.srt hP.1 hnn w' (H.out.below hb)
    have FN : Hid (∀ w' : World, Below w.heap.size w w' → Calls Tryz.prog 70 #[.slice a n c, .string p, .func (.func 31) #[] #[]] w' fun e w'' => (∃ y : Fi, e = .returned (.agg #[.string y.p, .bool y.d, .string y.t]) ∧ FindIs n F p y) ∧ Below w'.heap.size w' w'') := fun w' hb => findF_any a n c F p ho.srt hP.1 hnn w' (H.out.below hb)
    have CL : Hid (∀ w' : World, Below w.heap.size w w' → Calls Tryz.prog 23 #[.slice a n c] w' fun e w'' => RetFi n F w'.heap.size e w'' ∧ Below w'.heap.size w' w'') := fun w' hb => cloneFi_any a n c F w' (by omega) (H.out.below hb) (fun e => by have := hsl.z e; have := hsl.le; omega)
    have PT : Hid (∀ (t : ByteArray) (b : Option Addr) (d : Nat) (w' : World), w.heap.size ≤ w'.heap.size → EO w' w.heap.size 51 3 (.slice b n d) n (fiF F) → Calls Tryz.prog 80 #[.slice b n d, .string p, .agg #[.string p, .bool false, .string t], .func (.func 31) #[] #[]] w' fun e w'' => RetPut n F ⟨p, false, t⟩ w.heap.size e w'' ∧ Below w.heap.size w' w'') := fun t b d w' hB hh => putF_any w.heap.size b n d F ⟨p, false, t⟩ ho.srt hP.1 (by omega) w' hB hh
    have HS : Hid (FsOk n F) := ho
    clear ho hp hn4 hP
    go_wp2_with fail
    refine (CL.out _ B2.out).mono ?_
    rintro e v3 ⟨⟨b, d, rfl, he⟩, hb⟩
    have B3 : Hid (Below w.heap.size w v3) := B2.out.trans (hb.mono B2.out.size)
    have E3 : Hid (EO v3 w.heap.size 51 3 (.slice b n d) n (fiF F)) := he.mono B2.out.size
    clear he hb CL B2
    go_wp2_with fail
    refine (FN.out _ B3.out).mono ?_
    rintro e v4 ⟨⟨y, rfl, hy⟩, hb⟩
    have HY : Hid (FindIs n F p y) := hy
    have HT : Hid (y.t.size ≤ 200) := find_t HS.out hy
    obtain ⟨v5, hv5⟩ : ∃ v, v = v4.alloc (.cells #[.string y.p, .bool y.d, .string y.t] 51) := ⟨_, rfl⟩
    have hb5 : Below v4.heap.size v4 v5 := by rw [hv5]; exact (Below.refl _ _).alloc (Nat.le_refl _) _
    have X5 : Hid (Box3 v5 v4.heap.size 51 (.string y.p) (.bool y.d) (.string y.t)) := by show Box3 _ _ _ _ _ _; rw [hv5]; exact Box3.made _ _ _ _ _
    have HV5 : Hid (v4.alloc (.cells #[.string y.p, .bool y.d, .string y.t] 51) = v5) := hv5.symm
    have B5 : Hid (Below w.heap.size w v5) := (B3.out.trans (hb.mono B3.out.size)).trans (hb5.mono (by have := B3.out.size; have := hb.size; omega))
    have E5 : Hid (EO v5 w.heap.size 51 3 (.slice b n d) n (fiF F)) := (E3.out.below hb).below hb5
    have HM : Hid (∀ m G c, ((y.d = true ∧ c = 17 ∧ m = n ∧ G = F) ∨ (y.d = false ∧ (((k < 0 ∨ 200 < k + s.size) ∧ c = 4 ∧ m = n ∧ G = F) ∨ (¬ (k < 0 ∨ 200 < k + s.size) ∧ (((¬ ∃ j, j < n ∧ (F j).p = p) ∧ NewIs n F p c ∧ c ≠ 0 ∧ m = n ∧ G = F) ∨ (((∃ j, j < n ∧ (F j).p = p) ∨ NewIs n F p 0) ∧ c = 0 ∧ PutIs n F ⟨p, false, wrT y.t k.toNat s⟩ m G)))))) → WrIs n F p k s m G c) := fun m G c q => .inr ⟨HSL.out, .inr ⟨HX.out, y, HY.out, q⟩⟩
    clear hy hb hb5 hv5 FN B3 E3 HX HY HSL HS
    obtain ⟨yp, yd, yt⟩ := y
    dsimp only at *
    go_upto_region 8 with fail
    rw [HV5.out]
    clear HV5
    generalize v4.heap.size = bx at *
    have x0 := X5.out.c0
    have x1 := X5.out.c1
    have x2 := X5.out.c2
    cases yd with
    | true =>
      have HR : Hid (WrIs n F p k s n F 17) := HM.out _ _ _ (.inl ⟨rfl, rfl, rfl, rfl⟩)
      clear HM
      go_wp2
      go_ret2
      exact ⟨⟨_, _, _, HR.out, ⟨_, _, rfl, E5.out⟩⟩, B5.out⟩
    | false =>
    have wr1 : IntKind.i64.wrap (200 - (s.size : Int)) = 200 - (s.size : Int) := IntWalk.i64_in _ (by omega)
    by_cases h2 : k < 0
    · have HR : Hid (WrIs n F p k s n F 4) := HM.out _ _ _ (.inr ⟨rfl, .inl ⟨.inl h2, rfl, rfl, rfl⟩⟩)
      clear HM
      go_wp2
      go_ret2
      exact ⟨⟨_, _, _, HR.out, ⟨_, _, rfl, E5.out⟩⟩, B5.out⟩
    by_cases h3 : 200 - (s.size : Int) < k
    · have HR : Hid (WrIs n F p k s n F 4) := HM.out _ _ _ (.inr ⟨rfl, .inl ⟨.inr (by omega), rfl, rfl, rfl⟩⟩)
      clear HM
      go_wp2
      go_ret2
      exact ⟨⟨_, _, _, HR.out, ⟨_, _, rfl, E5.out⟩⟩, B5.out⟩
    obtain ⟨kn, rfl⟩ : ∃ q : Nat, k = (q : Int) := ⟨k.toNat, by omega⟩
    replace HM : Hid (∀ m G c, (((¬ ∃ j, j < n ∧ (F j).p = p) ∧ NewIs n F p c ∧ c ≠ 0 ∧ m = n ∧ G = F) ∨ (((∃ j, j < n ∧ (F j).p = p) ∨ NewIs n F p 0) ∧ c = 0 ∧ PutIs n F ⟨p, false, wrT yt kn s⟩ m G)) → WrIs n F p (kn : Int) s m G c) := fun m G c q => HM.out m G c (.inr ⟨rfl, .inr ⟨(by omega), by rw [Int.toNat_natCast]; exact q⟩⟩)
    obtain ⟨K, hK⟩ : ∃ K, K = max yt.size (kn + s.size) := ⟨_, rfl⟩
    have hKi : (K : Int) = max (yt.size : Int) ((kn : Int) + (s.size : Int)) := by omega
    have hts := HT.out
    have hK2 : K ≤ 200 := by omega
    have SZ : Hid (∀ w' : World, Calls Tryz.prog 81 #[.string yt, .int .i64 (max (yt.size : Int) ((kn : Int) + (s.size : Int)))] w' fun e w'' => RetZ w'.heap.size w'' e K (strB yt) ∧ Below w'.heap.size w' w'') := fun w' => by rw [← hKi]; exact sized_any yt K (by omega) w'
    have wr2 : IntKind.i64.wrap ((kn : Int) + (s.size : Int)) = (kn : Int) + (s.size : Int) := IntWalk.i64_in _ (by omega)
    have WT : Hid (kstr (pasteF (strB yt) kn s s.size) 0 K = wrT yt kn s) := by show _ = _; unfold wrT; rw [hK]
    have HKK : Hid (kn + s.size ≤ K) := by show _ ≤ _; omega
    have hkk2 : (kn : Int) ≤ 200 - (s.size : Int) := by omega
    -- behind the checks
    have REST : ∀ v6 : World, Hid (Below w.heap.size w v6) → Hid (EO v6 w.heap.size 51 3 (.slice b n d) n (fiF F)) → ∀ v7 : World, Below v6.heap.size v6 v7 → ∀ g, RowM v7 g K K (strB yt) → v6.heap.size ≤ g → ∃ (ac : Option Addr) (xx : Int) (v8 : World), Hid (∀ w : World, (Instr.slice 22 (.slice (some ⟨g, 0, none⟩) K K) (some (.int .i64 (kn : Int))) none none).run Tryz.prog w = .ok (.slice ac (K - kn) (K - kn)) w) ∧ Hid (∀ ty, (Builtin.copy_ #[22, 9] ty #[.slice ac (K - kn) (K - kn), .string s]).run Tryz.prog v7 = .ok (.int .i64 xx) v8) ∧ Hid ((convert 22 9 (.slice (some ⟨g, 0, none⟩) K K)).run Tryz.prog v8 = .ok (.string (wrT yt kn s)) v8) ∧ Hid (Below w.heap.size w v8) ∧ Hid (EO v8 w.heap.size 51 3 (.slice b n d) n (fiF F)) := fun v6 B6 E6 v7 hb g hr hg => by
      obtain ⟨ac, xx, v8, q1, q2, q3, q4⟩ := copyAt v7 v6.heap.size g K kn (strB yt) s hg HKK.out (by unfold maxLen; omega) hr
      refine ⟨ac, xx, v8, q1, q2, ?_, ?_, ?_⟩
      · show _ = _
        rw [← WT.out]
        exact kstr_of_code (c := K) q3.code
      · show Below _ _ _
        exact (B6.out.trans (hb.mono B6.out.size)).trans (q4.mono B6.out.size)
      · show EO _ _ _ _ _ _ _
        exact (E6.out.below (hb.trans q4))
    generalize wrT yt kn s = tt at *
    clear hK hKi WT HKK HT hts
    go_wp2_with fail
    refine (TH.out _ B5.out).mono ?_
    rintro e v6 ⟨⟨z, rfl, hz⟩, hb⟩
    have B6 : Hid (Below w.heap.size w v6) := B5.out.trans (hb.mono B5.out.size)
    have E6 : Hid (EO v6 w.heap.size 51 3 (.slice b n d) n (fiF F)) := E5.out.below hb
    have X6 : Hid (Box3 v6 bx 51 (.string yp) (.bool false) (.string yt)) := X5.out.below hb
    have HZ : Hid (z = true ↔ ∃ j, j < n ∧ (F j).p = p) := hz
    clear hz hb x0 x1 x2 B5 E5 X5 TH
    cases z with
    | true =>
      have HE1 : Hid (∃ j, j < n ∧ (F j).p = p) := HZ.out.1 rfl
      clear HZ
      have x2 := X6.out.c2
      go_wp2_with fail
      refine (SZ.out _).mono ?_
      rintro e v8 ⟨⟨g, rfl, hg, hrow⟩, hb⟩
      obtain ⟨ac, xx, v9, q1, q2, q3, B9, E9⟩ := REST _ B6 E6 v8 hb g hrow hg
      clear hrow hb hg x2 REST SZ X6 B6 E6
      have r1 := q1.out
      have r2 := q2.out
      have r3 := q3.out
      clear q1 q2 q3
      have kk : (0 : Int) ≤ (kn : Int) := by omega
      go_upto_region 18 with (at_builtin; refine wpList_copy_runI _ rfl (.tmp 67) (.tmp 68) 22 9 rfl (.slice ac (K - kn) (K - kn)) (.string s) rfl rfl (r2 _) ?_)
      clear r1 r2
      go_wp2_with fail
      refine (PT.out tt b d _ B9.out.size E9.out).mono ?_
      rintro e v10 ⟨⟨a9, m9, c9, G, rfl, he, hpt⟩, hb⟩
      have HR : Hid (WrIs n F p (kn : Int) s m9 G 0) := HM.out _ _ _ (.inr ⟨.inl HE1.out, rfl, hpt⟩)
      have HE : Hid (EO v10 w.heap.size 51 3 (.slice a9 m9 c9) m9 (fiF G)) := he
      have B10 : Hid (Below w.heap.size w v10) := B9.out.trans hb
      clear he hpt hb r3 HM PT B9 E9
      go_wp2
      go_ret2
      exact ⟨⟨_, _, _, HR.out, ⟨_, _, rfl, HE.out⟩⟩, B10.out⟩
    | false =>
      have HN : Hid (¬ ∃ j, j < n ∧ (F j).p = p) := fun q => by have := HZ.out.2 q; cases this
      clear HZ
      go_wp2_with fail
      refine (NF.out _ B6.out).mono ?_
      rintro e v7 ⟨⟨x, rfl, hx⟩, hb⟩
      have B7 : Hid (Below w.heap.size w v7) := B6.out.trans (hb.mono B6.out.size)
      have E7 : Hid (EO v7 w.heap.size 51 3 (.slice b n d) n (fiF F)) := E6.out.below hb
      have X7 : Hid (Box3 v7 bx 51 (.string yp) (.bool false) (.string yt)) := X6.out.below hb
      have HW : Hid (NewIs n F p x) := hx
      clear hx hb B6 E6 X6 NF
      by_cases h5 : x = 0
      · subst h5
        have x2 := X7.out.c2
        go_wp2_with fail
        refine (SZ.out _).mono ?_
        rintro e v8 ⟨⟨g, rfl, hg, hrow⟩, hb⟩
        obtain ⟨ac, xx, v9, q1, q2, q3, B9, E9⟩ := REST _ B7 E7 v8 hb g hrow hg
        clear hrow hb hg x2 REST SZ X7 B7 E7
        have r1 := q1.out
        have r2 := q2.out
        have r3 := q3.out
        clear q1 q2 q3
        have kk : (0 : Int) ≤ (kn : Int) := by omega
        go_upto_region 18 with (at_builtin; refine wpList_copy_runI _ rfl (.tmp 67) (.tmp 68) 22 9 rfl (.slice ac (K - kn) (K - kn)) (.string s) rfl rfl (r2 _) ?_)
        clear r1 r2
        go_wp2_with fail
        refine (PT.out tt b d _ B9.out.size E9.out).mono ?_
        rintro e v10 ⟨⟨a9, m9, c9, G, rfl, he, hpt⟩, hb⟩
        have HR : Hid (WrIs n F p (kn : Int) s m9 G 0) := HM.out _ _ _ (.inr ⟨.inr HW.out, rfl, hpt⟩)
        have HE : Hid (EO v10 w.heap.size 51 3 (.slice a9 m9 c9) m9 (fiF G)) := he
        have B10 : Hid (Below w.heap.size w v10) := B9.out.trans hb
        clear he hpt hb r3 HM PT B9 E9
        go_wp2
        go_ret2
        exact ⟨⟨_, _, _, HR.out, ⟨_, _, rfl, HE.out⟩⟩, B10.out⟩
      · have g : (x != 0) = true := by simpa using h5
        have HR : Hid (WrIs n F p (kn : Int) s n F x) := HM.out _ _ _ (.inl ⟨HN.out, HW.out, h5, rfl, rfl⟩)
        clear h5 HM
        go_wp2
        go_ret2
        exact ⟨⟨_, _, _, HR.out, ⟨_, _, rfl, E7.out⟩⟩, B7.out⟩
  · have g : (x != 0) = true := by simpa using h0
    have HM : Hid (WrIs n F p k s 0 F x) := .inr ⟨HSL.out, .inl ⟨HX.out, h0, rfl⟩⟩
    clear h0
    go_wp2
    go_ret2
    exact ⟨⟨_, _, _, HM.out, retFs_nil _ _ _ _⟩, B2.out⟩
end Go.Proofs.YtgcdoabcopihlaaGreat

/-
  WriteFile of the model (written by tools/mkwrs.py).
-/
namespace Go.Proofs.YtgcdoabcopihlaaGreat
open Go.ChangeShapes Go.WideShapes Go.ChangeAt Go.RowKit
set_option linter.unusedVariables false
theorem RowM.set {w : World} {g n cap : Nat} {F : Nat → Nat} (h : RowM w g n cap F) (i x : Nat) (hi : i < n) : RowM (w.setCell ⟨g, i, none⟩ (.int .u8 (x : Nat))) g n cap (fun j => if j = i then x else F j) := by
  have hnc := h.1
  refine ⟨hnc, fun j hj => ?_, fun j hj => ⟨?_, ?_⟩, by simpa using h.2.2.2⟩
  · dsimp only
    by_cases e : j = i
    · subst e
      rw [if_pos rfl]
      exact World.cell?_setCell_same' _ _ _ (h.2.2.1 j (by omega)).1
    · rw [if_neg e, World.cell?_setCell_other _ _ _ _ (fun q => e (by cases q; rfl))]
      exact h.2.1 j hj
  · by_cases e : j = i
    · subst e
      rw [World.cell?_setCell_same' _ _ _ (h.2.2.1 j hj).1]
      rfl
    · rw [World.cell?_setCell_other _ _ _ _ (fun q => e (by cases q; rfl))]
      exact (h.2.2.1 j hj).1
  · rw [World.frozen?_setCell]
    exact (h.2.2.1 j hj).2
/-- The length of a slice. -/
def slLen : Value → Nat
  | .slice _ n _ => n
  | _ => 0
theorem cat_zeros (t : ByteArray) (q : Nat) (h : t.size ≤ q) : ∀ i, i < q + 1 → Sha.cat q (strB t) (fun _ => 0) i = strB t i := fun i hi => by
  unfold Sha.cat
  by_cases e : i < q
  · rw [if_pos e]
  · rw [if_neg e, strB_out t i (by omega)]
theorem paste_step (f : Nat → Nat) (o : Nat) (s : ByteArray) (q : Nat) : ∀ i, (if i = o + q then strB s q else pasteF f o s q i) = pasteF f o s (q + 1) i := fun i => by
  unfold pasteF
  by_cases e : i = o + q
  · subst e
    rw [if_pos rfl, if_pos (by omega), Nat.add_sub_cancel_left]
  · rw [if_neg e]
    by_cases z : o ≤ i ∧ i < o + q
    · rw [if_pos z, if_pos (by omega)]
    · rw [if_neg z, if_neg (by omega)]
set_option maxRecDepth 100000 in
set_option maxHeartbeats 4000000 in
theorem l11Write_any (a : Option Addr) (n c : Nat) (F : Nat → Fi) (p : ByteArray) (k : Int) (s : ByteArray) (hs : FsOk n F) (hp : p.size ≤ 40) (hl : s.size ≤ 65536) (hsl : SlP a n c) (Q : Nat → Prop) (hQ : ∀ x, a = some x → Q x.block) (w : World) (h : Els w 3 a n (fiF F)) :
    Calls Tryz.prog 46 #[.slice a n c, .string p, .int .i64 k, .string s] w fun e w' => (∃ (a' : Option Addr) (m c' : Nat) (G : Nat → Fi) (cd : Int), e = .returned (.tuple #[.slice a' m c', .int .i64 cd]) ∧ Els w' 3 a' m (fiF G) ∧ SlQ Q w.heap.size a' m c' ∧ WrP n F p k s m G cd) ∧ Below w.heap.size w w' := by
  have hn := hs.1
  have FN : Hid (Calls Tryz.prog 73 #[.slice a n c, .string p] w fun e w' => (∃ r : Int, e = .returned (.int .i64 r) ∧ FstIs n F p r) ∧ w' = w) := l11Find_any a n c F p (by omega) w h
  have NW : Hid (∀ w' : World, Below w.heap.size w w' → Calls Tryz.prog 74 #[.slice a n c, .string p] w' fun e w'' => (∃ x : Int, e = .returned (.int .i64 x) ∧ NewIs n F p x) ∧ w'' = w') := fun w' hb => l11New_any a n c F p hp hn w' (h.below hb)
  have PT : Hid (∀ (t : ByteArray) (w' : World), Below w.heap.size w w' → Calls Tryz.prog 75 #[.slice a n c, .agg #[.string p, .bool false, .string t]] w' fun e w'' => RetPut n F ⟨p, false, t⟩ w'.heap.size e w'' ∧ Below w'.heap.size w' w'') := fun t w' hb => l11Put_any a n c F ⟨p, false, t⟩ hs.srt hp (by omega) w' (h.below hb)
  have H : Hid (Els w 3 a n (fiF F)) := h
  have HZ : Hid (SlQ Q w.heap.size a n c) := ⟨hsl, fun x e => .inl (hQ x e)⟩
  have HS : Hid (FsOk n F) := hs
  clear h hs hsl hQ
  go_enter Tryz.func46, Tryz.ntmps46
  go_wp2_with fail
  refine (Calls.mono FN.out) ?_
  rintro e w1 ⟨⟨r, rfl, hr⟩, hw⟩
  cases hw
  clear FN
  rcases hr with ⟨rfl, hno⟩ | ⟨j, rfl, hj, ej, hfst⟩
  · have HNO : Hid (¬ ∃ j, j < n ∧ (F j).p = p) := fun ⟨j, hj, e⟩ => hno j hj e
    have HM : Hid (∀ m G c, (((k < 0 ∨ 200 < k + s.size) ∧ c = 4 ∧ m = n ∧ G = F) ∨ (¬ (k < 0 ∨ 200 < k + s.size) ∧ (((¬ ∃ j, j < n ∧ (F j).p = p) ∧ NewIs n F p c ∧ c ≠ 0 ∧ m = n ∧ G = F) ∨ (((∃ j, j < n ∧ (F j).p = p) ∨ NewIs n F p 0) ∧ c = 0 ∧ PutIs n F ⟨p, false, wrT ⟨#[]⟩ k.toNat s⟩ m G)))) → WrP n F p k s m G c) := fun m G c q => ⟨fiZ, .inr ⟨hno, rfl⟩, .inr ⟨rfl, q⟩⟩
    have HT : Hid ((⟨#[]⟩ : ByteArray).size ≤ 200) := by show (0 : Nat) ≤ 200; omega
    clear hno
    obtain ⟨u1, hu1⟩ : ∃ u, u = w.alloc (.cells #[.string p, .bool false, .string ⟨#[]⟩] 51) := ⟨_, rfl⟩
    have X1 : Hid (Box3 u1 w.heap.size 51 (.string p) (.bool false) (.string ⟨#[]⟩)) := by show Box3 _ _ _ _ _ _; rw [hu1]; exact Box3.made _ _ _ _ _
    have B1 : Hid (Below w.heap.size w u1) := by show Below _ _ _; rw [hu1]; exact (Below.refl _ _).alloc (Nat.le_refl _) _
    have S1 : Hid (u1.heap.size = w.heap.size + 1) := by show _ = _; rw [hu1]; simp
    have HU1 : Hid (w.alloc (.cells #[.string p, .bool false, .string ⟨#[]⟩] 51) = u1) := hu1.symm
    clear hu1
    go_upto_region 5 with fail
    rw [HU1.out]
    clear HU1
    have x1 := X1.out.c1
    generalize (⟨#[]⟩ : ByteArray) = t at *
    by_cases h2 : k < 0
    · skip
      have HR : Hid (WrP n F p k s n F 4) := HM.out _ _ _ (.inl ⟨.inl h2, rfl, rfl, rfl⟩)
      clear HM
      go_wp2
      go_ret2
      exact ⟨⟨_, _, _, F, _, rfl, H.out.below B1.out, HZ.out, HR.out⟩, B1.out⟩
    by_cases h3 : 200 < k
    · skip
      have HR : Hid (WrP n F p k s n F 4) := HM.out _ _ _ (.inl ⟨.inr (by omega), rfl, rfl, rfl⟩)
      clear HM
      go_wp2
      go_ret2
      exact ⟨⟨_, _, _, F, _, rfl, H.out.below B1.out, HZ.out, HR.out⟩, B1.out⟩
    have wr2 : IntKind.i64.wrap (k + (s.size : Int)) = k + (s.size : Int) := IntWalk.i64_in _ (by omega)
    by_cases h4 : 200 < k + (s.size : Int)
    · skip
      have HR : Hid (WrP n F p k s n F 4) := HM.out _ _ _ (.inl ⟨.inr h4, rfl, rfl, rfl⟩)
      clear HM
      go_wp2
      go_ret2
      exact ⟨⟨_, _, _, F, _, rfl, H.out.below B1.out, HZ.out, HR.out⟩, B1.out⟩
    obtain ⟨kn, rfl⟩ : ∃ q : Nat, k = (q : Int) := ⟨k.toNat, by omega⟩
    replace HM : Hid (∀ m G c, (((¬ ∃ j, j < n ∧ (F j).p = p) ∧ NewIs n F p c ∧ c ≠ 0 ∧ m = n ∧ G = F) ∨ (((∃ j, j < n ∧ (F j).p = p) ∨ NewIs n F p 0) ∧ c = 0 ∧ PutIs n F ⟨p, false, wrT t kn s⟩ m G)) → WrP n F p (kn : Int) s m G c) := fun m G c q => HM.out m G c (.inr ⟨(by omega), by rw [Int.toNat_natCast]; exact q⟩)
    go_wp2_with fail
    refine (NW.out _ B1.out).mono ?_
    rintro e v2 ⟨⟨x, rfl, hx⟩, hw⟩
    cases hw
    have HW : Hid (NewIs n F p x) := hx
    clear hx NW
    by_cases h5 : x = 0
    · subst h5
      have y2 := X1.out.c2
      obtain ⟨u2, gc, hcv, hrow, hb2⟩ := bytesOfR t u1
      have R2 : Hid (RowM u2 u1.heap.size t.size gc (strB t)) := hrow
      have B2 : Hid (Below u1.heap.size u1 u2) := hb2
      clear hrow hb2 x1
      go_wp2
      go_loopw [13] (fun v wr => ∃ q g cap : Nat, t.size ≤ q ∧ (q = t.size ∨ q ≤ kn + s.size) ∧ v = .slice (some ⟨g, 0, none⟩) q cap ∧ u1.heap.size ≤ g ∧ RowM wr g q cap (strB t) ∧ Below u1.heap.size u1 wr) (fun v _ => kn + s.size - slLen v)
      case atStart => exact ⟨t.size, _, _, Nat.le_refl _, .inl rfl, rfl, Nat.le_refl _, R2.out, B2.out⟩
      case round =>
        obtain ⟨q, g, cap, hq1, hq2, rfl, hg, hrw, hbw⟩ := hrel
        have HR1 : Hid (RowM wr g q cap (strB t)) := hrw
        have HB1 : Hid (Below u1.heap.size u1 wr) := hbw
        have HG1 : Hid (u1.heap.size ≤ g) := hg
        clear hrw hbw hg hcv y2 R2 B2
        by_cases hlt : q < kn + s.size
        · have hlt2 : (q : Int) < (kn : Int) + (s.size : Int) := by omega
          have hA : Below wr.heap.size wr (wr.alloc (.cells #[.int .u8 0] 5)) := (Below.refl _ _).alloc (Nat.le_refl _) _
          obtain ⟨g3, c3, w3, hap, hr3, hb3, hg3⟩ := appendM (wr.alloc (.cells #[.int .u8 0] 5)) u1.heap.size g q cap (strB t) wr.heap.size 0 1 1 (fun _ => 0) HG1.out (Nat.le_trans HB1.out.size hA.size) (by omega) (HR1.out.below hA) (code8_of (fun i hi => by
            obtain rfl : i = 0 := by omega
            simp)) 22
          have HR3 : Hid (RowM w3 g3 (q + 1) c3 (strB t)) := hr3.congr (cat_zeros t q hq1)
          have HB3 : Hid (Below u1.heap.size u1 w3) := (HB1.out.trans (hA.mono HB1.out.size)).trans hb3
          have HG3 : Hid (u1.heap.size ≤ g3) := hg3
          have HQ : Hid (t.size ≤ q + 1 ∧ (q + 1 = t.size ∨ q + 1 ≤ kn + s.size)) := ⟨by omega, .inr (by omega)⟩
          clear hA hr3 hb3 hg3 hq1 hq2 hlt HR1 HB1 HG1
          go_wp2_with (at_builtin; refine Lib.wpList_append_run _ rfl (.tmp 62) (.tmp 63) 22 22 rfl (.slice (some ⟨g, 0, none⟩) q cap) (.slice (some ⟨wr.heap.size, 0, none⟩) 1 1) rfl rfl _ _ hap ?_)
          go_roundw
          case rel => exact ⟨q + 1, g3, c3, HQ.out.1, HQ.out.2, rfl, HG3.out, HR3.out, HB3.out⟩
          case measure => simp [slLen]; omega
        · have hlt2 : ¬ (q : Int) < (kn : Int) + (s.size : Int) := by omega
          obtain rfl : q = max t.size (kn + s.size) := by omega
          obtain ⟨K, hK⟩ : ∃ K, K = max t.size (kn + s.size) := ⟨_, rfl⟩
          rw [← hK] at HR1 hlt2 hq1 hq2 hlt ⊢
          have HWT : Hid (kstr (pasteF (strB t) kn s s.size) 0 K = wrT t kn s) := by show _ = _; unfold wrT; rw [hK]
          have hKs : kn + s.size ≤ K := by omega
          have HP0 : Hid (RowM wr g K cap (pasteF (strB t) kn s 0)) := HR1.out.congr (fun i hi => by unfold pasteF; rw [if_neg (by omega)])
          have hK2 : K ≤ 200 := by have := HT.out; omega
          clear hK hq1 hq2 HR1
          go_wp2
          go_loopw [14] (fun i ws => ∃ q : Nat, q ≤ s.size ∧ i = .int .i64 q ∧ RowM ws g K cap (pasteF (strB t) kn s q) ∧ Below u1.heap.size u1 ws) (fun i _ => s.size - (intOf i).toNat)
          case atStart => exact ⟨0, by omega, rfl, HP0.out, HB1.out⟩
          case round =>
            obtain ⟨q, hq, rfl, hrw, hbw⟩ := hrel
            have HR4 : Hid (RowM wr g K cap (pasteF (strB t) kn s q)) := hrw
            have HB4 : Hid (Below u1.heap.size u1 wr) := hbw
            clear hrw hbw HP0
            by_cases hls : q < s.size
            · have hls2 : (q : Int) < (s.size : Int) := by omega
              have sb := strB_eq s q hls
              obtain ⟨oo, hoo⟩ : ∃ z, z = kn + q := ⟨_, rfl⟩
              have eo : (kn : Int) + (q : Int) = (oo : Int) := by omega
              have wo : IntKind.i64.wrap (oo : Int) = (oo : Int) := IntWalk.i64_in _ (by omega)
              have hoK : oo < K := by omega
              have hoi : (oo : Int) < (K : Int) := by omega
              have co := HR4.out.2.1 oo hoK
              have fo := (HR4.out.2.2.1 oo (Nat.lt_of_lt_of_le hoK HR4.out.1)).2
              have HR5 : Hid (RowM (wr.setCell ⟨g, oo, none⟩ (.int .u8 (strB s q : Nat))) g K cap (pasteF (strB t) kn s (q + 1))) := (HR4.out.set oo _ hoK).congr (fun i hi => by rw [hoo]; exact paste_step _ _ _ _ i)
              have HB5 : Hid (Below u1.heap.size u1 (wr.setCell ⟨g, oo, none⟩ (.int .u8 (strB s q : Nat)))) := HB4.out.setCell HG1.out _
              have q0 : (0 : Int) ≤ (oo : Int) := by omega
              clear hoo HR4 HB4
              go_wp2
              go_roundw
              case rel => exact ⟨q + 1, by omega, by go_num, HR5.out, HB5.out⟩
              case measure => simp [intOf]; omega
            · obtain rfl : q = s.size := by omega
              have hls2 : ¬ (s.size : Int) < (s.size : Int) := by omega
              have cv := kstr_of_code (c := cap) HR4.out.code
              rw [HWT.out] at cv
              have X5 : Hid (Box3 wr w.heap.size 51 (.string p) (.bool false) (.string t)) := X1.out.below HB4.out
              have B5 : Hid (Below w.heap.size w wr) := B1.out.trans (HB4.out.mono B1.out.size)
              have z2 := X5.out.c2
              have f2 := X5.out.fr 2
              generalize wrT t kn s = tt at *
              clear HR4 HB4 HWT
              go_upto_region 21 with fail
              have BX4 : Hid (Box3 (wr.setCell ⟨w.heap.size, 2, none⟩ (.string tt)) w.heap.size 51 (.string p) (.bool false) (.string tt)) := X5.out.set2 _
              have B6 : Hid (Below w.heap.size w (wr.setCell ⟨w.heap.size, 2, none⟩ (.string tt))) := B5.out.setCell (Nat.le_refl _) _
              clear X5 B5 z2 f2 cv
              generalize wr.setCell ⟨w.heap.size, 2, none⟩ (.string tt) = u4 at *
              have x0 := BX4.out.c0
              have x1 := BX4.out.c1
              have x2 := BX4.out.c2
              go_wp2_with fail
              refine (PT.out tt _ B6.out).mono ?_
              rintro e v7 ⟨⟨a7, m7, c7, G, rfl, he, hpt⟩, hb⟩
              have HR : Hid (Els v7 3 a7 m7 (fiF G) ∧ SlQ Q w.heap.size a7 m7 c7 ∧ WrP n F p (kn : Int) s m7 G 0) := ⟨he.els, he.slq B6.out.size _, HM.out _ _ _ (.inr ⟨.inr HW.out, rfl, hpt⟩)⟩
              have B7 : Hid (Below w.heap.size w v7) := B6.out.trans (hb.mono B6.out.size)
              clear he hpt hb HM PT BX4 B6 x0 x1 x2
              go_wp2
              go_ret2
              exact ⟨⟨_, _, _, G, _, rfl, HR.out⟩, B7.out⟩
    · have g : (x != 0) = true := by simpa using h5
      have HR : Hid (WrP n F p (kn : Int) s n F x) := HM.out _ _ _ (.inl ⟨HNO.out, HW.out, h5, rfl, rfl⟩)
      clear h5 HM
      go_wp2
      go_ret2
      exact ⟨⟨_, _, _, F, _, rfl, H.out.below B1.out, HZ.out, HR.out⟩, B1.out⟩
  · have HE1 : Hid (∃ j, j < n ∧ (F j).p = p) := ⟨j, hj, ej⟩
    have HM : Hid (∀ m G c, (((F j).d = true ∧ c = 17 ∧ m = n ∧ G = F) ∨ ((F j).d = false ∧ (((k < 0 ∨ 200 < k + s.size) ∧ c = 4 ∧ m = n ∧ G = F) ∨ (¬ (k < 0 ∨ 200 < k + s.size) ∧ (((¬ ∃ j, j < n ∧ (F j).p = p) ∧ NewIs n F p c ∧ c ≠ 0 ∧ m = n ∧ G = F) ∨ (((∃ j, j < n ∧ (F j).p = p) ∨ NewIs n F p 0) ∧ c = 0 ∧ PutIs n F ⟨p, false, wrT (F j).t k.toNat s⟩ m G)))))) → WrP n F p k s m G c) := fun m G c q => ⟨F j, .inl ⟨j, hj, ej, rfl⟩, q⟩
    have HT : Hid ((F j).t.size ≤ 200) := (HS.out.2 j hj).1.2.1
    have WB : Below w.heap.size w (w.alloc (.cells #[.string p, .bool false, .string ⟨#[]⟩] 51)) := (Below.refl _ _).alloc (Nat.le_refl _) _
    have BX : Box3 (w.alloc (.cells #[.string p, .bool false, .string ⟨#[]⟩] 51)) w.heap.size 51 (.string p) (.bool false) (.string ⟨#[]⟩) := Box3.made _ _ _ _ _
    obtain ⟨b, off, rfl, hc⟩ := (H.out.below WB).opened (by omega)
    obtain ⟨c0, c1, c2⟩ := Els.fiC hc j hj
    have y0 := BX.c0
    have y1 := BX.c1
    have y2 := BX.c2
    have f0 := BX.fr 0
    have f1 := BX.fr 1
    have f2 := BX.fr 2
    have hlt' : (j : Int) < (n : Int) := by omega
    have h0' : (0 : Int) ≤ (j : Int) := by omega
    have h0'' : ¬ (j : Int) < 0 := by omega
    rw [ej] at c0
    clear WB BX hc ej hfst
    obtain ⟨u1, hu1⟩ : ∃ u, u = w.alloc (.cells #[.string p, .bool (F j).d, .string (F j).t] 51) := ⟨_, rfl⟩
    have X1 : Hid (Box3 u1 w.heap.size 51 (.string p) (.bool (F j).d) (.string (F j).t)) := by show Box3 _ _ _ _ _ _; rw [hu1]; exact Box3.made _ _ _ _ _
    have B1 : Hid (Below w.heap.size w u1) := by show Below _ _ _; rw [hu1]; exact (Below.refl _ _).alloc (Nat.le_refl _) _
    have S1 : Hid (u1.heap.size = w.heap.size + 1) := by show _ = _; rw [hu1]; simp
    have HU1 : Hid (w.alloc (.cells #[.string p, .bool (F j).d, .string (F j).t] 51) = u1) := hu1.symm
    clear hu1
    go_upto_region 5 with fail
    rw [HU1.out]
    clear HU1
    have x1 := X1.out.c1
    clear c0 c1 c2 y0 y1 y2 f0 f1 f2
    generalize (F j).t = t at *
    generalize (F j).d = yd at *
    cases yd with
    | true =>
      have HR : Hid (WrP n F p k s n F 17) := HM.out _ _ _ (.inl ⟨rfl, rfl, rfl, rfl⟩)
      clear HM
      go_wp2
      go_ret2
      exact ⟨⟨_, _, _, F, _, rfl, H.out.below B1.out, HZ.out, HR.out⟩, B1.out⟩
    | false =>
      replace HM : Hid (∀ m G c, (((k < 0 ∨ 200 < k + s.size) ∧ c = 4 ∧ m = n ∧ G = F) ∨ (¬ (k < 0 ∨ 200 < k + s.size) ∧ (((¬ ∃ j, j < n ∧ (F j).p = p) ∧ NewIs n F p c ∧ c ≠ 0 ∧ m = n ∧ G = F) ∨ (((∃ j, j < n ∧ (F j).p = p) ∨ NewIs n F p 0) ∧ c = 0 ∧ PutIs n F ⟨p, false, wrT t k.toNat s⟩ m G)))) → WrP n F p k s m G c) := fun m G c q => HM.out m G c (.inr ⟨rfl, q⟩)
      by_cases h2 : k < 0
      · skip
        have HR : Hid (WrP n F p k s n F 4) := HM.out _ _ _ (.inl ⟨.inl h2, rfl, rfl, rfl⟩)
        clear HM
        go_wp2
        go_ret2
        exact ⟨⟨_, _, _, F, _, rfl, H.out.below B1.out, HZ.out, HR.out⟩, B1.out⟩
      by_cases h3 : 200 < k
      · skip
        have HR : Hid (WrP n F p k s n F 4) := HM.out _ _ _ (.inl ⟨.inr (by omega), rfl, rfl, rfl⟩)
        clear HM
        go_wp2
        go_ret2
        exact ⟨⟨_, _, _, F, _, rfl, H.out.below B1.out, HZ.out, HR.out⟩, B1.out⟩
      have wr2 : IntKind.i64.wrap (k + (s.size : Int)) = k + (s.size : Int) := IntWalk.i64_in _ (by omega)
      by_cases h4 : 200 < k + (s.size : Int)
      · skip
        have HR : Hid (WrP n F p k s n F 4) := HM.out _ _ _ (.inl ⟨.inr h4, rfl, rfl, rfl⟩)
        clear HM
        go_wp2
        go_ret2
        exact ⟨⟨_, _, _, F, _, rfl, H.out.below B1.out, HZ.out, HR.out⟩, B1.out⟩
      obtain ⟨kn, rfl⟩ : ∃ q : Nat, k = (q : Int) := ⟨k.toNat, by omega⟩
      replace HM : Hid (∀ m G c, (((¬ ∃ j, j < n ∧ (F j).p = p) ∧ NewIs n F p c ∧ c ≠ 0 ∧ m = n ∧ G = F) ∨ (((∃ j, j < n ∧ (F j).p = p) ∨ NewIs n F p 0) ∧ c = 0 ∧ PutIs n F ⟨p, false, wrT t kn s⟩ m G)) → WrP n F p (kn : Int) s m G c) := fun m G c q => HM.out m G c (.inr ⟨(by omega), by rw [Int.toNat_natCast]; exact q⟩)
      go_upto_region 13 with fail
      have y2 := X1.out.c2
      obtain ⟨u2, gc, hcv, hrow, hb2⟩ := bytesOfR t u1
      have R2 : Hid (RowM u2 u1.heap.size t.size gc (strB t)) := hrow
      have B2 : Hid (Below u1.heap.size u1 u2) := hb2
      clear hrow hb2 x1
      go_wp2
      go_loopw [13] (fun v wr => ∃ q g cap : Nat, t.size ≤ q ∧ (q = t.size ∨ q ≤ kn + s.size) ∧ v = .slice (some ⟨g, 0, none⟩) q cap ∧ u1.heap.size ≤ g ∧ RowM wr g q cap (strB t) ∧ Below u1.heap.size u1 wr) (fun v _ => kn + s.size - slLen v)
      case atStart => exact ⟨t.size, _, _, Nat.le_refl _, .inl rfl, rfl, Nat.le_refl _, R2.out, B2.out⟩
      case round =>
        obtain ⟨q, g, cap, hq1, hq2, rfl, hg, hrw, hbw⟩ := hrel
        have HR1 : Hid (RowM wr g q cap (strB t)) := hrw
        have HB1 : Hid (Below u1.heap.size u1 wr) := hbw
        have HG1 : Hid (u1.heap.size ≤ g) := hg
        clear hrw hbw hg hcv y2 R2 B2
        by_cases hlt : q < kn + s.size
        · have hlt2 : (q : Int) < (kn : Int) + (s.size : Int) := by omega
          have hA : Below wr.heap.size wr (wr.alloc (.cells #[.int .u8 0] 5)) := (Below.refl _ _).alloc (Nat.le_refl _) _
          obtain ⟨g3, c3, w3, hap, hr3, hb3, hg3⟩ := appendM (wr.alloc (.cells #[.int .u8 0] 5)) u1.heap.size g q cap (strB t) wr.heap.size 0 1 1 (fun _ => 0) HG1.out (Nat.le_trans HB1.out.size hA.size) (by omega) (HR1.out.below hA) (code8_of (fun i hi => by
            obtain rfl : i = 0 := by omega
            simp)) 22
          have HR3 : Hid (RowM w3 g3 (q + 1) c3 (strB t)) := hr3.congr (cat_zeros t q hq1)
          have HB3 : Hid (Below u1.heap.size u1 w3) := (HB1.out.trans (hA.mono HB1.out.size)).trans hb3
          have HG3 : Hid (u1.heap.size ≤ g3) := hg3
          have HQ : Hid (t.size ≤ q + 1 ∧ (q + 1 = t.size ∨ q + 1 ≤ kn + s.size)) := ⟨by omega, .inr (by omega)⟩
          clear hA hr3 hb3 hg3 hq1 hq2 hlt HR1 HB1 HG1
          go_wp2_with (at_builtin; refine Lib.wpList_append_run _ rfl (.tmp 62) (.tmp 63) 22 22 rfl (.slice (some ⟨g, 0, none⟩) q cap) (.slice (some ⟨wr.heap.size, 0, none⟩) 1 1) rfl rfl _ _ hap ?_)
          go_roundw
          case rel => exact ⟨q + 1, g3, c3, HQ.out.1, HQ.out.2, rfl, HG3.out, HR3.out, HB3.out⟩
          case measure => simp [slLen]; omega
        · have hlt2 : ¬ (q : Int) < (kn : Int) + (s.size : Int) := by omega
          obtain rfl : q = max t.size (kn + s.size) := by omega
          obtain ⟨K, hK⟩ : ∃ K, K = max t.size (kn + s.size) := ⟨_, rfl⟩
          rw [← hK] at HR1 hlt2 hq1 hq2 hlt ⊢
          have HWT : Hid (kstr (pasteF (strB t) kn s s.size) 0 K = wrT t kn s) := by show _ = _; unfold wrT; rw [hK]
          have hKs : kn + s.size ≤ K := by omega
          have HP0 : Hid (RowM wr g K cap (pasteF (strB t) kn s 0)) := HR1.out.congr (fun i hi => by unfold pasteF; rw [if_neg (by omega)])
          have hK2 : K ≤ 200 := by have := HT.out; omega
          clear hK hq1 hq2 HR1
          go_wp2
          go_loopw [14] (fun i ws => ∃ q : Nat, q ≤ s.size ∧ i = .int .i64 q ∧ RowM ws g K cap (pasteF (strB t) kn s q) ∧ Below u1.heap.size u1 ws) (fun i _ => s.size - (intOf i).toNat)
          case atStart => exact ⟨0, by omega, rfl, HP0.out, HB1.out⟩
          case round =>
            obtain ⟨q, hq, rfl, hrw, hbw⟩ := hrel
            have HR4 : Hid (RowM wr g K cap (pasteF (strB t) kn s q)) := hrw
            have HB4 : Hid (Below u1.heap.size u1 wr) := hbw
            clear hrw hbw HP0
            by_cases hls : q < s.size
            · have hls2 : (q : Int) < (s.size : Int) := by omega
              have sb := strB_eq s q hls
              obtain ⟨oo, hoo⟩ : ∃ z, z = kn + q := ⟨_, rfl⟩
              have eo : (kn : Int) + (q : Int) = (oo : Int) := by omega
              have wo : IntKind.i64.wrap (oo : Int) = (oo : Int) := IntWalk.i64_in _ (by omega)
              have hoK : oo < K := by omega
              have hoi : (oo : Int) < (K : Int) := by omega
              have co := HR4.out.2.1 oo hoK
              have fo := (HR4.out.2.2.1 oo (Nat.lt_of_lt_of_le hoK HR4.out.1)).2
              have HR5 : Hid (RowM (wr.setCell ⟨g, oo, none⟩ (.int .u8 (strB s q : Nat))) g K cap (pasteF (strB t) kn s (q + 1))) := (HR4.out.set oo _ hoK).congr (fun i hi => by rw [hoo]; exact paste_step _ _ _ _ i)
              have HB5 : Hid (Below u1.heap.size u1 (wr.setCell ⟨g, oo, none⟩ (.int .u8 (strB s q : Nat)))) := HB4.out.setCell HG1.out _
              have q0 : (0 : Int) ≤ (oo : Int) := by omega
              clear hoo HR4 HB4
              go_wp2
              go_roundw
              case rel => exact ⟨q + 1, by omega, by go_num, HR5.out, HB5.out⟩
              case measure => simp [intOf]; omega
            · obtain rfl : q = s.size := by omega
              have hls2 : ¬ (s.size : Int) < (s.size : Int) := by omega
              have cv := kstr_of_code (c := cap) HR4.out.code
              rw [HWT.out] at cv
              have X5 : Hid (Box3 wr w.heap.size 51 (.string p) (.bool false) (.string t)) := X1.out.below HB4.out
              have B5 : Hid (Below w.heap.size w wr) := B1.out.trans (HB4.out.mono B1.out.size)
              have z2 := X5.out.c2
              have f2 := X5.out.fr 2
              generalize wrT t kn s = tt at *
              clear HR4 HB4 HWT
              go_upto_region 21 with fail
              have BX4 : Hid (Box3 (wr.setCell ⟨w.heap.size, 2, none⟩ (.string tt)) w.heap.size 51 (.string p) (.bool false) (.string tt)) := X5.out.set2 _
              have B6 : Hid (Below w.heap.size w (wr.setCell ⟨w.heap.size, 2, none⟩ (.string tt))) := B5.out.setCell (Nat.le_refl _) _
              clear X5 B5 z2 f2 cv
              generalize wr.setCell ⟨w.heap.size, 2, none⟩ (.string tt) = u4 at *
              have x0 := BX4.out.c0
              have x1 := BX4.out.c1
              have x2 := BX4.out.c2
              go_wp2_with fail
              refine (PT.out tt _ B6.out).mono ?_
              rintro e v7 ⟨⟨a7, m7, c7, G, rfl, he, hpt⟩, hb⟩
              have HR : Hid (Els v7 3 a7 m7 (fiF G) ∧ SlQ Q w.heap.size a7 m7 c7 ∧ WrP n F p (kn : Int) s m7 G 0) := ⟨he.els, he.slq B6.out.size _, HM.out _ _ _ (.inr ⟨.inl HE1.out, rfl, hpt⟩)⟩
              have B7 : Hid (Below w.heap.size w v7) := B6.out.trans (hb.mono B6.out.size)
              clear he hpt hb HM PT BX4 B6 x0 x1 x2
              go_wp2
              go_ret2
              exact ⟨⟨_, _, _, G, _, rfl, HR.out⟩, B7.out⟩
end Go.Proofs.YtgcdoabcopihlaaGreat
