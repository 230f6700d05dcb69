/-
  WriteFile (written by tools/mkwr.py).
-/
import Derived.Test.YtendfgepmjgldabFileRd
import Derived.Test.YtendfgepmjgldabSizT
namespace Go.Proofs.Ytendfgepmjgldab
open Go.ChangeShapes Go.WideShapes Go.ChangeAt Go.RowKit Go.Shelf
set_option linter.unusedVariables false
/-- A text with another written into it at a place, zeros between. -/
def wrT (t : ByteArray) (o : Nat) (s : ByteArray) : ByteArray := kstr (pasteF (strB t) o s s.size) 0 (max t.size (o + s.size))
/-- What l11Write does. -/
def WrP (n : Nat) (F : Nat → Fi) (p : ByteArray) (k : Int) (s : ByteArray) (m : Nat) (G : Nat → Fi) (c : Int) : Prop :=
  ∃ y, FindIs n F p y ∧ ((y.d = true ∧ c = 17 ∧ m = n ∧ G = F) ∨ (y.d = false ∧ (((k < 0 ∨ 200 < k + s.size) ∧ c = 4 ∧ m = n ∧ G = F) ∨ (¬ (k < 0 ∨ 200 < k + s.size) ∧
    (((¬ ∃ j, j < n ∧ (F j).p = p) ∧ NewIs n F p c ∧ c ≠ 0 ∧ m = n ∧ G = F) ∨ (((∃ j, j < n ∧ (F j).p = p) ∨ NewIs n F p 0) ∧ c = 0 ∧ PutIs n F ⟨p, false, wrT y.t k.toNat s⟩ m G))))))
/-- What WriteFile does. -/
def WrIs (n : Nat) (F : Nat → Fi) (p : ByteArray) (k : Int) (s : ByteArray) (m : Nat) (G : Nat → Fi) (c : Int) : Prop :=
  (65536 < s.size ∧ c = 2 ∧ m = 0) ∨ (¬ 65536 < s.size ∧ ((FtIs n F 1 (fun _ => p) c ∧ c ≠ 0 ∧ m = 0) ∨ (FtIs n F 1 (fun _ => p) 0 ∧ WrP n F p k s m G c)))
theorem WrP.uniq {n : Nat} {F : Nat → Fi} {p : ByteArray} {k : Int} {s : ByteArray} {m m' : Nat} {G G' : Nat → Fi} {c c' : Int} (hs : Srt n F) (h : WrP n F p k s m G c) (h' : WrP n F p k s m' G' c') : m = m' ∧ c = c' ∧ ∀ i, i < m → G i = G' i := by
  obtain ⟨y, hy, h⟩ := h
  obtain ⟨y', hy', h'⟩ := h'
  obtain rfl := hy.uniq hs hy'
  rcases h with ⟨e, rfl, rfl, rfl⟩ | ⟨e, ⟨r, rfl, rfl, rfl⟩ | ⟨r, ⟨q, a, b, rfl, rfl⟩ | ⟨q, rfl, hG⟩⟩⟩ <;> rcases h' with ⟨e', rfl, rfl, rfl⟩ | ⟨e', ⟨r', rfl, rfl, rfl⟩ | ⟨r', ⟨q', a', b', rfl, rfl⟩ | ⟨q', rfl, hG'⟩⟩⟩
  · exact ⟨rfl, rfl, fun _ _ => rfl⟩
  · rw [e] at e'; cases e'
  · rw [e] at e'; cases e'
  · rw [e] at e'; cases e'
  · rw [e] at e'; cases e'
  · exact ⟨rfl, rfl, fun _ _ => rfl⟩
  · exact absurd r r'
  · exact absurd r r'
  · rw [e] at e'; cases e'
  · exact absurd r' r
  · exact ⟨rfl, a.uniq hs a', fun _ _ => rfl⟩
  · rcases q' with z | z
    · exact absurd z q
    · exact absurd (a.uniq hs z) b
  · rw [e] at e'; cases e'
  · exact absurd r' r
  · rcases q with z | z
    · exact absurd z q'
    · exact absurd (a'.uniq hs z) b'
  · have := hG.uniq hs hG'
    exact ⟨this.1, rfl, this.2⟩
theorem WrP.le {n : Nat} {F : Nat → Fi} {p : ByteArray} {k : Int} {s : ByteArray} {m : Nat} {G : Nat → Fi} {c : Int} (h : WrP n F p k s m G c) : m ≤ n + 1 := by
  obtain ⟨y, hy, h⟩ := h
  rcases h with ⟨e, rfl, rfl, rfl⟩ | ⟨e, ⟨r, rfl, rfl, rfl⟩ | ⟨r, ⟨q, a, b, rfl, rfl⟩ | ⟨q, rfl, hG⟩⟩⟩
  · omega
  · omega
  · omega
  · exact hG.le
theorem WrIs.uniq {n : Nat} {F : Nat → Fi} {p : ByteArray} {k : Int} {s : ByteArray} {m m' : Nat} {G G' : Nat → Fi} {c c' : Int} (h : WrIs n F p k s m G c) (h' : WrIs n F p k s m' G' c') : m = m' ∧ c = c' ∧ ∀ i, i < m → G i = G' i := by
  rcases h with ⟨z, rfl, rfl⟩ | ⟨z, ⟨a, b, rfl⟩ | ⟨a, q⟩⟩ <;> rcases h' with ⟨z', rfl, rfl⟩ | ⟨z', ⟨a', b', rfl⟩ | ⟨a', q'⟩⟩
  · exact ⟨rfl, rfl, fun i hi => absurd hi (by omega)⟩
  · exact absurd z z'
  · exact absurd z z'
  · exact absurd z' z
  · exact ⟨rfl, a.uniq a', fun i hi => absurd hi (by omega)⟩
  · exact absurd (a.uniq a') b
  · exact absurd z' z
  · exact absurd (a'.uniq a) b'
  · exact q.uniq a.ok.1.srt q'
theorem WrIs.bound {n : Nat} {F : Nat → Fi} {p : ByteArray} {k : Int} {s : ByteArray} {m : Nat} {G : Nat → Fi} {c : Int} (h : WrIs n F p k s m G c) : m ≤ 13 := by
  rcases h with ⟨z, rfl, rfl⟩ | ⟨z, ⟨a, b, rfl⟩ | ⟨a, q⟩⟩
  · omega
  · omega
  · have := a.ok.1.1
    have := q.le
    omega
theorem find_t {n : Nat} {F : Nat → Fi} (h : FsOk n F) {p : ByteArray} {y : Fi} (hy : FindIs n F p y) : y.t.size ≤ 200 := by
  rcases hy with ⟨j, hj, _, rfl⟩ | ⟨_, rfl⟩
  · exact (h.2 j hj).1.2.1
  · show (0 : Nat) ≤ 200
    omega
/-- b[at:] of a row of bytes. -/
theorem u8_elemW : Try.prog.elem 58 = 5 := by kernel_rfl
theorem u8_underW : Try.prog.underlying 58 = some (.slice (Try.prog.elem 58)) := by rw [u8_elemW]; exact Try.underlying58
theorem u8_sizeOfW (w : World) : (sizeOf (Try.prog.elem 58)).run Try.prog w = .ok 1 w := by
  obtain ⟨i, hi, hz, hsz, hby⟩ := info_parts Try.info8
  simp [sizeOf, typeInfo, u8_elemW, hi, hsz]
/-- copy(b[at:], s): where it lies, and what the row is behind it. -/
theorem copyAt (w : World) (B g K o : Nat) (F : Nat → Nat) (s : ByteArray) (hB : B ≤ g) (hK : o + s.size ≤ K) (hm : K ≤ maxLen) (h : RowM w g K K F) :
    ∃ (a : Option Addr) (x : Int) (w' : World), (∀ w : World, (Instr.slice 58 (.slice (some ⟨g, 0, none⟩) K K) (some (.int .i64 (o : Int))) none none).run Try.prog w = .ok (.slice a (K - o) (K - o)) w) ∧
      (∀ ty, (Builtin.copy_ #[58, 9] ty #[.slice a (K - o) (K - o), .string s]).run Try.prog w = .ok (.int .i64 x) w') ∧ RowM w' g K K (pasteF F o s s.size) ∧ Below B w w' := by
  have SP : SlP (some (⟨g, 0, none⟩ : Addr)) K K := ⟨(fun e => by cases e), .inr ⟨_, _, rfl⟩, Nat.le_refl _, hm⟩
  have hcut := run_cut_from (P := Try.prog) 58 u8_underW 1 u8_sizeOfW SP o (by omega)
  by_cases e : K = o
  · have hs0 : s.size = 0 := by omega
    obtain ⟨x, w', hr, hR, hb⟩ := copyM w B g K K 0 (K - o) (K - o) 0 F s hB (by omega) (by rw [hs0]; exact (Nat.zero_min _).symm) h
    refine ⟨some ⟨g, 0, none⟩, x, w', fun w => ?_, hr, hR.congr (fun i hi => ?_), hb⟩
    · have := hcut w
      unfold cutA at this
      rw [if_pos e] at this
      exact this
    · rw [hs0]
      unfold pasteF
      rw [if_neg (by omega), if_neg (by omega)]
  · obtain ⟨x, w', hr, hR, hb⟩ := copyM w B g K K o (K - o) (K - o) s.size F s hB (by omega) (by exact (Nat.min_eq_left (by omega)).symm) h
    refine ⟨some ⟨g, o, none⟩, x, w', fun w => ?_, hr, hR, hb⟩
    have := hcut w
    unfold cutA at this
    rw [if_neg e] at this
    rw [this]
    show Result.ok (Value.slice (some (Addr.add ⟨g, 0, none⟩ (o * 1))) _ _) _ = _
    rw [Go.WideShapes.add_plain, Nat.zero_add, Nat.mul_one]
set_option maxRecDepth 100000 in
set_option maxHeartbeats 4000000 in
theorem implWr_any (a : Option Addr) (n c : Nat) (F : Nat → Fi) (p : ByteArray) (k : Int) (s : ByteArray) (hsz : ∀ i, i < n → (F i).p.size ≤ 1048576) (hnn : n ≤ 1048576) (hsl : SlP a n c) (w : World) (h : Els w 3 a n (fiF F)) :
    Calls Try.prog 19 #[.slice a n c, .string p, .int .i64 k, .string s] w fun e w' => (∃ m G cd, WrIs n F p k s m G cd ∧ RetFs m G cd w.heap.size e w') ∧ Below w.heap.size w w' := by
  by_cases hl : 65536 < s.size
  · have HM : Hid (WrIs n F p k s 0 F 2) := .inl ⟨hl, rfl, rfl⟩
    have g1 : (65536 : Int) < (s.size : Int) := by omega
    clear h hsz hl
    go_enter Try.func19, Try.ntmps19
    go_wp2
    go_ret2
    exact ⟨⟨_, _, _, HM.out, retFs_nil _ _ _ _⟩, Below.refl _ _⟩
  have gl : ¬ (65536 : Int) < (s.size : Int) := by omega
  have HSL : Hid (¬ 65536 < s.size) := hl
  obtain ⟨v1, hv1⟩ : ∃ v, v = w.alloc (.cells #[.string p] 9) := ⟨_, rfl⟩
  have A1 : Below w.heap.size w v1 := by rw [hv1]; exact (Below.refl _ _).alloc (Nat.le_refl _) _
  have FF : Hid (Calls Try.prog 38 #[.slice a n c, .slice (some ⟨w.heap.size, 0, none⟩) 1 1] v1 fun e w' => (∃ x : Int, e = .returned (.int .i64 x) ∧ FtIs n F 1 (fun _ => p) x) ∧ Below v1.heap.size v1 w') := filesFault_any a n c F _ 1 1 (fun _ => p) hsz hnn hsl (by omega) v1 (h.below A1) (by rw [hv1]; exact strs_lit w p)
  have HA : Hid (Below w.heap.size w v1) := A1
  have HV : Hid (v1 = w.alloc (.cells #[.string p] 9)) := hv1
  have H : Hid (Els w 3 a n (fiF F)) := h
  clear h hsz A1 hv1 hl
  go_enter Try.func19, Try.ntmps19
  go_wp2_with fail
  rw [← HV.out]
  clear HV
  refine (Calls.mono FF.out) ?_
  rintro e v2 ⟨⟨x, rfl, hx⟩, hb⟩
  have B2 : Hid (Below w.heap.size w v2) := HA.out.trans (hb.mono HA.out.size)
  have HX : Hid (FtIs n F 1 (fun _ => p) x) := hx
  clear hx hb FF HA
  by_cases h0 : x = 0
  · subst h0
    obtain ⟨ho, hp, hn4, -⟩ := HX.out.ok
    have hP := hp 0 (by omega)
    have TH : Hid (∀ w' : World, Below w.heap.size w w' → Calls Try.prog 40 #[.slice a n c, .string p] w' fun e w'' => Says e (∃ j, j < n ∧ (F j).p = p) ∧ Below w'.heap.size w' w'') := fun w' hb => isThere_any a n c F p ho.srt hP.1 hnn w' (H.out.below hb)
    have NF : Hid (∀ w' : World, Below w.heap.size w w' → Calls Try.prog 41 #[.slice a n c, .string p] w' fun e w'' => (∃ x : Int, e = .returned (.int .i64 x) ∧ NewIs n F p x) ∧ Below w'.heap.size w' w'') := fun w' hb => newFault_any a n c F p ho.srt hP.1 hnn w' (H.out.below hb)
    have FN : Hid (∀ w' : World, Below w.heap.size w w' → Calls Try.prog 45 #[.slice a n c, .string p, .func (.func 32) #[] #[]] w' fun e w'' => (∃ y : Fi, e = .returned (.agg #[.string y.p, .bool y.d, .string y.t]) ∧ FindIs n F p y) ∧ Below w'.heap.size w' w'') := fun w' hb => findF_any a n c F p ho.srt hP.1 hnn w' (H.out.below hb)
    have CL : Hid (∀ w' : World, Below w.heap.size w w' → Calls Try.prog 39 #[.slice a n c] w' fun e w'' => RetFi n F w'.heap.size e w'' ∧ Below w'.heap.size w' w'') := fun w' hb => cloneFi_any a n c F w' (by omega) (H.out.below hb) (fun e => by have := hsl.z e; have := hsl.le; omega)
    have PT : Hid (∀ (t : ByteArray) (b : Option Addr) (d : Nat) (w' : World), w.heap.size ≤ w'.heap.size → EO w' w.heap.size 45 3 (.slice b n d) n (fiF F) → Calls Try.prog 42 #[.slice b n d, .string p, .agg #[.string p, .bool false, .string t], .func (.func 32) #[] #[]] w' fun e w'' => RetPut n F ⟨p, false, t⟩ w.heap.size e w'' ∧ Below w.heap.size w' w'') := fun t b d w' hB hh => putF_any w.heap.size b n d F ⟨p, false, t⟩ ho.srt hP.1 (by omega) w' hB hh
    have HS : Hid (FsOk n F) := ho
    clear ho hp hn4 hP
    go_wp2_with fail
    refine (CL.out _ B2.out).mono ?_
    rintro e v3 ⟨⟨b, d, rfl, he⟩, hb⟩
    have B3 : Hid (Below w.heap.size w v3) := B2.out.trans (hb.mono B2.out.size)
    have E3 : Hid (EO v3 w.heap.size 45 3 (.slice b n d) n (fiF F)) := he.mono B2.out.size
    clear he hb CL B2
    go_wp2_with fail
    refine (FN.out _ B3.out).mono ?_
    rintro e v4 ⟨⟨y, rfl, hy⟩, hb⟩
    have HY : Hid (FindIs n F p y) := hy
    have HT : Hid (y.t.size ≤ 200) := find_t HS.out hy
    obtain ⟨v5, hv5⟩ : ∃ v, v = v4.alloc (.cells #[.string y.p, .bool y.d, .string y.t] 45) := ⟨_, rfl⟩
    have hb5 : Below v4.heap.size v4 v5 := by rw [hv5]; exact (Below.refl _ _).alloc (Nat.le_refl _) _
    have X5 : Hid (Box3 v5 v4.heap.size 45 (.string y.p) (.bool y.d) (.string y.t)) := by show Box3 _ _ _ _ _ _; rw [hv5]; exact Box3.made _ _ _ _ _
    have HV5 : Hid (v4.alloc (.cells #[.string y.p, .bool y.d, .string y.t] 45) = v5) := hv5.symm
    have B5 : Hid (Below w.heap.size w v5) := (B3.out.trans (hb.mono B3.out.size)).trans (hb5.mono (by have := B3.out.size; have := hb.size; omega))
    have E5 : Hid (EO v5 w.heap.size 45 3 (.slice b n d) n (fiF F)) := (E3.out.below hb).below hb5
    have HM : Hid (∀ m G c, ((y.d = true ∧ c = 17 ∧ m = n ∧ G = F) ∨ (y.d = false ∧ (((k < 0 ∨ 200 < k + s.size) ∧ c = 4 ∧ m = n ∧ G = F) ∨ (¬ (k < 0 ∨ 200 < k + s.size) ∧ (((¬ ∃ j, j < n ∧ (F j).p = p) ∧ NewIs n F p c ∧ c ≠ 0 ∧ m = n ∧ G = F) ∨ (((∃ j, j < n ∧ (F j).p = p) ∨ NewIs n F p 0) ∧ c = 0 ∧ PutIs n F ⟨p, false, wrT y.t k.toNat s⟩ m G)))))) → WrIs n F p k s m G c) := fun m G c q => .inr ⟨HSL.out, .inr ⟨HX.out, y, HY.out, q⟩⟩
    clear hy hb hb5 hv5 FN B3 E3 HX HY HSL HS
    obtain ⟨yp, yd, yt⟩ := y
    dsimp only at *
    go_upto_region 8 with fail
    rw [HV5.out]
    clear HV5
    generalize v4.heap.size = bx at *
    have x0 := X5.out.c0
    have x1 := X5.out.c1
    have x2 := X5.out.c2
    cases yd with
    | true =>
      have HR : Hid (WrIs n F p k s n F 17) := HM.out _ _ _ (.inl ⟨rfl, rfl, rfl, rfl⟩)
      clear HM
      go_wp2
      go_ret2
      exact ⟨⟨_, _, _, HR.out, ⟨_, _, rfl, E5.out⟩⟩, B5.out⟩
    | false =>
    have wr1 : IntKind.i64.wrap (200 - (s.size : Int)) = 200 - (s.size : Int) := IntWalk.i64_in _ (by omega)
    by_cases h2 : k < 0
    · have HR : Hid (WrIs n F p k s n F 4) := HM.out _ _ _ (.inr ⟨rfl, .inl ⟨.inl h2, rfl, rfl, rfl⟩⟩)
      clear HM
      go_wp2
      go_ret2
      exact ⟨⟨_, _, _, HR.out, ⟨_, _, rfl, E5.out⟩⟩, B5.out⟩
    by_cases h3 : 200 - (s.size : Int) < k
    · have HR : Hid (WrIs n F p k s n F 4) := HM.out _ _ _ (.inr ⟨rfl, .inl ⟨.inr (by omega), rfl, rfl, rfl⟩⟩)
      clear HM
      go_wp2
      go_ret2
      exact ⟨⟨_, _, _, HR.out, ⟨_, _, rfl, E5.out⟩⟩, B5.out⟩
    obtain ⟨kn, rfl⟩ : ∃ q : Nat, k = (q : Int) := ⟨k.toNat, by omega⟩
    replace HM : Hid (∀ m G c, (((¬ ∃ j, j < n ∧ (F j).p = p) ∧ NewIs n F p c ∧ c ≠ 0 ∧ m = n ∧ G = F) ∨ (((∃ j, j < n ∧ (F j).p = p) ∨ NewIs n F p 0) ∧ c = 0 ∧ PutIs n F ⟨p, false, wrT yt kn s⟩ m G)) → WrIs n F p (kn : Int) s m G c) := fun m G c q => HM.out m G c (.inr ⟨rfl, .inr ⟨(by omega), by rw [Int.toNat_natCast]; exact q⟩⟩)
    obtain ⟨K, hK⟩ : ∃ K, K = max yt.size (kn + s.size) := ⟨_, rfl⟩
    have hKi : (K : Int) = max (yt.size : Int) ((kn : Int) + (s.size : Int)) := by omega
    have hts := HT.out
    have hK2 : K ≤ 200 := by omega
    have SZ : Hid (∀ w' : World, Calls Try.prog 46 #[.string yt, .int .i64 (max (yt.size : Int) ((kn : Int) + (s.size : Int)))] w' fun e w'' => RetZ w'.heap.size w'' e K (strB yt) ∧ Below w'.heap.size w' w'') := fun w' => by rw [← hKi]; exact sized_any yt K (by omega) w'
    have wr2 : IntKind.i64.wrap ((kn : Int) + (s.size : Int)) = (kn : Int) + (s.size : Int) := IntWalk.i64_in _ (by omega)
    have WT : Hid (kstr (pasteF (strB yt) kn s s.size) 0 K = wrT yt kn s) := by show _ = _; unfold wrT; rw [hK]
    have HKK : Hid (kn + s.size ≤ K) := by show _ ≤ _; omega
    have hkk2 : (kn : Int) ≤ 200 - (s.size : Int) := by omega
    -- behind the checks
    have REST : ∀ v6 : World, Hid (Below w.heap.size w v6) → Hid (EO v6 w.heap.size 45 3 (.slice b n d) n (fiF F)) → ∀ v7 : World, Below v6.heap.size v6 v7 → ∀ g, RowM v7 g K K (strB yt) → v6.heap.size ≤ g → ∃ (ac : Option Addr) (xx : Int) (v8 : World), Hid (∀ w : World, (Instr.slice 58 (.slice (some ⟨g, 0, none⟩) K K) (some (.int .i64 (kn : Int))) none none).run Try.prog w = .ok (.slice ac (K - kn) (K - kn)) w) ∧ Hid (∀ ty, (Builtin.copy_ #[58, 9] ty #[.slice ac (K - kn) (K - kn), .string s]).run Try.prog v7 = .ok (.int .i64 xx) v8) ∧ Hid ((convert 58 9 (.slice (some ⟨g, 0, none⟩) K K)).run Try.prog v8 = .ok (.string (wrT yt kn s)) v8) ∧ Hid (Below w.heap.size w v8) ∧ Hid (EO v8 w.heap.size 45 3 (.slice b n d) n (fiF F)) := fun v6 B6 E6 v7 hb g hr hg => by
      obtain ⟨ac, xx, v8, q1, q2, q3, q4⟩ := copyAt v7 v6.heap.size g K kn (strB yt) s hg HKK.out (by unfold maxLen; omega) hr
      refine ⟨ac, xx, v8, q1, q2, ?_, ?_, ?_⟩
      · show _ = _
        rw [← WT.out]
        exact kstr_of_code (c := K) q3.code
      · show Below _ _ _
        exact (B6.out.trans (hb.mono B6.out.size)).trans (q4.mono B6.out.size)
      · show EO _ _ _ _ _ _ _
        exact (E6.out.below (hb.trans q4))
    generalize wrT yt kn s = tt at *
    clear hK hKi WT HKK HT hts
    go_wp2_with fail
    refine (TH.out _ B5.out).mono ?_
    rintro e v6 ⟨⟨z, rfl, hz⟩, hb⟩
    have B6 : Hid (Below w.heap.size w v6) := B5.out.trans (hb.mono B5.out.size)
    have E6 : Hid (EO v6 w.heap.size 45 3 (.slice b n d) n (fiF F)) := E5.out.below hb
    have X6 : Hid (Box3 v6 bx 45 (.string yp) (.bool false) (.string yt)) := X5.out.below hb
    have HZ : Hid (z = true ↔ ∃ j, j < n ∧ (F j).p = p) := hz
    clear hz hb x0 x1 x2 B5 E5 X5 TH
    cases z with
    | true =>
      have HE1 : Hid (∃ j, j < n ∧ (F j).p = p) := HZ.out.1 rfl
      clear HZ
      have x2 := X6.out.c2
      go_wp2_with fail
      refine (SZ.out _).mono ?_
      rintro e v8 ⟨⟨g, rfl, hg, hrow⟩, hb⟩
      obtain ⟨ac, xx, v9, q1, q2, q3, B9, E9⟩ := REST _ B6 E6 v8 hb g hrow hg
      clear hrow hb hg x2 REST SZ X6 B6 E6
      have r1 := q1.out
      have r2 := q2.out
      have r3 := q3.out
      clear q1 q2 q3
      have kk : (0 : Int) ≤ (kn : Int) := by omega
      go_upto_region 18 with (at_builtin; refine wpList_copy_runI _ rfl (.tmp 67) (.tmp 68) 58 9 rfl (.slice ac (K - kn) (K - kn)) (.string s) rfl rfl (r2 _) ?_)
      clear r1 r2
      go_wp2_with fail
      refine (PT.out tt b d _ B9.out.size E9.out).mono ?_
      rintro e v10 ⟨⟨a9, m9, c9, G, rfl, he, hpt⟩, hb⟩
      have HR : Hid (WrIs n F p (kn : Int) s m9 G 0) := HM.out _ _ _ (.inr ⟨.inl HE1.out, rfl, hpt⟩)
      have HE : Hid (EO v10 w.heap.size 45 3 (.slice a9 m9 c9) m9 (fiF G)) := he
      have B10 : Hid (Below w.heap.size w v10) := B9.out.trans hb
      clear he hpt hb r3 HM PT B9 E9
      go_wp2
      go_ret2
      exact ⟨⟨_, _, _, HR.out, ⟨_, _, rfl, HE.out⟩⟩, B10.out⟩
    | false =>
      have HN : Hid (¬ ∃ j, j < n ∧ (F j).p = p) := fun q => by have := HZ.out.2 q; cases this
      clear HZ
      go_wp2_with fail
      refine (NF.out _ B6.out).mono ?_
      rintro e v7 ⟨⟨x, rfl, hx⟩, hb⟩
      have B7 : Hid (Below w.heap.size w v7) := B6.out.trans (hb.mono B6.out.size)
      have E7 : Hid (EO v7 w.heap.size 45 3 (.slice b n d) n (fiF F)) := E6.out.below hb
      have X7 : Hid (Box3 v7 bx 45 (.string yp) (.bool false) (.string yt)) := X6.out.below hb
      have HW : Hid (NewIs n F p x) := hx
      clear hx hb B6 E6 X6 NF
      by_cases h5 : x = 0
      · subst h5
        have x2 := X7.out.c2
        go_wp2_with fail
        refine (SZ.out _).mono ?_
        rintro e v8 ⟨⟨g, rfl, hg, hrow⟩, hb⟩
        obtain ⟨ac, xx, v9, q1, q2, q3, B9, E9⟩ := REST _ B7 E7 v8 hb g hrow hg
        clear hrow hb hg x2 REST SZ X7 B7 E7
        have r1 := q1.out
        have r2 := q2.out
        have r3 := q3.out
        clear q1 q2 q3
        have kk : (0 : Int) ≤ (kn : Int) := by omega
        go_upto_region 18 with (at_builtin; refine wpList_copy_runI _ rfl (.tmp 67) (.tmp 68) 58 9 rfl (.slice ac (K - kn) (K - kn)) (.string s) rfl rfl (r2 _) ?_)
        clear r1 r2
        go_wp2_with fail
        refine (PT.out tt b d _ B9.out.size E9.out).mono ?_
        rintro e v10 ⟨⟨a9, m9, c9, G, rfl, he, hpt⟩, hb⟩
        have HR : Hid (WrIs n F p (kn : Int) s m9 G 0) := HM.out _ _ _ (.inr ⟨.inr HW.out, rfl, hpt⟩)
        have HE : Hid (EO v10 w.heap.size 45 3 (.slice a9 m9 c9) m9 (fiF G)) := he
        have B10 : Hid (Below w.heap.size w v10) := B9.out.trans hb
        clear he hpt hb r3 HM PT B9 E9
        go_wp2
        go_ret2
        exact ⟨⟨_, _, _, HR.out, ⟨_, _, rfl, HE.out⟩⟩, B10.out⟩
      · have g : (x != 0) = true := by simpa using h5
        have HR : Hid (WrIs n F p (kn : Int) s n F x) := HM.out _ _ _ (.inl ⟨HN.out, HW.out, h5, rfl, rfl⟩)
        clear h5 HM
        go_wp2
        go_ret2
        exact ⟨⟨_, _, _, HR.out, ⟨_, _, rfl, E7.out⟩⟩, B7.out⟩
  · have g : (x != 0) = true := by simpa using h0
    have HM : Hid (WrIs n F p k s 0 F x) := .inr ⟨HSL.out, .inl ⟨HX.out, h0, rfl⟩⟩
    clear h0
    go_wp2
    go_ret2
    exact ⟨⟨_, _, _, HM.out, retFs_nil _ _ _ _⟩, B2.out⟩
end Go.Proofs.Ytendfgepmjgldab
