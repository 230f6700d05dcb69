/-
  The text of files, line by line: the mathematics of FnText.
-/
import Derived.Test.YtglfhajfbdjjcaaT10
import Derived.Test.YtglfhajfbdjjcaaT05
import Derived.Test.YtglfhajfbdjjcaaT09
namespace Go.Proofs.Ytglfhajfbdjjcaa
open Go.ChangeShapes Go.WideShapes Go.ChangeAt Go.RowKit
set_option linter.unusedVariables false
theorem byteAt_ext (s : ByteArray) (o i k : Nat) (hk : o + k < i) : byteAt (s.extract o i) k = byteAt s (o + k) := by
  rw [byteAt_L, byteAt_L, toL_ext, List.getElem?_drop, List.getElem?_take, if_pos hk]
theorem scan_bytes (s : ByteArray) (o i : Nat) (h : ∀ x ∈ scan s o i, Nm x) (ho : o ≤ i) (hi : i ≤ s.size) : ∀ k, o ≤ k → k < s.size → byteAt s k = 47 ∨ okc (byteAt s k) = true := by
  intro k hk hks
  by_cases hl : i < s.size
  · by_cases e : byteAt s i = 47
    · rw [scan_hit s o i hl e] at h
      rcases Nat.lt_trichotomy k i with q | q | q
      · have hn := h _ (List.mem_cons_self ..)
        have := hn.2.2.2 (k - o) (by rw [extract_size _ _ _ (by omega)]; omega)
        rw [byteAt_ext _ _ _ _ (by omega), show o + (k - o) = k by omega] at this
        exact .inr this
      · subst q; exact .inl e
      · exact scan_bytes s (i + 1) (i + 1) (fun x hx => h x (List.mem_cons_of_mem _ hx)) (Nat.le_refl _) (by omega) k (by omega) hks
    · rw [scan_on s o i hl e] at h
      exact scan_bytes s o (i + 1) h (by omega) (by omega) k hk hks
  · rw [scan_end s o i (by omega)] at h
    have hn := h _ (List.mem_singleton.2 rfl)
    have := hn.2.2.2 (k - o) (by rw [extract_size _ _ _ (Nat.le_refl _)]; omega)
    rw [byteAt_ext _ _ _ _ (by omega), show o + (k - o) = k by omega] at this
    exact .inr this
termination_by s.size - i
theorem PathOk.noEnd {s : ByteArray} (h : PathOk s) : ∀ k, k < s.size → byteAt s k ≠ 10 := fun k hk e => by
  rcases scan_bytes s 0 0 h.2 (Nat.le_refl _) (Nat.zero_le _) k (Nat.zero_le _) hk with q | q
  · rw [e] at q; exact absurd q (by decide)
  · rw [e] at q; exact absurd q (by decide)
theorem filT_pre (F : Nat → Fi) {i : Nat} : ∀ {n : Nat}, i ≤ n → ∃ r, filT F n = filT F i ++ r
  | 0, h => by
    obtain rfl : i = 0 := by omega
    exact ⟨⟨#[]⟩, rfl⟩
  | n + 1, h => by
    rcases Nat.eq_or_lt_of_le h with e | e
    · subst e
      exact ⟨⟨#[]⟩, toL_inj (by rw [toL_app]; simp)⟩
    · obtain ⟨r, hr⟩ := filT_pre F (i := i) (n := n) (by omega)
      refine ⟨r ++ (F n).p ++ lnT (F n), ?_⟩
      rw [filT_succ, hr]
      refine toL_inj ?_
      simp only [toL_app, List.append_assoc]
/-- A file's line. -/
def linT (x : Fi) : ByteArray := x.p ++ lnT x
theorem filT_line (F : Nat → Fi) {i n : Nat} (h : i < n) : ∃ r, filT F n = filT F i ++ linT (F i) ++ r := by
  obtain ⟨r, hr⟩ := filT_pre F (i := i + 1) (n := n) h
  refine ⟨r, ?_⟩
  rw [hr, filT_succ]
  refine toL_inj ?_
  simp only [linT, toL_app, List.append_assoc]
theorem filT_step (F : Nat → Fi) (i : Nat) : (filT F (i + 1)).size = (filT F i).size + (linT (F i)).size := by
  rw [filT_succ]; unfold linT; simp only [ByteArray.size_append]; omega
/-- A line's bytes: no end of line but the last. -/
theorem lnT_bytes {x : Fi} (hd : ∀ k, k < x.t.size → byteAt x.t k ≠ 10) : 2 ≤ (lnT x).size ∧ byteAt (lnT x) ((lnT x).size - 1) = 10 ∧ ∀ k, k < (lnT x).size - 1 → byteAt (lnT x) k ≠ 10 := by
  unfold lnT
  split
  · refine ⟨by decide, by decide, fun k hk => ?_⟩
    have : k = 0 := by have : (⟨#[47, 10]⟩ : ByteArray).size = 2 := rfl; omega
    subst this
    decide
  · have hs : ((⟨#[32]⟩ : ByteArray) ++ x.t).size = 1 + x.t.size := by rw [ByteArray.size_append]; rfl
    have hs2 : ((⟨#[32]⟩ : ByteArray) ++ x.t ++ (⟨#[10]⟩ : ByteArray)).size = 1 + x.t.size + 1 := by rw [ByteArray.size_append, hs]; rfl
    refine ⟨by omega, ?_, fun k hk => ?_⟩
    · rw [hs2, show 1 + x.t.size + 1 - 1 = ((⟨#[32]⟩ : ByteArray) ++ x.t).size + 0 by omega, byteAt_appR]
      decide
    · rw [byteAt_appL _ _ _ (by omega)]
      rcases Nat.eq_zero_or_pos k with z | z
      · subst z
        rw [byteAt_appL _ _ _ (by decide)]
        decide
      · obtain ⟨t, rfl⟩ : ∃ t, k = (⟨#[32]⟩ : ByteArray).size + t := ⟨k - 1, by show k = 1 + (k - 1); omega⟩
        rw [byteAt_appR]
        exact hd t (by have : (⟨#[32]⟩ : ByteArray).size = 1 := rfl; omega)
theorem linT_bytes {x : Fi} (hp : PathOk x.p) (hd : ∀ k, k < x.t.size → byteAt x.t k ≠ 10) : x.p.size + 2 ≤ (linT x).size ∧ byteAt (linT x) ((linT x).size - 1) = 10 ∧ ∀ k, k < (linT x).size - 1 → byteAt (linT x) k ≠ 10 := by
  obtain ⟨h1, h2, h3⟩ := lnT_bytes hd
  have hs : (linT x).size = x.p.size + (lnT x).size := by unfold linT; rw [ByteArray.size_append]
  refine ⟨by omega, ?_, fun k hk => ?_⟩
  · rw [hs, show x.p.size + (lnT x).size - 1 = x.p.size + ((lnT x).size - 1) by omega]
    unfold linT
    rw [byteAt_appR]
    exact h2
  · rcases Nat.lt_or_ge k x.p.size with q | q
    · unfold linT
      rw [byteAt_appL _ _ _ q]
      exact hp.noEnd k q
    · obtain ⟨t, rfl⟩ : ∃ t, k = x.p.size + t := ⟨k - x.p.size, by omega⟩
      unfold linT
      rw [byteAt_appR]
      exact h3 t (by omega)
/-- What FnText asks of the text: from where a file's line begins. -/
theorem filT_facts {F : Nat → Fi} {i n : Nat} (h : i < n) (hp : PathOk (F i).p) (hd : ∀ k, k < (F i).t.size → byteAt (F i).t k ≠ 10) :
    (filT F i).size + (F i).p.size < (filT F n).size ∧ (filT F n).extract (filT F i).size ((filT F i).size + (F i).p.size) = (F i).p ∧ (filT F i).size + 1 ≤ (filT F (i + 1)).size ∧ (filT F (i + 1)).size ≤ (filT F n).size ∧ byteAt (filT F n) ((filT F (i + 1)).size - 1) = 10 ∧ ∀ k, (filT F i).size ≤ k → k < (filT F (i + 1)).size - 1 → byteAt (filT F n) k ≠ 10 := by
  obtain ⟨r, hr⟩ := filT_line F h
  obtain ⟨h1, h2, h3⟩ := linT_bytes hp hd
  have hst := filT_step F i
  have hs : (filT F n).size = (filT F i).size + (linT (F i)).size + r.size := by rw [hr, ByteArray.size_append, ByteArray.size_append]
  generalize filT F n = T at *
  generalize filT F (i + 1) = U at *
  generalize filT F i = S at *
  have hb : ∀ t, t < (linT (F i)).size → byteAt T (S.size + t) = byteAt (linT (F i)) t := fun t ht => by
    rw [hr, byteAt_appL _ _ _ (by rw [ByteArray.size_append]; omega), byteAt_appR]
  refine ⟨by omega, ?_, by omega, by omega, ?_, fun k hk hk2 => ?_⟩
  · rw [hr, extract_appL _ _ _ _ (by rw [ByteArray.size_append]; omega)]
    have := extract_appR S (linT (F i)) 0 (F i).p.size
    rw [Nat.add_zero] at this
    rw [this]
    unfold linT
    rw [extract_appL _ _ _ _ (Nat.le_refl _)]
    exact ByteArray.extract_zero_size
  · rw [hst, show S.size + (linT (F i)).size - 1 = S.size + ((linT (F i)).size - 1) by omega, hb _ (by omega)]
    exact h2
  · obtain ⟨t, rfl⟩ : ∃ t, k = S.size + t := ⟨k - S.size, by omega⟩
    rw [hb _ (by omega)]
    exact h3 t (by omega)
end Go.Proofs.Ytglfhajfbdjjcaa

/-
  The law FnText.
-/
namespace Go.Proofs.Ytglfhajfbdjjcaa
open Go.ChangeShapes Go.WideShapes Go.ChangeAt Go.RowKit
set_option linter.unusedVariables false
/-- No end of line among the first q bytes. -/
def NoEndT (t : ByteArray) (q : Nat) : Prop := ∀ y, y < q → byteAt t y ≠ 10
/-- No end of line in the first k files. -/
def NoEnd (F : Nat → Fi) (k : Nat) : Prop := ∀ x, x < k → NoEndT (F x).t (F x).t.size
theorem NoEndT.next {t : ByteArray} {q : Nat} (h : NoEndT t q) (e : byteAt t q ≠ 10) : NoEndT t (q + 1) := fun y hy => by
  by_cases g : y = q
  · subst g; exact e
  · exact h y (by omega)
theorem NoEnd.next {F : Nat → Fi} {k : Nat} (h : NoEnd F k) (e : NoEndT (F k).t (F k).t.size) : NoEnd F (k + 1) := fun x hx => by
  by_cases g : x = k
  · subst g; exact e
  · exact h x (by omega)
set_option maxRecDepth 100000 in
set_option maxHeartbeats 4000000 in
theorem law_fnText (a0 : Option Addr) (l0 c0 : Nat) (z0 : Nat → Nat) (hm0 : l0 ≤ maxLen) (hz0 : ∀ i, z0 i < 256) (w : World) (hv0 : Code8 w a0 l0 z0) :
    Calls Try.prog 4 #[.slice a0 l0 c0] w fun e w' => e = .returned (.bool true) ∧ Below w.heap.size w w' := by
  by_cases b0 : 1048576 < l0
  · have bb0 : (1048576 : Int) < (l0 : Int) := by omega
    clear hv0 hm0 hz0
    go_enter Try.func4, Try.ntmps4
    go_wp2
    go_ret
    exact ⟨rfl, Below.refl _ _⟩
  · have bb0 : ¬ (1048576 : Int) < (l0 : Int) := by omega
    have FO : Hid (Calls Try.prog 14 #[.slice a0 l0 c0] w fun e w' => (∃ (o : Option Addr) (m c : Nat) (F : Nat → Fi), e = .returned (.slice o m c) ∧ FsOk m F ∧ EO w' w.heap.size 33 3 (.slice o m c) m (fiF F)) ∧ Below w.heap.size w w') := filesOf_ex a0 l0 c0 z0 hz0 hm0 w hv0
    clear hv0 hz0 hm0 b0
    go_enter Try.func4, Try.ntmps4
    go_wp2_with fail
    refine FO.out.mono ?_
    rintro e w1 ⟨⟨o, n, c, F, rfl, hF, hE⟩, hb1⟩
    have hn : n ≤ 12 := hF.1
    have hTx : TxIs n F (filT F n) 0 := .inr ⟨by omega, .inr ⟨hF, rfl, rfl⟩⟩
    have HI : Hid (∀ u : World, Below w1.heap.size w1 u → Calls Try.prog 12 #[.slice o n c] u fun e w' => e = .returned (.tuple #[.string (filT F n), .int .i64 0]) ∧ Below u.heap.size u w') := by
      intro u hu
      refine (implTx_any o n c F (fun i hi => by have := (hF.2 i hi).1.1.1; omega) (by omega) hE.slp u (hE.els.below hu)).mono ?_
      rintro e w' ⟨⟨t, cd, ht, rfl⟩, hb⟩
      obtain ⟨rfl, rfl⟩ := ht.uniq hTx
      exact ⟨rfl, hb⟩
    have HS : Hid (∀ u : World, Below w1.heap.size w1 u → Calls Try.prog 10 #[.slice o n c] u fun e w' => e = .returned (.tuple #[.string (filT F n), .int .i64 0]) ∧ Below u.heap.size u w') := by
      intro u hu
      refine (specTx_any o n c F (fun i hi => by have := (hF.2 i hi).1.1.1; omega) (by omega) u (hE.els.below hu)).mono ?_
      rintro e w' ⟨⟨t, cd, ht, rfl⟩, hb⟩
      obtain ⟨rfl, rfl⟩ := ht.uniq hTx
      exact ⟨rfl, hb⟩
    have HE : Hid (Els w1 3 o n (fiF F)) := hE.els
    have HF : Hid (FsOk n F) := hF
    have HB1 : Hid (Below w.heap.size w w1) := hb1
    have hts : (filT F n).size ≤ 242 * n := filT_le (fun i hi => (hF.2 i hi).1)
    obtain ⟨T, hT⟩ : ∃ T, T = filT F n := ⟨_, rfl⟩
    have HT : Hid (T = filT F n) := hT
    rw [← hT] at HI HS hts
    have ts : T.size ≤ 3000 := by omega
    clear hE hF hb1 FO hT hTx hts
    go_wp2_with fail
    refine (HI.out _ (Below.refl _ _)).mono ?_
    rintro e w2 ⟨rfl, hb2⟩
    have B2 : Hid (Below w1.heap.size w1 w2) := hb2
    clear hb2 HI
    go_wp2_with fail
    refine (HS.out _ B2.out).mono ?_
    rintro e w3 ⟨rfl, hb3⟩
    have HE3 : Hid (Els w3 3 o n (fiF F)) := HE.out.below (B2.out.trans (hb3.mono B2.out.size))
    have B3 : Hid (Below w.heap.size w w3) := HB1.out.trans ((B2.out.trans (hb3.mono B2.out.size)).mono HB1.out.size)
    clear hb3 HS B2 HE HB1
    go_wp2_with fail
    go_loopw [9] (fun i wr => ∃ k : Nat, k ≤ n ∧ i = .int .i64 k ∧ w3 = wr ∧ NoEnd F k) (fun i _ => n - (intOf i).toNat)
    case atStart => exact ⟨0, by omega, rfl, rfl, fun x hx => absurd hx (by omega)⟩
    case round =>
      obtain ⟨k, hk, rfl, rfl, hN⟩ := hrel
      have HN : Hid (NoEnd F k) := hN
      clear hN
      by_cases hlt : k < n
      · have hlt' : (k : Int) < (n : Int) := by omega
        obtain ⟨b, off, rfl, hc⟩ := HE3.out.opened (by omega)
        obtain ⟨d0, d1, d2⟩ := Els.fiC hc k hlt
        clear hc
        have HX : Hid (∀ t, t = (F k).t → NoEndT t t.size → NoEnd F (k + 1)) := fun t e h => HN.out.next (by rw [← e]; exact h)
        have hto : (F k).t.size ≤ 200 := (HF.out.2 k hlt).1.2.1
        obtain ⟨t, ht⟩ : ∃ t, t = (F k).t := ⟨_, rfl⟩
        have HTT : Hid (t = (F k).t) := ht
        rw [← ht] at d2 hto
        clear ht d0 d1 HN
        go_wp2_with fail
        go_loopw [10] (fun j wr => ∃ q : Nat, q ≤ t.size ∧ j = .int .i64 q ∧ w3 = wr ∧ NoEndT t q) (fun j _ => t.size - (intOf j).toNat)
        case atStart => exact ⟨0, by omega, rfl, rfl, fun x hx => absurd hx (by omega)⟩
        case round =>
          obtain ⟨q, hq, rfl, rfl, hM⟩ := hrel
          have HM : Hid (NoEndT t q) := hM
          clear hM
          by_cases hq2 : q < t.size
          · have hq3 : (q : Int) < (t.size : Int) := by omega
            have e0 := byteAt_eq t q hq2
            by_cases he : byteAt t q = 10
            · have g0 : (byteAt t q == 10) = true := by simp [he]
              clear he
              go_wp2
              go_ret
              exact ⟨rfl, B3.out⟩
            · have g0 : (byteAt t q == 10) = false := by simpa using he
              have HM2 : Hid (NoEndT t (q + 1)) := HM.out.next he
              clear he
              go_wp2
              go_roundw
              case rel => exact ⟨q + 1, by omega, by go_num, trivial, HM2.out⟩
              case measure => simp [intOf]; omega
          · obtain rfl : q = t.size := by omega
            have hq3 : ¬ (t.size : Int) < (t.size : Int) := by omega
            have HN2 : Hid (NoEnd F (k + 1)) := HX.out t HTT.out HM.out
            clear HM HX
            go_wp2
            go_roundw
            case rel => exact ⟨k + 1, by omega, by go_num, trivial, HN2.out⟩
            case measure => simp [intOf]; omega
      · obtain rfl : k = n := by omega
        have hlt' : ¬ (k : Int) < (k : Int) := by omega
        go_wp2_with fail
        go_loopw [8, 11] (fun kv iv wr => ∃ i : Nat, i ≤ k ∧ iv = .int .i64 i ∧ kv = .int .i64 ((filT F i).size : Nat) ∧ w3 = wr) (fun _ iv _ => k - (intOf iv).toNat)
        case atStart => exact ⟨0, by omega, rfl, rfl, rfl⟩
        case round =>
          obtain ⟨i, hi, rfl, rfl, rfl⟩ := hrel
          by_cases hil : i < k
          · have hil' : (i : Int) < (k : Int) := by omega
            obtain ⟨b, off, rfl, hc⟩ := HE3.out.opened (by omega)
            obtain ⟨d0, d1, d2⟩ := Els.fiC hc i hil
            have FX := filT_facts hil (HF.out.2 i hil).1.1 (HN.out i hil)
            have hps : (F i).p.size ≤ 40 := (HF.out.2 i hil).1.1.1
            rw [← HT.out] at FX
            clear hc d1 d2
            generalize (F i).p = p at *
            obtain ⟨S, hS⟩ : ∃ S, S = (filT F i).size := ⟨_, rfl⟩
            obtain ⟨U, hU⟩ : ∃ U, U = (filT F (i + 1)).size := ⟨_, rfl⟩
            rw [← hS, ← hU] at FX
            rw [← hS]
            have HU : Hid (U = (filT F (i + 1)).size) := hU
            obtain ⟨f1, f2, f3, f4, f5, f6⟩ := FX
            have HF6 : Hid (∀ k, S ≤ k → k < U - 1 → byteAt T k ≠ 10) := f6
            have HF5 : Hid (byteAt T (U - 1) = 10) := f5
            clear hS hU f5 f6
            have i1 : ¬ (T.size : Int) ≤ (S : Int) + (p.size : Int) := by omega
            have i2 : (S : Int) + (p.size : Int) ≤ (T.size : Int) := by omega
            have i3 : (S : Int) ≤ (S : Int) + (p.size : Int) := by omega
            have i4 : (0 : Int) ≤ (S : Int) := by omega
            have i5 : (0 : Int) ≤ (S : Int) + (p.size : Int) := by omega
            have i6 : ((S : Int) + (p.size : Int)).toNat = S + p.size := by omega
            go_wp2_with fail
            go_loopw [8] (fun kv wr => ∃ q : Nat, S ≤ q ∧ q ≤ U - 1 ∧ kv = .int .i64 q ∧ w3 = wr) (fun kv _ => U - (intOf kv).toNat)
            case atStart => exact ⟨S, by omega, by omega, rfl, rfl⟩
            case round =>
              obtain ⟨q, hq1, hq2, rfl, rfl⟩ := hrel
              have hqT : q < T.size := by omega
              have hq3 : (q : Int) < (T.size : Int) := by omega
              have e0 := byteAt_eq T q hqT
              by_cases hqu : q < U - 1
              · have he := HF6.out q hq1 hqu
                have g0 : (byteAt T q == 10) = false := by simpa using he
                have g1 : (byteAt T q != 10) = true := by simpa using he
                clear he
                go_wp2
                go_roundw
                case rel => exact ⟨q + 1, by omega, by omega, by go_num, trivial⟩
                case measure => simp [intOf]; omega
              · obtain rfl : q = U - 1 := by omega
                have he := HF5.out
                have g0 : (byteAt T (U - 1) == 10) = true := by simp [he]
                have g1 : (byteAt T (U - 1) != 10) = false := by simp [he]
                clear he
                have HK : Hid (((U - 1 : Nat) : Int) + 1 = (U : Int)) := by show ((U - 1 : Nat) : Int) + 1 = (U : Int); omega
                go_wp2
                go_roundw
                case rel => exact ⟨i + 1, by omega, by go_num, by rw [← HU.out]; exact numEqK HK.out, trivial⟩
                case measure => simp [intOf]; omega
          · obtain rfl : i = k := by omega
            have hil' : ¬ (i : Int) < (i : Int) := by omega
            rw [← HT.out]
            go_wp2
            go_ret
            exact ⟨rfl, B3.out⟩
end Go.Proofs.Ytglfhajfbdjjcaa
