/-
  ListDir of the model.
-/
import Derived.Test.YtglfhajfbdjjcaaFileLs
import Derived.Test.YtglfhajfbdjjcaaTxE
namespace Go.Proofs.Ytglfhajfbdjjcaa
open Go.ChangeShapes Go.WideShapes Go.ChangeAt Go.RowKit
set_option linter.unusedVariables false
/-- The name of a file in a directory. -/
def chT (x : Fi) (p : ByteArray) : ByteArray := if x.d then x.p.extract (aheadT p).size x.p.size ++ ⟨#[47]⟩ else x.p.extract (aheadT p).size x.p.size
/-- The names in a directory. -/
noncomputable def lsL (F : Nat → Fi) (p : ByteArray) : Nat → List ByteArray
  | 0 => []
  | k + 1 => open Classical in if par (F k).p = p then lsL F p k ++ [chT (F k) p] else lsL F p k
theorem lsL_yes {F : Nat → Fi} {p : ByteArray} {k : Nat} (h : par (F k).p = p) : lsL F p (k + 1) = lsL F p k ++ [chT (F k) p] := by
  show (open Classical in if par (F k).p = p then lsL F p k ++ [chT (F k) p] else lsL F p k) = _
  rw [if_pos h]
theorem lsL_no {F : Nat → Fi} {p : ByteArray} {k : Nat} (h : ¬ par (F k).p = p) : lsL F p (k + 1) = lsL F p k := by
  show (open Classical in if par (F k).p = p then lsL F p k ++ [chT (F k) p] else lsL F p k) = _
  rw [if_neg h]
theorem lsL_le (F : Nat → Fi) (p : ByteArray) : ∀ k, (lsL F p k).length ≤ k
  | 0 => Nat.le_refl _
  | k + 1 => by
    have := lsL_le F p k
    by_cases h : par (F k).p = p
    · rw [lsL_yes h, List.length_append]; simp; omega
    · rw [lsL_no h]; omega
theorem EO.pxCongr {w : World} {B : Nat} {v : Value} {n : Nat} {f g : Nat → ByteArray} (h : EO w B 9 1 v n (pxF f)) (e : ∀ i, i < n → f i = g i) : EO w B 9 1 v n (pxF g) := h.congr (fun i hi j hj => by unfold pxF; rw [e i hi])
/-- One more name. -/
theorem appName {v1 wr : World} {a : Option Addr} {q c : Nat} {L : List ByteArray} (x : ByteArray) (hq : q = L.length) (hl : q ≤ 1000) (h : EO wr v1.heap.size 9 1 (.slice a q c) q (pxF (nthT L))) (hb : Below v1.heap.size v1 wr) :
    ∃ a' c' w', (∀ ty, (Builtin.append_ #[35, 35] ty #[.slice a q c, .slice (some ⟨wr.heap.size, 0, none⟩) 1 1]).run Try.prog (wr.alloc (.cells #[.string x] 9)) = .ok (.slice a' (q + 1) c') w') ∧ EO w' v1.heap.size 9 1 (.slice a' (q + 1) c') (q + 1) (pxF (nthT (L ++ [x]))) ∧ Below v1.heap.size v1 w' := by
  have hsz := hb.size
  have WB : Below wr.heap.size wr (wr.alloc (.cells #[.string x] 9)) := (Below.refl _ _).alloc (Nat.le_refl _) _
  obtain ⟨v', w', hr, ho, hg, hloc⟩ := appPx (wr.alloc (.cells #[.string x] 9)) v1.heap.size _ q wr.heap.size (nthT L) x (by simp; omega) (by omega) (h.below WB) (fun j hj => by
    obtain rfl : j = 0 := by omega
    simp [pxV])
  obtain ⟨a', c', rfl⟩ := ho.form
  refine ⟨a', c', w', hr, ho.pxCongr (fun i hi => ?_), ?_⟩
  · subst hq; exact nthT_snoc L x i hi
  · exact (hb.trans (WB.mono (by omega))).grown hg (by simp; omega) (fun g e => (h.ge g e).1)
set_option maxRecDepth 100000 in
set_option maxHeartbeats 2000000 in
theorem l11List_any (a : Option Addr) (n c : Nat) (F : Nat → Fi) (p : ByteArray) (hok : ∀ i, i < n → PathOk (F i).p) (hn : n ≤ 12) (hp : p.size ≤ 40) (v1 : World) (h : Els v1 3 a n (fiF F)) :
    Calls Try.prog 48 #[.slice a n c, .string p] v1 fun e w' => (∃ a' c', e = .returned (.slice a' (lsL F p n).length c') ∧ EO w' v1.heap.size 9 1 (.slice a' (lsL F p n).length c') (lsL F p n).length (pxF (nthT (lsL F p n)))) ∧ Below v1.heap.size v1 w' := by
  have H1 : Hid (Els v1 3 a n (fiF F)) := h
  have HO : Hid (∀ i, i < n → PathOk (F i).p) := hok
  have PA : Hid (∀ i, i < n → ∀ w : World, Calls Try.prog 82 #[.string (F i).p] w fun e w' => e = .returned (.string (par (F i).p)) ∧ w' = w) := fun i hi => l11Parent_any _ (by have := (hok i hi).1; omega)
  have L0 : Hid (EO (v1.alloc (.cells #[] 9)) v1.heap.size 9 1 (.slice (some ⟨v1.heap.size, 0, none⟩) 0 0) 0 (pxF (nthT []))) := EO.lit v1 v1.heap.size _ 1 (Nat.le_refl _) _
  have LB : Hid (Below v1.heap.size v1 (v1.alloc (.cells #[] 9))) := (Below.refl _ _).alloc (Nat.le_refl _) _
  clear h hok
  go_enter Try.func48, Try.ntmps48
  go_wp2
  go_loopw [5, 6] (fun v i wr => ∃ (k q cc : Nat) (aa : Option Addr), k ≤ n ∧ v = .slice aa q cc ∧ i = .int .i64 k ∧ q = (lsL F p k).length ∧ EO wr v1.heap.size 9 1 (.slice aa q cc) q (pxF (nthT (lsL F p k))) ∧ Below v1.heap.size v1 wr) (fun _ i _ => n - (intOf i).toNat)
  case atStart => exact ⟨0, 0, 0, _, by omega, rfl, rfl, rfl, L0.out, LB.out⟩
  case round =>
    obtain ⟨k, q, cc, aa, hk, rfl, rfl, hq, ho, hb⟩ := hrel
    have HE : Hid (EO wr v1.heap.size 9 1 (.slice aa q cc) q (pxF (nthT (lsL F p k)))) := ho
    have HB : Hid (Below v1.heap.size v1 wr) := hb
    have HQ : Hid (q = (lsL F p k).length) := hq
    have hq12 : q ≤ 12 := by have := lsL_le F p k; omega
    clear ho hb hq L0 LB
    by_cases hlt : k < n
    · have hlt' : (k : Int) < (n : Int) := by omega
      obtain ⟨b, off, rfl, hc⟩ := (H1.out.below HB.out).opened (by omega)
      obtain ⟨c0, c1, c2⟩ := Els.fiC hc k hlt
      have hP := HO.out k hlt
      have hps := hP.1
      have PK : Hid (∀ w : World, Calls Try.prog 82 #[.string (F k).p] w fun e w' => e = .returned (.string (par (F k).p)) ∧ w' = w) := PA.out k hlt
      by_cases hpar : par (F k).p = p
      · have hpi := (par_iff hP).1 hpar
        have HL : Hid (lsL F p (k + 1) = lsL F p k ++ [chT (F k) p]) := lsL_yes hpar
        have g1 : ((par (F k).p).toList == p.toList) = true := by rw [hpar]; simp
        have Q3 : Hid (q + 1 = (lsL F p (k + 1)).length) := by show _ = _; rw [HL.out, List.length_append, HQ.out]; rfl
        have REST : ∀ X, chT (F k) p = X → ∃ a3 c3 u3, Hid (∀ ty, (Builtin.append_ #[35, 35] ty #[.slice aa q cc, .slice (some ⟨wr.heap.size, 0, none⟩) 1 1]).run Try.prog (wr.alloc (.cells #[.string X] 9)) = .ok (.slice a3 (q + 1) c3) u3) ∧ Hid (EO u3 v1.heap.size 9 1 (.slice a3 (q + 1) c3) (q + 1) (pxF (nthT (lsL F p (k + 1))))) ∧ Hid (Below v1.heap.size v1 u3) := fun X hX => by
          obtain ⟨a3, c3, u3, r3, o3, b3⟩ := appName (chT (F k) p) HQ.out (by omega) HE.out HB.out
          rw [← HL.out] at o3
          rw [hX] at r3
          exact ⟨a3, c3, u3, r3, o3, b3⟩
        have hah : (aheadT p).size ≤ (F k).p.size := hpi.1.1
        have CHD : Hid True := trivial
        generalize par (F k).p = pk at *
        clear hpi hP hc HL HQ HE HB
        by_cases e0 : p.size = 0
        · have hp0 : p = ⟨#[]⟩ := by
            apply ByteArray.ext
            apply Array.ext'
            have : p.data.toList.length = 0 := by rw [Array.length_toList]; exact e0
            exact List.length_eq_zero_iff.1 this
          have hx : (F k).p.extract (aheadT p).size (F k).p.size = (F k).p := by
            rw [show (aheadT p).size = 0 by unfold aheadT; rw [if_pos e0]; rfl]
            exact ByteArray.extract_zero_size
          subst hp0
          subst hpar
          cases hd : (F k).d with
          | false =>
            have CX : chT (F k) ⟨#[]⟩ = (F k).p := by unfold chT; rw [hd, hx]; rfl
            obtain ⟨a3, c3, u3, r3, O3, B3⟩ := REST _ CX
            rw [hd] at c1
            clear REST CX hd hx CHD
            go_wp2_with fail
            refine (PK.out _).mono ?_
            rintro e w1 ⟨rfl, hw⟩
            cases hw
            clear PK
            go_wp2_with (at_builtin; refine Lib.wpList_append_run _ rfl (.tmp 42) (.tmp 44) 35 35 rfl (.slice aa q cc) (.slice (some ⟨wr.heap.size, 0, none⟩) 1 1) rfl rfl _ _ (r3.out _) ?_)
            go_roundw
            case rel => exact ⟨k + 1, q + 1, c3, a3, by omega, rfl, by go_num, Q3.out, O3.out, B3.out⟩
            case measure => simp [intOf]; omega
          | true =>
            have CX : chT (F k) ⟨#[]⟩ = (F k).p ++ (⟨#[47]⟩ : ByteArray) := by unfold chT; rw [hd, hx]; rfl
            obtain ⟨a3, c3, u3, r3, O3, B3⟩ := REST _ CX
            rw [hd] at c1
            have hjn : (F k).p.size + 1 ≤ 9223372036854775807 := by omega
            have hjn2 : ¬ 9223372036854775807 < (F k).p.size + 1 := by omega
            clear REST CX hd hx CHD
            go_wp2_with fail
            refine (PK.out _).mono ?_
            rintro e w1 ⟨rfl, hw⟩
            cases hw
            clear PK
            go_wp2_with (at_builtin; refine Lib.wpList_append_run _ rfl (.tmp 42) (.tmp 44) 35 35 rfl (.slice aa q cc) (.slice (some ⟨wr.heap.size, 0, none⟩) 1 1) rfl rfl _ _ (r3.out _) ?_)
            go_roundw
            case rel => exact ⟨k + 1, q + 1, c3, a3, by omega, rfl, by go_num, Q3.out, O3.out, B3.out⟩
            case measure => simp [intOf]; omega
        · clear hpar
          have ha1 : (aheadT p).size = p.size + 1 := by unfold aheadT; rw [if_neg e0, size_sl]
          have hx : (F k).p.extract (aheadT p).size (F k).p.size = (F k).p.extract (p.size + 1) (F k).p.size := by rw [ha1]
          have ge := textEmpty (q := p) (by omega)
          have ge2 := textEmpty2 (q := p) (by omega)
          have wr1 : IntKind.i64.wrap ((p.size : Int) + 1) = (p.size : Int) + 1 := IntWalk.i64_in _ (by omega)
          have tn : ((p.size : Int) + 1).toNat = p.size + 1 := by omega
          have lo : (0 : Int) ≤ (p.size : Int) + 1 := by omega
          have hi : (p.size : Int) + 1 ≤ ((F k).p.size : Int) := by omega
          have hes : ((F k).p.extract (p.size + 1) (F k).p.size).size ≤ 40 := by rw [extract_size _ _ _ (Nat.le_refl _)]; omega
          clear ha1 hah
          cases hd : (F k).d with
          | false =>
            have CX : chT (F k) p = ((F k).p.extract (p.size + 1) (F k).p.size) := by unfold chT; rw [hd, hx]; rfl
            obtain ⟨a3, c3, u3, r3, O3, B3⟩ := REST _ CX
            rw [hd] at c1
            clear REST CX hd hx CHD
            go_wp2_with fail
            refine (PK.out _).mono ?_
            rintro e w1 ⟨rfl, hw⟩
            cases hw
            clear PK
            go_wp2_with (at_builtin; refine Lib.wpList_append_run _ rfl (.tmp 42) (.tmp 44) 35 35 rfl (.slice aa q cc) (.slice (some ⟨wr.heap.size, 0, none⟩) 1 1) rfl rfl _ _ (r3.out _) ?_)
            go_roundw
            case rel => exact ⟨k + 1, q + 1, c3, a3, by omega, rfl, by go_num, Q3.out, O3.out, B3.out⟩
            case measure => simp [intOf]; omega
          | true =>
            have CX : chT (F k) p = ((F k).p.extract (p.size + 1) (F k).p.size) ++ (⟨#[47]⟩ : ByteArray) := by unfold chT; rw [hd, hx]; rfl
            obtain ⟨a3, c3, u3, r3, O3, B3⟩ := REST _ CX
            rw [hd] at c1
            have hjn : ((F k).p.extract (p.size + 1) (F k).p.size).size + 1 ≤ 9223372036854775807 := by omega
            have hjn2 : ¬ 9223372036854775807 < ((F k).p.extract (p.size + 1) (F k).p.size).size + 1 := by omega
            clear REST CX hd hx CHD
            go_wp2_with fail
            refine (PK.out _).mono ?_
            rintro e w1 ⟨rfl, hw⟩
            cases hw
            clear PK
            go_wp2_with (at_builtin; refine Lib.wpList_append_run _ rfl (.tmp 42) (.tmp 44) 35 35 rfl (.slice aa q cc) (.slice (some ⟨wr.heap.size, 0, none⟩) 1 1) rfl rfl _ _ (r3.out _) ?_)
            go_roundw
            case rel => exact ⟨k + 1, q + 1, c3, a3, by omega, rfl, by go_num, Q3.out, O3.out, B3.out⟩
            case measure => simp [intOf]; omega
      · have g1 : ((par (F k).p).toList == p.toList) = false := textNe hpar
        have HL : lsL F p (k + 1) = lsL F p k := lsL_no hpar
        have O3 : Hid (EO wr v1.heap.size 9 1 (.slice aa q cc) q (pxF (nthT (lsL F p (k + 1))))) := by show EO _ _ _ _ _ _ _; rw [HL]; exact HE.out
        have Q3 : Hid (q = (lsL F p (k + 1)).length) := by show _ = _; rw [HL]; exact HQ.out
        generalize par (F k).p = pk at *
        clear hpar hP hc HL HQ HE
        go_wp2_with fail
        refine (PK.out _).mono ?_
        rintro e w1 ⟨rfl, hw⟩
        cases hw
        clear PK
        go_wp2
        go_roundw
        case rel => exact ⟨k + 1, q, cc, aa, by omega, rfl, by go_num, Q3.out, O3.out, HB.out⟩
        case measure => simp [intOf]; omega
    · obtain rfl : k = n := by omega
      have hlt' : ¬ (k : Int) < (k : Int) := by omega
      have HR : Hid (EO wr v1.heap.size 9 1 (.slice aa (lsL F p k).length cc) (lsL F p k).length (pxF (nthT (lsL F p k)))) := HQ.out ▸ HE.out
      have E2 : Hid (q = (lsL F p k).length) := HQ.out
      clear HQ HE
      go_wp2
      go_ret
      exact ⟨⟨_, _, by rw [E2.out]; rfl, HR.out⟩, HB.out⟩
/-- What ListDir does. -/
def LsIs (n : Nat) (F : Nat → Fi) (p : ByteArray) (L : List ByteArray) (c : Int) : Prop :=
  (p.size = 0 ∧ ((FtIs n F 0 (fun _ => p) c ∧ c ≠ 0 ∧ L = []) ∨ (FtIs n F 0 (fun _ => p) 0 ∧ c = 0 ∧ L = lsL F p n))) ∨ (0 < p.size ∧ ((FtIs n F 1 (fun _ => p) c ∧ c ≠ 0 ∧ L = []) ∨ (FtIs n F 1 (fun _ => p) 0 ∧ ((DirIs n F p c ∧ c ≠ 0 ∧ L = []) ∨ (DirIs n F p 0 ∧ c = 0 ∧ L = lsL F p n)))))
theorem LsIs.uniq {n : Nat} {F : Nat → Fi} {p : ByteArray} {L L' : List ByteArray} {c c' : Int} (h : LsIs n F p L c) (h' : LsIs n F p L' c') : L = L' ∧ c = c' := by
  rcases h with ⟨z, ⟨a, b, rfl⟩ | ⟨a, rfl, rfl⟩⟩ | ⟨z, ⟨a, b, rfl⟩ | ⟨a, q⟩⟩ <;> rcases h' with ⟨z', ⟨a', b', rfl⟩ | ⟨a', rfl, rfl⟩⟩ | ⟨z', ⟨a', b', rfl⟩ | ⟨a', q'⟩⟩ <;> try omega
  · exact ⟨rfl, a.uniq a'⟩
  · exact absurd (a.uniq a') b
  · exact absurd (a'.uniq a) b'
  · exact ⟨rfl, rfl⟩
  · exact ⟨rfl, a.uniq a'⟩
  · exact absurd (a.uniq a') b
  · exact absurd (a'.uniq a) b'
  · have hs := a.ok.1.srt
    rcases q with ⟨d, b, rfl⟩ | ⟨d, rfl, rfl⟩ <;> rcases q' with ⟨d', b', rfl⟩ | ⟨d', rfl, rfl⟩
    · exact ⟨rfl, d.uniq hs d'⟩
    · exact absurd (d.uniq hs d') b
    · exact absurd (d'.uniq hs d) b'
    · exact ⟨rfl, rfl⟩
/-- Names handed back. -/
def RetNm (L : List ByteArray) (cd : Int) (B : Nat) (e : Ending) (w : World) : Prop := ∃ a c, e = .returned (.tuple #[.slice a L.length c, .int .i64 cd]) ∧ EO w B 9 1 (.slice a L.length c) L.length (pxF (nthT L))
theorem retNm_lit (w : World) (cd : Int) (B : Nat) (hB : B ≤ w.heap.size) : RetNm [] cd B (.returned (.tuple #[.slice (some ⟨w.heap.size, 0, none⟩) 0 0, .int .i64 cd])) (w.alloc (.cells #[] 9)) := ⟨_, _, rfl, EO.lit w B _ 1 hB _⟩
set_option maxRecDepth 100000 in
set_option maxHeartbeats 2000000 in
theorem specLs_any (a : Option Addr) (n c : Nat) (F : Nat → Fi) (p : ByteArray) (hsz : ∀ i, i < n → (F i).p.size ≤ 1048576) (hnn : n ≤ 1048576) (hpz : p.size ≤ 1048576) (w : World) (h : Els w 3 a n (fiF F)) :
    Calls Try.prog 15 #[.slice a n c, .string p] w fun e w' => (∃ L cd, LsIs n F p L cd ∧ RetNm L cd w.heap.size e w') ∧ Below w.heap.size w w' := by
  have LS : Hid (∀ w' : World, Below w.heap.size w w' → FsOk n F → p.size ≤ 40 → Calls Try.prog 48 #[.slice a n c, .string p] w' fun e w'' => (∃ a' c', e = .returned (.slice a' (lsL F p n).length c') ∧ EO w'' w'.heap.size 9 1 (.slice a' (lsL F p n).length c') (lsL F p n).length (pxF (nthT (lsL F p n)))) ∧ Below w'.heap.size w' w'') := fun w' hb ho hp => l11List_any a n c F p ho.srt.ok ho.1 hp w' (h.below hb)
  have LIT : Hid (∀ (w' : World) (cd : Int), w.heap.size ≤ w'.heap.size → RetNm [] cd w.heap.size (.returned (.tuple #[.slice (some ⟨w'.heap.size, 0, none⟩) 0 0, .int .i64 cd])) (w'.alloc (.cells #[] 9))) := fun w' cd hB => retNm_lit w' cd _ hB
  by_cases h1 : 65536 < p.size
  · have g1 : (65536 : Int) < (p.size : Int) := by omega
    have HX : Hid (LsIs n F p [] 2) := .inr ⟨by omega, .inl ⟨.inl ⟨.inr ⟨0, by omega, h1⟩, rfl⟩, by decide, rfl⟩⟩
    clear h hsz h1
    go_enter Try.func15, Try.ntmps15
    go_wp2
    go_ret2
    exact ⟨⟨_, _, HX.out, LIT.out _ _ (Nat.le_refl _)⟩, (Below.refl _ _).alloc (Nat.le_refl _) _⟩
  have g1 : ¬ (65536 : Int) < (p.size : Int) := by omega
  have FO : Hid (Calls Try.prog 39 #[.slice a n c] w fun e w' => Says e (FsOk n F) ∧ Below w.heap.size w w') := specFilesOK_any a n c F hsz hnn w h
  have CD : Hid (Calls Try.prog 49 #[.slice a n c, .string p] w fun e w' => (∃ x : Int, e = .returned (.int .i64 x) ∧ FtIs n F 1 (fun _ => p) x) ∧ Below w.heap.size w w') := l11Code_any a n c F p hsz hnn hpz w h
  have FN : Hid (∀ w' : World, Below w.heap.size w w' → Calls Try.prog 50 #[.slice a n c, .string p] w' fun e w'' => (∃ r : Int, e = .returned (.int .i64 r) ∧ FstIs n F p r) ∧ w'' = w') := fun w' hb => l11Find_any a n c F p hnn w' (h.below hb)
  have H : Hid (Els w 3 a n (fiF F)) := h
  clear h hsz h1
  by_cases e0 : p.size = 0
  · have hnl : ¬ LongT 0 (fun _ : Nat => p) := fun ⟨i, hi, _⟩ => absurd hi (by omega)
    have LI : Hid (∀ L c, ((FtIs n F 0 (fun _ => p) c ∧ c ≠ 0 ∧ L = []) ∨ (FtIs n F 0 (fun _ => p) 0 ∧ c = 0 ∧ L = lsL F p n)) → LsIs n F p L c) := fun L c q => .inl ⟨e0, q⟩
    have hp0 : p = ⟨#[]⟩ := by
      apply ByteArray.ext
      apply Array.ext'
      have : p.data.toList.length = 0 := by rw [Array.length_toList]; exact e0
      exact List.length_eq_zero_iff.1 this
    have HPZ : Hid (p.size ≤ 40) := by show _ ≤ _; omega
    by_cases h4 : 4096 < n
    · have g4 : (4096 : Int) < (n : Int) := by omega
      have HX : Hid (LsIs n F p [] 2) := LI.out _ _ (.inl ⟨.inl ⟨.inl h4, rfl⟩, by decide, rfl⟩)
      clear LI h4 e0 hnl FO CD FN
      subst hp0
      go_enter Try.func15, Try.ntmps15
      go_wp2
      go_ret2
      exact ⟨⟨_, _, HX.out, LIT.out _ _ (Nat.le_refl _)⟩, (Below.refl _ _).alloc (Nat.le_refl _) _⟩
    · have g4 : ¬ (4096 : Int) < (n : Int) := by omega
      have NL : Hid (¬ (4096 < n ∨ LongT 0 (fun _ : Nat => p))) := fun q => q.elim h4 hnl
      have X1 : Hid (¬ FsOk n F → LsIs n F p [] 1) := fun q => LI.out _ _ (.inl ⟨.inr ⟨NL.out, .inl ⟨q, rfl⟩⟩, by decide, rfl⟩)
      have X0 : Hid (FsOk n F → LsIs n F p (lsL F p n) 0) := fun q => LI.out _ _ (.inr ⟨.inr ⟨NL.out, .inr ⟨q, .inr ⟨fun i hi => absurd hi (by omega), rfl⟩⟩⟩, rfl, rfl⟩)
      clear LI h4 e0 hnl CD FN NL
      subst hp0
      go_enter Try.func15, Try.ntmps15
      go_wp2_with fail
      refine (Calls.mono FO.out) ?_
      rintro e v1 ⟨⟨y, rfl, hy⟩, hb⟩
      have B1 : Hid (Below w.heap.size w v1) := hb
      have HY : Hid (y = true ↔ FsOk n F) := hy
      clear hb hy FO
      cases y with
      | false =>
        have HX : Hid (LsIs n F ⟨#[]⟩ [] 1) := X1.out (fun q => by have := HY.out.2 q; cases this)
        clear HY X1 X0
        go_wp2
        go_ret2
        exact ⟨⟨_, _, HX.out, LIT.out _ _ B1.out.size⟩, B1.out.alloc B1.out.size _⟩
      | true =>
        have HF : Hid (FsOk n F) := HY.out.1 rfl
        have HX : Hid (LsIs n F ⟨#[]⟩ (lsL F ⟨#[]⟩ n) 0) := X0.out HF.out
        have LV := LS.out v1 B1.out HF.out HPZ.out
        clear HY X1 X0
        generalize lsL F ⟨#[]⟩ n = LL at *
        go_wp2_with fail
        refine LV.mono ?_
        rintro e v2 ⟨⟨a9, c9, rfl, he⟩, hb⟩
        have HE : Hid (EO v2 w.heap.size 9 1 (.slice a9 LL.length c9) LL.length (pxF (nthT LL))) := he.mono B1.out.size
        have B2 : Hid (Below w.heap.size w v2) := B1.out.trans (hb.mono B1.out.size)
        clear he hb LS
        go_wp2
        go_ret2
        exact ⟨⟨_, _, HX.out, ⟨_, _, rfl, HE.out⟩⟩, B2.out⟩
  · have hp1 : 0 < p.size := by omega
    have LI : Hid (∀ L c, ((FtIs n F 1 (fun _ => p) c ∧ c ≠ 0 ∧ L = []) ∨ (FtIs n F 1 (fun _ => p) 0 ∧ ((DirIs n F p c ∧ c ≠ 0 ∧ L = []) ∨ (DirIs n F p 0 ∧ c = 0 ∧ L = lsL F p n)))) → LsIs n F p L c) := fun L c q => .inr ⟨hp1, q⟩
    have ge := textEmpty (q := p) hp1
    have ge2 := textEmpty2 (q := p) hp1
    have HP1 : Hid (0 < p.size) := hp1
    clear FO hp1 e0
    go_enter Try.func15, Try.ntmps15
    go_wp2_with fail
    refine (Calls.mono CD.out) ?_
    rintro e v1 ⟨⟨x, rfl, hx⟩, hb⟩
    have B1 : Hid (Below w.heap.size w v1) := hb
    have HX : Hid (FtIs n F 1 (fun _ => p) x) := hx
    clear hx hb CD
    by_cases h0 : x = 0
    · subst h0
      obtain ⟨ho, hp, hn4, -⟩ := HX.out.ok
      have HF : Hid (FsOk n F) := ho
      have HPZ : Hid (p.size ≤ 40) := (hp 0 (by omega)).1
      clear ho hp hn4
      go_wp2_with fail
      refine (FN.out _ B1.out).mono ?_
      rintro e w1 ⟨⟨r, rfl, hr⟩, hw⟩
      cases hw
      clear FN
      rcases hr with ⟨rfl, hno⟩ | ⟨j, rfl, hj, ej, hfst⟩
      · have HM : Hid (LsIs n F p [] 5) := LI.out _ _ (.inr ⟨HX.out, .inl ⟨.inr (.inl ⟨HP1.out, hno, rfl⟩), by decide, rfl⟩⟩)
        clear hno LI
        go_wp2
        go_ret2
        exact ⟨⟨_, _, HM.out, LIT.out _ _ B1.out.size⟩, B1.out.alloc B1.out.size _⟩
      · obtain ⟨b, off, rfl, hc⟩ := (H.out.below B1.out).opened (by omega)
        obtain ⟨c0, c1, c2⟩ := Els.fiC hc j hj
        have hlt' : (j : Int) < (n : Int) := by omega
        have h0' : ¬ (j : Int) < 0 := by omega
        have h1' : (0 : Int) ≤ (j : Int) := by omega
        clear hc hfst
        cases hd : (F j).d with
        | false =>
          have HM : Hid (LsIs n F p [] 17) := LI.out _ _ (.inr ⟨HX.out, .inl ⟨.inr (.inr ⟨HP1.out, j, hj, ej, .inl ⟨hd, rfl⟩⟩), by decide, rfl⟩⟩)
          rw [hd] at c1
          clear LI ej hd
          go_wp2
          go_ret2
          exact ⟨⟨_, _, HM.out, LIT.out _ _ B1.out.size⟩, B1.out.alloc B1.out.size _⟩
        | true =>
          have HM : Hid (LsIs n F p (lsL F p n) 0) := LI.out _ _ (.inr ⟨HX.out, .inr ⟨.inr (.inr ⟨HP1.out, j, hj, ej, .inr ⟨hd, rfl⟩⟩), rfl, rfl⟩⟩)
          have LV := LS.out v1 B1.out HF.out HPZ.out
          rw [hd] at c1
          clear LI ej hd
          generalize lsL F p n = LL at *
          go_wp2_with fail
          refine LV.mono ?_
          rintro e v2 ⟨⟨a9, c9, rfl, he⟩, hb⟩
          have HE : Hid (EO v2 w.heap.size 9 1 (.slice a9 LL.length c9) LL.length (pxF (nthT LL))) := he.mono B1.out.size
          have B2 : Hid (Below w.heap.size w v2) := B1.out.trans (hb.mono B1.out.size)
          clear he hb LS
          go_wp2
          go_ret2
          exact ⟨⟨_, _, HM.out, ⟨_, _, rfl, HE.out⟩⟩, B2.out⟩
    · have g : (x != 0) = true := by simpa using h0
      have HM : Hid (LsIs n F p [] x) := LI.out _ _ (.inl ⟨HX.out, h0, rfl⟩)
      clear h0 LI
      go_wp2
      go_ret2
      exact ⟨⟨_, _, HM.out, LIT.out _ _ B1.out.size⟩, B1.out.alloc B1.out.size _⟩
end Go.Proofs.Ytglfhajfbdjjcaa
