/-
  ReadFiles of the model (written by tools/mkrfs.py).
-/
import Derived.Test.YtglfhajfbdjjcaaRdFiI
import Derived.Test.YtglfhajfbdjjcaaFileByS
import Derived.Test.YtglfhajfbdjjcaaAnyH
namespace Go.Proofs.Ytglfhajfbdjjcaa
open Go.ChangeShapes Go.WideShapes Go.ChangeAt Go.RowKit
set_option linter.unusedVariables false
set_option maxRecDepth 100000 in
set_option maxHeartbeats 1000000 in
theorem l06NumberF (t : ByteArray) (k : Nat) (ht : t.size = k) (hk : k ≤ 4) (w : World) :
    Calls Try.prog 96 #[.string t] w fun e w' => e = .returned (.int .i64 ((valN (strB t) k : Nat) : Int)) ∧ w' = w := by
  have hnb := valN_lt (strB t) (strB_lt t)
  go_enter Try.func96, Try.ntmps96
  go_wp2
  go_loopw [3, 4] (fun n i wr => ∃ q : Nat, q ≤ k ∧ i = .int .i64 (q : Int) ∧ n = .int .i64 ((valN (strB t) q : Nat) : Int) ∧ wr = w) (fun _ i _ => k - (intOf i).toNat)
  case atStart => exact ⟨0, by omega, rfl, rfl, rfl⟩
  case round =>
    obtain ⟨q, hq, rfl, rfl, rfl⟩ := hrel
    by_cases hlt : q < k
    · have hlt' : (q : Int) < (t.size : Int) := by omega
      have hqs : q < t.size := by omega
      have hq0 : (0 : Int) ≤ (q : Int) := by omega
      have es := strB_eq t q hqs
      have HN : Hid (valN (strB t) (q + 1) = valN (strB t) q * 256 + strB t q) := rfl
      have hl := strB_lt t q
      have hb2 : valN (strB t) q < 16777216 := Nat.lt_of_lt_of_le (hnb q) (by
        have : 256 ^ q ≤ 256 ^ 3 := Nat.pow_le_pow_right (by omega) (by omega)
        simpa using this)
      generalize valN (strB t) q = N at *
      generalize strB t q = S at *
      clear hnb
      go_wp2
      go_roundw
      case rel => exact ⟨q + 1, by omega, by go_num, numEq8 (by rw [HN.out]; push_cast; omega), trivial⟩
      case measure => simp [intOf]; omega
    · obtain rfl : q = k := by omega
      have hlt' : ¬ (q : Int) < (t.size : Int) := by omega
      clear hnb
      go_wp2
      go_ret
      exact ⟨rfl, rfl⟩
theorem cutF {T : ByteArray} {f : Nat → Nat} (hT : ∀ i, i < T.size → strB T i = f i) (o n : Nat) (h : o + n ≤ T.size) : T.extract o (o + n) = kstr f o n := by
  rw [kstr_extract T o n h]
  exact kstr_congr (fun i hi => hT _ (by omega))
theorem fi_app {w u : World} {k lc : Nat} {la : Option Addr} {G : Nat → Fi} (x : Fi) (E : EO u w.heap.size 33 3 (.slice la k lc) k (fiF G)) (B : Below w.heap.size w u) (hk : k ≤ 1000) :
    ∃ la' lc' w', (∀ ty, (Builtin.append_ #[26, 26] ty #[.slice la k lc, .slice (some ⟨u.heap.size, 0, none⟩) 1 1]).run Try.prog (u.alloc (.cells #[.string x.p, .bool x.d, .string x.t] 33)) = .ok (.slice la' (k + 1) lc') w') ∧ EO w' w.heap.size 33 3 (.slice la' (k + 1) lc') (k + 1) (fiF (updE G k x)) ∧ Below w.heap.size w w' := by
  have hb2 : Below u.heap.size u (u.alloc (.cells #[.string x.p, .bool x.d, .string x.t] 33)) := (Below.refl u.heap.size u).alloc (Nat.le_refl _) _
  have XB : Box3 (u.alloc (.cells #[.string x.p, .bool x.d, .string x.t] 33)) u.heap.size 33 (.string x.p) (.bool x.d) (.string x.t) := Box3.made _ _ _ _ _
  obtain ⟨v', w', hr, hE, hg, hloc⟩ := appFi (u.alloc (.cells #[.string x.p, .bool x.d, .string x.t] 33)) w.heap.size (.slice la k lc) k u.heap.size G x (by have := B.size; simp; omega) (by omega) (E.below hb2) (fun j hj => by
    rcases (show j = 0 ∨ j = 1 ∨ j = 2 by omega) with rfl | rfl | rfl
    · exact XB.c0
    · exact XB.c1
    · exact XB.c2)
  obtain ⟨la', lc', rfl⟩ := hE.form
  exact ⟨la', lc', w', hr, hE, (B.trans (hb2.mono B.size)).grown hg (by have := B.size; simp; omega) (fun g e => (E.ge g e).1)⟩
/-- Files were read, or not. -/
def RetRf (f : Nat → Nat) (N : Nat) (B : Nat) (e : Ending) (w : World) : Prop := ∃ (a : Option Addr) (m c : Nat) (ok : Bool), e = .returned (.tuple #[.slice a m c, .bool ok]) ∧ (ok = true ↔ GoodR N f) ∧ (ok = true → m = f 0) ∧ EO w B 33 3 (.slice a m c) m (fiF (fiR f))
theorem notGood {f : Nat → Nat} {N k : Nat} (hk : k < f 0) (h : N < nxR f (stR f k)) : ¬ GoodR N f := fun g => by
  have h1 := g.2.1
  have h2 := stR_le f (k + 1) (f 0 - (k + 1))
  rw [show k + 1 + (f 0 - (k + 1)) = f 0 by omega] at h2
  have h3 : stR f (k + 1) = nxR f (stR f k) := rfl
  omega
theorem strings_list {L : List Nat} {T : ByteArray} {f : Nat → Nat} (hL : ∀ x ∈ L, x < 256) (hf : ∀ i, f i < 256) (hT : ∀ i, i < T.size → strB T i = f i) : kstr (fun i => L.getD i 0) 0 L.length = T ↔ L = byL T.size f := by
  rw [← kstr_list hL hf]
  have : kstr f 0 T.size = T := by
    conv => rhs; rw [← kstr_self T]
    exact kstr_congr (fun i hi => by rw [Nat.zero_add]; exact (hT i hi).symm)
  rw [this]
set_option maxRecDepth 100000 in
set_option maxHeartbeats 16000000 in
theorem l11Read_any (T : ByteArray) (f : Nat → Nat) (hf : ∀ i, f i < 256) (hT : ∀ i, i < T.size → strB T i = f i) (hN : T.size ≤ 65536) (w : World) :
    Calls Try.prog 55 #[.string T] w fun e w' => RetRf f T.size w.heap.size e w' ∧ Below w.heap.size w w' := by
  have L0 : Hid (EO (w.alloc (.cells #[] 33)) w.heap.size 33 3 (.slice (some ⟨w.heap.size, 0, none⟩) 0 0) 0 (fiF (fiR f))) := EO.lit w w.heap.size _ 3 (Nat.le_refl _) _
  have A0 : Hid (Below w.heap.size w (w.alloc (.cells #[] 33))) := (Below.refl _ _).alloc (Nat.le_refl _) _
  rcases Nat.eq_zero_or_pos T.size with hz | hz
  · obtain rfl : T = ⟨#[]⟩ := ByteArray.ext (Array.eq_empty_of_size_eq_zero hz)
    have HG : Hid (¬ GoodR (⟨#[]⟩ : ByteArray).size f) := fun g => absurd g.1 (by show ¬ 0 < 0; omega)
    clear hf hT hN hz
    go_enter Try.func55, Try.ntmps55
    go_wp2
    go_ret2
    exact ⟨⟨_, _, _, _, rfl, by simp [HG.out], (fun h => by cases h), L0.out⟩, A0.out⟩
  · have g1 : (T.toList == []) = false := textEmpty hz
    have g2 : T.toList.isEmpty = false := textEmpty2 hz
    have HF : Hid (∀ i, f i < 256) := hf
    have HT : Hid (∀ i, i < T.size → strB T i = f i) := hT
    have e0 : ((T[0]'hz).toNat : Int) = ((f 0 : Nat) : Int) := by rw [strB_eq T 0 hz, hT 0 hz]
    have HC : Hid (∃ c0, c0 = f 0) := ⟨_, rfl⟩
    obtain ⟨c0, hc0⟩ := HC.out
    rw [← hc0] at e0
    have hc1 : c0 < 256 := by rw [hc0]; exact hf 0
    have C0 : Hid (c0 = f 0) := hc0
    have TZ : Hid (0 < T.size) := hz
    have i1 : (0 : Int) < (T.size : Int) := by omega
    clear hc0 HC hf hT
    go_enter Try.func55, Try.ntmps55
    go_wp2
    generalize (w.alloc (.cells #[] 33)) = v1 at *
    go_loopw [4, 5, 6] (fun ou at_ i wr => ∃ (k j lc : Nat) (la : Option Addr), k + j = c0 ∧ ou = .slice la k lc ∧ at_ = .int .i64 ((stR f k : Nat) : Int) ∧ i = .int .i64 (j : Int) ∧ stR f k ≤ T.size ∧ EO wr w.heap.size 33 3 (.slice la k lc) k (fiF (fiR f)) ∧ Below w.heap.size w wr) (fun _ _ i _ => (intOf i).toNat)
    case atStart => exact ⟨0, c0, 0, _, by omega, rfl, rfl, rfl, by show 1 ≤ T.size; omega, L0.out, A0.out⟩
    case round =>
      clear L0 A0 e0
      obtain ⟨k, j, lc, la, hkj, rfl, rfl, rfl, hst, hE, hB⟩ := hrel
      have RV : Hid (EO wr w.heap.size 33 3 (.slice la k lc) k (fiF (fiR f))) := hE
      have B : Hid (Below w.heap.size w wr) := hB
      obtain ⟨s, hs⟩ : ∃ s, s = stR f k := ⟨_, rfl⟩
      rw [← hs] at hst ⊢
      have HS : Hid (s = stR f k) := hs
      clear hE hB hs
      by_cases hj : 0 < j
      · have hj' : (0 : Int) < (j : Int) := by omega
        have HK : Hid (k < f 0) := by have := C0.out; show _ < _; omega
        by_cases hA : s < T.size
        · have a1 : ¬ (T.size : Int) ≤ (s : Int) := by omega
          have a2 : (s : Int) < (T.size : Int) := by omega
          have a3 : (0 : Int) ≤ (s : Int) := by omega
          obtain ⟨nn, hnn⟩ : ∃ nn, nn = f s := ⟨_, rfl⟩
          have es : ((T[s]'hA).toNat : Int) = ((nn : Nat) : Int) := by rw [strB_eq T s hA, HT.out s hA, hnn]
          have HNN : Hid (nn = f s) := hnn
          have nl : nn < 256 := by rw [hnn]; exact HF.out s
          clear hnn
          by_cases hBB : s + 4 + nn ≤ T.size
          · have b1 : ¬ (T.size : Int) < (s : Int) + 1 + (nn : Int) + 3 := by omega
            have b2 : (s : Int) + 1 + (nn : Int) < (T.size : Int) := by omega
            have b3 : (0 : Int) ≤ (s : Int) + 1 + (nn : Int) := by omega
            have b4 : ((s : Int) + 1 + (nn : Int)).toNat = s + 1 + nn := by omega
            have b5 : s + 1 + nn < T.size := by omega
            obtain ⟨db, hdb⟩ : ∃ db, db = f (s + 1 + nn) := ⟨_, rfl⟩
            have ed : ((T[s + 1 + nn]'b5).toNat : Int) = ((db : Nat) : Int) := by rw [strB_eq T _ b5, HT.out _ b5, hdb]
            have dl : db < 256 := by rw [hdb]; exact HF.out _
            obtain ⟨PT, hPT⟩ : ∃ PT, PT = kstr f (s + 1) nn := ⟨_, rfl⟩
            have sl1 : ∀ w' : World, (Instr.slice 9 (.string T) (some (.int .i64 ((s : Int) + 1))) (some (.int .i64 ((s : Int) + 1 + (nn : Int)))) none).run Try.prog w' = .ok (.string PT) w' := fun w' => by
              have := run_slice_string (P := Try.prog) w' 9 T .i64 .i64 ((s : Int) + 1) ((s : Int) + 1 + (nn : Int)) Try.underlying9 (by omega) (by omega) (by omega)
              rwa [show ((s : Int) + 1).toNat = s + 1 from by omega, show ((s : Int) + 1 + (nn : Int)).toNat = s + 1 + nn from by omega, cutF HT.out (s + 1) nn (by omega), ← hPT] at this
            have hd' : (((db : Nat) : Int) == 1) = decide (db = 1) := by
              by_cases e : db = 1
              · subst e; rfl
              · rw [show decide (db = 1) = false from by simp [e]]; simp; omega
            obtain ⟨DB, hDB⟩ : ∃ DB, DB = decide (db = 1) := ⟨_, rfl⟩
            rw [← hDB] at hd'
            obtain ⟨x3, hx3⟩ : ∃ x3, x3 = nDR f s := ⟨_, rfl⟩
            have HX3 : Hid (x3 = nDR f s) := hx3
            have xl : x3 < 65536 := by
              rw [hx3]; unfold nDR
              have h1 := HF.out (s + 2 + f s); have h2 := HF.out (s + 3 + f s); omega
            have NK : Hid (∀ w : World, Calls Try.prog 96 #[.string (kstr f (s + nn + 2) 2)] w fun e w' => e = .returned (.int .i64 ((x3 : Nat) : Int)) ∧ w = w') := fun w => by
              have := l06NumberF (kstr f (s + nn + 2) 2) 2 (kstr_size _ _ _) (by omega) w
              have e2 : valN (strB (kstr f (s + nn + 2) 2)) 2 = x3 := by
                show ((0 * 256 + strB (kstr f (s + nn + 2) 2) 0) * 256 + strB (kstr f (s + nn + 2) 2) 1) = x3
                rw [strB_kstr _ _ _ _ (HF.out _) (by omega), strB_kstr _ _ _ _ (HF.out _) (by omega), hx3]
                unfold nDR
                rw [HNN.out, show s + f s + 2 + 0 = s + 2 + f s by omega, show s + 2 + f s + 1 = s + 3 + f s by omega]
                omega
              rw [e2] at this
              exact this.mono fun _ _ z => ⟨z.1, z.2.symm⟩
            have sl2 : ∀ w' : World, (Instr.slice 9 (.string T) (some (.int .i64 ((s : Int) + ((nn : Int) + 2)))) (some (.int .i64 ((s : Int) + ((nn : Int) + 2) + 2))) none).run Try.prog w' = .ok (.string (kstr f (s + nn + 2) 2)) w' := fun w' => by
              have := run_slice_string (P := Try.prog) w' 9 T .i64 .i64 ((s : Int) + ((nn : Int) + 2)) ((s : Int) + ((nn : Int) + 2) + 2) Try.underlying9 (by omega) (by omega) (by omega)
              rwa [show ((s : Int) + ((nn : Int) + 2)).toNat = s + nn + 2 from by omega, show ((s : Int) + ((nn : Int) + 2) + 2).toNat = s + nn + 2 + 2 from by omega, cutF HT.out (s + nn + 2) 2 (by omega)] at this
            have HFI : Hid (PT = kstr f (s + 1) nn ∧ DB = decide (f (s + 1 + nn) = 1)) := ⟨hPT, by rw [hDB, hdb]⟩
            generalize hKS : kstr f (s + nn + 2) 2 = KS at *
            clear hPT hDB hdb hx3 hKS
            have w1 : IntKind.i64.wrap ((s : Int) + 1) = (s : Int) + 1 := IntWalk.i64_in _ (by omega)
            have w2 : IntKind.i64.wrap ((s : Int) + 1 + (nn : Int)) = (s : Int) + 1 + (nn : Int) := IntWalk.i64_in _ (by omega)
            have w3 : IntKind.i64.wrap (nn : Int) = (nn : Int) := IntWalk.i64_in _ (by omega)
            have hbd : Below wr.heap.size wr wr.drew := (Below.refl _ _).drew
            have RVd : Hid (EO wr.drew w.heap.size 33 3 (.slice la k lc) k (fiF (fiR f))) := RV.out.below hbd
            have Bd : Hid (Below w.heap.size w wr.drew) := B.out.trans (hbd.mono B.out.size)
            clear RV B hbd
            have RV : Hid (EO wr.drew w.heap.size 33 3 (.slice la k lc) k (fiF (fiR f))) := RVd.out
            clear RVd
            go_upto_region 11 with fail
            have H : Below w.heap.size w wr.drew := Bd.out
            refine wp_region_noPanic ?_
            refine wp_region_held_drew (S := fun w' => Below w.heap.size w w') (by kernel_rfl) H (fun _ => ?_)
            generalize wr.drew = y0 at *
            refine wpAnyH_take (i := 0) (v := .string T) rfl (by kernel_rfl) (by kernel_rfl) (by kernel_rfl) (fun _ _ _ h => h) (Or.inl ⟨by rfl, ?_⟩) H ?_
            · intro w' hSw; clear hSw; go_simp
            change wpAnyH _ _ _ _ _ _ _ { tmps := #[_, _, _, _, _, _, _, _, _, _, _, _, _, _, _, _, _, _, _, _, _, _, _, _, _, _, _, _, _, _, _, _, _, _, _, _, _, _, _, _, _, _, _, _, _, _, _, _, _, _, _, _, _, _, _, _, _, _, _, _, _, _, _, _, _, _, _, _, _, _, _, _, _, _, _, _, _, _, _, _, _, _, _, _, _, _, _, _, _, _, _, _, _, _, _, _, _, _, _, _, _, _], defers := _ } _
            refine wpAnyH_take (i := 1) (v := .int .i64 (s : Int)) rfl (by kernel_rfl) (by kernel_rfl) (by kernel_rfl) (fun _ _ _ h => h) (Or.inl ⟨by rfl, ?_⟩) H ?_
            · intro w' hSw; clear hSw; go_simp
            change wpAnyH _ _ _ _ _ _ _ { tmps := #[_, _, _, _, _, _, _, _, _, _, _, _, _, _, _, _, _, _, _, _, _, _, _, _, _, _, _, _, _, _, _, _, _, _, _, _, _, _, _, _, _, _, _, _, _, _, _, _, _, _, _, _, _, _, _, _, _, _, _, _, _, _, _, _, _, _, _, _, _, _, _, _, _, _, _, _, _, _, _, _, _, _, _, _, _, _, _, _, _, _, _, _, _, _, _, _, _, _, _, _, _, _], defers := _ } _
            refine wpAnyH_take (i := 2) (v := .int .i64 ((s : Int) + 1)) rfl (by kernel_rfl) (by kernel_rfl) (by kernel_rfl) (fun _ _ _ h => h) (Or.inl ⟨by rfl, ?_⟩) H ?_
            · intro w' hSw; clear hSw; go_simp
            change wpAnyH _ _ _ _ _ _ _ { tmps := #[_, _, _, _, _, _, _, _, _, _, _, _, _, _, _, _, _, _, _, _, _, _, _, _, _, _, _, _, _, _, _, _, _, _, _, _, _, _, _, _, _, _, _, _, _, _, _, _, _, _, _, _, _, _, _, _, _, _, _, _, _, _, _, _, _, _, _, _, _, _, _, _, _, _, _, _, _, _, _, _, _, _, _, _, _, _, _, _, _, _, _, _, _, _, _, _, _, _, _, _, _, _], defers := _ } _
            refine wpAnyH_take (i := 3) (v := .int .i64 (s : Int)) rfl (by kernel_rfl) (by kernel_rfl) (by kernel_rfl) (fun _ _ _ h => h) (Or.inl ⟨by rfl, ?_⟩) H ?_
            · intro w' hSw; clear hSw; go_simp
            change wpAnyH _ _ _ _ _ _ _ { tmps := #[_, _, _, _, _, _, _, _, _, _, _, _, _, _, _, _, _, _, _, _, _, _, _, _, _, _, _, _, _, _, _, _, _, _, _, _, _, _, _, _, _, _, _, _, _, _, _, _, _, _, _, _, _, _, _, _, _, _, _, _, _, _, _, _, _, _, _, _, _, _, _, _, _, _, _, _, _, _, _, _, _, _, _, _, _, _, _, _, _, _, _, _, _, _, _, _, _, _, _, _, _, _], defers := _ } _
            refine wpAnyH_take (i := 4) (v := .int .i64 ((s : Int) + 1)) rfl (by kernel_rfl) (by kernel_rfl) (by kernel_rfl) (fun _ _ _ h => h) (Or.inl ⟨by rfl, ?_⟩) H ?_
            · intro w' hSw; clear hSw; go_simp
            change wpAnyH _ _ _ _ _ _ _ { tmps := #[_, _, _, _, _, _, _, _, _, _, _, _, _, _, _, _, _, _, _, _, _, _, _, _, _, _, _, _, _, _, _, _, _, _, _, _, _, _, _, _, _, _, _, _, _, _, _, _, _, _, _, _, _, _, _, _, _, _, _, _, _, _, _, _, _, _, _, _, _, _, _, _, _, _, _, _, _, _, _, _, _, _, _, _, _, _, _, _, _, _, _, _, _, _, _, _, _, _, _, _, _, _], defers := _ } _
            refine wpAnyH_take (i := 5) (v := .int .i64 (nn : Int)) rfl (by kernel_rfl) (by kernel_rfl) (by kernel_rfl) (fun _ _ _ h => h) (Or.inl ⟨by rfl, ?_⟩) H ?_
            · intro w' hSw; clear hSw; go_simp
            change wpAnyH _ _ _ _ _ _ _ { tmps := #[_, _, _, _, _, _, _, _, _, _, _, _, _, _, _, _, _, _, _, _, _, _, _, _, _, _, _, _, _, _, _, _, _, _, _, _, _, _, _, _, _, _, _, _, _, _, _, _, _, _, _, _, _, _, _, _, _, _, _, _, _, _, _, _, _, _, _, _, _, _, _, _, _, _, _, _, _, _, _, _, _, _, _, _, _, _, _, _, _, _, _, _, _, _, _, _, _, _, _, _, _, _], defers := _ } _
            refine wpAnyH_take (i := 6) (v := .int .i64 ((s : Int) + 1 + (nn : Int))) rfl (by kernel_rfl) (by kernel_rfl) (by kernel_rfl) (fun _ _ _ h => h) (Or.inl ⟨by rfl, ?_⟩) H ?_
            · intro w' hSw; clear hSw; go_simp
            change wpAnyH _ _ _ _ _ _ _ { tmps := #[_, _, _, _, _, _, _, _, _, _, _, _, _, _, _, _, _, _, _, _, _, _, _, _, _, _, _, _, _, _, _, _, _, _, _, _, _, _, _, _, _, _, _, _, _, _, _, _, _, _, _, _, _, _, _, _, _, _, _, _, _, _, _, _, _, _, _, _, _, _, _, _, _, _, _, _, _, _, _, _, _, _, _, _, _, _, _, _, _, _, _, _, _, _, _, _, _, _, _, _, _, _], defers := _ } _
            refine wpAnyH_take (i := 7) (v := .string PT) rfl (by kernel_rfl) (by kernel_rfl) (by kernel_rfl) (fun _ _ _ h => h) (Or.inl ⟨by rfl, ?_⟩) H ?_
            · intro w' hSw; clear hSw; go_simp
            change wpAnyH _ _ _ _ _ _ _ { tmps := #[_, _, _, _, _, _, _, _, _, _, _, _, _, _, _, _, _, _, _, _, _, _, _, _, _, _, _, _, _, _, _, _, _, _, _, _, _, _, _, _, _, _, _, _, _, _, _, _, _, _, _, _, _, _, _, _, _, _, _, _, _, _, _, _, _, _, _, _, _, _, _, _, _, _, _, _, _, _, _, _, _, _, _, _, _, _, _, _, _, _, _, _, _, _, _, _, _, _, _, _, _, _], defers := _ } _
            refine wpAnyH_take (i := 8) (v := .string T) rfl (by kernel_rfl) (by kernel_rfl) (by kernel_rfl) (fun _ _ _ h => h) (Or.inl ⟨by rfl, ?_⟩) H ?_
            · intro w' hSw; clear hSw; go_simp
            change wpAnyH _ _ _ _ _ _ _ { tmps := #[_, _, _, _, _, _, _, _, _, _, _, _, _, _, _, _, _, _, _, _, _, _, _, _, _, _, _, _, _, _, _, _, _, _, _, _, _, _, _, _, _, _, _, _, _, _, _, _, _, _, _, _, _, _, _, _, _, _, _, _, _, _, _, _, _, _, _, _, _, _, _, _, _, _, _, _, _, _, _, _, _, _, _, _, _, _, _, _, _, _, _, _, _, _, _, _, _, _, _, _, _, _], defers := _ } _
            refine wpAnyH_take (i := 9) (v := .int .i64 (s : Int)) rfl (by kernel_rfl) (by kernel_rfl) (by kernel_rfl) (fun _ _ _ h => h) (Or.inl ⟨by rfl, ?_⟩) H ?_
            · intro w' hSw; clear hSw; go_simp
            change wpAnyH _ _ _ _ _ _ _ { tmps := #[_, _, _, _, _, _, _, _, _, _, _, _, _, _, _, _, _, _, _, _, _, _, _, _, _, _, _, _, _, _, _, _, _, _, _, _, _, _, _, _, _, _, _, _, _, _, _, _, _, _, _, _, _, _, _, _, _, _, _, _, _, _, _, _, _, _, _, _, _, _, _, _, _, _, _, _, _, _, _, _, _, _, _, _, _, _, _, _, _, _, _, _, _, _, _, _, _, _, _, _, _, _], defers := _ } _
            refine wpAnyH_take (i := 10) (v := .int .i64 ((s : Int) + 1)) rfl (by kernel_rfl) (by kernel_rfl) (by kernel_rfl) (fun _ _ _ h => h) (Or.inl ⟨by rfl, ?_⟩) H ?_
            · intro w' hSw; clear hSw; go_simp
            change wpAnyH _ _ _ _ _ _ _ { tmps := #[_, _, _, _, _, _, _, _, _, _, _, _, _, _, _, _, _, _, _, _, _, _, _, _, _, _, _, _, _, _, _, _, _, _, _, _, _, _, _, _, _, _, _, _, _, _, _, _, _, _, _, _, _, _, _, _, _, _, _, _, _, _, _, _, _, _, _, _, _, _, _, _, _, _, _, _, _, _, _, _, _, _, _, _, _, _, _, _, _, _, _, _, _, _, _, _, _, _, _, _, _, _], defers := _ } _
            refine wpAnyH_take (i := 11) (v := .int .i64 (nn : Int)) rfl (by kernel_rfl) (by kernel_rfl) (by kernel_rfl) (fun _ _ _ h => h) (Or.inl ⟨by rfl, ?_⟩) H ?_
            · intro w' hSw; clear hSw; go_simp
            change wpAnyH _ _ _ _ _ _ _ { tmps := #[_, _, _, _, _, _, _, _, _, _, _, _, _, _, _, _, _, _, _, _, _, _, _, _, _, _, _, _, _, _, _, _, _, _, _, _, _, _, _, _, _, _, _, _, _, _, _, _, _, _, _, _, _, _, _, _, _, _, _, _, _, _, _, _, _, _, _, _, _, _, _, _, _, _, _, _, _, _, _, _, _, _, _, _, _, _, _, _, _, _, _, _, _, _, _, _, _, _, _, _, _, _], defers := _ } _
            refine wpAnyH_take (i := 12) (v := .int .i64 ((s : Int) + 1 + (nn : Int))) rfl (by kernel_rfl) (by kernel_rfl) (by kernel_rfl) (fun _ _ _ h => h) (Or.inl ⟨by rfl, ?_⟩) H ?_
            · intro w' hSw; clear hSw; go_simp
            change wpAnyH _ _ _ _ _ _ _ { tmps := #[_, _, _, _, _, _, _, _, _, _, _, _, _, _, _, _, _, _, _, _, _, _, _, _, _, _, _, _, _, _, _, _, _, _, _, _, _, _, _, _, _, _, _, _, _, _, _, _, _, _, _, _, _, _, _, _, _, _, _, _, _, _, _, _, _, _, _, _, _, _, _, _, _, _, _, _, _, _, _, _, _, _, _, _, _, _, _, _, _, _, _, _, _, _, _, _, _, _, _, _, _, _], defers := _ } _
            refine wpAnyH_take (i := 13) (v := .int .u8 (db : Int)) rfl (by kernel_rfl) (by kernel_rfl) (by kernel_rfl) (fun _ _ _ h => h) (Or.inl ⟨by rfl, ?_⟩) H ?_
            · intro w' hSw; clear hSw; go_simp
            change wpAnyH _ _ _ _ _ _ _ { tmps := #[_, _, _, _, _, _, _, _, _, _, _, _, _, _, _, _, _, _, _, _, _, _, _, _, _, _, _, _, _, _, _, _, _, _, _, _, _, _, _, _, _, _, _, _, _, _, _, _, _, _, _, _, _, _, _, _, _, _, _, _, _, _, _, _, _, _, _, _, _, _, _, _, _, _, _, _, _, _, _, _, _, _, _, _, _, _, _, _, _, _, _, _, _, _, _, _, _, _, _, _, _, _], defers := _ } _
            refine wpAnyH_take (i := 14) (v := .bool DB) rfl (by kernel_rfl) (by kernel_rfl) (by kernel_rfl) (fun _ _ _ h => h) (Or.inl ⟨by rfl, ?_⟩) H ?_
            · intro w' hSw; clear hSw; go_simp
            change wpAnyH _ _ _ _ _ _ _ { tmps := #[_, _, _, _, _, _, _, _, _, _, _, _, _, _, _, _, _, _, _, _, _, _, _, _, _, _, _, _, _, _, _, _, _, _, _, _, _, _, _, _, _, _, _, _, _, _, _, _, _, _, _, _, _, _, _, _, _, _, _, _, _, _, _, _, _, _, _, _, _, _, _, _, _, _, _, _, _, _, _, _, _, _, _, _, _, _, _, _, _, _, _, _, _, _, _, _, _, _, _, _, _, _], defers := _ } _
            refine wpAnyH_take (i := 15) (v := .agg #[.string PT, .bool DB, .string ⟨#[]⟩]) rfl (by kernel_rfl) (by kernel_rfl) (by kernel_rfl) (fun _ _ _ h => h) (Or.inl ⟨by rfl, ?_⟩) H ?_
            · intro w' hSw; clear hSw; go_simp
            change wpAnyH _ _ _ _ _ _ _ { tmps := #[_, _, _, _, _, _, _, _, _, _, _, _, _, _, _, _, _, _, _, _, _, _, _, _, _, _, _, _, _, _, _, _, _, _, _, _, _, _, _, _, _, _, _, _, _, _, _, _, _, _, _, _, _, _, _, _, _, _, _, _, _, _, _, _, _, _, _, _, _, _, _, _, _, _, _, _, _, _, _, _, _, _, _, _, _, _, _, _, _, _, _, _, _, _, _, _, _, _, _, _, _, _], defers := _ } _
            refine wpAnyH_ready (rs := [16]) (by kernel_rfl) (by simp) ?_
            refine (AllReadyH.cons rfl (fun KK hK => ?_) AllReadyH.nil)
            go_simp
            have hb : Below y0.heap.size y0 (y0.alloc (.cells #[.string ⟨#[]⟩, .bool false, .string ⟨#[]⟩] 33)) := (Below.refl _ _).alloc (Nat.le_refl _) _
            have FB : Hid (Box3 (y0.alloc (.cells #[.string ⟨#[]⟩, .bool false, .string ⟨#[]⟩] 33)) y0.heap.size 33 (.string ⟨#[]⟩) (.bool false) (.string ⟨#[]⟩)) := Box3.made _ _ _ _ _
            have NR : Hid (∀ g, (Value.slice la k lc).ownBlock = some g → g ≠ y0.heap.size) := fun g e => Nat.ne_of_lt (RV.out.ge g e).2
            have FS : Hid (w.heap.size ≤ y0.heap.size) := H.size
            replace RV : Hid (EO (y0.alloc (.cells #[.string ⟨#[]⟩, .bool false, .string ⟨#[]⟩] 33)) w.heap.size 33 3 (.slice la k lc) k (fiF (fiR f))) := RV.out.below hb
            replace H : Below w.heap.size w (y0.alloc (.cells #[.string ⟨#[]⟩, .bool false, .string ⟨#[]⟩] 33)) := H.trans (hb.mono H.size)
            clear hb
            generalize (y0.alloc (.cells #[.string ⟨#[]⟩, .bool false, .string ⟨#[]⟩] 33)) = y1 at *
            generalize y0.heap.size = fb at *
            refine hK.out _ _ H (fun _ => ?_)
            clear hK KK
            change wpAnyH _ _ _ _ _ _ _ { tmps := #[_, _, _, _, _, _, _, _, _, _, _, _, _, _, _, _, _, _, _, _, _, _, _, _, _, _, _, _, _, _, _, _, _, _, _, _, _, _, _, _, _, _, _, _, _, _, _, _, _, _, _, _, _, _, _, _, _, _, _, _, _, _, _, _, _, _, _, _, _, _, _, _, _, _, _, _, _, _, _, _, _, _, _, _, _, _, _, _, _, _, _, _, _, _, _, _, _, _, _, _, _, _], defers := _ } _
            refine wpAnyH_ready (rs := [17]) (by kernel_rfl) (by simp) ?_
            refine (AllReadyH.cons rfl (fun KK hK => ?_) AllReadyH.nil)
            have c0 := FB.out.c0
            have c1 := FB.out.c1
            have c2 := FB.out.c2
            have f0 := FB.out.fr 0
            have f1 := FB.out.fr 1
            have f2 := FB.out.fr 2
            go_simp
            have FB2 : Hid (Box3 (((y1.setCell ⟨fb, 0, none⟩ (.string PT)).setCell ⟨fb, 1, none⟩ (.bool DB)).setCell ⟨fb, 2, none⟩ (.string ⟨#[]⟩)) fb 33 (.string PT) (.bool DB) (.string ⟨#[]⟩)) := ((FB.out.set0 _).set1 _).set2 _
            replace RV : Hid (EO (((y1.setCell ⟨fb, 0, none⟩ (.string PT)).setCell ⟨fb, 1, none⟩ (.bool DB)).setCell ⟨fb, 2, none⟩ (.string ⟨#[]⟩)) w.heap.size 33 3 (.slice la k lc) k (fiF (fiR f))) := RV.out.keep (fun g e => by rw [Below.heap_setCell _ _ _ g (NR.out g e), Below.heap_setCell _ _ _ g (NR.out g e), Below.heap_setCell _ _ _ g (NR.out g e)])
            replace H : Below w.heap.size w (((y1.setCell ⟨fb, 0, none⟩ (.string PT)).setCell ⟨fb, 1, none⟩ (.bool DB)).setCell ⟨fb, 2, none⟩ (.string ⟨#[]⟩)) := ((H.setCell (p := ⟨fb, 0, none⟩) FS.out _).setCell (p := ⟨fb, 1, none⟩) FS.out _).setCell (p := ⟨fb, 2, none⟩) FS.out _
            clear c0 c1 c2 f0 f1 f2 FB
            generalize (((y1.setCell ⟨fb, 0, none⟩ (.string PT)).setCell ⟨fb, 1, none⟩ (.bool DB)).setCell ⟨fb, 2, none⟩ (.string ⟨#[]⟩)) = y2 at *
            refine hK.out _ _ H (fun _ => ?_)
            clear hK KK
            change wpAnyH _ _ _ _ _ _ _ { tmps := #[_, _, _, _, _, _, _, _, _, _, _, _, _, _, _, _, _, _, _, _, _, _, _, _, _, _, _, _, _, _, _, _, _, _, _, _, _, _, _, _, _, _, _, _, _, _, _, _, _, _, _, _, _, _, _, _, _, _, _, _, _, _, _, _, _, _, _, _, _, _, _, _, _, _, _, _, _, _, _, _, _, _, _, _, _, _, _, _, _, _, _, _, _, _, _, _, _, _, _, _, _, _], defers := _ } _
            refine wpAnyH_done (by kernel_rfl) ?_ _
            refine NoPanic.normal ?_
            have B : Hid (Below w.heap.size w y2) := H
            clear H Bd sl1 ed hd' es
            go_wp2_with fail
            refine (NK.out _).mono ?_
            rintro e _ ⟨rfl, rfl⟩
            by_cases hCC : s + 4 + nn + x3 ≤ T.size
            · have d1 : ¬ (T.size : Int) < (s : Int) + ((nn : Int) + 2) + 2 + (x3 : Int) := by omega
              obtain ⟨DT, hDT⟩ : ∃ DT, DT = kstr f (s + 4 + nn) x3 := ⟨_, rfl⟩
              have sl3 : ∀ w' : World, (Instr.slice 9 (.string T) (some (.int .i64 ((s : Int) + ((nn : Int) + 2) + 2))) (some (.int .i64 ((s : Int) + ((nn : Int) + 2) + 2 + (x3 : Int)))) none).run Try.prog w' = .ok (.string DT) w' := fun w' => by
                have := run_slice_string (P := Try.prog) w' 9 T .i64 .i64 ((s : Int) + ((nn : Int) + 2) + 2) ((s : Int) + ((nn : Int) + 2) + 2 + (x3 : Int)) Try.underlying9 (by omega) (by omega) (by omega)
                rwa [show ((s : Int) + ((nn : Int) + 2) + 2).toNat = s + 4 + nn from by omega, show ((s : Int) + ((nn : Int) + 2) + 2 + (x3 : Int)).toNat = s + 4 + nn + x3 from by omega, cutF HT.out (s + 4 + nn) x3 (by omega), ← hDT] at this
              have c0 := FB2.out.c0
              have c1 := FB2.out.c1
              have c2 := FB2.out.c2
              have f2 := FB2.out.fr 2
              have FB3 : Hid (Box3 (y2.setCell ⟨fb, 2, none⟩ (.string DT)) fb 33 (.string PT) (.bool DB) (.string DT)) := FB2.out.set2 _
              have RV3 : Hid (EO (y2.setCell ⟨fb, 2, none⟩ (.string DT)) w.heap.size 33 3 (.slice la k lc) k (fiF (fiR f))) := RV.out.keep (fun g e => Below.heap_setCell _ _ _ g (NR.out g e))
              have B3 : Hid (Below w.heap.size w (y2.setCell ⟨fb, 2, none⟩ (.string DT))) := B.out.setCell (p := ⟨fb, 2, none⟩) FS.out _
              have HAT : Hid ((⟨PT, DB, DT⟩ : Fi) = fiR f k) := by
                obtain ⟨h1, h2⟩ := HFI.out
                show _ = atR f (stR f k)
                rw [← HS.out]
                unfold atR
                rw [h1, h2, hDT, HX3.out, HNN.out]
              have HNX : Hid (nxR f s = s + 4 + nn + x3) := by show nxR f s = _; unfold nxR; rw [← HX3.out, ← HNN.out]
              have HN2 : Hid (stR f (k + 1) = s + 4 + nn + x3) := by
                show nxR f (stR f k) = _
                rw [← HS.out]
                exact HNX.out
              clear hDT FB2 RV B NK HFI
              go_upto_region 18 with fail
              generalize (y2.setCell ⟨fb, 2, none⟩ (.string DT)) = z1 at *
              clear c0 c1 c2 f2
              have c0 := FB3.out.c0
              have c1 := FB3.out.c1
              have c2 := FB3.out.c2
              obtain ⟨la', lc', w', hr, hE, hB⟩ := fi_app (⟨PT, DB, DT⟩ : Fi) RV3.out B3.out (by have := HK.out; have := C0.out; omega)
              have E5 : Hid (EO w' w.heap.size 33 3 (.slice la' (k + 1) lc') (k + 1) (fiF (fiR f))) := hE.congr (fun i hi j hj => by
                show fiV _ j = fiV _ j
                by_cases e : i = k
                · rw [e, updE_eq, HAT.out]
                · rw [updE_ne _ _ e])
              have B5 : Hid (Below w.heap.size w w') := hB
              clear hE hB RV3 B3 FB3 HAT
              go_wp2_with (at_builtin; refine Lib.wpList_append_run _ rfl (.tmp 88) (.tmp 90) 26 26 rfl (.slice la k lc) (.slice (some ⟨z1.heap.size, 0, none⟩) 1 1) rfl rfl _ _ (hr _) ?_)
              go_wp2
              go_roundw
              case rel => exact ⟨k + 1, j - 1, lc', la', by omega, rfl, numEq8 (by have := HN2.out; omega), numEq8 (by omega), by have := HN2.out; omega, E5.out, B5.out⟩
              case measure => simp [intOf]; omega
            · have d1 : (T.size : Int) < (s : Int) + ((nn : Int) + 2) + 2 + (x3 : Int) := by omega
              have HG : Hid (¬ GoodR T.size f) := notGood HK.out (by rw [← HS.out]; unfold nxR; rw [← HX3.out, ← HNN.out]; omega)
              clear NK HFI HX3 HNN
              go_wp2
              go_ret2
              exact ⟨⟨_, _, _, _, rfl, by simp [HG.out], (fun h => by cases h), RV.out⟩, B.out⟩
          · have b1 : (T.size : Int) < (s : Int) + 1 + (nn : Int) + 3 := by omega
            have HG : Hid (¬ GoodR T.size f) := notGood HK.out (by rw [← HS.out]; unfold nxR; rw [← HNN.out]; omega)
            clear HNN
            go_wp2
            go_ret2
            exact ⟨⟨_, _, _, _, rfl, by simp [HG.out], (fun h => by cases h), RV.out⟩, B.out⟩
        · have a1 : (T.size : Int) ≤ (s : Int) := by omega
          have HG : Hid (¬ GoodR T.size f) := notGood HK.out (by rw [← HS.out]; unfold nxR; omega)
          go_wp2
          go_ret2
          exact ⟨⟨_, _, _, _, rfl, by simp [HG.out], (fun h => by cases h), RV.out⟩, B.out⟩
      · have hj' : ¬ (0 : Int) < (j : Int) := by omega
        obtain rfl : j = 0 := by omega
        obtain rfl : k = c0 := by omega
        have HST : Hid (stR f k ≤ T.size) := by show _ ≤ _; rw [← HS.out]; exact hst
        have hbd : Below wr.heap.size wr wr.drew := (Below.refl _ _).drew
        have RVd : Hid (EO wr.drew w.heap.size 33 3 (.slice la k lc) k (fiF (fiR f))) := RV.out.below hbd
        have Bd : Hid (Below w.heap.size w wr.drew) := B.out.trans (hbd.mono B.out.size)
        clear RV B hbd
        have RV : Hid (EO wr.drew w.heap.size 33 3 (.slice la k lc) k (fiF (fiR f))) := RVd.out
        clear RVd
        have FO : Hid (∀ w' : World, EO w' w.heap.size 33 3 (.slice la k lc) k (fiF (fiR f)) → Calls Try.prog 39 #[.slice la k lc] w' fun e w'' => Says e (FsOk k (fiR f)) ∧ Below w'.heap.size w' w'') := fun w' h => specFilesOK_any la k lc (fiR f) (fun i hi => by
          have h1 : (fiR f i).p.size = f (stR f i) := kstr_size _ _ _
          have h2 := HF.out (stR f i)
          omega) (by omega) w' h.els
        by_cases hok : FsOk k (fiR f)
        · have BY : Hid (∀ w' : World, EO w' w.heap.size 33 3 (.slice la k lc) k (fiF (fiR f)) → Calls Try.prog 97 #[.slice la k lc] w' fun e w'' => (∃ g c, e = .returned (.slice (some ⟨g, 0, none⟩) (filL k (fiR f)).length c) ∧ RL w'' w'.heap.size g c (filL k (fiR f))) ∧ Below w'.heap.size w' w'') := fun w' h => l11Bytes_any la k lc (fiR f) hok w' h.els
          have HEQ : Hid (kstr (fun i => (filL k (fiR f)).getD i 0) 0 (filL k (fiR f)).length = T ↔ filL k (fiR f) = byL T.size f) := strings_list (filL_lt hok) HF.out HT.out
          have HG : Hid ((kstr (fun i => (filL k (fiR f)).getD i 0) 0 (filL k (fiR f)).length = T) ↔ GoodR T.size f) := by
            refine HEQ.out.trans ⟨fun e => ?_, fun g => ?_⟩
            · have h0 := C0.out
              subst h0
              exact ⟨TZ.out, HST.out, hok, e⟩
            · have h0 := C0.out
              subst h0
              exact g.2.2.2
          clear HEQ
          have KC : Hid (∀ (w' : World) (B g c : Nat), RL w' B g c (filL k (fiR f)) → (convert 30 9 (.slice (some ⟨g, 0, none⟩) (filL k (fiR f)).length c)).run Try.prog w' = .ok (.string (kstr (fun i => (filL k (fiR f)).getD i 0) 0 (filL k (fiR f)).length)) w') := fun w' B g c h => kstr_of_code (code_of_RL h)
          generalize kstr (fun i => (filL k (fiR f)).getD i 0) 0 (filL k (fiR f)).length = KT at *
          generalize filL k (fiR f) = LL at *
          obtain ⟨BB, hBB1, hBB2⟩ : ∃ BB : Bool, (KT.toList == T.toList) = BB ∧ (BB = true ↔ KT = T) := by
            by_cases e : KT = T
            · subst e; exact ⟨true, by simp, by simp⟩
            · exact ⟨false, textNe e, by simp [e]⟩
          have HBB : Hid (BB = true ↔ GoodR T.size f) := hBB2.trans HG.out
          have HOK : Hid (FsOk k (fiR f)) := hok
          clear hok hBB2 HG HST HS
          go_upto_region 20 with fail
          have H : Below w.heap.size w wr.drew := Bd.out
          refine wp_region_noPanic ?_
          refine wp_region_held_drew (S := fun w' => Below w.heap.size w w') (by kernel_rfl) H (fun _ => ?_)
          generalize wr.drew = z0 at *
          refine wpAnyH_take (i := 0) (v := .slice la k lc) rfl (by kernel_rfl) (by kernel_rfl) (by kernel_rfl) (fun _ _ _ h => h) (Or.inl ⟨by rfl, ?_⟩) H ?_
          · intro w' hSw; clear hSw; go_simp
          change wpAnyH _ _ _ _ _ _ _ { tmps := #[_, _, _, _, _, _, _, _, _, _, _, _, _, _, _, _, _, _, _, _, _, _, _, _, _, _, _, _, _, _, _, _, _, _, _, _, _, _, _, _, _, _, _, _, _, _, _, _, _, _, _, _, _, _, _, _, _, _, _, _, _, _, _, _, _, _, _, _, _, _, _, _, _, _, _, _, _, _, _, _, _, _, _, _, _, _, _, _, _, _, _, _, _, _, _, _, _, _, _, _, _, _], defers := _ } _
          refine wpAnyH_take (i := 1) (v := .slice la k lc) rfl (by kernel_rfl) (by kernel_rfl) (by kernel_rfl) (fun _ _ _ h => h) (Or.inl ⟨by rfl, ?_⟩) H ?_
          · intro w' hSw; clear hSw; go_simp
          change wpAnyH _ _ _ _ _ _ _ { tmps := #[_, _, _, _, _, _, _, _, _, _, _, _, _, _, _, _, _, _, _, _, _, _, _, _, _, _, _, _, _, _, _, _, _, _, _, _, _, _, _, _, _, _, _, _, _, _, _, _, _, _, _, _, _, _, _, _, _, _, _, _, _, _, _, _, _, _, _, _, _, _, _, _, _, _, _, _, _, _, _, _, _, _, _, _, _, _, _, _, _, _, _, _, _, _, _, _, _, _, _, _, _, _], defers := _ } _
          refine wpAnyH_ready (rs := [2]) (by kernel_rfl) (by simp) ?_
          refine (AllReadyH.cons rfl (fun KK hK => ?_) AllReadyH.nil)
          go_simp
          refine (FO.out _ RV.out).mono ?_
          rintro e z1 ⟨⟨yb, rfl, hyb⟩, hb⟩
          obtain rfl : yb = true := hyb.2 HOK.out
          replace RV : Hid (EO z1 w.heap.size 33 3 (.slice la k lc) k (fiF (fiR f))) := RV.out.below hb
          replace H : Below w.heap.size w z1 := H.trans (hb.mono H.size)
          clear hb hyb FO
          refine hK.out _ _ H (fun _ => ?_)
          clear hK KK
          change wpAnyH _ _ _ _ _ _ _ { tmps := #[_, _, _, _, _, _, _, _, _, _, _, _, _, _, _, _, _, _, _, _, _, _, _, _, _, _, _, _, _, _, _, _, _, _, _, _, _, _, _, _, _, _, _, _, _, _, _, _, _, _, _, _, _, _, _, _, _, _, _, _, _, _, _, _, _, _, _, _, _, _, _, _, _, _, _, _, _, _, _, _, _, _, _, _, _, _, _, _, _, _, _, _, _, _, _, _, _, _, _, _, _, _], defers := _ } _
          refine wpAnyH_take (i := 3) (v := .bool true) rfl (by kernel_rfl) (by kernel_rfl) (by kernel_rfl) (fun _ _ _ h => h) (Or.inl ⟨by rfl, ?_⟩) H ?_
          · intro w' hSw; clear hSw; go_simp
          change wpAnyH _ _ _ _ _ _ _ { tmps := #[_, _, _, _, _, _, _, _, _, _, _, _, _, _, _, _, _, _, _, _, _, _, _, _, _, _, _, _, _, _, _, _, _, _, _, _, _, _, _, _, _, _, _, _, _, _, _, _, _, _, _, _, _, _, _, _, _, _, _, _, _, _, _, _, _, _, _, _, _, _, _, _, _, _, _, _, _, _, _, _, _, _, _, _, _, _, _, _, _, _, _, _, _, _, _, _, _, _, _, _, _, _], defers := _ } _
          refine wpAnyH_take (i := 4) (v := .slice la k lc) rfl (by kernel_rfl) (by kernel_rfl) (by kernel_rfl) (fun _ _ _ h => h) (Or.inl ⟨by rfl, ?_⟩) H ?_
          · intro w' hSw; clear hSw; go_simp
          change wpAnyH _ _ _ _ _ _ _ { tmps := #[_, _, _, _, _, _, _, _, _, _, _, _, _, _, _, _, _, _, _, _, _, _, _, _, _, _, _, _, _, _, _, _, _, _, _, _, _, _, _, _, _, _, _, _, _, _, _, _, _, _, _, _, _, _, _, _, _, _, _, _, _, _, _, _, _, _, _, _, _, _, _, _, _, _, _, _, _, _, _, _, _, _, _, _, _, _, _, _, _, _, _, _, _, _, _, _, _, _, _, _, _, _], defers := _ } _
          refine wpAnyH_take (i := 7) (v := .string T) rfl (by kernel_rfl) (by kernel_rfl) (by kernel_rfl) (fun _ _ _ h => h) (Or.inl ⟨by rfl, ?_⟩) H ?_
          · intro w' hSw; clear hSw; go_simp
          change wpAnyH _ _ _ _ _ _ _ { tmps := #[_, _, _, _, _, _, _, _, _, _, _, _, _, _, _, _, _, _, _, _, _, _, _, _, _, _, _, _, _, _, _, _, _, _, _, _, _, _, _, _, _, _, _, _, _, _, _, _, _, _, _, _, _, _, _, _, _, _, _, _, _, _, _, _, _, _, _, _, _, _, _, _, _, _, _, _, _, _, _, _, _, _, _, _, _, _, _, _, _, _, _, _, _, _, _, _, _, _, _, _, _, _], defers := _ } _
          refine wpAnyH_ready (rs := [5]) (by kernel_rfl) (by simp) ?_
          refine (AllReadyH.cons rfl (fun KK hK => ?_) AllReadyH.nil)
          go_simp
          refine (BY.out _ RV.out).mono ?_
          rintro e z2 ⟨⟨gb, gc, rfl, hrl⟩, hb⟩
          replace RV : Hid (EO z2 w.heap.size 33 3 (.slice la k lc) k (fiF (fiR f))) := RV.out.below hb
          have hcv := KC.out _ _ gb gc hrl
          replace H : Below w.heap.size w z2 := H.trans (hb.mono H.size)
          clear hb hrl BY
          refine hK.out _ _ H (fun _ => ?_)
          clear hK KK
          change wpAnyH _ _ _ _ _ _ _ { tmps := #[_, _, _, _, _, _, _, _, _, _, _, _, _, _, _, _, _, _, _, _, _, _, _, _, _, _, _, _, _, _, _, _, _, _, _, _, _, _, _, _, _, _, _, _, _, _, _, _, _, _, _, _, _, _, _, _, _, _, _, _, _, _, _, _, _, _, _, _, _, _, _, _, _, _, _, _, _, _, _, _, _, _, _, _, _, _, _, _, _, _, _, _, _, _, _, _, _, _, _, _, _, _], defers := _ } _
          refine wpAnyH_take (i := 10) (v := .slice la k lc) rfl (by kernel_rfl) (by kernel_rfl) (by kernel_rfl) (fun _ _ _ h => h) (Or.inl ⟨by rfl, ?_⟩) H ?_
          · intro w' hSw; clear hSw; go_simp
          change wpAnyH _ _ _ _ _ _ _ { tmps := #[_, _, _, _, _, _, _, _, _, _, _, _, _, _, _, _, _, _, _, _, _, _, _, _, _, _, _, _, _, _, _, _, _, _, _, _, _, _, _, _, _, _, _, _, _, _, _, _, _, _, _, _, _, _, _, _, _, _, _, _, _, _, _, _, _, _, _, _, _, _, _, _, _, _, _, _, _, _, _, _, _, _, _, _, _, _, _, _, _, _, _, _, _, _, _, _, _, _, _, _, _, _], defers := _ } _
          refine wpAnyH_ready (rs := [6]) (by kernel_rfl) (by simp) ?_
          refine (AllReadyH.cons rfl (fun KK hK => ?_) AllReadyH.nil)
          go_simp
          refine hK.out _ _ H (fun _ => ?_)
          clear hK KK
          change wpAnyH _ _ _ _ _ _ _ { tmps := #[_, _, _, _, _, _, _, _, _, _, _, _, _, _, _, _, _, _, _, _, _, _, _, _, _, _, _, _, _, _, _, _, _, _, _, _, _, _, _, _, _, _, _, _, _, _, _, _, _, _, _, _, _, _, _, _, _, _, _, _, _, _, _, _, _, _, _, _, _, _, _, _, _, _, _, _, _, _, _, _, _, _, _, _, _, _, _, _, _, _, _, _, _, _, _, _, _, _, _, _, _, _], defers := _ } _
          refine wpAnyH_take (i := 8) (v := .bool BB) rfl (by kernel_rfl) (by kernel_rfl) (by kernel_rfl) (fun _ _ _ h => h) (Or.inl ⟨by rfl, ?_⟩) H ?_
          · intro w' hSw; clear hSw; go_simp
          change wpAnyH _ _ _ _ _ _ _ { tmps := #[_, _, _, _, _, _, _, _, _, _, _, _, _, _, _, _, _, _, _, _, _, _, _, _, _, _, _, _, _, _, _, _, _, _, _, _, _, _, _, _, _, _, _, _, _, _, _, _, _, _, _, _, _, _, _, _, _, _, _, _, _, _, _, _, _, _, _, _, _, _, _, _, _, _, _, _, _, _, _, _, _, _, _, _, _, _, _, _, _, _, _, _, _, _, _, _, _, _, _, _, _, _], defers := _ } _
          refine wpAnyH_take (i := 9) (v := .bool BB) rfl (by kernel_rfl) (by kernel_rfl) (by kernel_rfl) (fun _ _ _ h => h) (Or.inl ⟨by rfl, ?_⟩) H ?_
          · intro w' hSw; clear hSw; go_simp
          change wpAnyH _ _ _ _ _ _ _ { tmps := #[_, _, _, _, _, _, _, _, _, _, _, _, _, _, _, _, _, _, _, _, _, _, _, _, _, _, _, _, _, _, _, _, _, _, _, _, _, _, _, _, _, _, _, _, _, _, _, _, _, _, _, _, _, _, _, _, _, _, _, _, _, _, _, _, _, _, _, _, _, _, _, _, _, _, _, _, _, _, _, _, _, _, _, _, _, _, _, _, _, _, _, _, _, _, _, _, _, _, _, _, _, _], defers := _ } _
          refine wpAnyH_take (i := 11) (v := .bool BB) rfl (by kernel_rfl) (by kernel_rfl) (by kernel_rfl) (fun _ _ _ h => h) (Or.inl ⟨by rfl, ?_⟩) H ?_
          · intro w' hSw; clear hSw; go_simp
          change wpAnyH _ _ _ _ _ _ _ { tmps := #[_, _, _, _, _, _, _, _, _, _, _, _, _, _, _, _, _, _, _, _, _, _, _, _, _, _, _, _, _, _, _, _, _, _, _, _, _, _, _, _, _, _, _, _, _, _, _, _, _, _, _, _, _, _, _, _, _, _, _, _, _, _, _, _, _, _, _, _, _, _, _, _, _, _, _, _, _, _, _, _, _, _, _, _, _, _, _, _, _, _, _, _, _, _, _, _, _, _, _, _, _, _], defers := _ } _
          refine wpAnyH_done (by kernel_rfl) ?_ _
          refine NoPanic.normal ?_
          have B9 : Hid (Below w.heap.size w z2) := H
          clear H
          go_wp2
          go_ret2
          exact ⟨⟨_, _, _, _, rfl, HBB.out, fun _ => C0.out, RV.out⟩, B9.out⟩
        · have HG : Hid (¬ GoodR T.size f) := fun g => by
            have h0 := C0.out
            subst h0
            exact hok g.2.2.1
          have HOK : Hid (¬ FsOk k (fiR f)) := hok
          clear hok HST HS
          go_upto_region 20 with fail
          have H : Below w.heap.size w wr.drew := Bd.out
          refine wp_region_noPanic ?_
          refine wp_region_held_drew (S := fun w' => Below w.heap.size w w') (by kernel_rfl) H (fun _ => ?_)
          generalize wr.drew = z0 at *
          refine wpAnyH_take (i := 0) (v := .slice la k lc) rfl (by kernel_rfl) (by kernel_rfl) (by kernel_rfl) (fun _ _ _ h => h) (Or.inl ⟨by rfl, ?_⟩) H ?_
          · intro w' hSw; clear hSw; go_simp
          change wpAnyH _ _ _ _ _ _ _ { tmps := #[_, _, _, _, _, _, _, _, _, _, _, _, _, _, _, _, _, _, _, _, _, _, _, _, _, _, _, _, _, _, _, _, _, _, _, _, _, _, _, _, _, _, _, _, _, _, _, _, _, _, _, _, _, _, _, _, _, _, _, _, _, _, _, _, _, _, _, _, _, _, _, _, _, _, _, _, _, _, _, _, _, _, _, _, _, _, _, _, _, _, _, _, _, _, _, _, _, _, _, _, _, _], defers := _ } _
          refine wpAnyH_take (i := 1) (v := .slice la k lc) rfl (by kernel_rfl) (by kernel_rfl) (by kernel_rfl) (fun _ _ _ h => h) (Or.inl ⟨by rfl, ?_⟩) H ?_
          · intro w' hSw; clear hSw; go_simp
          change wpAnyH _ _ _ _ _ _ _ { tmps := #[_, _, _, _, _, _, _, _, _, _, _, _, _, _, _, _, _, _, _, _, _, _, _, _, _, _, _, _, _, _, _, _, _, _, _, _, _, _, _, _, _, _, _, _, _, _, _, _, _, _, _, _, _, _, _, _, _, _, _, _, _, _, _, _, _, _, _, _, _, _, _, _, _, _, _, _, _, _, _, _, _, _, _, _, _, _, _, _, _, _, _, _, _, _, _, _, _, _, _, _, _, _], defers := _ } _
          refine wpAnyH_ready (rs := [2]) (by kernel_rfl) (by simp) ?_
          refine (AllReadyH.cons rfl (fun KK hK => ?_) AllReadyH.nil)
          go_simp
          refine (FO.out _ RV.out).mono ?_
          rintro e z1 ⟨⟨yb, rfl, hyb⟩, hb⟩
          obtain rfl : yb = false := by cases yb with | false => rfl | true => exact absurd (hyb.1 rfl) HOK.out
          replace RV : Hid (EO z1 w.heap.size 33 3 (.slice la k lc) k (fiF (fiR f))) := RV.out.below hb
          replace H : Below w.heap.size w z1 := H.trans (hb.mono H.size)
          clear hb hyb FO
          refine hK.out _ _ H (fun _ => ?_)
          clear hK KK
          change wpAnyH _ _ _ _ _ _ _ { tmps := #[_, _, _, _, _, _, _, _, _, _, _, _, _, _, _, _, _, _, _, _, _, _, _, _, _, _, _, _, _, _, _, _, _, _, _, _, _, _, _, _, _, _, _, _, _, _, _, _, _, _, _, _, _, _, _, _, _, _, _, _, _, _, _, _, _, _, _, _, _, _, _, _, _, _, _, _, _, _, _, _, _, _, _, _, _, _, _, _, _, _, _, _, _, _, _, _, _, _, _, _, _, _], defers := _ } _
          refine wpAnyH_take (i := 3) (v := .bool false) rfl (by kernel_rfl) (by kernel_rfl) (by kernel_rfl) (fun _ _ _ h => h) (Or.inl ⟨by rfl, ?_⟩) H ?_
          · intro w' hSw; clear hSw; go_simp
          change wpAnyH _ _ _ _ _ _ _ { tmps := #[_, _, _, _, _, _, _, _, _, _, _, _, _, _, _, _, _, _, _, _, _, _, _, _, _, _, _, _, _, _, _, _, _, _, _, _, _, _, _, _, _, _, _, _, _, _, _, _, _, _, _, _, _, _, _, _, _, _, _, _, _, _, _, _, _, _, _, _, _, _, _, _, _, _, _, _, _, _, _, _, _, _, _, _, _, _, _, _, _, _, _, _, _, _, _, _, _, _, _, _, _, _], defers := _ } _
          refine wpAnyH_take (i := 4) (v := undef) rfl (by kernel_rfl) (by kernel_rfl) (by kernel_rfl) (fun _ _ _ h => h) (Or.inr ⟨by rfl, rfl⟩) H ?_
          change wpAnyH _ _ _ _ _ _ _ { tmps := #[_, _, _, _, _, _, _, _, _, _, _, _, _, _, _, _, _, _, _, _, _, _, _, _, _, _, _, _, _, _, _, _, _, _, _, _, _, _, _, _, _, _, _, _, _, _, _, _, _, _, _, _, _, _, _, _, _, _, _, _, _, _, _, _, _, _, _, _, _, _, _, _, _, _, _, _, _, _, _, _, _, _, _, _, _, _, _, _, _, _, _, _, _, _, _, _, _, _, _, _, _, _], defers := _ } _
          refine wpAnyH_take (i := 5) (v := undef) rfl (by kernel_rfl) (by kernel_rfl) (by kernel_rfl) (fun _ _ _ h => h) (Or.inr ⟨by rfl, rfl⟩) H ?_
          change wpAnyH _ _ _ _ _ _ _ { tmps := #[_, _, _, _, _, _, _, _, _, _, _, _, _, _, _, _, _, _, _, _, _, _, _, _, _, _, _, _, _, _, _, _, _, _, _, _, _, _, _, _, _, _, _, _, _, _, _, _, _, _, _, _, _, _, _, _, _, _, _, _, _, _, _, _, _, _, _, _, _, _, _, _, _, _, _, _, _, _, _, _, _, _, _, _, _, _, _, _, _, _, _, _, _, _, _, _, _, _, _, _, _, _], defers := _ } _
          refine wpAnyH_take (i := 6) (v := undef) rfl (by kernel_rfl) (by kernel_rfl) (by kernel_rfl) (fun _ _ _ h => h) (Or.inr ⟨by rfl, rfl⟩) H ?_
          change wpAnyH _ _ _ _ _ _ _ { tmps := #[_, _, _, _, _, _, _, _, _, _, _, _, _, _, _, _, _, _, _, _, _, _, _, _, _, _, _, _, _, _, _, _, _, _, _, _, _, _, _, _, _, _, _, _, _, _, _, _, _, _, _, _, _, _, _, _, _, _, _, _, _, _, _, _, _, _, _, _, _, _, _, _, _, _, _, _, _, _, _, _, _, _, _, _, _, _, _, _, _, _, _, _, _, _, _, _, _, _, _, _, _, _], defers := _ } _
          refine wpAnyH_take (i := 7) (v := undef) rfl (by kernel_rfl) (by kernel_rfl) (by kernel_rfl) (fun _ _ _ h => h) (Or.inr ⟨by rfl, rfl⟩) H ?_
          change wpAnyH _ _ _ _ _ _ _ { tmps := #[_, _, _, _, _, _, _, _, _, _, _, _, _, _, _, _, _, _, _, _, _, _, _, _, _, _, _, _, _, _, _, _, _, _, _, _, _, _, _, _, _, _, _, _, _, _, _, _, _, _, _, _, _, _, _, _, _, _, _, _, _, _, _, _, _, _, _, _, _, _, _, _, _, _, _, _, _, _, _, _, _, _, _, _, _, _, _, _, _, _, _, _, _, _, _, _, _, _, _, _, _, _], defers := _ } _
          refine wpAnyH_take (i := 8) (v := undef) rfl (by kernel_rfl) (by kernel_rfl) (by kernel_rfl) (fun _ _ _ h => h) (Or.inr ⟨by rfl, rfl⟩) H ?_
          change wpAnyH _ _ _ _ _ _ _ { tmps := #[_, _, _, _, _, _, _, _, _, _, _, _, _, _, _, _, _, _, _, _, _, _, _, _, _, _, _, _, _, _, _, _, _, _, _, _, _, _, _, _, _, _, _, _, _, _, _, _, _, _, _, _, _, _, _, _, _, _, _, _, _, _, _, _, _, _, _, _, _, _, _, _, _, _, _, _, _, _, _, _, _, _, _, _, _, _, _, _, _, _, _, _, _, _, _, _, _, _, _, _, _, _], defers := _ } _
          refine wpAnyH_take (i := 9) (v := .bool false) rfl (by kernel_rfl) (by kernel_rfl) (by kernel_rfl) (fun _ _ _ h => h) (Or.inl ⟨by rfl, ?_⟩) H ?_
          · intro w' hSw; clear hSw; go_simp
          change wpAnyH _ _ _ _ _ _ _ { tmps := #[_, _, _, _, _, _, _, _, _, _, _, _, _, _, _, _, _, _, _, _, _, _, _, _, _, _, _, _, _, _, _, _, _, _, _, _, _, _, _, _, _, _, _, _, _, _, _, _, _, _, _, _, _, _, _, _, _, _, _, _, _, _, _, _, _, _, _, _, _, _, _, _, _, _, _, _, _, _, _, _, _, _, _, _, _, _, _, _, _, _, _, _, _, _, _, _, _, _, _, _, _, _], defers := _ } _
          refine wpAnyH_take (i := 10) (v := .slice la k lc) rfl (by kernel_rfl) (by kernel_rfl) (by kernel_rfl) (fun _ _ _ h => h) (Or.inl ⟨by rfl, ?_⟩) H ?_
          · intro w' hSw; clear hSw; go_simp
          change wpAnyH _ _ _ _ _ _ _ { tmps := #[_, _, _, _, _, _, _, _, _, _, _, _, _, _, _, _, _, _, _, _, _, _, _, _, _, _, _, _, _, _, _, _, _, _, _, _, _, _, _, _, _, _, _, _, _, _, _, _, _, _, _, _, _, _, _, _, _, _, _, _, _, _, _, _, _, _, _, _, _, _, _, _, _, _, _, _, _, _, _, _, _, _, _, _, _, _, _, _, _, _, _, _, _, _, _, _, _, _, _, _, _, _], defers := _ } _
          refine wpAnyH_take (i := 11) (v := .bool false) rfl (by kernel_rfl) (by kernel_rfl) (by kernel_rfl) (fun _ _ _ h => h) (Or.inl ⟨by rfl, ?_⟩) H ?_
          · intro w' hSw; clear hSw; go_simp
          change wpAnyH _ _ _ _ _ _ _ { tmps := #[_, _, _, _, _, _, _, _, _, _, _, _, _, _, _, _, _, _, _, _, _, _, _, _, _, _, _, _, _, _, _, _, _, _, _, _, _, _, _, _, _, _, _, _, _, _, _, _, _, _, _, _, _, _, _, _, _, _, _, _, _, _, _, _, _, _, _, _, _, _, _, _, _, _, _, _, _, _, _, _, _, _, _, _, _, _, _, _, _, _, _, _, _, _, _, _, _, _, _, _, _, _], defers := _ } _
          refine wpAnyH_done (by kernel_rfl) ?_ _
          refine NoPanic.normal ?_
          have B9 : Hid (Below w.heap.size w z1) := H
          clear H
          go_wp2
          go_ret2
          exact ⟨⟨_, _, _, _, rfl, by simp [HG.out], fun _ => C0.out, RV.out⟩, B9.out⟩
theorem retFs_lit (w : World) (cd : Int) (B : Nat) (hB : B ≤ w.heap.size) (G : Nat → Fi) : RetFs 0 G cd B (.returned (.tuple #[.slice (some ⟨w.heap.size, 0, none⟩) 0 0, .int .i64 cd])) (w.alloc (.cells #[] 33)) := ⟨_, _, rfl, EO.lit w B _ 3 hB _⟩
set_option maxRecDepth 100000 in
set_option maxHeartbeats 2000000 in
theorem specRf_any (a : Option Addr) (N c : Nat) (f : Nat → Nat) (hf : ∀ i, f i < 256) (w : World) (h : Code8 w a N f) :
    Calls Try.prog 21 #[.slice a N c] w fun e w' => (∃ m G cd, RfIs N f m G cd ∧ RetFs m G cd w.heap.size e w') ∧ Below w.heap.size w w' := by
  by_cases hL : 65536 < N
  · have g0 : (65536 : Int) < (N : Int) := by omega
    have HX : Hid (RfIs N f 0 (fiR f) 2) := .inl ⟨hL, rfl, rfl⟩
    clear h hL
    go_enter Try.func21, Try.ntmps21
    go_wp2
    go_ret2
    exact ⟨⟨_, _, _, HX.out, retFs_lit _ _ _ (Nat.le_refl _) _⟩, (Below.refl _ _).alloc (Nat.le_refl _) _⟩
  · have g0 : ¬ (65536 : Int) < (N : Int) := by omega
    have cv := convAny (c := c) h
    have HZ : (kstr f 0 N).size = N := kstr_size _ _ _
    have RD : Hid (Calls Try.prog 55 #[.string (kstr f 0 N)] w fun e w' => RetRf f N w.heap.size e w' ∧ Below w.heap.size w w') := by
      have := l11Read_any (kstr f 0 N) f hf (fun i hi => by rw [HZ] at hi; rw [strB_kstr _ _ _ _ (by rw [Nat.zero_add]; exact hf i) hi, Nat.zero_add]) (by omega) w
      rwa [HZ] at this
    have HL : Hid (¬ 65536 < N) := hL
    clear h hL hf HZ
    generalize kstr f 0 N = T at *
    go_enter Try.func21, Try.ntmps21
    go_wp2_with fail
    refine (Calls.mono RD.out) ?_
    rintro e v1 ⟨⟨la, m, lc, ok, rfl, h1, h2, h3⟩, hb⟩
    have B1 : Hid (Below w.heap.size w v1) := hb
    have E1 : Hid (EO v1 w.heap.size 33 3 (.slice la m lc) m (fiF (fiR f))) := h3
    have HG : Hid ((ok = true ↔ GoodR N f) ∧ (ok = true → m = f 0)) := ⟨h1, h2⟩
    clear hb h1 h2 h3 RD cv
    cases ok with
    | true =>
      have HX : Hid (RfIs N f m (fiR f) 0) := .inr ⟨HL.out, .inl ⟨HG.out.1.1 rfl, rfl, HG.out.2 rfl, fun _ _ => rfl⟩⟩
      clear HG
      go_wp2
      go_ret2
      exact ⟨⟨_, _, _, HX.out, ⟨_, _, rfl, E1.out⟩⟩, B1.out⟩
    | false =>
      have HX : Hid (RfIs N f 0 (fiR f) 3) := .inr ⟨HL.out, .inr ⟨(fun g => by have := HG.out.1.2 g; cases this), rfl, rfl⟩⟩
      clear HG
      go_wp2
      go_ret2
      exact ⟨⟨_, _, _, HX.out, retFs_lit _ _ _ B1.out.size _⟩, B1.out.alloc B1.out.size _⟩
end Go.Proofs.Ytglfhajfbdjjcaa
