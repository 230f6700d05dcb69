/-
  l11Put of the model (written by tools/mkl11put.py).
-/
import Derived.Test.YtgcdoabcopihlaaGreatFileOk0
import Derived.Test.YtgcdoabcopihlaaGreatFileMk
import Derived.Deep.Cut
namespace Go.Proofs.YtgcdoabcopihlaaGreat
open Go.ChangeShapes Go.WideShapes Go.ChangeAt Go.RowKit
set_option linter.unusedVariables false
/-- On the way: what is put so far. -/
def PutSt (F : Nat → Fi) (f : Fi) (k : Nat) (fd : Prop) (i m : Nat) (G : Nat → Fi) (z : Bool) : Prop := (i ≤ k ∧ z = false ∧ i = m ∧ ∀ j, j < m → G j = F j) ∨ (k < i ∧ z = true ∧ ((fd ∧ i = m ∧ ∀ j, j < m → G j = updE F k f j) ∨ (¬ fd ∧ m = i + 1 ∧ ∀ j, j < m → G j = insE F k f j)))
theorem upd_snoc {T : Type} {G H : Nat → T} {m : Nat} {x : T} (h : ∀ j, j < m → G j = H j) (hx : x = H m) : ∀ j, j < m + 1 → updE G m x j = H j := fun j hj => by
  by_cases e : j = m
  · subst e; rw [updE_eq]; exact hx
  · rw [updE_ne _ _ e]; exact h j (by omega)
theorem litFi (w : World) (x : Fi) : ∀ j, j < 3 → (w.alloc (.cells #[.string x.p, .bool x.d, .string x.t] 51)).cell? ⟨w.heap.size, 0 + j, none⟩ = some (fiV x j) := fun j hj => by
  rcases (show j = 0 ∨ j = 1 ∨ j = 2 by omega) with rfl | rfl | rfl <;> simp [fiV]
/-- One more file is appended to a row of one's own. -/
theorem appOne {wr : World} {B n : Nat} {v1 : World} {a : Option Addr} {c : Nat} {G : Nat → Fi} (x : Fi) (hv : v1.heap.size = B) (hn : n ≤ 100000) (h : EO wr B 51 3 (.slice a n c) n (fiF G)) (hb : Below B v1 wr) :
    ∃ a' c' w', (∀ ty, (Builtin.append_ #[23, 23] ty #[.slice a n c, .slice (some ⟨wr.heap.size, 0, none⟩) 1 1]).run Tryz.prog (wr.alloc (.cells #[.string x.p, .bool x.d, .string x.t] 51)) = .ok (.slice a' (n + 1) c') w') ∧ EO w' B 51 3 (.slice a' (n + 1) c') (n + 1) (fiF (updE G n x)) ∧ Below B v1 w' := by
  have hsz := hb.size
  have WB : Below wr.heap.size wr (wr.alloc (.cells #[.string x.p, .bool x.d, .string x.t] 51)) := (Below.refl _ _).alloc (Nat.le_refl _) _
  obtain ⟨v', w', hr, ho, hg, hloc⟩ := appFi (wr.alloc (.cells #[.string x.p, .bool x.d, .string x.t] 51)) B _ n wr.heap.size G x (by simp; omega) hn (h.below WB) (litFi wr x)
  obtain ⟨a', c', rfl⟩ := ho.form
  refine ⟨a', c', w', hr, ho, ?_⟩
  exact (hb.trans (WB.mono (by omega))).grown hg (by simp; omega) (fun g e => (h.ge g e).1)
theorem elsAt {w : World} {b off n : Nat} {F : Nat → Nat → Value} (h : Els w 3 (some ⟨b, off, none⟩) n F) : ∀ i, i < n → ∀ j, j < 3 → w.cell? ⟨b, off + i * 3 + j, none⟩ = some (F i j) := fun i hi j hj => by
  obtain ⟨b', off', e, hc⟩ := h i hi
  cases e
  exact hc j hj
set_option maxRecDepth 100000 in
set_option maxHeartbeats 4000000 in
theorem l11Put_gen (a : Option Addr) (n c : Nat) (F : Nat → Fi) (f : Fi) (hz40 : ∀ i, i < n → (F i).p.size ≤ 40) (hu40 : Rises (fun i => ord (F i).p) n) (hf : f.p.size ≤ 40) (hn : n ≤ 100) (w : World) (h : Els w 3 a n (fiF F)) :
    Calls Tryz.prog 75 #[.slice a n c, .agg #[.string f.p, .bool f.d, .string f.t]] w fun e w' => RetPut n F f w.heap.size e w' ∧ Below w.heap.size w w' := by
  have hP := pos_of hu40 (ord f.p)
  generalize posN (fun i => ord (F i).p) (ord f.p) n = k at hP
  obtain ⟨v1, hv1⟩ : ∃ v, v = w.alloc (.cells #[.string f.p, .bool f.d, .string f.t] 51) := ⟨_, rfl⟩
  have A1 : Below w.heap.size w v1 := by rw [hv1]; exact (Below.refl _ _).alloc (Nat.le_refl _) _
  have X1 : Hid (Box3 v1 w.heap.size 51 (.string f.p) (.bool f.d) (.string f.t)) := by show Box3 _ _ _ _ _ _; rw [hv1]; exact Box3.made _ _ _ _ _
  have S1 : Hid (v1.heap.size = w.heap.size + 1) := by show _ = _; rw [hv1]; simp
  have HV : Hid (w.alloc (.cells #[.string f.p, .bool f.d, .string f.t] 51) = v1) := hv1.symm
  have HA : Hid (Below w.heap.size w v1) := A1
  have H1 : Hid (Els v1 3 a n (fiF F)) := h.below A1
  have HK : Hid (k ≤ n ∧ (∀ i, i < k → ord (F i).p < ord f.p) ∧ (∀ i, k ≤ i → i < n → ord f.p ≤ ord (F i).p)) := hP
  have HPOS : Hid (Pos (fun i => ord (F i).p) n (ord f.p) k) := hP
  obtain ⟨fd, hfd⟩ : ∃ P : Prop, P = (k < n ∧ (F k).p = f.p) := ⟨_, rfl⟩
  have HFD : Hid (fd ↔ (k < n ∧ (F k).p = f.p)) := by show _ ↔ _; rw [hfd]
  have HS : Hid ((∀ i, i < n → (F i).p.size ≤ 40) ∧ Rises (fun i => ord (F i).p) n) := ⟨hz40, hu40⟩
  have HF : Hid (f.p.size ≤ 40) := hf
  have HEND : Hid (∀ m G, (fd ∧ m = n ∧ ∀ j, j < m → G j = updE F k f j) ∨ (¬ fd ∧ m = n + 1 ∧ ∀ j, j < m → G j = insE F k f j) → PutIs n F f m G) := fun m G q => by
    rcases q with ⟨q1, rfl, q3⟩ | ⟨q1, rfl, q3⟩
    · exact .inl ⟨k, (HFD.out.1 q1).1, (HFD.out.1 q1).2, rfl, q3⟩
    · refine .inr ⟨fun j hj e => ?_, rfl, k, HPOS.out, q3⟩
      rcases Nat.lt_trichotomy j k with g | g | g
      · have := HK.out.2.1 j g; rw [e] at this; omega
      · subst g; exact q1 (HFD.out.2 ⟨hj, e⟩)
      · have h1 := HK.out.2.2 k (Nat.le_refl _) (by omega)
        have h2 := HS.out.2 k j g hj
        dsimp only at h2
        rw [e] at h2; omega
  have L0 : Hid (EO (v1.alloc (.cells #[] 51)) v1.heap.size 51 3 (.slice (some ⟨v1.heap.size, 0, none⟩) 0 0) 0 (fiF F)) := EO.lit v1 v1.heap.size _ 3 (Nat.le_refl _) _
  have LB : Hid (Below v1.heap.size v1 (v1.alloc (.cells #[] 51))) := (Below.refl _ _).alloc (Nat.le_refl _) _
  clear hP hv1 A1 h hfd hz40 hu40 hf
  go_enter Tryz.func75, Tryz.ntmps75
  go_wp2
  rw [HV.out]
  rw [← S1.out]
  go_loopw [5, 6, 7] (fun v z i wr => ∃ (q m cc : Nat) (aa : Option Addr) (G : Nat → Fi) (zz : Bool), q ≤ n ∧ v = .slice aa m cc ∧ z = .bool zz ∧ i = .int .i64 q ∧ PutSt F f k fd q m G zz ∧ EO wr v1.heap.size 51 3 (.slice aa m cc) m (fiF G) ∧ Below v1.heap.size v1 wr) (fun _ _ i _ => n - (intOf i).toNat)
  case atStart => exact ⟨0, 0, 0, _, F, false, by omega, rfl, rfl, rfl, .inl ⟨by omega, rfl, rfl, fun j hj => absurd hj (by omega)⟩, L0.out, LB.out⟩
  case round =>
    obtain ⟨q, m, cc, aa, G, zz, hq, rfl, rfl, rfl, hst, ho, hb⟩ := hrel
    have HO : Hid (EO wr v1.heap.size 51 3 (.slice aa m cc) m (fiF G)) := ho
    have HB : Hid (Below v1.heap.size v1 wr) := hb
    have HST : Hid (PutSt F f k fd q m G zz) := hst
    have hm : m ≤ 101 := by rcases hst with ⟨_, _, r, _⟩ | ⟨_, _, ⟨_, r, _⟩ | ⟨_, r, _⟩⟩ <;> omega
    have X2 : Hid (Box3 wr w.heap.size 51 (.string f.p) (.bool f.d) (.string f.t)) := X1.out.below hb
    have y0 := X2.out.c0
    have y1 := X2.out.c1
    have y2 := X2.out.c2
    clear ho hb L0 LB
    by_cases hlt : q < n
    · have hlt' : (q : Int) < (n : Int) := by omega
      obtain ⟨b, off, rfl, hc⟩ := (H1.out.below HB.out).opened (by omega)
      obtain ⟨c0, c1, c2⟩ := Els.fiC hc q hlt
      have HC : Hid (∀ i, i < n → ∀ j, j < 3 → wr.cell? ⟨b, off + i * 3 + j, none⟩ = some (fiF F i j)) := hc
      have hp40 := HS.out.1 q hlt
      clear hc
      rcases hst with ⟨h1, rfl, rfl, hG⟩ | ⟨h1, rfl, hG⟩
      · rcases Nat.lt_or_ge q k with g | g
        · have less := less_yes hp40 HF.out (HK.out.2.1 q g)
          have ne : (F q).p ≠ f.p := fun e => by have := HK.out.2.1 q g; rw [e] at this; omega
          have g1 : ((F q).p.toList == f.p.toList) = false := textNe ne
          have ST : Hid (PutSt F f k fd (q + 1) (q + 1) (updE G q (F q)) false) := .inl ⟨by omega, rfl, rfl, upd_snoc hG rfl⟩
          clear ne hG HST
          go_wp2_with fail
          go_quiet (fail)
          clear c0 c1 c2 y0 y1 y2
          replace HO : Hid (EO (wr.drewN nq) v1.heap.size 51 3 (.slice aa q cc) q (fiF G)) := HO.out.below (below_dN _ _)
          replace HB : Hid (Below v1.heap.size v1 (wr.drewN nq)) := below_drewN HB.out _
          replace HC : Hid (∀ i, i < n → ∀ j, j < 3 → (wr.drewN nq).cell? ⟨b, off + i * 3 + j, none⟩ = some (fiF F i j)) := HC.out
          replace X2 : Hid (Box3 (wr.drewN nq) w.heap.size 51 (.string f.p) (.bool f.d) (.string f.t)) := X2.out.below (below_dN _ _)
          generalize wr.drewN nq = u1 at *
          have y0 := X2.out.c0; have y1 := X2.out.c1; have y2 := X2.out.c2
          obtain ⟨c0, c1, c2⟩ := Els.fiC HC.out q hlt
          go_wp2_with fail
          go_quiet (fail)
          clear c0 c1 c2 y0 y1 y2
          replace HO : Hid (EO (u1.drewN nq) v1.heap.size 51 3 (.slice aa q cc) q (fiF G)) := HO.out.below (below_dN _ _)
          replace HB : Hid (Below v1.heap.size v1 (u1.drewN nq)) := below_drewN HB.out _
          replace HC : Hid (∀ i, i < n → ∀ j, j < 3 → (u1.drewN nq).cell? ⟨b, off + i * 3 + j, none⟩ = some (fiF F i j)) := HC.out
          replace X2 : Hid (Box3 (u1.drewN nq) w.heap.size 51 (.string f.p) (.bool f.d) (.string f.t)) := X2.out.below (below_dN _ _)
          generalize u1.drewN nq = u2 at *
          have y0 := X2.out.c0; have y1 := X2.out.c1; have y2 := X2.out.c2
          obtain ⟨c0, c1, c2⟩ := Els.fiC HC.out q hlt
          obtain ⟨a3, cc3, u3, r2, o2, b2⟩ := appOne (v1 := v1) (F q) rfl (by omega) HO.out HB.out
          have HO3 : Hid (EO u3 v1.heap.size 51 3 (.slice a3 (q + 1) cc3) (q + 1) (fiF (updE G q (F q)))) := o2
          have HB3 : Hid (Below v1.heap.size v1 u3) := b2
          clear o2 b2
          go_wp2_with (at_builtin; refine Lib.wpList_append_run _ rfl (.tmp 39) (.tmp 44) 23 23 rfl (.slice aa q cc) (.slice (some ⟨u2.heap.size, 0, none⟩) 1 1) rfl rfl _ _ (r2 _) ?_)
          clear HO HB r2
          go_roundw
          case rel => exact ⟨q + 1, _, _, _, _, _, by omega, rfl, rfl, by go_num, ST.out, HO3.out, HB3.out⟩
          case measure => simp [intOf]; omega
        · obtain rfl : q = k := by omega
          have less := less_no hp40 HF.out (by have := HK.out.2.2 q (Nat.le_refl _) hlt; omega)
          have HG : Hid (∀ j, j < q → G j = F j) := hG
          clear hG HST
          go_wp2_with fail
          go_quiet (fail)
          clear c0 c1 c2 y0 y1 y2
          replace HO : Hid (EO (wr.drewN nq) v1.heap.size 51 3 (.slice aa q cc) q (fiF G)) := HO.out.below (below_dN _ _)
          replace HB : Hid (Below v1.heap.size v1 (wr.drewN nq)) := below_drewN HB.out _
          replace HC : Hid (∀ i, i < n → ∀ j, j < 3 → (wr.drewN nq).cell? ⟨b, off + i * 3 + j, none⟩ = some (fiF F i j)) := HC.out
          replace X2 : Hid (Box3 (wr.drewN nq) w.heap.size 51 (.string f.p) (.bool f.d) (.string f.t)) := X2.out.below (below_dN _ _)
          generalize wr.drewN nq = u1 at *
          have y0 := X2.out.c0; have y1 := X2.out.c1; have y2 := X2.out.c2
          obtain ⟨c0, c1, c2⟩ := Els.fiC HC.out q hlt
          obtain ⟨a3, cc3, u3, r2, o2, b2⟩ := appOne (v1 := v1) f rfl (by omega) HO.out HB.out
          have HO3 : Hid (EO u3 v1.heap.size 51 3 (.slice a3 (q + 1) cc3) (q + 1) (fiF (updE G q f))) := o2
          have HB3 : Hid (Below v1.heap.size v1 u3) := b2
          clear o2 b2
          go_upto_region 9 with (at_builtin; refine Lib.wpList_append_run _ rfl (.tmp 27) (.tmp 29) 23 23 rfl (.slice aa q cc) (.slice (some ⟨u1.heap.size, 0, none⟩) 1 1) rfl rfl _ _ (r2 _) ?_)
          clear HO HB r2
          have HO := HO3
          have HB := HB3
          clear HO3 HB3
          clear X2 HC y0 y1 y2 c0 c1 c2
          have X2 : Hid (Box3 u3 w.heap.size 51 (.string f.p) (.bool f.d) (.string f.t)) := X1.out.below HB.out
          have HC : Hid (∀ i, i < n → ∀ j, j < 3 → u3.cell? ⟨b, off + i * 3 + j, none⟩ = some (fiF F i j)) := elsAt (H1.out.below HB.out)
          have y0 := X2.out.c0; have y1 := X2.out.c1; have y2 := X2.out.c2
          obtain ⟨c0, c1, c2⟩ := Els.fiC HC.out q hlt
          by_cases he : (F q).p = f.p
          · have g1 : ((F q).p.toList == f.p.toList) = true := by rw [he]; simp
            have ST : Hid (PutSt F f q fd (q + 1) (q + 1) (updE G q f) true) := .inr ⟨by omega, rfl, .inl ⟨HFD.out.2 ⟨hlt, he⟩, rfl, fun j hj => by
              by_cases e : j = q
              · subst e; rw [updE_eq, updE_eq]
              · rw [updE_ne _ _ e, updE_ne _ _ e]; exact HG.out j (by omega)⟩⟩
            clear he HG
            go_quiet (fail)
            clear c0 c1 c2 y0 y1 y2
            replace HO : Hid (EO (u3.drewN nq) v1.heap.size 51 3 (.slice a3 (q + 1) cc3) (q + 1) (fiF (updE G q f))) := HO.out.below (below_dN _ _)
            replace HB : Hid (Below v1.heap.size v1 (u3.drewN nq)) := below_drewN HB.out _
            generalize u3.drewN nq = u4 at *
            go_wp2
            go_roundw
            case rel => exact ⟨q + 1, _, _, _, _, _, by omega, rfl, rfl, by go_num, ST.out, HO.out, HB.out⟩
            case measure => simp [intOf]; omega
          · have g1 : ((F q).p.toList == f.p.toList) = false := textNe he
            have ST : Hid (PutSt F f q fd (q + 1) (q + 1 + 1) (updE (updE G q f) (q + 1) (F q)) true) := .inr ⟨by omega, rfl, .inr ⟨fun z => he (HFD.out.1 z).2, rfl, upd_snoc (fun j hj => by
              by_cases e : j = q
              · subst e; rw [updE_eq, insE_eq]
              · rw [updE_ne _ _ e, insE_lt _ _ (by omega)]; exact HG.out j (by omega)) (by rw [insE_gt _ _ (by omega)]; rfl)⟩⟩
            clear he HG
            go_quiet (fail)
            clear c0 c1 c2 y0 y1 y2
            replace HO : Hid (EO (u3.drewN nq) v1.heap.size 51 3 (.slice a3 (q + 1) cc3) (q + 1) (fiF (updE G q f))) := HO.out.below (below_dN _ _)
            replace HB : Hid (Below v1.heap.size v1 (u3.drewN nq)) := below_drewN HB.out _
            replace HC : Hid (∀ i, i < n → ∀ j, j < 3 → (u3.drewN nq).cell? ⟨b, off + i * 3 + j, none⟩ = some (fiF F i j)) := HC.out
            replace X2 : Hid (Box3 (u3.drewN nq) w.heap.size 51 (.string f.p) (.bool f.d) (.string f.t)) := X2.out.below (below_dN _ _)
            generalize u3.drewN nq = u4 at *
            have y0 := X2.out.c0; have y1 := X2.out.c1; have y2 := X2.out.c2
            obtain ⟨c0, c1, c2⟩ := Els.fiC HC.out q hlt
            obtain ⟨a5, cc5, u5, r2, o2, b2⟩ := appOne (v1 := v1) (F q) rfl (by omega) HO.out HB.out
            have HO5 : Hid (EO u5 v1.heap.size 51 3 (.slice a5 ((q + 1) + 1) cc5) ((q + 1) + 1) (fiF (updE (updE G q f) (q + 1) (F q)))) := o2
            have HB5 : Hid (Below v1.heap.size v1 u5) := b2
            clear o2 b2
            go_wp2_with (at_builtin; refine Lib.wpList_append_run _ rfl (.tmp 39) (.tmp 44) 23 23 rfl (.slice a3 (q + 1) cc3) (.slice (some ⟨u4.heap.size, 0, none⟩) 1 1) rfl rfl _ _ (r2 _) ?_)
            clear HO HB r2
            go_roundw
            case rel => exact ⟨q + 1, _, _, _, _, _, by omega, rfl, rfl, by go_num, ST.out, HO5.out, HB5.out⟩
            case measure => simp [intOf]; omega
      · have ne : (F q).p ≠ f.p := fun e => by
          have h2 := HS.out.2 k q h1 hlt
          have h3 := HK.out.2.2 k (Nat.le_refl _) (by omega)
          dsimp only at h2
          rw [e] at h2; omega
        have g1 : ((F q).p.toList == f.p.toList) = false := textNe ne
        have ST : Hid (PutSt F f k fd (q + 1) (m + 1) (updE G m (F q)) true) := .inr ⟨by omega, rfl, hG.imp (fun ⟨r1, r2, r3⟩ => ⟨r1, by omega, upd_snoc r3 (by subst r2; rw [updE_ne _ _ (by omega)])⟩) (fun ⟨r1, r2, r3⟩ => ⟨r1, by omega, upd_snoc r3 (by subst r2; rw [insE_gt _ _ (by omega)]; rfl)⟩)⟩
        clear ne hG HST
        go_wp2_with fail
        go_quiet (fail)
        clear c0 c1 c2 y0 y1 y2
        replace HO : Hid (EO (wr.drewN nq) v1.heap.size 51 3 (.slice aa m cc) m (fiF G)) := HO.out.below (below_dN _ _)
        replace HB : Hid (Below v1.heap.size v1 (wr.drewN nq)) := below_drewN HB.out _
        replace HC : Hid (∀ i, i < n → ∀ j, j < 3 → (wr.drewN nq).cell? ⟨b, off + i * 3 + j, none⟩ = some (fiF F i j)) := HC.out
        replace X2 : Hid (Box3 (wr.drewN nq) w.heap.size 51 (.string f.p) (.bool f.d) (.string f.t)) := X2.out.below (below_dN _ _)
        generalize wr.drewN nq = u1 at *
        have y0 := X2.out.c0; have y1 := X2.out.c1; have y2 := X2.out.c2
        obtain ⟨c0, c1, c2⟩ := Els.fiC HC.out q hlt
        go_wp2_with fail
        go_quiet (fail)
        clear c0 c1 c2 y0 y1 y2
        replace HO : Hid (EO (u1.drewN nq) v1.heap.size 51 3 (.slice aa m cc) m (fiF G)) := HO.out.below (below_dN _ _)
        replace HB : Hid (Below v1.heap.size v1 (u1.drewN nq)) := below_drewN HB.out _
        replace HC : Hid (∀ i, i < n → ∀ j, j < 3 → (u1.drewN nq).cell? ⟨b, off + i * 3 + j, none⟩ = some (fiF F i j)) := HC.out
        replace X2 : Hid (Box3 (u1.drewN nq) w.heap.size 51 (.string f.p) (.bool f.d) (.string f.t)) := X2.out.below (below_dN _ _)
        generalize u1.drewN nq = u2 at *
        have y0 := X2.out.c0; have y1 := X2.out.c1; have y2 := X2.out.c2
        obtain ⟨c0, c1, c2⟩ := Els.fiC HC.out q hlt
        obtain ⟨a3, cc3, u3, r2, o2, b2⟩ := appOne (v1 := v1) (F q) rfl (by omega) HO.out HB.out
        have HO3 : Hid (EO u3 v1.heap.size 51 3 (.slice a3 (m + 1) cc3) (m + 1) (fiF (updE G m (F q)))) := o2
        have HB3 : Hid (Below v1.heap.size v1 u3) := b2
        clear o2 b2
        go_wp2_with (at_builtin; refine Lib.wpList_append_run _ rfl (.tmp 39) (.tmp 44) 23 23 rfl (.slice aa m cc) (.slice (some ⟨u2.heap.size, 0, none⟩) 1 1) rfl rfl _ _ (r2 _) ?_)
        clear HO HB r2
        go_roundw
        case rel => exact ⟨q + 1, _, _, _, _, _, by omega, rfl, rfl, by go_num, ST.out, HO3.out, HB3.out⟩
        case measure => simp [intOf]; omega
    · obtain rfl : q = n := by omega
      have hlt' : ¬ (q : Int) < (q : Int) := by omega
      rcases hst with ⟨h1, rfl, rfl, hG⟩ | ⟨h1, rfl, hG⟩
      · obtain rfl : q = k := by have := HK.out.1; omega
        have HR : Hid (PutIs q F f (q + 1) (updE G q f)) := HEND.out _ _ (.inr ⟨fun z => absurd (HFD.out.1 z).1 (by omega), rfl, fun j hj => by
          by_cases e : j = q
          · subst e; rw [updE_eq, insE_eq]
          · rw [updE_ne _ _ e, insE_lt _ _ (by omega)]; exact hG j (by omega)⟩)
        obtain ⟨a3, cc3, u3, r2, o2, b2⟩ := appOne (v1 := v1) f rfl (by omega) HO.out HB.out
        have HO3 : Hid (EO u3 v1.heap.size 51 3 (.slice a3 (q + 1) cc3) (q + 1) (fiF (updE G q f))) := o2
        have HB3 : Hid (Below v1.heap.size v1 u3) := b2
        clear o2 b2 hG HST
        go_wp2_with (at_builtin; refine Lib.wpList_append_run _ rfl (.tmp 48) (.tmp 50) 23 23 rfl (.slice aa q cc) (.slice (some ⟨wr.heap.size, 0, none⟩) 1 1) rfl rfl _ _ (r2 _) ?_)
        go_ret
        exact ⟨⟨_, _, _, _, rfl, HO3.out.mono (by have := S1.out; omega), HR.out⟩, HA.out.trans (HB3.out.mono (by have := S1.out; omega))⟩
      · have HR : Hid (PutIs q F f m G) := HEND.out _ _ (hG.imp (fun ⟨r1, r2, r3⟩ => ⟨r1, r2.symm, r3⟩) id)
        clear hG HST
        go_wp2
        go_ret
        exact ⟨⟨_, _, _, _, rfl, HO.out.mono (by have := S1.out; omega), HR.out⟩, HA.out.trans (HB.out.mono (by have := S1.out; omega))⟩
theorem l11Put_any (a : Option Addr) (n c : Nat) (F : Nat → Fi) (f : Fi) (hs : Srt n F) (hf : f.p.size ≤ 40) (hn : n ≤ 100) (w : World) (h : Els w 3 a n (fiF F)) :
    Calls Tryz.prog 75 #[.slice a n c, .agg #[.string f.p, .bool f.d, .string f.t]] w fun e w' => RetPut n F f w.heap.size e w' ∧ Below w.heap.size w w' := l11Put_gen a n c F f hs.size hs.up hf hn w h
end Go.Proofs.YtgcdoabcopihlaaGreat
