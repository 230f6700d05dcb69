/-
  MoveFile of the model.
-/
import Derived.Test.YtgcdoabcopihlaaGreatE03
import Derived.Test.YtgcdoabcopihlaaGreatE01
namespace Go.Proofs.YtgcdoabcopihlaaGreat
open Go.ChangeShapes Go.WideShapes Go.ChangeAt Go.RowKit
set_option linter.unusedVariables false
/-- What l11Move does. -/
def MvP (n : Nat) (F : Nat → Fi) (fr tp : ByteArray) (m : Nat) (G : Nat → Fi) (c : Int) : Prop :=
    (((∀ j, j < n → (F j).p ≠ fr) ∧ c = 5 ∧ m = n ∧ G = F) ∨ ∃ k, k < n ∧ (F k).p = fr ∧
      ((fr = tp ∧ c = 0 ∧ m = n ∧ G = F) ∨ (fr ≠ tp ∧
        ((HasPre tp (fr ++ ⟨#[47]⟩) ∧ c = 15 ∧ m = n ∧ G = F) ∨ (¬ HasPre tp (fr ++ ⟨#[47]⟩) ∧
          ((DirIs n F (par tp) c ∧ c ≠ 0 ∧ m = n ∧ G = F) ∨ (DirIs n F (par tp) 0 ∧
            (((∃ j, j < n ∧ (F j).p = tp ∧ ((F j).d = true ∨ (F k).d = true)) ∧ c = 9 ∧ m = n ∧ G = F) ∨ ((¬ ∃ j, j < n ∧ (F j).p = tp ∧ ((F j).d = true ∨ (F k).d = true)) ∧
              (((∃ i, i < n ∧ HasPre (F i).p (fr ++ ⟨#[47]⟩) ∧ 40 < tp.size + ((F i).p.size - fr.size)) ∧ c = 16 ∧ m = n ∧ G = F) ∨ ((¬ ∃ i, i < n ∧ HasPre (F i).p (fr ++ ⟨#[47]⟩) ∧ 40 < tp.size + ((F i).p.size - fr.size)) ∧ c = 0 ∧ ArrM n F fr tp m G)))))))))))
theorem MvP.le {n : Nat} {F : Nat → Fi} {fr tp : ByteArray} {m : Nat} {G : Nat → Fi} {c : Int} (h : MvP n F fr tp m G c) : m ≤ n := by
  rcases h with ⟨_, _, rfl, _⟩ | ⟨_, _, _, ⟨_, _, rfl, _⟩ | ⟨_, ⟨_, _, rfl, _⟩ | ⟨_, ⟨_, _, rfl, _⟩ | ⟨_, ⟨_, _, rfl, _⟩ | ⟨_, ⟨_, _, rfl, _⟩ | ⟨_, _, r⟩⟩⟩⟩⟩⟩
  all_goals first | omega | exact r.le
/-- One more file behind one of two rows. -/
theorem app_two {w u : World} {k lc j mc : Nat} {la ma : Option Addr} {G M : Nat → Fi} (x : Fi) (E : EO u w.heap.size 51 3 (.slice la k lc) k (fiF G)) (E2 : EO u w.heap.size 51 3 (.slice ma j mc) j (fiF M)) (hne : ∀ g, (Value.slice la k lc).ownBlock = some g → (Value.slice ma j mc).ownBlock ≠ some g) (B : Below w.heap.size w u) (hk : k ≤ 1000) :
    ∃ la' lc' w', (∀ ty, (Builtin.append_ #[23, 23] ty #[.slice la k lc, .slice (some ⟨u.heap.size, 0, none⟩) 1 1]).run Tryz.prog (u.alloc (.cells #[.string x.p, .bool x.d, .string x.t] 51)) = .ok (.slice la' (k + 1) lc') w') ∧ EO w' w.heap.size 51 3 (.slice la' (k + 1) lc') (k + 1) (fiF (updE G k x)) ∧ EO w' w.heap.size 51 3 (.slice ma j mc) j (fiF M) ∧ (∀ g, (Value.slice la' (k + 1) lc').ownBlock = some g → (Value.slice ma j mc).ownBlock ≠ some g) ∧ Below w.heap.size w w' := by
  have hb2 : Below u.heap.size u (u.alloc (.cells #[.string x.p, .bool x.d, .string x.t] 51)) := (Below.refl u.heap.size u).alloc (Nat.le_refl _) _
  have XB : Box3 (u.alloc (.cells #[.string x.p, .bool x.d, .string x.t] 51)) u.heap.size 51 (.string x.p) (.bool x.d) (.string x.t) := Box3.made _ _ _ _ _
  obtain ⟨v', w', hr, hE, hg, hloc⟩ := appFi (u.alloc (.cells #[.string x.p, .bool x.d, .string x.t] 51)) w.heap.size (.slice la k lc) k u.heap.size G x (by have := B.size; simp; omega) (by omega) (E.below hb2) (fun j hj => by
    rcases (show j = 0 ∨ j = 1 ∨ j = 2 by omega) with rfl | rfl | rfl
    · exact XB.c0
    · exact XB.c1
    · exact XB.c2)
  obtain ⟨la', lc', rfl⟩ := hE.form
  refine ⟨la', lc', w', hr, hE, (E2.below hb2).keep (fun g e => hg.block g (by have := (E2.ge g e).2; simp; omega) (fun q => hne g q.symm e)), fun g e q => ?_, (B.trans (hb2.mono B.size)).grown hg (by have := B.size; simp; omega) (fun g e => (E.ge g e).1)⟩
  rcases hloc with z | z
  · exact hne g (z ▸ e) q
  · rw [z] at e
    have h1 := (E2.ge g q).2
    have h2 := Option.some.inj e
    simp at h2
    omega
set_option maxRecDepth 100000 in
set_option maxHeartbeats 16000000 in
theorem l11Move_any (a : Option Addr) (n c : Nat) (F : Nat → Fi) (fr tp : ByteArray) (ho : FsOk n F) (hfr : PathOk fr) (htp : PathOk tp) (hsl : SlP a n c) (Q : Nat → Prop) (hQ : ∀ x, a = some x → Q x.block) (w : World) (h : Els w 3 a n (fiF F)) :
    Calls Tryz.prog 43 #[.slice a n c, .string fr, .string tp] w fun e w' => (∃ (a' : Option Addr) (m c' : Nat) (G : Nat → Fi) (cd : Int), e = .returned (.tuple #[.slice a' m c', .int .i64 cd]) ∧ Els w' 3 a' m (fiF G) ∧ SlQ Q w.heap.size a' m c' ∧ MvP n F fr tp m G cd) ∧ Below w.heap.size w w' := by
  have hn := ho.1
  have FN : Hid (∀ q : ByteArray, Calls Tryz.prog 73 #[.slice a n c, .string q] w fun e w' => (∃ r : Int, e = .returned (.int .i64 r) ∧ FstIs n F q r) ∧ w = w') := fun q => (l11Find_any a n c F q (by omega) w h).mono fun _ _ z => ⟨z.1, z.2.symm⟩
  have UN : Hid (∀ (s : ByteArray) (u : World), PathOk s → Calls Tryz.prog 76 #[.string s, .string fr] u fun e w' => Says e (HasPre s (fr ++ ⟨#[47]⟩)) ∧ u = w') := fun s u hs => (l11Under_any s fr (by have := hs.1; omega) (by have := hfr.1; omega) u).mono fun e w' z => ⟨by
    obtain ⟨b, e1, e2⟩ := z.1
    exact ⟨b, e1, e2.trans (under_iff hs).symm⟩, z.2.symm⟩
  have PA : Hid (Calls Tryz.prog 62 #[.string tp] w fun e w' => e = .returned (.string (par tp)) ∧ w = w') := (l11Parent_any tp (by have := htp.1; omega) w).mono fun _ _ z => ⟨z.1, z.2.symm⟩
  have HO0 : Hid (Calls Tryz.prog 61 #[.slice a n c, .string (par tp)] w fun e w' => (∃ x : Int, e = .returned (.int .i64 x) ∧ DirIs n F (par tp) x) ∧ w = w') := (l11Home_any a n c F (par tp) (by omega) w h).mono fun _ _ z => ⟨z.1, z.2.symm⟩
  have H : Hid (Els w 3 a n (fiF F)) := h
  have HZ : Hid (SlQ Q w.heap.size a n c) := ⟨hsl, fun x e => .inl (hQ x e)⟩
  have HO : Hid (FsOk n F) := ho
  have HP : Hid (PathOk fr ∧ PathOk tp) := ⟨hfr, htp⟩
  clear h ho hfr hsl
  have hut := htp
  clear htp
  go_enter Tryz.func43, Tryz.ntmps43
  go_wp2_with fail
  refine (FN.out fr).mono ?_
  rintro e _ ⟨⟨r, rfl, hr⟩, rfl⟩
  rcases hr with ⟨rfl, hno⟩ | ⟨k, rfl, hk, ek, hfst⟩
  · have HR : Hid (MvP n F fr tp n F 5) := .inl ⟨hno, rfl, rfl, rfl⟩
    clear hno FN UN PA HO0 hut
    go_wp2
    go_ret2
    exact ⟨⟨_, _, _, F, _, rfl, H.out, HZ.out, HR.out⟩, Below.refl _ _⟩
  · have HK : Hid (k < n ∧ (F k).p = fr) := ⟨hk, ek⟩
    have k0 : ¬ (k : Int) < 0 := by omega
    clear hfst ek
    by_cases heq : fr = tp
    · have HR : Hid (MvP n F fr tp n F 0) := .inr ⟨k, hk, HK.out.2, .inl ⟨heq, rfl, rfl, rfl⟩⟩
      subst heq
      have r : (fr.toList == fr.toList) = true := by simp
      clear FN UN PA HO0 hut
      go_wp2
      go_ret2
      exact ⟨⟨_, _, _, F, _, rfl, H.out, HZ.out, HR.out⟩, Below.refl _ _⟩
    · have r := textNe heq
      have HNE : Hid (fr ≠ tp) := heq
      clear heq
      go_wp2_with fail
      refine (UN.out tp _ hut).mono ?_
      rintro e _ ⟨⟨b, rfl, hb⟩, rfl⟩
      have HB : Hid (b = true ↔ HasPre tp (fr ++ ⟨#[47]⟩)) := hb
      clear hb r
      cases b with
      | true =>
        have HR : Hid (MvP n F fr tp n F 15) := .inr ⟨k, hk, HK.out.2, .inr ⟨HNE.out, .inl ⟨HB.out.1 rfl, rfl, rfl, rfl⟩⟩⟩
        clear FN UN PA HO0 HB hut
        go_wp2
        go_ret2
        exact ⟨⟨_, _, _, F, _, rfl, H.out, HZ.out, HR.out⟩, Below.refl _ _⟩
      | false =>
        have HN1 : Hid (¬ HasPre tp (fr ++ ⟨#[47]⟩)) := fun q => by have := HB.out.2 q; cases this
        clear HB hut
        go_wp2_with fail
        refine (Calls.mono PA.out) ?_
        rintro e _ ⟨rfl, rfl⟩
        clear PA
        go_wp2_with fail
        refine (Calls.mono HO0.out) ?_
        rintro e _ ⟨⟨x, rfl, hx⟩, rfl⟩
        have HD : Hid (DirIs n F (par tp) x) := hx
        clear hx HO0
        by_cases h0 : x = 0
        · subst h0
          go_wp2_with fail
          refine (FN.out tp).mono ?_
          rintro e _ ⟨⟨r2, rfl, hr2⟩, rfl⟩
          clear FN
          rcases hr2 with ⟨rfl, hno⟩ | ⟨j, rfl, hj, ej, hfst⟩
          · have HNT : Hid (¬ ∃ j, j < n ∧ (F j).p = tp ∧ ((F j).d = true ∨ (F k).d = true)) := fun ⟨j, hj, e, _⟩ => hno j hj e
            clear hno
--@@A
            go_upto_region 14 with fail
            obtain ⟨v1, hv1⟩ : ∃ v, v = (w.alloc (.cells #[] 51)).alloc (.cells #[] 51) := ⟨_, rfl⟩
            have A1 : Hid (Below w.heap.size w v1) := by show Below _ _ _; rw [hv1]; exact ((Below.refl _ _).alloc (Nat.le_refl _) _).alloc (by simp) _
            have K1 : Hid (EO v1 w.heap.size 51 3 (.slice (some ⟨w.heap.size, 0, none⟩) 0 0) 0 (fiF (fun r => F (nAt (kpL F fr tp 0) r)))) := by show EO _ _ _ _ _ _ _; rw [hv1]; exact (EO.lit w w.heap.size _ 3 (Nat.le_refl _) _).below ((Below.refl _ _).alloc (Nat.le_refl _) _)
            have M1 : Hid (EO v1 w.heap.size 51 3 (.slice (some ⟨w.heap.size + 1, 0, none⟩) 0 0) 0 (fiF (fun r => mvF fr tp (F (nAt (mvL F fr 0) r))))) := by
              show EO _ _ _ _ _ _ _
              rw [hv1]
              have := EO.lit (w.alloc (.cells #[] 51)) w.heap.size 51 3 (by simp) (fiF (fun r => mvF fr tp (F (nAt (mvL F fr 0) r))))
              rwa [World.size_alloc] at this
            have HV : Hid ((w.alloc (.cells #[] 51)).alloc (.cells #[] 51) = v1) := hv1.symm
            clear hv1
            go_upto_region 16 with fail
            rw [HV.out]
            clear HV
            go_wp2
            go_loopw [11, 12, 13] (fun ov mv vi wr => ∃ (i ko km oc mc : Nat) (oa ma : Option Addr), i ≤ n ∧ vi = .int .i64 i ∧ ov = .slice oa ko oc ∧ mv = .slice ma km mc ∧ ko = (kpL F fr tp i).length ∧ km = (mvL F fr i).length ∧ EO wr w.heap.size 51 3 (.slice oa ko oc) ko (fiF (fun r => F (nAt (kpL F fr tp i) r))) ∧ EO wr w.heap.size 51 3 (.slice ma km mc) km (fiF (fun r => mvF fr tp (F (nAt (mvL F fr i) r)))) ∧ (∀ g, (Value.slice oa ko oc).ownBlock = some g → (Value.slice ma km mc).ownBlock ≠ some g) ∧ Below w.heap.size w wr ∧ (∀ j, j < i → HasPre (F j).p (fr ++ ⟨#[47]⟩) → tp.size + ((F j).p.size - fr.size) ≤ 40)) (fun _ _ vi _ => n - (intOf vi).toNat)
            case atStart => exact ⟨0, 0, 0, 0, 0, _, _, by omega, rfl, rfl, rfl, rfl, rfl, K1.out, M1.out, (fun g e q => by cases e; have := Option.some.inj q; simp at this), A1.out, fun j hj => absurd hj (by omega)⟩
            case round =>
              clear K1 M1 A1
              obtain ⟨i, ko, km, oc, mc, oa, ma, hi, rfl, rfl, rfl, hko, hkm, hEK, hEM, hNE, hB, hSH⟩ := hrel
              have EK : Hid (EO wr w.heap.size 51 3 (.slice oa ko oc) ko (fiF (fun r => F (nAt (kpL F fr tp i) r)))) := hEK
              have EM : Hid (EO wr w.heap.size 51 3 (.slice ma km mc) km (fiF (fun r => mvF fr tp (F (nAt (mvL F fr i) r))))) := hEM
              have NE : Hid (∀ g, (Value.slice oa ko oc).ownBlock = some g → (Value.slice ma km mc).ownBlock ≠ some g) := hNE
              have B : Hid (Below w.heap.size w wr) := hB
              have SH : Hid (∀ j, j < i → HasPre (F j).p (fr ++ ⟨#[47]⟩) → tp.size + ((F j).p.size - fr.size) ≤ 40) := hSH
              have LN : Hid (ko = (kpL F fr tp i).length ∧ km = (mvL F fr i).length) := ⟨hko, hkm⟩
              have hkl : ko + km ≤ 12 := by have := lists_len F fr tp i; omega
              clear hEK hEM hNE hB hSH hko hkm
              by_cases hlt : i < n
              · have hlt' : (i : Int) < (n : Int) := by omega
                obtain ⟨b, off, hbo, hc⟩ := (H.out.below B.out).opened (by omega)
                cases hbo
                obtain ⟨c0, c1, c2⟩ := Els.fiC hc i hlt
                have hpi : PathOk (F i).p := HO.out.srt.ok i hlt
                obtain ⟨y, hy⟩ : ∃ y, y = F i := ⟨_, rfl⟩
                rw [← hy] at c0 c1 c2 hpi
                obtain ⟨yp, yd, yt⟩ := y
                have HY : Hid (F i = ⟨yp, yd, yt⟩) := hy.symm
                clear hy hc
                dsimp only at c0 c1 c2 hpi
                obtain ⟨v, hv⟩ : ∃ v, v = wr.alloc (.cells #[.string yp, .bool yd, .string yt] 51) := ⟨_, rfl⟩
                have hbv : Below wr.heap.size wr v := by rw [hv]; exact (Below.refl _ _).alloc (Nat.le_refl _) _
                have XB : Hid (Box3 v wr.heap.size 51 (.string yp) (.bool yd) (.string yt)) := by show Box3 _ _ _ _ _ _; rw [hv]; exact Box3.made _ _ _ _ _
                have EKv : Hid (EO v w.heap.size 51 3 (.slice oa ko oc) ko (fiF (fun r => F (nAt (kpL F fr tp i) r)))) := EK.out.below hbv
                have EMv : Hid (EO v w.heap.size 51 3 (.slice ma km mc) km (fiF (fun r => mvF fr tp (F (nAt (mvL F fr i) r))))) := EM.out.below hbv
                have Bv : Hid (Below w.heap.size w v) := B.out.trans (hbv.mono B.out.size)
                have FB : Hid (w.heap.size ≤ wr.heap.size ∧ (∀ g, (Value.slice oa ko oc).ownBlock = some g → g ≠ wr.heap.size) ∧ (∀ g, (Value.slice ma km mc).ownBlock = some g → g ≠ wr.heap.size)) := ⟨B.out.size, fun g e => Nat.ne_of_lt (EK.out.ge g e).2, fun g e => Nat.ne_of_lt (EM.out.ge g e).2⟩
                have HV : Hid (wr.alloc (.cells #[.string yp, .bool yd, .string yt] 51) = v) := hv.symm
                clear hv hbv EK EM B
                go_upto_region 20 with fail
                rw [HV.out]
                clear HV c0 c1 c2
                generalize wr.heap.size = fb at *
                have d0 := XB.out.c0
                have d1 := XB.out.c1
                have d2 := XB.out.c2
                have f0 := XB.out.fr 0
                by_cases e1 : yp = fr
                · have e2 : fr = yp := e1.symm
                  subst e2
                  have r1 : (fr.toList == fr.toList) = true := by simp
                  have hmv : Mvd fr (F i).p := by rw [HY.out]; exact .inl rfl
                  have HMQ : Hid (mvF fr tp (F i) = ⟨tp, yd, yt⟩) := by show _ = _; unfold mvF; rw [HY.out]; show Fi.mk (mvT fr tp fr) yd yt = _; rw [mvT_self]
                  have HSH2 : Hid (∀ j, j < (i + 1) → HasPre (F j).p (fr ++ ⟨#[47]⟩) → tp.size + ((F j).p.size - fr.size) ≤ 40) := fun j hj hp => by
                    by_cases e : j = i
                    · subst e
                      rw [HY.out] at hp
                      have := hp.1
                      rw [size_slM] at this
                      simp only at this
                      omega
                    · exact SH.out j (by omega) hp
                  have XB2 : Hid (Box3 (v.setCell ⟨fb, 0, none⟩ (.string tp)) fb 51 (.string tp) (.bool yd) (.string yt)) := XB.out.set0 _
                  go_upto_region 22 with fail
                  have EKz : Hid (EO (v.setCell ⟨fb, 0, none⟩ (.string tp)) w.heap.size 51 3 (.slice oa ko oc) ko (fiF (fun r => F (nAt (kpL F fr tp i) r)))) := EKv.out.keep (fun g e => Below.heap_setCell _ _ _ g (FB.out.2.1 g e))
                  have EMz : Hid (EO (v.setCell ⟨fb, 0, none⟩ (.string tp)) w.heap.size 51 3 (.slice ma km mc) km (fiF (fun r => mvF fr tp (F (nAt (mvL F fr i) r))))) := EMv.out.keep (fun g e => Below.heap_setCell _ _ _ g (FB.out.2.2 g e))
                  have Bz : Hid (Below w.heap.size w (v.setCell ⟨fb, 0, none⟩ (.string tp))) := Bv.out.setCell (p := ⟨fb, 0, none⟩) FB.out.1 _
                  generalize (v.setCell ⟨fb, 0, none⟩ (.string tp)) = z at *
                  clear d0 d1 d2 f0 EKv EMv Bv XB
                  have k0' := XB2.out.c0
                  have k1' := XB2.out.c1
                  have k2' := XB2.out.c2
                  obtain ⟨la', lc', w', hr, hE, hE2, hne', hB⟩ := app_two (⟨tp, yd, yt⟩ : Fi) EMz.out EKz.out (fun g e q => NE.out g q e) Bz.out (by omega)
                  have EM5 : Hid (EO w' w.heap.size 51 3 (.slice la' (km + 1) lc') (km + 1) (fiF (fun r => mvF fr tp (F (nAt (mvL F fr (i + 1)) r))))) := hE.congr (fun r hr9 j hj => by
                    show fiV (updE (fun r => mvF fr tp (F (nAt (mvL F fr i) r))) km ⟨tp, yd, yt⟩ r) j = fiV (mvF fr tp (F (nAt (mvL F fr (i + 1)) r))) j
                    rw [mvL_yes hmv, nAt_snoc _ _ _ (by have := LN.out.2; omega), ← LN.out.2]
                    by_cases e : r = km
                    · subst e; rw [updE_eq, if_pos rfl, HMQ.out]
                    · rw [updE_ne _ _ e, if_neg e])
                  have EK5 : Hid (EO w' w.heap.size 51 3 (.slice oa ko oc) ko (fiF (fun r => F (nAt (kpL F fr tp (i + 1)) r)))) := by show EO _ _ _ _ _ _ _; rw [kpL_mv hmv]; exact hE2
                  have NE5 : Hid (∀ g, (Value.slice oa ko oc).ownBlock = some g → (Value.slice la' (km + 1) lc').ownBlock ≠ some g) := fun g e q => hne' g q e
                  have B5 : Hid (Below w.heap.size w w') := hB
                  have LN5 : Hid (ko = (kpL F fr tp (i + 1)).length ∧ km + 1 = (mvL F fr (i + 1)).length) := ⟨by rw [kpL_mv hmv]; exact LN.out.1, by rw [mvL_yes hmv, List.length_append, ← LN.out.2]; rfl⟩
                  clear hE hE2 hne' hB EKz EMz NE Bz LN hmv HMQ UN XB2
                  go_wp2_with (at_builtin; refine Lib.wpList_append_run _ rfl (.tmp 80) (.tmp 82) 23 23 rfl (.slice ma km mc) (.slice (some ⟨z.heap.size, 0, none⟩) 1 1) rfl rfl _ _ (hr _) ?_)
                  go_wp2
                  go_roundw
                  case rel => exact ⟨i + 1, ko, km + 1, oc, lc', oa, la', by omega, by go_num, rfl, rfl, LN5.out.1, LN5.out.2, EK5.out, EM5.out, NE5.out, B5.out, HSH2.out⟩
                  case measure => simp [intOf]; omega
                · have r1 := textNe e1
                  go_wp2_with fail
                  refine (UN.out yp _ hpi).mono ?_
                  rintro e _ ⟨⟨bu, rfl, hbu⟩, rfl⟩
                  have HBU : Hid (bu = true ↔ HasPre yp (fr ++ ⟨#[47]⟩)) := hbu
                  clear hbu r1
                  cases bu with
                  | true =>
                    have hpre : HasPre yp (fr ++ ⟨#[47]⟩) := HBU.out.1 rfl
                    have hps := hpre.1
                    rw [size_slM] at hps
                    have h40 := hpi.1
                    have htp40 := HP.out.2.1
                    obtain ⟨X, hX⟩ : ∃ X, X = yp.extract fr.size yp.size := ⟨_, rfl⟩
                    have hXs : X.size = yp.size - fr.size := by rw [hX, ByteArray.size_extract]; omega
                    have sl : ∀ w' : World, (Instr.slice 9 (.string yp) (some (.int .i64 (fr.size : Int))) none none).run Tryz.prog w' = .ok (.string X) w' := fun w' => by
                      rw [run_slice_string_from_if (P := Tryz.prog) w' 9 yp .i64 (fr.size : Int) Tryz.underlying9, if_pos (by omega), hX]
                      rfl
                    have cz : tp.size + X.size ≤ 9223372036854775807 := by omega
                    have hmv : Mvd fr (F i).p := by rw [HY.out]; exact .inr hpre
                    have HMQ : Hid (mvF fr tp (F i) = ⟨tp ++ X, yd, yt⟩) := by
                      show _ = _
                      unfold mvF
                      rw [mvT_yes hmv, HY.out, hX]
                    have HPX : Hid (HasPre (F i).p (fr ++ ⟨#[47]⟩) ∧ (tp ++ X).size = tp.size + ((F i).p.size - fr.size)) := ⟨by rw [HY.out]; exact hpre, by rw [ByteArray.size_append, hXs, HY.out]⟩
                    clear hX hps hpre HBU h40 hXs htp40
                    obtain ⟨RX, hRX⟩ : ∃ R, R = tp ++ X := ⟨_, rfl⟩
                    rw [← hRX] at HMQ HPX
                    have HRX : Hid (tp ++ X = RX) := hRX.symm
                    clear hRX
                    go_upto_region 25 with fail
                    rw [HRX.out]
                    have XB2 : Hid (Box3 (v.setCell ⟨fb, 0, none⟩ (.string RX)) fb 51 (.string RX) (.bool yd) (.string yt)) := XB.out.set0 _
                    have k0' := XB2.out.c0
                    by_cases hlong : 40 < RX.size
                    · have g40 : (40 : Int) < (RX.size : Int) := by omega
                      have HR : Hid (MvP n F fr tp n F 16) := .inr ⟨k, hk, HK.out.2, .inr ⟨HNE.out, .inr ⟨HN1.out, .inr ⟨HD.out, .inr ⟨HNT.out, .inl ⟨⟨i, hlt, HPX.out.1, by have := HPX.out.2; omega⟩, rfl, rfl, rfl⟩⟩⟩⟩⟩⟩
                      have BR : Hid (Below w.heap.size w (v.setCell ⟨fb, 0, none⟩ (.string RX))) := Bv.out.setCell (p := ⟨fb, 0, none⟩) FB.out.1 _
                      have HR2 : Hid (Els (v.setCell ⟨fb, 0, none⟩ (.string RX)) 3 _ n (fiF F)) := H.out.below BR.out
                      clear HPX HMQ HRX sl UN
                      go_wp2
                      go_ret2
                      exact ⟨⟨_, _, _, F, _, rfl, HR2.out, HZ.out, HR.out⟩, BR.out⟩
                    · have g40 : ¬ (40 : Int) < (RX.size : Int) := by omega
                      have HSH2 : Hid (∀ j, j < (i + 1) → HasPre (F j).p (fr ++ ⟨#[47]⟩) → tp.size + ((F j).p.size - fr.size) ≤ 40) := fun j hj hp => by
                        by_cases e : j = i
                        · subst e; have := HPX.out.2; omega
                        · exact SH.out j (by omega) hp
                      clear HPX HRX sl cz
                      have EKz : Hid (EO (v.setCell ⟨fb, 0, none⟩ (.string RX)) w.heap.size 51 3 (.slice oa ko oc) ko (fiF (fun r => F (nAt (kpL F fr tp i) r)))) := EKv.out.keep (fun g e => Below.heap_setCell _ _ _ g (FB.out.2.1 g e))
                      have EMz : Hid (EO (v.setCell ⟨fb, 0, none⟩ (.string RX)) w.heap.size 51 3 (.slice ma km mc) km (fiF (fun r => mvF fr tp (F (nAt (mvL F fr i) r))))) := EMv.out.keep (fun g e => Below.heap_setCell _ _ _ g (FB.out.2.2 g e))
                      have Bz : Hid (Below w.heap.size w (v.setCell ⟨fb, 0, none⟩ (.string RX))) := Bv.out.setCell (p := ⟨fb, 0, none⟩) FB.out.1 _
                      generalize (v.setCell ⟨fb, 0, none⟩ (.string RX)) = z at *
                      clear d0 d1 d2 f0 EKv EMv Bv XB
                      have k0' := XB2.out.c0
                      have k1' := XB2.out.c1
                      have k2' := XB2.out.c2
                      obtain ⟨la', lc', w', hr, hE, hE2, hne', hB⟩ := app_two (⟨RX, yd, yt⟩ : Fi) EMz.out EKz.out (fun g e q => NE.out g q e) Bz.out (by omega)
                      have EM5 : Hid (EO w' w.heap.size 51 3 (.slice la' (km + 1) lc') (km + 1) (fiF (fun r => mvF fr tp (F (nAt (mvL F fr (i + 1)) r))))) := hE.congr (fun r hr9 j hj => by
                        show fiV (updE (fun r => mvF fr tp (F (nAt (mvL F fr i) r))) km ⟨RX, yd, yt⟩ r) j = fiV (mvF fr tp (F (nAt (mvL F fr (i + 1)) r))) j
                        rw [mvL_yes hmv, nAt_snoc _ _ _ (by have := LN.out.2; omega), ← LN.out.2]
                        by_cases e : r = km
                        · subst e; rw [updE_eq, if_pos rfl, HMQ.out]
                        · rw [updE_ne _ _ e, if_neg e])
                      have EK5 : Hid (EO w' w.heap.size 51 3 (.slice oa ko oc) ko (fiF (fun r => F (nAt (kpL F fr tp (i + 1)) r)))) := by show EO _ _ _ _ _ _ _; rw [kpL_mv hmv]; exact hE2
                      have NE5 : Hid (∀ g, (Value.slice oa ko oc).ownBlock = some g → (Value.slice la' (km + 1) lc').ownBlock ≠ some g) := fun g e q => hne' g q e
                      have B5 : Hid (Below w.heap.size w w') := hB
                      have LN5 : Hid (ko = (kpL F fr tp (i + 1)).length ∧ km + 1 = (mvL F fr (i + 1)).length) := ⟨by rw [kpL_mv hmv]; exact LN.out.1, by rw [mvL_yes hmv, List.length_append, ← LN.out.2]; rfl⟩
                      clear hE hE2 hne' hB EKz EMz NE Bz LN hmv HMQ UN XB2
                      go_wp2_with (at_builtin; refine Lib.wpList_append_run _ rfl (.tmp 102) (.tmp 104) 23 23 rfl (.slice ma km mc) (.slice (some ⟨z.heap.size, 0, none⟩) 1 1) rfl rfl _ _ (hr _) ?_)
                      go_wp2
                      go_roundw
                      case rel => exact ⟨i + 1, ko, km + 1, oc, lc', oa, la', by omega, by go_num, rfl, rfl, LN5.out.1, LN5.out.2, EK5.out, EM5.out, NE5.out, B5.out, HSH2.out⟩
                      case measure => simp [intOf]; omega
                  | false =>
                    have hnp : ¬ HasPre yp (fr ++ ⟨#[47]⟩) := fun q => by have := HBU.out.2 q; cases this
                    have hmv : ¬ Mvd fr (F i).p := by
                      rw [HY.out]
                      rintro (q | q)
                      · exact e1 q
                      · exact hnp q
                    have HSH2 : Hid (∀ j, j < (i + 1) → HasPre (F j).p (fr ++ ⟨#[47]⟩) → tp.size + ((F j).p.size - fr.size) ≤ 40) := fun j hj hp => by
                      by_cases e : j = i
                      · subst e; rw [HY.out] at hp; exact absurd hp hnp
                      · exact SH.out j (by omega) hp
                    clear HBU hnp
                    by_cases e3 : yp = tp
                    · have e4 : tp = yp := e3.symm
                      have HKT : Hid (kpL F fr tp (i + 1) = kpL F fr tp i ∧ mvL F fr (i + 1) = mvL F fr i) := ⟨kpL_to (by rw [HY.out]; exact e3), mvL_no hmv⟩
                      have HLT : Hid (kpL F fr tp (i + 1) = kpL F fr tp i ∧ mvL F fr (i + 1) = mvL F fr i) := HKT.out
                      have NX : Hid (∃ (i' ko' km' oc' mc' : Nat) (oa' ma' : Option Addr), i' = i + 1 ∧ ko' = ko ∧ km' = km ∧ oc' = oc ∧ mc' = mc ∧ oa' = oa ∧ ma' = ma) := ⟨_, _, _, _, _, _, _, rfl, rfl, rfl, rfl, rfl, rfl, rfl⟩
                      clear HKT hmv
                      subst e4
                      have r3 : (tp.toList == tp.toList) = true := by simp
                      go_wp2
                      go_roundw
                      case rel => exact ⟨i + 1, ko, km, oc, mc, oa, ma, by omega, by go_num, rfl, rfl, by rw [HLT.out.1]; exact LN.out.1, by rw [HLT.out.2]; exact LN.out.2, by rw [HLT.out.1]; exact EKv.out, by rw [HLT.out.2]; exact EMv.out, NE.out, Bv.out, HSH2.out⟩
                      case measure => simp [intOf]; omega
                    · have r3 := textNe e3
                      obtain ⟨la', lc', w', hr, hE, hE2, hne', hB⟩ := app_two (⟨yp, yd, yt⟩ : Fi) EKv.out EMv.out NE.out Bv.out (by omega)
                      have EK5 : Hid (EO w' w.heap.size 51 3 (.slice la' (ko + 1) lc') (ko + 1) (fiF (fun r => F (nAt (kpL F fr tp (i + 1)) r)))) := hE.congr (fun r hr9 j hj => by
                        show fiV (updE (fun r => F (nAt (kpL F fr tp i) r)) ko ⟨yp, yd, yt⟩ r) j = fiV (F (nAt (kpL F fr tp (i + 1)) r)) j
                        rw [kpL_yes hmv (by rw [HY.out]; exact e3), nAt_snoc _ _ _ (by have := LN.out.1; omega), ← LN.out.1]
                        by_cases e : r = ko
                        · subst e; rw [updE_eq, if_pos rfl, HY.out]
                        · rw [updE_ne _ _ e, if_neg e])
                      have EM5 : Hid (EO w' w.heap.size 51 3 (.slice ma km mc) km (fiF (fun r => mvF fr tp (F (nAt (mvL F fr (i + 1)) r))))) := by show EO _ _ _ _ _ _ _; rw [mvL_no hmv]; exact hE2
                      have NE5 : Hid (∀ g, (Value.slice la' (ko + 1) lc').ownBlock = some g → (Value.slice ma km mc).ownBlock ≠ some g) := hne'
                      have B5 : Hid (Below w.heap.size w w') := hB
                      have LN5 : Hid (ko + 1 = (kpL F fr tp (i + 1)).length ∧ km = (mvL F fr (i + 1)).length) := ⟨by rw [kpL_yes hmv (by rw [HY.out]; exact e3), List.length_append, ← LN.out.1]; rfl, by rw [mvL_no hmv]; exact LN.out.2⟩
                      clear hE hE2 hne' hB EKv EMv NE Bv LN hmv e1 e3 UN
                      go_wp2_with (at_builtin; refine Lib.wpList_append_run _ rfl (.tmp 111) (.tmp 113) 23 23 rfl (.slice oa ko oc) (.slice (some ⟨v.heap.size, 0, none⟩) 1 1) rfl rfl _ _ (hr _) ?_)
                      go_wp2
                      go_roundw
                      case rel => exact ⟨i + 1, ko + 1, km, lc', mc, la', ma, by omega, by go_num, rfl, rfl, LN5.out.1, LN5.out.2, EK5.out, EM5.out, NE5.out, B5.out, HSH2.out⟩
                      case measure => simp [intOf]; omega
              · obtain rfl : i = n := by omega
                have hlt' : ¬ (i : Int) < (i : Int) := by omega
                have HMT : Hid (∀ j, j < i → Mvd fr (F j).p → (F j).p ≠ tp) := fun j hj hm => mvd_ne hm HNE.out HN1.out
                have HNL : Hid (¬ ∃ j, j < i ∧ HasPre (F j).p (fr ++ ⟨#[47]⟩) ∧ 40 < tp.size + ((F j).p.size - fr.size)) := fun ⟨j, hj, hp, hl⟩ => by have := SH.out j hj hp; omega
                have HSH : Hid (∀ j, j < i → (mvT fr tp (F j).p).size ≤ 40) := fun j hj => mv_short hj (HO.out.srt.ok j hj).1 HP.out.2.1 HNL.out
                have HAP : Hid (∀ x y, x < i → y < i → (F x).p ≠ tp → (F y).p ≠ tp → mvT fr tp (F x).p = mvT fr tp (F y).p → x = y) := fun x y hx hy ex ey e => mv_apart HO.out (pathOk_pos HP.out.2) (fun j hj e => by
                  cases hd : (F j).d with
                  | false => rfl
                  | true => exact absurd ⟨j, hj, e, .inl hd⟩ HNT.out) hx hy ex ey e
                have IV : Hid (InvP F fr tp i 0 ko (fun r => F (nAt (kpL F fr tp i) r))) := by have := invP_start (fr := fr) (tp := tp) HO.out.srt; rw [← LN.out.1] at this; exact this
                have hkm2 := LN.out.2
                have KE : Hid (Els wr 3 oa ko (fiF (fun r => F (nAt (kpL F fr tp i) r))) ∧ SlQ Q w.heap.size oa ko oc) := ⟨EK.out.els, EK.out.slq (Nat.le_refl _) _⟩
                have ME : Hid (Els wr 3 ma km (fiF (fun r => mvF fr tp (F (nAt (mvL F fr i) r))))) := EM.out.els
                have LK : Hid (km = (mvL F fr i).length) := hkm2
                clear EK EM NE SH LN hkm2 UN
                go_wp2
                obtain ⟨wr0, hwr0⟩ : ∃ x, x = wr := ⟨_, rfl⟩
                have HW0 : Hid (wr = wr0) := hwr0.symm
                go_loopw [11, 15] (fun ov vi wr => ∃ (r m oc : Nat) (oa : Option Addr) (K : Nat → Fi), r ≤ km ∧ vi = .int .i64 r ∧ ov = .slice oa m oc ∧ Els wr 3 oa m (fiF K) ∧ SlQ Q w.heap.size oa m oc ∧ InvP F fr tp i r m K ∧ Els wr 3 ma km (fiF (fun r => mvF fr tp (F (nAt (mvL F fr i) r)))) ∧ Below w.heap.size w wr) (fun _ vi _ => km - (intOf vi).toNat)
                case atStart => exact ⟨0, ko, oc, oa, _, by omega, rfl, rfl, KE.out.1, KE.out.2, IV.out, ME.out, B.out⟩
                case round =>
                  clear KE IV ME B HW0 hwr0
                  obtain ⟨r, m, oc2, oa2, K, hr, rfl, rfl, hE, hz, hI, hM, hB⟩ := hrel
                  have E : Hid (Els wr 3 oa2 m (fiF K)) := hE
                  have EZ : Hid (SlQ Q w.heap.size oa2 m oc2) := hz
                  have I : Hid (InvP F fr tp i r m K) := hI
                  have M : Hid (Els wr 3 ma km (fiF (fun r => mvF fr tp (F (nAt (mvL F fr i) r))))) := hM
                  have BB : Hid (Below w.heap.size w wr) := hB
                  clear hE hz hI hM hB
                  by_cases hlr : r < km
                  · have hlr' : (r : Int) < (km : Int) := by omega
                    obtain ⟨b, off, rfl, hc⟩ := M.out.opened (by omega)
                    obtain ⟨c0, c1, c2⟩ := Els.fiC hc r hlr
                    have hr2 : r < (mvL F fr i).length := by have := LK.out; omega
                    have hai := (mvL_mem.1 (nAt_mem hr2)).1
                    have PT : Hid (Calls Tryz.prog 75 #[.slice oa2 m oc2, .agg #[.string (mvF fr tp (F (nAt (mvL F fr i) r))).p, .bool (mvF fr tp (F (nAt (mvL F fr i) r))).d, .string (mvF fr tp (F (nAt (mvL F fr i) r))).t]] wr fun e w' => RetPut m K (mvF fr tp (F (nAt (mvL F fr i) r))) wr.heap.size e w' ∧ Below wr.heap.size wr w') := l11Put_gen oa2 m oc2 K (mvF fr tp (F (nAt (mvL F fr i) r))) (fun x hx => by
                        rcases I.out.src x hx with ⟨q, hq, e⟩ | ⟨s, hs, e⟩
                        · rw [e]; exact HSH.out q (kpL_mem.1 hq).1
                        · rw [e]; exact HSH.out _ (mvL_mem.1 (nAt_mem (show s < (mvL F fr i).length by omega))).1) I.out.up (HSH.out _ hai) (by have := I.out.len; have := lists_len F fr tp i; omega) wr E.out
                    have NXT : Hid (∀ m' G, PutIs m K (mvF fr tp (F (nAt (mvL F fr i) r))) m' G → InvP F fr tp i (r + 1) m' G) := fun m' G hp => I.out.put hr2 HAP.out HMT.out HSH.out hp
                    clear hc I
                    generalize mvF fr tp (F (nAt (mvL F fr i) r)) = x at *
                    obtain ⟨xp, xd, xt⟩ := x
                    dsimp only at *
                    go_wp2_with fail
                    refine (Calls.mono PT.out) ?_
                    rintro e w' ⟨⟨a', m', c', G, rfl, he, hpt⟩, hb⟩
                    have E5 : Hid (Els w' 3 a' m' (fiF G) ∧ SlQ Q w.heap.size a' m' c' ∧ InvP F fr tp i (r + 1) m' G) := ⟨he.els, he.slq BB.out.size _, NXT.out m' G hpt⟩
                    have M5 : Hid (Els w' 3 (some ⟨b, off, none⟩) km (fiF (fun r => mvF fr tp (F (nAt (mvL F fr i) r))))) := M.out.below hb
                    have B5 : Hid (Below w.heap.size w w') := BB.out.trans (hb.mono BB.out.size)
                    clear he hpt hb PT NXT M BB c0 c1 c2 E EZ
                    go_wp2
                    go_roundw
                    case rel => exact ⟨r + 1, m', c', a', G, by omega, by go_num, rfl, E5.out.1, E5.out.2.1, E5.out.2.2, M5.out, B5.out⟩
                    case measure => simp [intOf]; omega
                  · obtain rfl : r = km := by omega
                    have hlr' : ¬ (r : Int) < (r : Int) := by omega
                    have HR : Hid (MvP i F fr tp m K 0) := by
                      have hI := I.out
                      rw [LK.out] at hI
                      exact .inr ⟨k, hk, HK.out.2, .inr ⟨HNE.out, .inr ⟨HN1.out, .inr ⟨HD.out, .inr ⟨HNT.out, .inr ⟨HNL.out, rfl, hI.arr HMT.out⟩⟩⟩⟩⟩⟩
                    clear I
                    go_wp2
                    go_ret2
                    exact ⟨⟨_, _, _, K, _, rfl, E.out, EZ.out, HR.out⟩, BB.out⟩
--@@B
--@@C
          · have HJ : Hid (j < n ∧ (F j).p = tp) := ⟨hj, ej⟩
            have j0 : (0 : Int) ≤ (j : Int) := by omega
            have jl : (j : Int) < (n : Int) := by omega
            have kl : (k : Int) < (n : Int) := by omega
            obtain ⟨b0, off0, hab, hc⟩ := H.out.opened (by omega)
            obtain ⟨_, cj, _⟩ := Els.fiC hc j hj
            obtain ⟨_, ck, _⟩ := Els.fiC hc k hk
            clear hc hfst ej
            subst hab
            cases hdj : (F j).d with
            | true =>
              rw [hdj] at cj
              have HR : Hid (MvP n F fr tp n F 9) := .inr ⟨k, hk, HK.out.2, .inr ⟨HNE.out, .inr ⟨HN1.out, .inr ⟨HD.out, .inl ⟨⟨j, hj, HJ.out.2, .inl hdj⟩, rfl, rfl, rfl⟩⟩⟩⟩⟩
              clear hdj UN HD
              go_wp2
              go_ret2
              exact ⟨⟨_, _, _, F, _, rfl, H.out, HZ.out, HR.out⟩, Below.refl _ _⟩
            | false =>
              rw [hdj] at cj
              cases hdk : (F k).d with
              | true =>
                rw [hdk] at ck
                have HR : Hid (MvP n F fr tp n F 9) := .inr ⟨k, hk, HK.out.2, .inr ⟨HNE.out, .inr ⟨HN1.out, .inr ⟨HD.out, .inl ⟨⟨j, hj, HJ.out.2, .inr hdk⟩, rfl, rfl, rfl⟩⟩⟩⟩⟩
                clear hdj hdk UN HD
                go_wp2
                go_ret2
                exact ⟨⟨_, _, _, F, _, rfl, H.out, HZ.out, HR.out⟩, Below.refl _ _⟩
              | false =>
                rw [hdk] at ck
                have HNT : Hid (¬ ∃ j, j < n ∧ (F j).p = tp ∧ ((F j).d = true ∨ (F k).d = true)) := fun ⟨j2, hj2, e, hd⟩ => by
                  obtain rfl := HO.out.srt.uniq hj2 hj (e.trans HJ.out.2.symm)
                  rcases hd with q | q
                  · rw [hdj] at q; cases q
                  · rw [hdk] at q; cases q
                clear hdj hdk HJ
                go_upto_region 14 with fail
                clear cj ck j0 jl kl
                obtain ⟨v1, hv1⟩ : ∃ v, v = (w.alloc (.cells #[] 51)).alloc (.cells #[] 51) := ⟨_, rfl⟩
                have A1 : Hid (Below w.heap.size w v1) := by show Below _ _ _; rw [hv1]; exact ((Below.refl _ _).alloc (Nat.le_refl _) _).alloc (by simp) _
                have K1 : Hid (EO v1 w.heap.size 51 3 (.slice (some ⟨w.heap.size, 0, none⟩) 0 0) 0 (fiF (fun r => F (nAt (kpL F fr tp 0) r)))) := by show EO _ _ _ _ _ _ _; rw [hv1]; exact (EO.lit w w.heap.size _ 3 (Nat.le_refl _) _).below ((Below.refl _ _).alloc (Nat.le_refl _) _)
                have M1 : Hid (EO v1 w.heap.size 51 3 (.slice (some ⟨w.heap.size + 1, 0, none⟩) 0 0) 0 (fiF (fun r => mvF fr tp (F (nAt (mvL F fr 0) r))))) := by
                  show EO _ _ _ _ _ _ _
                  rw [hv1]
                  have := EO.lit (w.alloc (.cells #[] 51)) w.heap.size 51 3 (by simp) (fiF (fun r => mvF fr tp (F (nAt (mvL F fr 0) r))))
                  rwa [World.size_alloc] at this
                have HV : Hid ((w.alloc (.cells #[] 51)).alloc (.cells #[] 51) = v1) := hv1.symm
                clear hv1
                go_upto_region 16 with fail
                rw [HV.out]
                clear HV
                go_wp2
                go_loopw [11, 12, 13] (fun ov mv vi wr => ∃ (i ko km oc mc : Nat) (oa ma : Option Addr), i ≤ n ∧ vi = .int .i64 i ∧ ov = .slice oa ko oc ∧ mv = .slice ma km mc ∧ ko = (kpL F fr tp i).length ∧ km = (mvL F fr i).length ∧ EO wr w.heap.size 51 3 (.slice oa ko oc) ko (fiF (fun r => F (nAt (kpL F fr tp i) r))) ∧ EO wr w.heap.size 51 3 (.slice ma km mc) km (fiF (fun r => mvF fr tp (F (nAt (mvL F fr i) r)))) ∧ (∀ g, (Value.slice oa ko oc).ownBlock = some g → (Value.slice ma km mc).ownBlock ≠ some g) ∧ Below w.heap.size w wr ∧ (∀ j, j < i → HasPre (F j).p (fr ++ ⟨#[47]⟩) → tp.size + ((F j).p.size - fr.size) ≤ 40)) (fun _ _ vi _ => n - (intOf vi).toNat)
                case atStart => exact ⟨0, 0, 0, 0, 0, _, _, by omega, rfl, rfl, rfl, rfl, rfl, K1.out, M1.out, (fun g e q => by cases e; have := Option.some.inj q; simp at this), A1.out, fun j hj => absurd hj (by omega)⟩
                case round =>
                  clear K1 M1 A1
                  obtain ⟨i, ko, km, oc, mc, oa, ma, hi, rfl, rfl, rfl, hko, hkm, hEK, hEM, hNE, hB, hSH⟩ := hrel
                  have EK : Hid (EO wr w.heap.size 51 3 (.slice oa ko oc) ko (fiF (fun r => F (nAt (kpL F fr tp i) r)))) := hEK
                  have EM : Hid (EO wr w.heap.size 51 3 (.slice ma km mc) km (fiF (fun r => mvF fr tp (F (nAt (mvL F fr i) r))))) := hEM
                  have NE : Hid (∀ g, (Value.slice oa ko oc).ownBlock = some g → (Value.slice ma km mc).ownBlock ≠ some g) := hNE
                  have B : Hid (Below w.heap.size w wr) := hB
                  have SH : Hid (∀ j, j < i → HasPre (F j).p (fr ++ ⟨#[47]⟩) → tp.size + ((F j).p.size - fr.size) ≤ 40) := hSH
                  have LN : Hid (ko = (kpL F fr tp i).length ∧ km = (mvL F fr i).length) := ⟨hko, hkm⟩
                  have hkl : ko + km ≤ 12 := by have := lists_len F fr tp i; omega
                  clear hEK hEM hNE hB hSH hko hkm
                  by_cases hlt : i < n
                  · have hlt' : (i : Int) < (n : Int) := by omega
                    obtain ⟨b, off, hbo, hc⟩ := (H.out.below B.out).opened (by omega)
                    cases hbo
                    obtain ⟨c0, c1, c2⟩ := Els.fiC hc i hlt
                    have hpi : PathOk (F i).p := HO.out.srt.ok i hlt
                    obtain ⟨y, hy⟩ : ∃ y, y = F i := ⟨_, rfl⟩
                    rw [← hy] at c0 c1 c2 hpi
                    obtain ⟨yp, yd, yt⟩ := y
                    have HY : Hid (F i = ⟨yp, yd, yt⟩) := hy.symm
                    clear hy hc
                    dsimp only at c0 c1 c2 hpi
                    obtain ⟨v, hv⟩ : ∃ v, v = wr.alloc (.cells #[.string yp, .bool yd, .string yt] 51) := ⟨_, rfl⟩
                    have hbv : Below wr.heap.size wr v := by rw [hv]; exact (Below.refl _ _).alloc (Nat.le_refl _) _
                    have XB : Hid (Box3 v wr.heap.size 51 (.string yp) (.bool yd) (.string yt)) := by show Box3 _ _ _ _ _ _; rw [hv]; exact Box3.made _ _ _ _ _
                    have EKv : Hid (EO v w.heap.size 51 3 (.slice oa ko oc) ko (fiF (fun r => F (nAt (kpL F fr tp i) r)))) := EK.out.below hbv
                    have EMv : Hid (EO v w.heap.size 51 3 (.slice ma km mc) km (fiF (fun r => mvF fr tp (F (nAt (mvL F fr i) r))))) := EM.out.below hbv
                    have Bv : Hid (Below w.heap.size w v) := B.out.trans (hbv.mono B.out.size)
                    have FB : Hid (w.heap.size ≤ wr.heap.size ∧ (∀ g, (Value.slice oa ko oc).ownBlock = some g → g ≠ wr.heap.size) ∧ (∀ g, (Value.slice ma km mc).ownBlock = some g → g ≠ wr.heap.size)) := ⟨B.out.size, fun g e => Nat.ne_of_lt (EK.out.ge g e).2, fun g e => Nat.ne_of_lt (EM.out.ge g e).2⟩
                    have HV : Hid (wr.alloc (.cells #[.string yp, .bool yd, .string yt] 51) = v) := hv.symm
                    clear hv hbv EK EM B
                    go_upto_region 20 with fail
                    rw [HV.out]
                    clear HV c0 c1 c2
                    generalize wr.heap.size = fb at *
                    have d0 := XB.out.c0
                    have d1 := XB.out.c1
                    have d2 := XB.out.c2
                    have f0 := XB.out.fr 0
                    by_cases e1 : yp = fr
                    · have e2 : fr = yp := e1.symm
                      subst e2
                      have r1 : (fr.toList == fr.toList) = true := by simp
                      have hmv : Mvd fr (F i).p := by rw [HY.out]; exact .inl rfl
                      have HMQ : Hid (mvF fr tp (F i) = ⟨tp, yd, yt⟩) := by show _ = _; unfold mvF; rw [HY.out]; show Fi.mk (mvT fr tp fr) yd yt = _; rw [mvT_self]
                      have HSH2 : Hid (∀ j, j < (i + 1) → HasPre (F j).p (fr ++ ⟨#[47]⟩) → tp.size + ((F j).p.size - fr.size) ≤ 40) := fun j hj hp => by
                        by_cases e : j = i
                        · subst e
                          rw [HY.out] at hp
                          have := hp.1
                          rw [size_slM] at this
                          simp only at this
                          omega
                        · exact SH.out j (by omega) hp
                      have XB2 : Hid (Box3 (v.setCell ⟨fb, 0, none⟩ (.string tp)) fb 51 (.string tp) (.bool yd) (.string yt)) := XB.out.set0 _
                      go_upto_region 22 with fail
                      have EKz : Hid (EO (v.setCell ⟨fb, 0, none⟩ (.string tp)) w.heap.size 51 3 (.slice oa ko oc) ko (fiF (fun r => F (nAt (kpL F fr tp i) r)))) := EKv.out.keep (fun g e => Below.heap_setCell _ _ _ g (FB.out.2.1 g e))
                      have EMz : Hid (EO (v.setCell ⟨fb, 0, none⟩ (.string tp)) w.heap.size 51 3 (.slice ma km mc) km (fiF (fun r => mvF fr tp (F (nAt (mvL F fr i) r))))) := EMv.out.keep (fun g e => Below.heap_setCell _ _ _ g (FB.out.2.2 g e))
                      have Bz : Hid (Below w.heap.size w (v.setCell ⟨fb, 0, none⟩ (.string tp))) := Bv.out.setCell (p := ⟨fb, 0, none⟩) FB.out.1 _
                      generalize (v.setCell ⟨fb, 0, none⟩ (.string tp)) = z at *
                      clear d0 d1 d2 f0 EKv EMv Bv XB
                      have k0' := XB2.out.c0
                      have k1' := XB2.out.c1
                      have k2' := XB2.out.c2
                      obtain ⟨la', lc', w', hr, hE, hE2, hne', hB⟩ := app_two (⟨tp, yd, yt⟩ : Fi) EMz.out EKz.out (fun g e q => NE.out g q e) Bz.out (by omega)
                      have EM5 : Hid (EO w' w.heap.size 51 3 (.slice la' (km + 1) lc') (km + 1) (fiF (fun r => mvF fr tp (F (nAt (mvL F fr (i + 1)) r))))) := hE.congr (fun r hr9 j hj => by
                        show fiV (updE (fun r => mvF fr tp (F (nAt (mvL F fr i) r))) km ⟨tp, yd, yt⟩ r) j = fiV (mvF fr tp (F (nAt (mvL F fr (i + 1)) r))) j
                        rw [mvL_yes hmv, nAt_snoc _ _ _ (by have := LN.out.2; omega), ← LN.out.2]
                        by_cases e : r = km
                        · subst e; rw [updE_eq, if_pos rfl, HMQ.out]
                        · rw [updE_ne _ _ e, if_neg e])
                      have EK5 : Hid (EO w' w.heap.size 51 3 (.slice oa ko oc) ko (fiF (fun r => F (nAt (kpL F fr tp (i + 1)) r)))) := by show EO _ _ _ _ _ _ _; rw [kpL_mv hmv]; exact hE2
                      have NE5 : Hid (∀ g, (Value.slice oa ko oc).ownBlock = some g → (Value.slice la' (km + 1) lc').ownBlock ≠ some g) := fun g e q => hne' g q e
                      have B5 : Hid (Below w.heap.size w w') := hB
                      have LN5 : Hid (ko = (kpL F fr tp (i + 1)).length ∧ km + 1 = (mvL F fr (i + 1)).length) := ⟨by rw [kpL_mv hmv]; exact LN.out.1, by rw [mvL_yes hmv, List.length_append, ← LN.out.2]; rfl⟩
                      clear hE hE2 hne' hB EKz EMz NE Bz LN hmv HMQ UN XB2
                      go_wp2_with (at_builtin; refine Lib.wpList_append_run _ rfl (.tmp 80) (.tmp 82) 23 23 rfl (.slice ma km mc) (.slice (some ⟨z.heap.size, 0, none⟩) 1 1) rfl rfl _ _ (hr _) ?_)
                      go_wp2
                      go_roundw
                      case rel => exact ⟨i + 1, ko, km + 1, oc, lc', oa, la', by omega, by go_num, rfl, rfl, LN5.out.1, LN5.out.2, EK5.out, EM5.out, NE5.out, B5.out, HSH2.out⟩
                      case measure => simp [intOf]; omega
                    · have r1 := textNe e1
                      go_wp2_with fail
                      refine (UN.out yp _ hpi).mono ?_
                      rintro e _ ⟨⟨bu, rfl, hbu⟩, rfl⟩
                      have HBU : Hid (bu = true ↔ HasPre yp (fr ++ ⟨#[47]⟩)) := hbu
                      clear hbu r1
                      cases bu with
                      | true =>
                        have hpre : HasPre yp (fr ++ ⟨#[47]⟩) := HBU.out.1 rfl
                        have hps := hpre.1
                        rw [size_slM] at hps
                        have h40 := hpi.1
                        have htp40 := HP.out.2.1
                        obtain ⟨X, hX⟩ : ∃ X, X = yp.extract fr.size yp.size := ⟨_, rfl⟩
                        have hXs : X.size = yp.size - fr.size := by rw [hX, ByteArray.size_extract]; omega
                        have sl : ∀ w' : World, (Instr.slice 9 (.string yp) (some (.int .i64 (fr.size : Int))) none none).run Tryz.prog w' = .ok (.string X) w' := fun w' => by
                          rw [run_slice_string_from_if (P := Tryz.prog) w' 9 yp .i64 (fr.size : Int) Tryz.underlying9, if_pos (by omega), hX]
                          rfl
                        have cz : tp.size + X.size ≤ 9223372036854775807 := by omega
                        have hmv : Mvd fr (F i).p := by rw [HY.out]; exact .inr hpre
                        have HMQ : Hid (mvF fr tp (F i) = ⟨tp ++ X, yd, yt⟩) := by
                          show _ = _
                          unfold mvF
                          rw [mvT_yes hmv, HY.out, hX]
                        have HPX : Hid (HasPre (F i).p (fr ++ ⟨#[47]⟩) ∧ (tp ++ X).size = tp.size + ((F i).p.size - fr.size)) := ⟨by rw [HY.out]; exact hpre, by rw [ByteArray.size_append, hXs, HY.out]⟩
                        clear hX hps hpre HBU h40 hXs htp40
                        obtain ⟨RX, hRX⟩ : ∃ R, R = tp ++ X := ⟨_, rfl⟩
                        rw [← hRX] at HMQ HPX
                        have HRX : Hid (tp ++ X = RX) := hRX.symm
                        clear hRX
                        go_upto_region 25 with fail
                        rw [HRX.out]
                        have XB2 : Hid (Box3 (v.setCell ⟨fb, 0, none⟩ (.string RX)) fb 51 (.string RX) (.bool yd) (.string yt)) := XB.out.set0 _
                        have k0' := XB2.out.c0
                        by_cases hlong : 40 < RX.size
                        · have g40 : (40 : Int) < (RX.size : Int) := by omega
                          have HR : Hid (MvP n F fr tp n F 16) := .inr ⟨k, hk, HK.out.2, .inr ⟨HNE.out, .inr ⟨HN1.out, .inr ⟨HD.out, .inr ⟨HNT.out, .inl ⟨⟨i, hlt, HPX.out.1, by have := HPX.out.2; omega⟩, rfl, rfl, rfl⟩⟩⟩⟩⟩⟩
                          have BR : Hid (Below w.heap.size w (v.setCell ⟨fb, 0, none⟩ (.string RX))) := Bv.out.setCell (p := ⟨fb, 0, none⟩) FB.out.1 _
                          have HR2 : Hid (Els (v.setCell ⟨fb, 0, none⟩ (.string RX)) 3 _ n (fiF F)) := H.out.below BR.out
                          clear HPX HMQ HRX sl UN
                          go_wp2
                          go_ret2
                          exact ⟨⟨_, _, _, F, _, rfl, HR2.out, HZ.out, HR.out⟩, BR.out⟩
                        · have g40 : ¬ (40 : Int) < (RX.size : Int) := by omega
                          have HSH2 : Hid (∀ j, j < (i + 1) → HasPre (F j).p (fr ++ ⟨#[47]⟩) → tp.size + ((F j).p.size - fr.size) ≤ 40) := fun j hj hp => by
                            by_cases e : j = i
                            · subst e; have := HPX.out.2; omega
                            · exact SH.out j (by omega) hp
                          clear HPX HRX sl cz
                          have EKz : Hid (EO (v.setCell ⟨fb, 0, none⟩ (.string RX)) w.heap.size 51 3 (.slice oa ko oc) ko (fiF (fun r => F (nAt (kpL F fr tp i) r)))) := EKv.out.keep (fun g e => Below.heap_setCell _ _ _ g (FB.out.2.1 g e))
                          have EMz : Hid (EO (v.setCell ⟨fb, 0, none⟩ (.string RX)) w.heap.size 51 3 (.slice ma km mc) km (fiF (fun r => mvF fr tp (F (nAt (mvL F fr i) r))))) := EMv.out.keep (fun g e => Below.heap_setCell _ _ _ g (FB.out.2.2 g e))
                          have Bz : Hid (Below w.heap.size w (v.setCell ⟨fb, 0, none⟩ (.string RX))) := Bv.out.setCell (p := ⟨fb, 0, none⟩) FB.out.1 _
                          generalize (v.setCell ⟨fb, 0, none⟩ (.string RX)) = z at *
                          clear d0 d1 d2 f0 EKv EMv Bv XB
                          have k0' := XB2.out.c0
                          have k1' := XB2.out.c1
                          have k2' := XB2.out.c2
                          obtain ⟨la', lc', w', hr, hE, hE2, hne', hB⟩ := app_two (⟨RX, yd, yt⟩ : Fi) EMz.out EKz.out (fun g e q => NE.out g q e) Bz.out (by omega)
                          have EM5 : Hid (EO w' w.heap.size 51 3 (.slice la' (km + 1) lc') (km + 1) (fiF (fun r => mvF fr tp (F (nAt (mvL F fr (i + 1)) r))))) := hE.congr (fun r hr9 j hj => by
                            show fiV (updE (fun r => mvF fr tp (F (nAt (mvL F fr i) r))) km ⟨RX, yd, yt⟩ r) j = fiV (mvF fr tp (F (nAt (mvL F fr (i + 1)) r))) j
                            rw [mvL_yes hmv, nAt_snoc _ _ _ (by have := LN.out.2; omega), ← LN.out.2]
                            by_cases e : r = km
                            · subst e; rw [updE_eq, if_pos rfl, HMQ.out]
                            · rw [updE_ne _ _ e, if_neg e])
                          have EK5 : Hid (EO w' w.heap.size 51 3 (.slice oa ko oc) ko (fiF (fun r => F (nAt (kpL F fr tp (i + 1)) r)))) := by show EO _ _ _ _ _ _ _; rw [kpL_mv hmv]; exact hE2
                          have NE5 : Hid (∀ g, (Value.slice oa ko oc).ownBlock = some g → (Value.slice la' (km + 1) lc').ownBlock ≠ some g) := fun g e q => hne' g q e
                          have B5 : Hid (Below w.heap.size w w') := hB
                          have LN5 : Hid (ko = (kpL F fr tp (i + 1)).length ∧ km + 1 = (mvL F fr (i + 1)).length) := ⟨by rw [kpL_mv hmv]; exact LN.out.1, by rw [mvL_yes hmv, List.length_append, ← LN.out.2]; rfl⟩
                          clear hE hE2 hne' hB EKz EMz NE Bz LN hmv HMQ UN XB2
                          go_wp2_with (at_builtin; refine Lib.wpList_append_run _ rfl (.tmp 102) (.tmp 104) 23 23 rfl (.slice ma km mc) (.slice (some ⟨z.heap.size, 0, none⟩) 1 1) rfl rfl _ _ (hr _) ?_)
                          go_wp2
                          go_roundw
                          case rel => exact ⟨i + 1, ko, km + 1, oc, lc', oa, la', by omega, by go_num, rfl, rfl, LN5.out.1, LN5.out.2, EK5.out, EM5.out, NE5.out, B5.out, HSH2.out⟩
                          case measure => simp [intOf]; omega
                      | false =>
                        have hnp : ¬ HasPre yp (fr ++ ⟨#[47]⟩) := fun q => by have := HBU.out.2 q; cases this
                        have hmv : ¬ Mvd fr (F i).p := by
                          rw [HY.out]
                          rintro (q | q)
                          · exact e1 q
                          · exact hnp q
                        have HSH2 : Hid (∀ j, j < (i + 1) → HasPre (F j).p (fr ++ ⟨#[47]⟩) → tp.size + ((F j).p.size - fr.size) ≤ 40) := fun j hj hp => by
                          by_cases e : j = i
                          · subst e; rw [HY.out] at hp; exact absurd hp hnp
                          · exact SH.out j (by omega) hp
                        clear HBU hnp
                        by_cases e3 : yp = tp
                        · have e4 : tp = yp := e3.symm
                          have HKT : Hid (kpL F fr tp (i + 1) = kpL F fr tp i ∧ mvL F fr (i + 1) = mvL F fr i) := ⟨kpL_to (by rw [HY.out]; exact e3), mvL_no hmv⟩
                          have HLT : Hid (kpL F fr tp (i + 1) = kpL F fr tp i ∧ mvL F fr (i + 1) = mvL F fr i) := HKT.out
                          have NX : Hid (∃ (i' ko' km' oc' mc' : Nat) (oa' ma' : Option Addr), i' = i + 1 ∧ ko' = ko ∧ km' = km ∧ oc' = oc ∧ mc' = mc ∧ oa' = oa ∧ ma' = ma) := ⟨_, _, _, _, _, _, _, rfl, rfl, rfl, rfl, rfl, rfl, rfl⟩
                          clear HKT hmv
                          subst e4
                          have r3 : (tp.toList == tp.toList) = true := by simp
                          go_wp2
                          go_roundw
                          case rel => exact ⟨i + 1, ko, km, oc, mc, oa, ma, by omega, by go_num, rfl, rfl, by rw [HLT.out.1]; exact LN.out.1, by rw [HLT.out.2]; exact LN.out.2, by rw [HLT.out.1]; exact EKv.out, by rw [HLT.out.2]; exact EMv.out, NE.out, Bv.out, HSH2.out⟩
                          case measure => simp [intOf]; omega
                        · have r3 := textNe e3
                          obtain ⟨la', lc', w', hr, hE, hE2, hne', hB⟩ := app_two (⟨yp, yd, yt⟩ : Fi) EKv.out EMv.out NE.out Bv.out (by omega)
                          have EK5 : Hid (EO w' w.heap.size 51 3 (.slice la' (ko + 1) lc') (ko + 1) (fiF (fun r => F (nAt (kpL F fr tp (i + 1)) r)))) := hE.congr (fun r hr9 j hj => by
                            show fiV (updE (fun r => F (nAt (kpL F fr tp i) r)) ko ⟨yp, yd, yt⟩ r) j = fiV (F (nAt (kpL F fr tp (i + 1)) r)) j
                            rw [kpL_yes hmv (by rw [HY.out]; exact e3), nAt_snoc _ _ _ (by have := LN.out.1; omega), ← LN.out.1]
                            by_cases e : r = ko
                            · subst e; rw [updE_eq, if_pos rfl, HY.out]
                            · rw [updE_ne _ _ e, if_neg e])
                          have EM5 : Hid (EO w' w.heap.size 51 3 (.slice ma km mc) km (fiF (fun r => mvF fr tp (F (nAt (mvL F fr (i + 1)) r))))) := by show EO _ _ _ _ _ _ _; rw [mvL_no hmv]; exact hE2
                          have NE5 : Hid (∀ g, (Value.slice la' (ko + 1) lc').ownBlock = some g → (Value.slice ma km mc).ownBlock ≠ some g) := hne'
                          have B5 : Hid (Below w.heap.size w w') := hB
                          have LN5 : Hid (ko + 1 = (kpL F fr tp (i + 1)).length ∧ km = (mvL F fr (i + 1)).length) := ⟨by rw [kpL_yes hmv (by rw [HY.out]; exact e3), List.length_append, ← LN.out.1]; rfl, by rw [mvL_no hmv]; exact LN.out.2⟩
                          clear hE hE2 hne' hB EKv EMv NE Bv LN hmv e1 e3 UN
                          go_wp2_with (at_builtin; refine Lib.wpList_append_run _ rfl (.tmp 111) (.tmp 113) 23 23 rfl (.slice oa ko oc) (.slice (some ⟨v.heap.size, 0, none⟩) 1 1) rfl rfl _ _ (hr _) ?_)
                          go_wp2
                          go_roundw
                          case rel => exact ⟨i + 1, ko + 1, km, lc', mc, la', ma, by omega, by go_num, rfl, rfl, LN5.out.1, LN5.out.2, EK5.out, EM5.out, NE5.out, B5.out, HSH2.out⟩
                          case measure => simp [intOf]; omega
                  · obtain rfl : i = n := by omega
                    have hlt' : ¬ (i : Int) < (i : Int) := by omega
                    have HMT : Hid (∀ j, j < i → Mvd fr (F j).p → (F j).p ≠ tp) := fun j hj hm => mvd_ne hm HNE.out HN1.out
                    have HNL : Hid (¬ ∃ j, j < i ∧ HasPre (F j).p (fr ++ ⟨#[47]⟩) ∧ 40 < tp.size + ((F j).p.size - fr.size)) := fun ⟨j, hj, hp, hl⟩ => by have := SH.out j hj hp; omega
                    have HSH : Hid (∀ j, j < i → (mvT fr tp (F j).p).size ≤ 40) := fun j hj => mv_short hj (HO.out.srt.ok j hj).1 HP.out.2.1 HNL.out
                    have HAP : Hid (∀ x y, x < i → y < i → (F x).p ≠ tp → (F y).p ≠ tp → mvT fr tp (F x).p = mvT fr tp (F y).p → x = y) := fun x y hx hy ex ey e => mv_apart HO.out (pathOk_pos HP.out.2) (fun j hj e => by
                      cases hd : (F j).d with
                      | false => rfl
                      | true => exact absurd ⟨j, hj, e, .inl hd⟩ HNT.out) hx hy ex ey e
                    have IV : Hid (InvP F fr tp i 0 ko (fun r => F (nAt (kpL F fr tp i) r))) := by have := invP_start (fr := fr) (tp := tp) HO.out.srt; rw [← LN.out.1] at this; exact this
                    have hkm2 := LN.out.2
                    have KE : Hid (Els wr 3 oa ko (fiF (fun r => F (nAt (kpL F fr tp i) r))) ∧ SlQ Q w.heap.size oa ko oc) := ⟨EK.out.els, EK.out.slq (Nat.le_refl _) _⟩
                    have ME : Hid (Els wr 3 ma km (fiF (fun r => mvF fr tp (F (nAt (mvL F fr i) r))))) := EM.out.els
                    have LK : Hid (km = (mvL F fr i).length) := hkm2
                    clear EK EM NE SH LN hkm2 UN
                    go_wp2
                    obtain ⟨wr0, hwr0⟩ : ∃ x, x = wr := ⟨_, rfl⟩
                    have HW0 : Hid (wr = wr0) := hwr0.symm
                    go_loopw [11, 15] (fun ov vi wr => ∃ (r m oc : Nat) (oa : Option Addr) (K : Nat → Fi), r ≤ km ∧ vi = .int .i64 r ∧ ov = .slice oa m oc ∧ Els wr 3 oa m (fiF K) ∧ SlQ Q w.heap.size oa m oc ∧ InvP F fr tp i r m K ∧ Els wr 3 ma km (fiF (fun r => mvF fr tp (F (nAt (mvL F fr i) r)))) ∧ Below w.heap.size w wr) (fun _ vi _ => km - (intOf vi).toNat)
                    case atStart => exact ⟨0, ko, oc, oa, _, by omega, rfl, rfl, KE.out.1, KE.out.2, IV.out, ME.out, B.out⟩
                    case round =>
                      clear KE IV ME B HW0 hwr0
                      obtain ⟨r, m, oc2, oa2, K, hr, rfl, rfl, hE, hz, hI, hM, hB⟩ := hrel
                      have E : Hid (Els wr 3 oa2 m (fiF K)) := hE
                      have EZ : Hid (SlQ Q w.heap.size oa2 m oc2) := hz
                      have I : Hid (InvP F fr tp i r m K) := hI
                      have M : Hid (Els wr 3 ma km (fiF (fun r => mvF fr tp (F (nAt (mvL F fr i) r))))) := hM
                      have BB : Hid (Below w.heap.size w wr) := hB
                      clear hE hz hI hM hB
                      by_cases hlr : r < km
                      · have hlr' : (r : Int) < (km : Int) := by omega
                        obtain ⟨b, off, rfl, hc⟩ := M.out.opened (by omega)
                        obtain ⟨c0, c1, c2⟩ := Els.fiC hc r hlr
                        have hr2 : r < (mvL F fr i).length := by have := LK.out; omega
                        have hai := (mvL_mem.1 (nAt_mem hr2)).1
                        have PT : Hid (Calls Tryz.prog 75 #[.slice oa2 m oc2, .agg #[.string (mvF fr tp (F (nAt (mvL F fr i) r))).p, .bool (mvF fr tp (F (nAt (mvL F fr i) r))).d, .string (mvF fr tp (F (nAt (mvL F fr i) r))).t]] wr fun e w' => RetPut m K (mvF fr tp (F (nAt (mvL F fr i) r))) wr.heap.size e w' ∧ Below wr.heap.size wr w') := l11Put_gen oa2 m oc2 K (mvF fr tp (F (nAt (mvL F fr i) r))) (fun x hx => by
                            rcases I.out.src x hx with ⟨q, hq, e⟩ | ⟨s, hs, e⟩
                            · rw [e]; exact HSH.out q (kpL_mem.1 hq).1
                            · rw [e]; exact HSH.out _ (mvL_mem.1 (nAt_mem (show s < (mvL F fr i).length by omega))).1) I.out.up (HSH.out _ hai) (by have := I.out.len; have := lists_len F fr tp i; omega) wr E.out
                        have NXT : Hid (∀ m' G, PutIs m K (mvF fr tp (F (nAt (mvL F fr i) r))) m' G → InvP F fr tp i (r + 1) m' G) := fun m' G hp => I.out.put hr2 HAP.out HMT.out HSH.out hp
                        clear hc I
                        generalize mvF fr tp (F (nAt (mvL F fr i) r)) = x at *
                        obtain ⟨xp, xd, xt⟩ := x
                        dsimp only at *
                        go_wp2_with fail
                        refine (Calls.mono PT.out) ?_
                        rintro e w' ⟨⟨a', m', c', G, rfl, he, hpt⟩, hb⟩
                        have E5 : Hid (Els w' 3 a' m' (fiF G) ∧ SlQ Q w.heap.size a' m' c' ∧ InvP F fr tp i (r + 1) m' G) := ⟨he.els, he.slq BB.out.size _, NXT.out m' G hpt⟩
                        have M5 : Hid (Els w' 3 (some ⟨b, off, none⟩) km (fiF (fun r => mvF fr tp (F (nAt (mvL F fr i) r))))) := M.out.below hb
                        have B5 : Hid (Below w.heap.size w w') := BB.out.trans (hb.mono BB.out.size)
                        clear he hpt hb PT NXT M BB c0 c1 c2 E EZ
                        go_wp2
                        go_roundw
                        case rel => exact ⟨r + 1, m', c', a', G, by omega, by go_num, rfl, E5.out.1, E5.out.2.1, E5.out.2.2, M5.out, B5.out⟩
                        case measure => simp [intOf]; omega
                      · obtain rfl : r = km := by omega
                        have hlr' : ¬ (r : Int) < (r : Int) := by omega
                        have HR : Hid (MvP i F fr tp m K 0) := by
                          have hI := I.out
                          rw [LK.out] at hI
                          exact .inr ⟨k, hk, HK.out.2, .inr ⟨HNE.out, .inr ⟨HN1.out, .inr ⟨HD.out, .inr ⟨HNT.out, .inr ⟨HNL.out, rfl, hI.arr HMT.out⟩⟩⟩⟩⟩⟩
                        clear I
                        go_wp2
                        go_ret2
                        exact ⟨⟨_, _, _, K, _, rfl, E.out, EZ.out, HR.out⟩, BB.out⟩
--@@D
        · have g : (x != 0) = true := by simpa using h0
          have HR : Hid (MvP n F fr tp n F x) := .inr ⟨k, hk, HK.out.2, .inr ⟨HNE.out, .inr ⟨HN1.out, .inl ⟨HD.out, h0, rfl, rfl⟩⟩⟩⟩
          clear FN UN h0 HD
          go_wp2
          go_ret2
          exact ⟨⟨_, _, _, F, _, rfl, H.out, HZ.out, HR.out⟩, Below.refl _ _⟩
end Go.Proofs.YtgcdoabcopihlaaGreat

/-
  Calls of the model leave right files right: the mathematics.
-/
namespace Go.Proofs.YtgcdoabcopihlaaGreat
open Go.ChangeShapes Go.WideShapes Go.ChangeAt Go.RowKit
set_option linter.unusedVariables false
theorem byteAt_L (s : ByteArray) (k : Nat) : byteAt s k = ((s.data.toList[k]?).map (fun b => (b.toNat : Int))).getD 0 := by
  by_cases h : k < s.size
  · rw [byteAt_get s k h, ← byteAt_eq s k h]; rfl
  · rw [byteAt_out s k (by omega), List.getElem?_eq_none (by rw [toL_len]; omega)]; rfl
theorem byteAt_appL (x y : ByteArray) (k : Nat) (h : k < x.size) : byteAt (x ++ y) k = byteAt x k := by
  rw [byteAt_L, byteAt_L, toL_app, List.getElem?_append_left (by rw [toL_len]; exact h)]
theorem byteAt_appR (x y : ByteArray) (k : Nat) : byteAt (x ++ y) (x.size + k) = byteAt y k := by
  rw [byteAt_L, byteAt_L, toL_app, List.getElem?_append_right (by rw [toL_len]; omega), toL_len]
  congr 3; omega
theorem extract_appL (x y : ByteArray) (o i : Nat) (h : i ≤ x.size) : (x ++ y).extract o i = x.extract o i := by
  refine toL_inj ?_
  rw [toL_ext, toL_ext, toL_app, List.take_append_of_le_length (by rw [toL_len]; exact h)]
theorem extract_appR (x y : ByteArray) (o i : Nat) : (x ++ y).extract (x.size + o) (x.size + i) = y.extract o i := by
  refine toL_inj ?_
  rw [toL_ext, toL_ext, toL_app, ← toL_len x, List.take_length_add_append, List.drop_length_add_append]
/-- The pieces of what stands behind. -/
theorem scan_shift (y r : ByteArray) (o i : Nat) : scan (y ++ r) (y.size + o) (y.size + i) = scan r o i := by
  have hs : (y ++ r).size = y.size + r.size := ByteArray.size_append
  by_cases h : i < r.size
  · by_cases e : byteAt r i = 47
    · rw [scan_hit _ _ _ (by omega) ((byteAt_appR y r i).trans e), scan_hit r o i h e, extract_appR]
      congr 1
      exact scan_shift y r (i + 1) (i + 1)
    · rw [scan_on _ _ _ (by omega) (by rw [byteAt_appR]; exact e), scan_on r o i h e]
      exact scan_shift y r o (i + 1)
  · rw [scan_end _ _ _ (by omega), scan_end r o i (by omega), hs, extract_appR]
termination_by r.size - i
theorem scan_slash (x r : ByteArray) (o i : Nat) (hi : i ≤ x.size) : scan (x ++ ⟨#[47]⟩ ++ r) o i = scan x o i ++ scan r 0 0 := by
  have hs : (x ++ (⟨#[47]⟩ : ByteArray) ++ r).size = x.size + 1 + r.size := by rw [ByteArray.size_append, size_slM]
  have h47 : byteAt (x ++ (⟨#[47]⟩ : ByteArray) ++ r) x.size = 47 := by
    rw [byteAt_appL _ _ _ (by rw [size_slM]; omega)]
    exact (byteAt_appR x _ 0).trans rfl
  rcases Nat.eq_or_lt_of_le hi with e | h
  · rw [e, scan_hit _ _ _ (by omega) h47, scan_end x o x.size (Nat.le_refl _), extract_appL _ _ _ _ (by rw [size_slM]; omega), extract_appL _ _ _ _ (Nat.le_refl _)]
    show _ :: _ = _ :: _
    congr 1
    have := scan_shift (x ++ (⟨#[47]⟩ : ByteArray)) r 0 0
    rw [size_slM] at this
    exact this
  · have eb : byteAt (x ++ (⟨#[47]⟩ : ByteArray) ++ r) i = byteAt x i := by rw [byteAt_appL _ _ _ (by rw [size_slM]; omega), byteAt_appL _ _ _ h]
    by_cases e : byteAt x i = 47
    · rw [scan_hit _ _ _ (by omega) (eb.trans e), scan_hit x o i h e, extract_appL _ _ _ _ (by rw [size_slM]; omega), extract_appL _ _ _ _ (by omega), scan_slash x r (i + 1) (i + 1) (by omega)]
      rfl
    · rw [scan_on _ _ _ (by omega) (by rw [eb]; exact e), scan_on x o i h e]
      exact scan_slash x r o (i + 1) (by omega)
termination_by x.size - i
/-- A path below another's name is as right as what stands behind. -/
theorem pathOk_moved {fr tp r : ByteArray} (h : PathOk (fr ++ ⟨#[47]⟩ ++ r)) (ht : PathOk tp) (hl : (tp ++ (⟨#[47]⟩ : ByteArray) ++ r).size ≤ 40) : PathOk (tp ++ ⟨#[47]⟩ ++ r) := by
  refine ⟨hl, fun x hx => ?_⟩
  rw [scan_slash tp r 0 0 (Nat.zero_le _)] at hx
  rcases List.mem_append.1 hx with q | q
  · exact ht.2 x q
  · exact h.2 x (by rw [scan_slash fr r 0 0 (Nat.zero_le _)]; exact List.mem_append_right _ q)
theorem FsOk.mk' {n : Nat} {F : Nat → Fi} (hn : n ≤ 12) (ho : ∀ i, i < n → (F i).Ok) (hu : Rises (fun i => ord (F i).p) n) (hh : ∀ i, i < n → Home n F (par (F i).p)) : FsOk n F :=
  ⟨hn, fun i hi => ⟨ho i hi, fun h0 => hu (i - 1) i (by omega) hi, hh i hi⟩⟩
/-- A file set at its path. -/
theorem PutIs.keeps {n : Nat} {F : Nat → Fi} {f : Fi} {m : Nat} {G : Nat → Fi} (h : FsOk n F) (hp : PutIs n F f m G) (hf : f.Ok) (hm : (∀ j, j < n → (F j).p ≠ f.p) → n < 12 ∧ Home n F (par f.p)) (hd : ∀ k, k < n → (F k).p = f.p → (F k).d = false) : FsOk m G := by
  rcases hp with ⟨k, hk, e, rfl, hG⟩ | ⟨hno, rfl, k, hP, hG⟩
  · have hs := h.srt
    have g1 : ∀ i, i < m → (G i).p = (F i).p := fun i hi => by
      rw [hG i hi]; unfold updE
      split
      · rename_i q; rw [q, e]
      · rfl
    refine FsOk.mk' h.1 (fun i hi => ?_) (fun i j hij hj => ?_) (fun i hi => ?_)
    · rw [hG i hi]; unfold updE
      split
      · exact hf
      · exact (h.2 i hi).1
    · show ord (G i).p < ord (G j).p
      rw [g1 i (by omega), g1 j hj]; exact hs.up i j hij hj
    · rw [g1 i hi]
      rcases (h.2 i hi).2.2 with z | ⟨j, hj, ej, dj⟩
      · exact .inl z
      · refine .inr ⟨j, hj, by rw [g1 j hj]; exact ej, ?_⟩
        rw [hG j hj]; unfold updE
        split
        · rename_i q; rw [q, hd k hk e] at dj; cases dj
        · exact dj
  · have hs := h.srt
    obtain ⟨hn, hH⟩ := hm hno
    have glo : ∀ i, i < k → i < n + 1 → G i = F i := fun i a b => by rw [hG i b]; unfold insE; rw [if_pos a]
    have gk : k < n + 1 → G k = f := fun b => by rw [hG k b]; unfold insE; rw [if_neg (by omega), if_pos rfl]
    have ghi : ∀ i, k ≤ i → i + 1 < n + 1 → G (i + 1) = F i := fun i a b => by rw [hG _ b]; unfold insE; rw [if_neg (by omega), if_neg (by omega)]; rfl
    have hk : k ≤ n := hP.1
    have hall : ∀ i, i < n + 1 → (∃ j, j < n ∧ G i = F j) ∨ G i = f := fun i hi => by
      rcases Nat.lt_trichotomy i k with q | q | q
      · exact .inl ⟨i, by omega, glo i q hi⟩
      · subst q; exact .inr (gk hi)
      · obtain ⟨t, rfl⟩ : ∃ t, i = t + 1 := ⟨i - 1, by omega⟩
        exact .inl ⟨t, by omega, ghi t (by omega) hi⟩
    have hback : ∀ j, j < n → ∃ i, i < n + 1 ∧ G i = F j := fun j hj => by
      rcases Nat.lt_or_ge j k with q | q
      · exact ⟨j, by omega, glo j q (by omega)⟩
      · exact ⟨j + 1, by omega, ghi j q (by omega)⟩
    have hhome : ∀ q, Home n F q → Home (n + 1) G q := fun q z => by
      rcases z with z | ⟨j, hj, ej, dj⟩
      · exact .inl z
      · obtain ⟨i, hi, ei⟩ := hback j hj
        exact .inr ⟨i, hi, by rw [ei]; exact ej, by rw [ei]; exact dj⟩
    have hgt : ∀ i, k ≤ i → i < n → ord f.p < ord (F i).p := fun i a b => by
      have h1 := hP.2.2 i a b
      simp only at h1
      rcases Int.lt_or_eq_of_le h1 with q | q
      · exact q
      · exact absurd (ord_inj hf.1.1 (hs.size i b) q).symm (hno i b)
    refine FsOk.mk' (by omega) (fun i hi => ?_) (fun i j hij hj => ?_) (fun i hi => ?_)
    · rcases hall i hi with ⟨j, hj, e⟩ | e
      · rw [e]; exact (h.2 j hj).1
      · rw [e]; exact hf
    · show ord (G i).p < ord (G j).p
      rcases Nat.lt_trichotomy i k with q | q | q
      · rw [glo i q (by omega)]
        rcases Nat.lt_trichotomy j k with q2 | q2 | q2
        · rw [glo j q2 hj]; exact hs.up i j hij (by omega)
        · subst q2; rw [gk hj]; exact hP.2.1 i q
        · obtain ⟨t, rfl⟩ : ∃ t, j = t + 1 := ⟨j - 1, by omega⟩
          rw [ghi t (by omega) hj]; exact hs.up i t (by omega) (by omega)
      · subst q
        obtain ⟨t, rfl⟩ : ∃ t, j = t + 1 := ⟨j - 1, by omega⟩
        rw [gk (by omega), ghi t (by omega) hj]; exact hgt t (by omega) (by omega)
      · obtain ⟨t, rfl⟩ : ∃ t, j = t + 1 := ⟨j - 1, by omega⟩
        obtain ⟨u, rfl⟩ : ∃ u, i = u + 1 := ⟨i - 1, by omega⟩
        rw [ghi t (by omega) hj, ghi u (by omega) (by omega)]; exact hs.up u t (by omega) (by omega)
    · rcases hall i hi with ⟨j, hj, e⟩ | e
      · rw [e]; exact hhome _ (h.2 j hj).2.2
      · rw [e]; exact hhome _ hH
theorem NewIs.home {n : Nat} {F : Nat → Fi} {p : ByteArray} (h : NewIs n F p 0) : n < 12 ∧ Home n F (par p) := by
  rcases h with ⟨_, b⟩ | ⟨a, ⟨_, b⟩ | ⟨b, _⟩⟩
  · exact absurd rfl b
  · cases b
  · exact ⟨b, a.home rfl⟩
/-- l11Mkdir leaves right files right. -/
theorem MkP.keeps {n : Nat} {F : Nat → Fi} {p : ByteArray} {m : Nat} {G : Nat → Fi} {c : Int} (h : FsOk n F) (hp : PathOk p) (hm : MkP n F p m G c) : FsOk m G := by
  rcases hm with ⟨_, _, rfl, rfl⟩ | ⟨e, ⟨_, _, rfl, rfl⟩ | ⟨a, _, g⟩⟩
  · exact h
  · exact h
  · exact g.keeps h ⟨hp, by show (0 : Nat) ≤ 200; omega, fun _ => rfl⟩ (fun _ => a.home) (fun k hk ek => absurd ⟨k, hk, ek⟩ e)
theorem par_under {s : ByteArray} (hs : PathOk s) (h0 : 0 < (par s).size) : HasPre s (par s ++ ⟨#[47]⟩) := by
  have := ((par_iff hs).1 rfl).1
  unfold aheadT at this
  rw [if_neg (by omega)] at this
  exact this
theorem par_lt {s : ByteArray} (hs : PathOk s) : par s ≠ s := fun e => by
  have := ord_par (pathOk_pos hs) hs.1
  rw [e] at this
  omega
/-- l11Remove leaves right files right. -/
theorem RmP.keeps {n : Nat} {F : Nat → Fi} {p : ByteArray} {m : Nat} {G : Nat → Fi} {c : Int} (h : FsOk n F) (hm : RmP n F p m G c) : FsOk m G := by
  rcases hm with ⟨_, _, rfl, rfl⟩ | ⟨j, hj, ej, ⟨_, _, rfl, rfl⟩ | ⟨u, _, rfl, hG⟩⟩
  · exact h
  · exact h
  · have hs := h.srt
    have hn := h.1
    have glo : ∀ i, i < j → i < n - 1 → G i = F i := fun i a b => by rw [hG i b]; unfold delU; rw [if_pos a]
    have ghi : ∀ i, j ≤ i → i < n - 1 → G i = F (i + 1) := fun i a b => by rw [hG i b]; unfold delU; rw [if_neg (by omega), if_pos (by omega)]
    have hall : ∀ i, i < n - 1 → ∃ t, t < n ∧ t ≠ j ∧ G i = F t := fun i hi => by
      rcases Nat.lt_or_ge i j with q | q
      · exact ⟨i, by omega, by omega, glo i q hi⟩
      · exact ⟨i + 1, by omega, by omega, ghi i q hi⟩
    refine FsOk.mk' (by omega) (fun i hi => ?_) (fun a b hab hb => ?_) (fun i hi => ?_)
    · obtain ⟨t, ht, _, e⟩ := hall i hi
      rw [e]; exact (h.2 t ht).1
    · show ord (G a).p < ord (G b).p
      rcases Nat.lt_or_ge a j with q | q
      · rw [glo a q (by omega)]
        rcases Nat.lt_or_ge b j with q2 | q2
        · rw [glo b q2 hb]; exact hs.up a b hab (by omega)
        · rw [ghi b q2 hb]; exact hs.up a (b + 1) (by omega) (by omega)
      · rw [ghi a q (by omega), ghi b (by omega) hb]; exact hs.up (a + 1) (b + 1) (by omega) (by omega)
    · obtain ⟨t, ht, tj, e⟩ := hall i hi
      rw [e]
      by_cases z : (par (F t).p).size = 0
      · exact .inl z
      · rcases (h.2 t ht).2.2 with z' | ⟨y, hy, ey, dy⟩
        · exact absurd z' z
        · have hne : y ≠ j := fun q => by
            subst q
            refine u ⟨t, ht, ?_⟩
            rw [← ej, ey]
            exact par_under (hs.ok t ht) (by omega)
          rcases Nat.lt_or_ge y j with q | q
          · have := glo y q (by omega)
            exact .inr ⟨y, by omega, by rw [this]; exact ey, by rw [this]; exact dy⟩
          · have := ghi (y - 1) (by omega) (by omega)
            rw [show y - 1 + 1 = y by omega] at this
            exact .inr ⟨y - 1, by omega, by rw [this]; exact ey, by rw [this]; exact dy⟩
/-- Below a path is what has it for its parent, or a parent below it. -/
theorem under_of_par {s fr : ByteArray} (hs : PathOk s) (h0 : 0 < (par s).size) (h : Mvd fr (par s)) : HasPre s (fr ++ ⟨#[47]⟩) := by
  have hp := par_under hs h0
  rcases h with e | e
  · rw [← e]; exact hp
  · obtain ⟨r, hr⟩ := hasPre_ex.1 hp
    obtain ⟨q, hq⟩ := hasPre_ex.1 e
    refine hasPre_ex.2 ⟨q ++ ⟨#[47]⟩ ++ r, ?_⟩
    rw [hq] at hr
    rw [hr]
    refine toL_inj ?_
    simp only [toL_app, List.append_assoc]
theorem mvT_belowK (fr tp r : ByteArray) : mvT fr tp (fr ++ ⟨#[47]⟩ ++ r) = tp ++ ⟨#[47]⟩ ++ r := by
  rw [mvT_yes (.inr (hasPre_ex.2 ⟨r, rfl⟩))]
  refine toL_inj ?_
  rw [toL_app, toL_ext, List.take_of_length_le (by rw [toL_len]; exact Nat.le_refl _), toL_app, toL_app, toL_app, toL_app, ← toL_len fr, List.append_assoc, List.drop_left, List.append_assoc]
theorem mvT_selfK (fr tp : ByteArray) : mvT fr tp fr = tp := by
  rw [mvT_yes (.inl rfl)]
  refine toL_inj ?_
  rw [toL_app, toL_ext, List.take_of_length_le (by rw [toL_len]; exact Nat.le_refl _), List.drop_of_length_le (by rw [toL_len]; exact Nat.le_refl _), List.append_nil]
theorem pre_ext {s p z : ByteArray} (h : s = p ++ ⟨#[47]⟩ ++ z) : p = s.extract 0 p.size := by
  rw [h, extract_appL _ _ _ _ (by rw [size_slM]; omega), extract_appL _ _ _ _ (Nat.le_refl _)]
  exact ByteArray.extract_zero_size.symm
/-- What is below fr has fr, or what is below it, ahead of its last slash. -/
theorem mvd_ahead {s fr p : ByteArray} (h : HasPre s (fr ++ ⟨#[47]⟩)) (hp : HasPre s (p ++ ⟨#[47]⟩)) (hn : NoSl s (p.size + 1) s.size) : Mvd fr p := by
  obtain ⟨r, hr⟩ := hasPre_ex.1 h
  obtain ⟨z, hz⟩ := hasPre_ex.1 hp
  have h47 : byteAt s fr.size = 47 := by
    rw [hr, byteAt_appL _ _ _ (by rw [size_slM]; omega)]
    exact (byteAt_appR fr _ 0).trans rfl
  have hsz := h.1
  rw [size_slM] at hsz
  have hle : fr.size ≤ p.size := by
    rcases Nat.lt_or_ge p.size fr.size with q | q
    · exact absurd h47 (hn _ (by omega) (by omega))
    · exact q
  have hps := pre_ext hz
  have hfs := pre_ext hr
  rcases Nat.eq_or_lt_of_le hle with e | e
  · left
    rw [hps, ← e]; exact hfs.symm
  · right
    refine ⟨by rw [size_slM]; omega, ?_⟩
    have h2 := h.2
    rw [size_slM] at h2 ⊢
    refine Eq.trans ?_ h2
    generalize hk : p.size = k at hps e
    rw [hps]
    refine toL_inj ?_
    rw [toL_ext, toL_ext, toL_ext, List.drop_zero, List.drop_zero, List.drop_zero, List.take_take, Nat.min_eq_left (by omega)]
theorem par_facts {s fr : ByteArray} (hs : PathOk s) (h : HasPre s (fr ++ ⟨#[47]⟩)) : 0 < (par s).size ∧ HasPre s (par s ++ ⟨#[47]⟩) ∧ NoSl s ((par s).size + 1) s.size := by
  have hb := ((par_iff hs).1 rfl)
  obtain ⟨r, hr⟩ := hasPre_ex.1 h
  have h47 : byteAt s fr.size = 47 := by
    rw [hr, byteAt_appL _ _ _ (by rw [size_slM]; omega)]
    exact (byteAt_appR fr _ 0).trans rfl
  have hsz := h.1
  rw [size_slM] at hsz
  have h0 : 0 < (par s).size := by
    rcases Nat.eq_zero_or_pos (par s).size with z | z
    · exfalso
      have hb2 := hb.2
      unfold aheadT at hb2
      rw [if_pos z] at hb2
      exact hb2 fr.size (Nat.zero_le _) (by omega) h47
    · exact z
  unfold aheadT at hb
  rw [if_neg (by omega), size_slM] at hb
  exact ⟨h0, hb⟩
theorem par_mvd {s fr : ByteArray} (hs : PathOk s) (h : HasPre s (fr ++ ⟨#[47]⟩)) : 0 < (par s).size ∧ Mvd fr (par s) := by
  obtain ⟨h0, h1, h2⟩ := par_facts hs h
  exact ⟨h0, mvd_ahead h h1 h2⟩
theorem mvd_moved {s fr tp p : ByteArray} (h : HasPre s (fr ++ ⟨#[47]⟩)) (hv : Mvd fr p) (hp : HasPre s (p ++ ⟨#[47]⟩)) (hn : NoSl s (p.size + 1) s.size) : HasPre (mvT fr tp s) (mvT fr tp p ++ ⟨#[47]⟩) ∧ NoSl (mvT fr tp s) ((mvT fr tp p).size + 1) (mvT fr tp s).size := by
  obtain ⟨z, hz⟩ := hasPre_ex.1 hp
  have hj := mvd_join hv
  have h1 : mvT fr tp p = tp ++ p.extract fr.size p.size := mvT_yes hv
  generalize p.extract fr.size p.size = e at hj h1
  have h2 : mvT fr tp s = tp ++ s.extract fr.size s.size := mvT_yes (.inr h)
  have e3 : s = fr ++ (e ++ ⟨#[47]⟩ ++ z) := by
    rw [hz, hj]
    refine toL_inj ?_
    simp only [toL_app, List.append_assoc]
  have e4 : s.extract fr.size s.size = e ++ ⟨#[47]⟩ ++ z := by
    rw [e3]
    have := extract_appR fr (e ++ ⟨#[47]⟩ ++ z) 0 (e ++ ⟨#[47]⟩ ++ z).size
    rw [Nat.add_zero, ← ByteArray.size_append] at this
    rw [this]
    exact ByteArray.extract_zero_size
  have e5 : mvT fr tp s = mvT fr tp p ++ ⟨#[47]⟩ ++ z := by
    rw [h2, h1, e4]
    refine toL_inj ?_
    simp only [toL_app, List.append_assoc]
  generalize mvT fr tp s = M at e5
  generalize mvT fr tp p = q at e5
  refine ⟨hasPre_ex.2 ⟨z, e5⟩, ?_⟩
  intro k hk hk2
  have hzs : s.size = p.size + 1 + z.size := by rw [hz, ByteArray.size_append, size_slM]
  have hms : M.size = q.size + 1 + z.size := by rw [e5, ByteArray.size_append, size_slM]
  obtain ⟨t, rfl⟩ : ∃ t, k = q.size + 1 + t := ⟨k - (q.size + 1), by omega⟩
  have g := hn (p.size + 1 + t) (by omega) (by omega)
  have g1 : byteAt s (p.size + 1 + t) = byteAt z t := by
    have := byteAt_appR (p ++ ⟨#[47]⟩) z t
    rw [size_slM] at this
    rw [hz]; exact this
  have g2 : byteAt M (q.size + 1 + t) = byteAt z t := by
    have := byteAt_appR (q ++ ⟨#[47]⟩) z t
    rw [size_slM] at this
    rw [e5]; exact this
  rw [g2, ← g1]
  exact g
/-- A moved path's parent is the parent moved. -/
theorem par_mvT {s fr tp : ByteArray} (hs : PathOk s) (ht : 0 < tp.size) (h : HasPre s (fr ++ ⟨#[47]⟩)) (hm : PathOk (mvT fr tp s)) : par (mvT fr tp s) = mvT fr tp (par s) := by
  obtain ⟨h0, h1, h2⟩ := par_facts hs h
  have hv := mvd_ahead h h1 h2
  have hz : 0 < (mvT fr tp (par s)).size := by rw [mvT_yes hv, ByteArray.size_append]; omega
  have g := mvd_moved (tp := tp) h hv h1 h2
  refine (par_iff hm).2 ?_
  unfold aheadT
  rw [if_neg (by omega), size_slM]
  exact g
/-- A move leaves right files right. -/
theorem ArrM.keeps {n : Nat} {F : Nat → Fi} {fr tp : ByteArray} {m k : Nat} {G : Nat → Fi} (h : FsOk n F) (hfr : PathOk fr) (htp : PathOk tp) (hk : k < n) (ek : (F k).p = fr) (hu : ¬ HasPre tp (fr ++ ⟨#[47]⟩)) (hd : Home n F (par tp)) (ht : ¬ ∃ j, j < n ∧ (F j).p = tp ∧ ((F j).d = true ∨ (F k).d = true)) (hl : ¬ ∃ i, i < n ∧ HasPre (F i).p (fr ++ ⟨#[47]⟩) ∧ 40 < tp.size + ((F i).p.size - fr.size)) (A : ArrM n F fr tp m G) : FsOk m G := by
  have hs := h.srt
  have f0 := pathOk_pos hfr
  have t0 := pathOk_pos htp
  have hpo : ∀ j, j < n → PathOk (mvT fr tp (F j).p) := fun j hj => by
    by_cases hm : Mvd fr (F j).p
    · rcases hm with e | e
      · rw [e, mvT_selfK]; exact htp
      · obtain ⟨r, hr⟩ := hasPre_ex.1 e
        have ho := hs.ok j hj
        have hsz : (F j).p.size = fr.size + 1 + r.size := by rw [hr, ByteArray.size_append, size_slM]
        rw [hr, mvT_belowK]
        rw [hr] at ho
        refine pathOk_moved ho htp ?_
        rw [ByteArray.size_append, size_slM]
        rcases Nat.lt_or_ge 40 (tp.size + 1 + r.size) with q | q
        · exact absurd ⟨j, hj, e, by omega⟩ hl
        · exact q
    · rw [mvT_no hm]; exact hs.ok j hj
  have hdir : ∀ y, y < n → (F y).d = true → (F y).p ≠ tp := fun y hy dy e => ht ⟨y, hy, e, .inl dy⟩
  have hin : ∀ y, y < n → (F y).d = true → ∃ i, i < m ∧ (G i).p = mvT fr tp (F y).p ∧ (G i).d = true := fun y hy dy => by
    obtain ⟨i, hi, e⟩ := A.all y hy (hdir y hy dy)
    exact ⟨i, hi, by rw [e]; rfl, by rw [e]; exact dy⟩
  refine FsOk.mk' (Nat.le_trans A.le h.1) (fun i hi => ?_) A.up (fun i hi => ?_)
  · obtain ⟨j, hj, _, e⟩ := A.src i hi
    rw [e]
    exact ⟨hpo j hj, (h.2 j hj).1.2⟩
  · obtain ⟨j, hj, hjt, e⟩ := A.src i hi
    have hnm : ∀ q, PathOk q → ¬ HasPre q (fr ++ ⟨#[47]⟩) → Home n F (par q) → Home m G (par q) := fun q hq hnu hh => by
      rcases hh with z | ⟨y, hy, ey, dy⟩
      · exact .inl z
      · by_cases z : (par q).size = 0
        · exact .inl z
        · obtain ⟨i', hi', e1, e2⟩ := hin y hy dy
          refine .inr ⟨i', hi', ?_, e2⟩
          rw [e1, ey, mvT_no]
          exact fun hv => hnu (under_of_par hq (by omega) hv)
    have eg : (G i).p = mvT fr tp (F j).p := by rw [e]; rfl
    rw [eg]
    by_cases hm : Mvd fr (F j).p
    · rcases hm with e1 | e1
      · rw [e1, mvT_selfK]
        exact hnm tp htp hu hd
      · rw [par_mvT (hs.ok j hj) t0 e1 (hpo j hj)]
        obtain ⟨h0, hv⟩ := par_mvd (hs.ok j hj) e1
        rcases (h.2 j hj).2.2 with z | ⟨y, hy, ey, dy⟩
        · omega
        · obtain ⟨i', hi', e2, e3⟩ := hin y hy dy
          exact .inr ⟨i', hi', by rw [e2, ey], e3⟩
    · rw [mvT_no hm]
      exact hnm _ (hs.ok j hj) (fun q => hm (.inr q)) (h.2 j hj).2.2
theorem MvP.keeps {n : Nat} {F : Nat → Fi} {fr tp : ByteArray} {m : Nat} {G : Nat → Fi} {c : Int} (h : FsOk n F) (hfr : PathOk fr) (htp : PathOk tp) (hm : MvP n F fr tp m G c) : FsOk m G := by
  rcases hm with ⟨_, _, rfl, rfl⟩ | ⟨k, hk, ek, ⟨_, _, rfl, rfl⟩ | ⟨_, ⟨_, _, rfl, rfl⟩ | ⟨hu, ⟨_, _, rfl, rfl⟩ | ⟨hd, ⟨_, _, rfl, rfl⟩ | ⟨ht, ⟨_, _, rfl, rfl⟩ | ⟨hl, _, r⟩⟩⟩⟩⟩⟩
  all_goals first | exact h | exact r.keeps h hfr htp hk ek hu (hd.home rfl) ht hl
end Go.Proofs.YtgcdoabcopihlaaGreat
