/-
  ProveLeaf of the model (written by tools/mkprove.py).
-/
import Derived.Test.YtpljdlgjeeikkaaDoorProveI
namespace Go.Proofs.YtpljdlgjeeikkaaDoor
open Go.ChangeShapes Go.WideShapes Go.ChangeAt Go.RowKit
set_option linter.unusedVariables false
/-- Texts of one's own are handed back. -/
def RetTx (L : List ByteArray) (B : Nat) (e : Ending) (w : World) : Prop := ∃ a c, e = .returned (.slice a L.length c) ∧ EO w B 9 1 (.slice a L.length c) L.length (txF (entT L))
theorem EO.snocTx {w : World} {B : Nat} {v : Value} {L : List ByteArray} {x : ByteArray} (h : EO w B 9 1 v (L.length + 1) (txF (updE (entT L) L.length x))) : EO w B 9 1 v (L ++ [x]).length (txF (entT (L ++ [x]))) := by
  have el : (L ++ [x]).length = L.length + 1 := by simp
  rw [el]
  refine EO.congr h (fun i hi j hj => ?_)
  unfold txF
  rcases Nat.lt_or_ge i L.length with q | q
  · rw [updE_ne _ _ (by omega), entT_app _ _ q]
  · obtain rfl : i = L.length := by omega
    rw [updE_eq, entT_last]
theorem pathT_congr {F G : Nat → Lf} {n : Nat} : ∀ {o p k : Nat}, (∀ i, i < n → F (o + i) = G (p + i)) → pathT F o n k = pathT G p n k := by
  induction n using Nat.strongRecOn with
  | ind n ih =>
    intro o p k h
    rcases (show n ≤ 1 ∨ 2 ≤ n by omega) with h1 | h2
    · rw [pathT_one _ _ _ _ h1, pathT_one _ _ _ _ h1]
    · have g1 := gh_lt h2
      have g0 := gh_pos (n := n) (by omega)
      have e1 : ∀ i, i < n - gh n → F (o + gh n + i) = G (p + gh n + i) := fun i hi => by
        have := h (gh n + i) (by omega)
        rwa [← Nat.add_assoc, ← Nat.add_assoc] at this
      by_cases hk : k < gh n
      · rw [pathT_lo _ _ _ _ h2 hk, pathT_lo _ _ _ _ h2 hk, ih _ g1 (fun i hi => h i (by omega)), treeT_congr e1]
      · rw [pathT_hi _ _ _ _ h2 hk, pathT_hi _ _ _ _ h2 hk, ih (n - gh n) (by omega) e1, treeT_congr (F := F) (G := G) (n := gh n) (fun i hi => h i (by omega))]
set_option maxRecDepth 100000 in
set_option maxHeartbeats 4000000 in
theorem l10Path_any (n : Nat) : ∀ (b off c K : Nat) (LF : Nat → Lf), n ≤ 32 → n ≤ c → c ≤ maxLen → K < n → (∀ i, i < n → (LF i).Ok) → ∀ w : World, Els w 2 (some ⟨b, off, none⟩) n (lfF LF) →
    Calls Tryd.prog 28 #[.slice (some ⟨b, off, none⟩) n c, .int .i64 (K : Int)] w fun e w' => RetTx (pathT LF 0 n K) w.heap.size e w' ∧ Below w.heap.size w w' := by
  induction n using Nat.strongRecOn with
  | ind n ih =>
    intro b off c K LF h32 hc hcm hK hok w h
    rcases (show n = 1 ∨ 2 ≤ n by omega) with rfl | hn
    · have HR : Hid (RetTx (pathT LF 0 1 K) w.heap.size (.returned (.slice (some ⟨w.heap.size, 0, none⟩) 0 0)) (w.alloc (.cells #[] 9)) ∧ Below w.heap.size w (w.alloc (.cells #[] 9))) := by
        show _ ∧ _
        rw [pathT_one _ _ _ _ (by omega)]
        exact ⟨⟨_, _, rfl, EO.lit w _ _ _ (Nat.le_refl _) _⟩, (Below.refl _ _).alloc (Nat.le_refl _) _⟩
      clear h hok ih
      generalize RetTx (pathT LF 0 1 K) w.heap.size = RS at *
      go_enter Tryd.func28, Tryd.ntmps28
      go_wp2
      go_ret
      exact HR.out
    · have g1 := gh_lt hn
      have g0 := gh_pos (n := n) (by omega)
      have SP : SlP (some ⟨b, off, none⟩) n c := ⟨(fun e => by cases e), .inr ⟨b, off, rfl⟩, hc, hcm⟩
      obtain ⟨g, hg⟩ : ∃ g, g = gh n := ⟨_, rfl⟩
      have CT := run_cut_to (P := Tryd.prog) 23 leaf_under 2 leaf_sizeOf SP g (by omega)
      have CF := run_cut_from (P := Tryd.prog) 23 leaf_under 2 leaf_sizeOf SP g (by omega)
      have hcut : cutA (some ⟨b, off, none⟩) c g 2 = some ⟨b, off + g * 2, none⟩ := by
        unfold cutA
        rw [if_neg (by omega)]
        exact congrArg some (Go.WideShapes.add_plain ..)
      rw [hcut] at CF
      have TL : Hid (∀ w : World, Els w 2 (some ⟨b, off, none⟩) n (lfF LF) → Calls Tryd.prog 24 #[.slice (some ⟨b, off, none⟩) g c] w fun e w' => e = .returned (.string (treeT LF 0 g)) ∧ Below w.heap.size w w') := fun w h => l10Tree_any g (some ⟨b, off, none⟩) c LF (by omega) (by omega) hcm (fun i hi => hok i (by omega)) w (h.less (by omega))
      have TH : Hid (∀ w : World, Els w 2 (some ⟨b, off, none⟩) n (lfF LF) → Calls Tryd.prog 24 #[.slice (some ⟨b, off + g * 2, none⟩) (n - g) (c - g)] w fun e w' => e = .returned (.string (treeT LF g (n - g))) ∧ Below w.heap.size w w') := fun w h => by
        have := l10Tree_any (n - g) (some ⟨b, off + g * 2, none⟩) (c - g) (fun i => LF (g + i)) (by omega) (by omega) (by omega) (fun i hi => hok _ (by omega)) w (h.behind g (by omega))
        rwa [treeT_congr (F := fun i => LF (g + i)) (G := LF) (o := 0) (p := g) (fun i hi => by rw [Nat.zero_add])] at this
      have n1 : ((n : Int) == 1) = false := by simp; omega
      have ek : ((n : Int) + 1) / 2 = (g : Int) := by rw [hg]; unfold gh; omega
      have HE : Hid (Els w 2 (some ⟨b, off, none⟩) n (lfF LF)) := h
      have CT' : Hid _ := CT
      have CF' : Hid _ := CF
      by_cases hk : K < gh n
      · have kl : (K : Int) < (g : Int) := by omega
        have PL : Hid (∀ w : World, Els w 2 (some ⟨b, off, none⟩) n (lfF LF) → Calls Tryd.prog 28 #[.slice (some ⟨b, off, none⟩) g c, .int .i64 (K : Int)] w fun e w' => RetTx (pathT LF 0 g K) w.heap.size e w' ∧ Below w.heap.size w w') := fun w h => ih g (by omega) b off c K LF (by omega) (by omega) hcm (by omega) (fun i hi => hok i (by omega)) w (h.less (by omega))
        have SD : Hid (pathT LF 0 n K = pathT LF 0 g K ++ [treeT LF g (n - g)]) := by show _ = _; rw [pathT_lo _ _ _ _ hn hk, ← hg, Nat.zero_add]
        have sz : (pathT LF 0 g K).length ≤ 32 := by rw [pathT_length]; have := lenT_le (n := g) (k := K); omega
        generalize pathT LF 0 g K = SL at *
        generalize treeT LF g (n - g) = TX at *
        clear h hok ih hcut SP hg hk g1 g0 CT CF TL
        go_enter Tryd.func28, Tryd.ntmps28
        go_upto_region 5 with fail
        have H : Below w.heap.size w w.drew := (Below.refl _ _).drew
        refine wp_region_noPanic ?_
        refine wp_region_held_drew (S := fun w' => (Below w.heap.size w w')) (by kernel_rfl) H (fun _ => ?_)
        have HQ0 : Hid (w.heap.size ≤ w.drew.heap.size) := Nat.le_refl _
        generalize w.drew = y0 at *
        refine wpAnyH_take (i := 0) (v := .slice (some ⟨b, off, none⟩) n c) rfl (by kernel_rfl) (by kernel_rfl) (by kernel_rfl) (fun _ _ _ h => h) (Or.inl ⟨by rfl, ?_⟩) H ?_
        · intro w' hSw; go_simp
        change wpAnyH _ _ _ _ _ _ _ { tmps := #[_, _, _, _, _, _, _, _, _, _, _, _, _, _, _, _, _, _, _, _, _, _, _, _, _, _, _, _, _, _, _, _, _, _, _, _, _, _, _, _, _], defers := _ } _
        refine wpAnyH_take (i := 1) (v := .int .i64 (g : Int)) rfl (by kernel_rfl) (by kernel_rfl) (by kernel_rfl) (fun _ _ _ h => h) (Or.inl ⟨by rfl, ?_⟩) H ?_
        · intro w' hSw; go_simp
        change wpAnyH _ _ _ _ _ _ _ { tmps := #[_, _, _, _, _, _, _, _, _, _, _, _, _, _, _, _, _, _, _, _, _, _, _, _, _, _, _, _, _, _, _, _, _, _, _, _, _, _, _, _, _], defers := _ } _
        refine wpAnyH_take (i := 2) (v := .slice (some ⟨b, off, none⟩) g c) rfl (by kernel_rfl) (by kernel_rfl) (by kernel_rfl) (fun _ _ _ h => h) (Or.inl ⟨by rfl, ?_⟩) H ?_
        · intro w' hSw; have CC := CT'.out; go_simp
        change wpAnyH _ _ _ _ _ _ _ { tmps := #[_, _, _, _, _, _, _, _, _, _, _, _, _, _, _, _, _, _, _, _, _, _, _, _, _, _, _, _, _, _, _, _, _, _, _, _, _, _, _, _, _], defers := _ } _
        refine wpAnyH_take (i := 3) (v := .int .i64 (K : Int)) rfl (by kernel_rfl) (by kernel_rfl) (by kernel_rfl) (fun _ _ _ h => h) (Or.inl ⟨by rfl, ?_⟩) H ?_
        · intro w' hSw; go_simp
        change wpAnyH _ _ _ _ _ _ _ { tmps := #[_, _, _, _, _, _, _, _, _, _, _, _, _, _, _, _, _, _, _, _, _, _, _, _, _, _, _, _, _, _, _, _, _, _, _, _, _, _, _, _, _], defers := _ } _
        refine wpAnyH_take (i := 5) (v := .slice (some ⟨b, off, none⟩) n c) rfl (by kernel_rfl) (by kernel_rfl) (by kernel_rfl) (fun _ _ _ h => h) (Or.inl ⟨by rfl, ?_⟩) H ?_
        · intro w' hSw; go_simp
        change wpAnyH _ _ _ _ _ _ _ { tmps := #[_, _, _, _, _, _, _, _, _, _, _, _, _, _, _, _, _, _, _, _, _, _, _, _, _, _, _, _, _, _, _, _, _, _, _, _, _, _, _, _, _], defers := _ } _
        refine wpAnyH_take (i := 6) (v := .int .i64 (g : Int)) rfl (by kernel_rfl) (by kernel_rfl) (by kernel_rfl) (fun _ _ _ h => h) (Or.inl ⟨by rfl, ?_⟩) H ?_
        · intro w' hSw; go_simp
        change wpAnyH _ _ _ _ _ _ _ { tmps := #[_, _, _, _, _, _, _, _, _, _, _, _, _, _, _, _, _, _, _, _, _, _, _, _, _, _, _, _, _, _, _, _, _, _, _, _, _, _, _, _, _], defers := _ } _
        refine wpAnyH_take (i := 7) (v := .slice (some ⟨b, off + g * 2, none⟩) (n - g) (c - g)) rfl (by kernel_rfl) (by kernel_rfl) (by kernel_rfl) (fun _ _ _ h => h) (Or.inl ⟨by rfl, ?_⟩) H ?_
        · intro w' hSw; have CC := CF'.out; go_simp
        change wpAnyH _ _ _ _ _ _ _ { tmps := #[_, _, _, _, _, _, _, _, _, _, _, _, _, _, _, _, _, _, _, _, _, _, _, _, _, _, _, _, _, _, _, _, _, _, _, _, _, _, _, _, _], defers := _ } _
        refine wpAnyH_ready (rs := [4]) (by kernel_rfl) (by simp) ?_
        refine AllReadyH.cons rfl (fun KK hK => ?_) AllReadyH.nil
        go_simp
        refine (PL.out _ (HE.out.below H)).mono ?_
        rintro e y1 ⟨⟨ra, rc, rfl, ho⟩, hb⟩
        replace H : (Below w.heap.size w y1) := (H).trans (hb.mono (H).size)
        have hq : w.heap.size ≤ y0.heap.size := HQ0.out
        have RO : Hid (EO y1 w.heap.size 9 1 (.slice ra SL.length rc) SL.length (txF (entT SL))) := ho.mono hq
        clear hb ho hq
        refine hK.out _ _ H (fun _ => ?_)
        clear hK KK
        change wpAnyH _ _ _ _ _ _ _ { tmps := #[_, _, _, _, _, _, _, _, _, _, _, _, _, _, _, _, _, _, _, _, _, _, _, _, _, _, _, _, _, _, _, _, _, _, _, _, _, _, _, _, _], defers := _ } _
        refine wpAnyH_ready (rs := [8]) (by kernel_rfl) (by simp) ?_
        refine AllReadyH.cons rfl (fun KK hK => ?_) AllReadyH.nil
        go_simp
        refine (TH.out _ (HE.out.below H)).mono ?_
        rintro e y2 ⟨rfl, hb⟩
        replace H : (Below w.heap.size w y2) := (H).trans (hb.mono (H).size)
        replace RO : Hid (EO y2 w.heap.size 9 1 (.slice ra SL.length rc) SL.length (txF (entT SL))) := RO.out.below hb
        clear hb 
        refine hK.out _ _ H (fun _ => ?_)
        clear hK KK
        change wpAnyH _ _ _ _ _ _ _ { tmps := #[_, _, _, _, _, _, _, _, _, _, _, _, _, _, _, _, _, _, _, _, _, _, _, _, _, _, _, _, _, _, _, _, _, _, _, _, _, _, _, _, _], defers := _ } _
        refine wpAnyH_ready (rs := [9]) (by kernel_rfl) (by simp) ?_
        refine AllReadyH.cons rfl (fun KK hK => ?_) AllReadyH.nil
        go_simp
        have hb : Below y2.heap.size y2 (y2.alloc (.cells #[.string TX] 9)) := (Below.refl _ _).alloc (Nat.le_refl _) _
        have CL : Hid ((y2.alloc (.cells #[.string TX] 9)).cell? ⟨y2.heap.size, 0, none⟩ = some (.string TX)) := by show _ = _; rw [World.cell?_alloc_at (w := y2) #[.string TX] 9 _ _ rfl]; rfl
        replace RO : Hid (EO (y2.alloc (.cells #[.string TX] 9)) w.heap.size 9 1 (.slice ra SL.length rc) SL.length (txF (entT SL))) := RO.out.below hb
        replace H : Below w.heap.size w (y2.alloc (.cells #[.string TX] 9)) := H.trans (hb.mono H.size)
        clear hb
        refine hK.out _ _ H (fun _ => ?_)
        clear hK KK
        generalize (y2.alloc (.cells #[.string TX] 9)) = y3 at *
        generalize y2.heap.size = lb at *
        change wpAnyH _ _ _ _ _ _ _ { tmps := #[_, _, _, _, _, _, _, _, _, _, _, _, _, _, _, _, _, _, _, _, _, _, _, _, _, _, _, _, _, _, _, _, _, _, _, _, _, _, _, _, _], defers := _ } _
        refine wpAnyH_ready (rs := [10]) (by kernel_rfl) (by simp) ?_
        refine AllReadyH.cons rfl (fun KK hK => ?_) AllReadyH.nil
        obtain ⟨v9, y4, hr, ho, hg, -⟩ := appTx y3 w.heap.size (.slice ra SL.length rc) SL.length lb (entT SL) TX H.size (by omega) RO.out (fun j hj => by
          obtain rfl : j = 0 := by omega
          exact CL.out)
        rw [if_pos (by rfl)]
        refine Lib.wp_append_run _ (.tmp 21) (.tmp 26) 31 31 rfl _ _ rfl rfl _ _ (hr _) ?_
        have hb2 : Below w.heap.size y3 y4 := (Below.refl _ _).grown hg H.size (fun z hz => (RO.out.ge z hz).1)
        replace H : Below w.heap.size w y4 := H.trans hb2
        obtain ⟨a9, c9, hv9⟩ := ho.form
        subst hv9
        have el : (SL ++ [TX]).length = SL.length + 1 := by simp
        have RT : Hid (RetTx (pathT LF 0 n K) w.heap.size (.returned (.slice a9 (SL.length + 1) c9)) y4 ∧ Below w.heap.size w y4) := by
          show _ ∧ _
          rw [SD.out]
          exact ⟨⟨a9, c9, by rw [el], by have := ho.snocTx; rw [el] at this ⊢; exact this⟩, H⟩
        clear hr ho hg hb2 el
        refine hK.out _ _ H (fun _ => ?_)
        clear hK KK
        change wpAnyH _ _ _ _ _ _ _ { tmps := #[_, _, _, _, _, _, _, _, _, _, _, _, _, _, _, _, _, _, _, _, _, _, _, _, _, _, _, _, _, _, _, _, _, _, _, _, _, _, _, _, _], defers := _ } _
        refine wpAnyH_take (i := 11) (v := (.slice a9 (SL.length + 1) c9)) rfl (by kernel_rfl) (by kernel_rfl) (by kernel_rfl) (fun _ _ _ h => h) (Or.inl ⟨by rfl, ?_⟩) H ?_
        · intro w' hSw; go_simp
        change wpAnyH _ _ _ _ _ _ _ { tmps := #[_, _, _, _, _, _, _, _, _, _, _, _, _, _, _, _, _, _, _, _, _, _, _, _, _, _, _, _, _, _, _, _, _, _, _, _, _, _, _, _, _], defers := _ } _
        refine wpAnyH_done (by kernel_rfl) ?_ _
        refine NoPanic.normal ?_
        clear H RO CL SD
        go_wp2
        go_ret
        exact RT.out
      · have kl : ¬ (K : Int) < (g : Int) := by omega
        have e3 : (K : Int) - (g : Int) = ((K - g : Nat) : Int) := by omega
        have wk : IntKind.i64.wrap ((K - g : Nat) : Int) = ((K - g : Nat) : Int) := IntWalk.i64_in _ (by omega)
        have PL : Hid (∀ w : World, Els w 2 (some ⟨b, off, none⟩) n (lfF LF) → Calls Tryd.prog 28 #[.slice (some ⟨b, off + g * 2, none⟩) (n - g) (c - g), .int .i64 ((K - g : Nat) : Int)] w fun e w' => RetTx (pathT LF g (n - g) (K - g)) w.heap.size e w' ∧ Below w.heap.size w w') := fun w h => by
          have := ih (n - g) (by omega) b (off + g * 2) (c - g) (K - g) (fun i => LF (g + i)) (by omega) (by omega) (by omega) (by omega) (fun i hi => hok _ (by omega)) w (h.behind g (by omega))
          rwa [pathT_congr (F := fun i => LF (g + i)) (G := LF) (o := 0) (p := g) (fun i hi => by rw [Nat.zero_add])] at this
        have SD : Hid (pathT LF 0 n K = pathT LF g (n - g) (K - g) ++ [treeT LF 0 g]) := by show _ = _; rw [pathT_hi _ _ _ _ hn hk, ← hg, Nat.zero_add]
        have sz : (pathT LF g (n - g) (K - g)).length ≤ 32 := by rw [pathT_length]; have := lenT_le (n := n - g) (k := K - g); omega
        generalize pathT LF g (n - g) (K - g) = SL at *
        generalize treeT LF 0 g = TX at *
        clear h hok ih hcut SP hg hk g1 g0 CT CF TH
        generalize K - g = KG at *
        go_enter Tryd.func28, Tryd.ntmps28
        go_upto_region 6 with fail
        have H : Below w.heap.size w w.drew := (Below.refl _ _).drew
        refine wp_region_noPanic ?_
        refine wp_region_held_drew (S := fun w' => (Below w.heap.size w w')) (by kernel_rfl) H (fun _ => ?_)
        have HQ0 : Hid (w.heap.size ≤ w.drew.heap.size) := Nat.le_refl _
        generalize w.drew = y0 at *
        refine wpAnyH_take (i := 0) (v := .slice (some ⟨b, off, none⟩) n c) rfl (by kernel_rfl) (by kernel_rfl) (by kernel_rfl) (fun _ _ _ h => h) (Or.inl ⟨by rfl, ?_⟩) H ?_
        · intro w' hSw; go_simp
        change wpAnyH _ _ _ _ _ _ _ { tmps := #[_, _, _, _, _, _, _, _, _, _, _, _, _, _, _, _, _, _, _, _, _, _, _, _, _, _, _, _, _, _, _, _, _, _, _, _, _, _, _, _, _], defers := _ } _
        refine wpAnyH_take (i := 1) (v := .int .i64 (g : Int)) rfl (by kernel_rfl) (by kernel_rfl) (by kernel_rfl) (fun _ _ _ h => h) (Or.inl ⟨by rfl, ?_⟩) H ?_
        · intro w' hSw; go_simp
        change wpAnyH _ _ _ _ _ _ _ { tmps := #[_, _, _, _, _, _, _, _, _, _, _, _, _, _, _, _, _, _, _, _, _, _, _, _, _, _, _, _, _, _, _, _, _, _, _, _, _, _, _, _, _], defers := _ } _
        refine wpAnyH_take (i := 2) (v := .slice (some ⟨b, off + g * 2, none⟩) (n - g) (c - g)) rfl (by kernel_rfl) (by kernel_rfl) (by kernel_rfl) (fun _ _ _ h => h) (Or.inl ⟨by rfl, ?_⟩) H ?_
        · intro w' hSw; have CC := CF'.out; go_simp
        change wpAnyH _ _ _ _ _ _ _ { tmps := #[_, _, _, _, _, _, _, _, _, _, _, _, _, _, _, _, _, _, _, _, _, _, _, _, _, _, _, _, _, _, _, _, _, _, _, _, _, _, _, _, _], defers := _ } _
        refine wpAnyH_take (i := 3) (v := .int .i64 (K : Int)) rfl (by kernel_rfl) (by kernel_rfl) (by kernel_rfl) (fun _ _ _ h => h) (Or.inl ⟨by rfl, ?_⟩) H ?_
        · intro w' hSw; go_simp
        change wpAnyH _ _ _ _ _ _ _ { tmps := #[_, _, _, _, _, _, _, _, _, _, _, _, _, _, _, _, _, _, _, _, _, _, _, _, _, _, _, _, _, _, _, _, _, _, _, _, _, _, _, _, _], defers := _ } _
        refine wpAnyH_take (i := 4) (v := .int .i64 (g : Int)) rfl (by kernel_rfl) (by kernel_rfl) (by kernel_rfl) (fun _ _ _ h => h) (Or.inl ⟨by rfl, ?_⟩) H ?_
        · intro w' hSw; go_simp
        change wpAnyH _ _ _ _ _ _ _ { tmps := #[_, _, _, _, _, _, _, _, _, _, _, _, _, _, _, _, _, _, _, _, _, _, _, _, _, _, _, _, _, _, _, _, _, _, _, _, _, _, _, _, _], defers := _ } _
        refine wpAnyH_take (i := 5) (v := .int .i64 (KG : Int)) rfl (by kernel_rfl) (by kernel_rfl) (by kernel_rfl) (fun _ _ _ h => h) (Or.inl ⟨by rfl, ?_⟩) H ?_
        · intro w' hSw; go_simp
        change wpAnyH _ _ _ _ _ _ _ { tmps := #[_, _, _, _, _, _, _, _, _, _, _, _, _, _, _, _, _, _, _, _, _, _, _, _, _, _, _, _, _, _, _, _, _, _, _, _, _, _, _, _, _], defers := _ } _
        refine wpAnyH_take (i := 7) (v := .slice (some ⟨b, off, none⟩) n c) rfl (by kernel_rfl) (by kernel_rfl) (by kernel_rfl) (fun _ _ _ h => h) (Or.inl ⟨by rfl, ?_⟩) H ?_
        · intro w' hSw; go_simp
        change wpAnyH _ _ _ _ _ _ _ { tmps := #[_, _, _, _, _, _, _, _, _, _, _, _, _, _, _, _, _, _, _, _, _, _, _, _, _, _, _, _, _, _, _, _, _, _, _, _, _, _, _, _, _], defers := _ } _
        refine wpAnyH_take (i := 8) (v := .int .i64 (g : Int)) rfl (by kernel_rfl) (by kernel_rfl) (by kernel_rfl) (fun _ _ _ h => h) (Or.inl ⟨by rfl, ?_⟩) H ?_
        · intro w' hSw; go_simp
        change wpAnyH _ _ _ _ _ _ _ { tmps := #[_, _, _, _, _, _, _, _, _, _, _, _, _, _, _, _, _, _, _, _, _, _, _, _, _, _, _, _, _, _, _, _, _, _, _, _, _, _, _, _, _], defers := _ } _
        refine wpAnyH_take (i := 9) (v := .slice (some ⟨b, off, none⟩) g c) rfl (by kernel_rfl) (by kernel_rfl) (by kernel_rfl) (fun _ _ _ h => h) (Or.inl ⟨by rfl, ?_⟩) H ?_
        · intro w' hSw; have CC := CT'.out; go_simp
        change wpAnyH _ _ _ _ _ _ _ { tmps := #[_, _, _, _, _, _, _, _, _, _, _, _, _, _, _, _, _, _, _, _, _, _, _, _, _, _, _, _, _, _, _, _, _, _, _, _, _, _, _, _, _], defers := _ } _
        refine wpAnyH_ready (rs := [6]) (by kernel_rfl) (by simp) ?_
        refine AllReadyH.cons rfl (fun KK hK => ?_) AllReadyH.nil
        go_simp
        refine (PL.out _ (HE.out.below H)).mono ?_
        rintro e y1 ⟨⟨ra, rc, rfl, ho⟩, hb⟩
        replace H : (Below w.heap.size w y1) := (H).trans (hb.mono (H).size)
        have hq : w.heap.size ≤ y0.heap.size := HQ0.out
        have RO : Hid (EO y1 w.heap.size 9 1 (.slice ra SL.length rc) SL.length (txF (entT SL))) := ho.mono hq
        clear hb ho hq
        refine hK.out _ _ H (fun _ => ?_)
        clear hK KK
        change wpAnyH _ _ _ _ _ _ _ { tmps := #[_, _, _, _, _, _, _, _, _, _, _, _, _, _, _, _, _, _, _, _, _, _, _, _, _, _, _, _, _, _, _, _, _, _, _, _, _, _, _, _, _], defers := _ } _
        refine wpAnyH_ready (rs := [10]) (by kernel_rfl) (by simp) ?_
        refine AllReadyH.cons rfl (fun KK hK => ?_) AllReadyH.nil
        go_simp
        refine (TL.out _ (HE.out.below H)).mono ?_
        rintro e y2 ⟨rfl, hb⟩
        replace H : (Below w.heap.size w y2) := (H).trans (hb.mono (H).size)
        replace RO : Hid (EO y2 w.heap.size 9 1 (.slice ra SL.length rc) SL.length (txF (entT SL))) := RO.out.below hb
        clear hb 
        refine hK.out _ _ H (fun _ => ?_)
        clear hK KK
        change wpAnyH _ _ _ _ _ _ _ { tmps := #[_, _, _, _, _, _, _, _, _, _, _, _, _, _, _, _, _, _, _, _, _, _, _, _, _, _, _, _, _, _, _, _, _, _, _, _, _, _, _, _, _], defers := _ } _
        refine wpAnyH_ready (rs := [11]) (by kernel_rfl) (by simp) ?_
        refine AllReadyH.cons rfl (fun KK hK => ?_) AllReadyH.nil
        go_simp
        have hb : Below y2.heap.size y2 (y2.alloc (.cells #[.string TX] 9)) := (Below.refl _ _).alloc (Nat.le_refl _) _
        have CL : Hid ((y2.alloc (.cells #[.string TX] 9)).cell? ⟨y2.heap.size, 0, none⟩ = some (.string TX)) := by show _ = _; rw [World.cell?_alloc_at (w := y2) #[.string TX] 9 _ _ rfl]; rfl
        replace RO : Hid (EO (y2.alloc (.cells #[.string TX] 9)) w.heap.size 9 1 (.slice ra SL.length rc) SL.length (txF (entT SL))) := RO.out.below hb
        replace H : Below w.heap.size w (y2.alloc (.cells #[.string TX] 9)) := H.trans (hb.mono H.size)
        clear hb
        refine hK.out _ _ H (fun _ => ?_)
        clear hK KK
        generalize (y2.alloc (.cells #[.string TX] 9)) = y3 at *
        generalize y2.heap.size = lb at *
        change wpAnyH _ _ _ _ _ _ _ { tmps := #[_, _, _, _, _, _, _, _, _, _, _, _, _, _, _, _, _, _, _, _, _, _, _, _, _, _, _, _, _, _, _, _, _, _, _, _, _, _, _, _, _], defers := _ } _
        refine wpAnyH_ready (rs := [12]) (by kernel_rfl) (by simp) ?_
        refine AllReadyH.cons rfl (fun KK hK => ?_) AllReadyH.nil
        obtain ⟨v9, y4, hr, ho, hg, -⟩ := appTx y3 w.heap.size (.slice ra SL.length rc) SL.length lb (entT SL) TX H.size (by omega) RO.out (fun j hj => by
          obtain rfl : j = 0 := by omega
          exact CL.out)
        rw [if_pos (by rfl)]
        refine Lib.wp_append_run _ (.tmp 34) (.tmp 39) 31 31 rfl _ _ rfl rfl _ _ (hr _) ?_
        have hb2 : Below w.heap.size y3 y4 := (Below.refl _ _).grown hg H.size (fun z hz => (RO.out.ge z hz).1)
        replace H : Below w.heap.size w y4 := H.trans hb2
        obtain ⟨a9, c9, hv9⟩ := ho.form
        subst hv9
        have el : (SL ++ [TX]).length = SL.length + 1 := by simp
        have RT : Hid (RetTx (pathT LF 0 n K) w.heap.size (.returned (.slice a9 (SL.length + 1) c9)) y4 ∧ Below w.heap.size w y4) := by
          show _ ∧ _
          rw [SD.out]
          exact ⟨⟨a9, c9, by rw [el], by have := ho.snocTx; rw [el] at this ⊢; exact this⟩, H⟩
        clear hr ho hg hb2 el
        refine hK.out _ _ H (fun _ => ?_)
        clear hK KK
        change wpAnyH _ _ _ _ _ _ _ { tmps := #[_, _, _, _, _, _, _, _, _, _, _, _, _, _, _, _, _, _, _, _, _, _, _, _, _, _, _, _, _, _, _, _, _, _, _, _, _, _, _, _, _], defers := _ } _
        refine wpAnyH_take (i := 13) (v := (.slice a9 (SL.length + 1) c9)) rfl (by kernel_rfl) (by kernel_rfl) (by kernel_rfl) (fun _ _ _ h => h) (Or.inl ⟨by rfl, ?_⟩) H ?_
        · intro w' hSw; go_simp
        change wpAnyH _ _ _ _ _ _ _ { tmps := #[_, _, _, _, _, _, _, _, _, _, _, _, _, _, _, _, _, _, _, _, _, _, _, _, _, _, _, _, _, _, _, _, _, _, _, _, _, _, _, _, _], defers := _ } _
        refine wpAnyH_done (by kernel_rfl) ?_ _
        refine NoPanic.normal ?_
        clear H RO CL SD
        go_wp2
        go_ret
        exact RT.out
theorem RetPf.lit (cd : Int) (w : World) (B : Nat) (hB : B ≤ w.heap.size) : RetPf [] cd B (.returned (.tuple #[.slice (some ⟨w.heap.size, 0, none⟩) 0 0, .int .i64 cd])) (w.alloc (.cells #[] 9)) := ⟨_, _, rfl, EO.lit w _ _ _ hB _⟩
set_option maxRecDepth 100000 in
set_option maxHeartbeats 4000000 in
theorem specPf_any (a : Option Addr) (n c : Nat) (LF : Nat → Lf) (k : Int) (L : List ByteArray) (cd : Int) (hA : PfA n LF k L cd) (hn : n ≤ 1048576) (hc : n ≤ c) (hcm : c ≤ maxLen) (w : World) (h : Els w 2 a n (lfF LF)) :
    Calls Tryd.prog 10 #[.slice a n c, .int .i64 k] w fun e w' => RetPf L cd w.heap.size e w' ∧ Below w.heap.size w w' := by
  by_cases h0 : 4096 < n
  · have e1 : lsCode n LF = 2 := by unfold lsCode; rw [if_pos h0]
    obtain ⟨rfl, rfl⟩ : L = [] ∧ cd = 2 := by
      rcases hA with ⟨_, h2, h3⟩ | ⟨q, _⟩ | ⟨q, _⟩
      · exact ⟨h2, h3.trans e1⟩
      · have := q.1; omega
      · have := q.1; omega
    have HR : Hid (RetPf [] 2 w.heap.size (.returned (.tuple #[.slice (some ⟨w.heap.size, 0, none⟩) 0 0, .int .i64 2])) (w.alloc (.cells #[] 9))) := RetPf.lit 2 w w.heap.size (Nat.le_refl _)
    have B1 : Hid (Below w.heap.size w (w.alloc (.cells #[] 9))) := (Below.refl _ _).alloc (Nat.le_refl _) _
    generalize RetPf [] 2 w.heap.size = RP at *
    have e3 : (4096 : Int) < (n : Int) := by omega
    clear e1 h hA
    go_enter Tryd.func10, Tryd.ntmps10
    go_wp2
    go_ret2
    exact ⟨HR.out, B1.out⟩
  have e3 : ¬ (4096 : Int) < (n : Int) := by omega
  have LK : Hid (Calls Tryd.prog 23 #[.slice a n c] w fun e w' => e = .returned (.bool (tB (LsOk n LF))) ∧ Below w.heap.size w w') := specLeavesOK_any a n c LF hn w h _ rfl
  rcases hA with ⟨hno, rfl, rfl⟩ | ⟨hok, hk, rfl, rfl⟩ | ⟨hok, hk, rfl, rfl⟩
  · have e4 : lsCode n LF = 1 := by unfold lsCode; rw [if_neg h0, tB_no hno]; rfl
    rw [e4]
    rw [tB_no hno] at LK
    have HR : Hid (∀ w1 : World, Below w.heap.size w w1 → RetPf [] 1 w.heap.size (.returned (.tuple #[.slice (some ⟨w1.heap.size, 0, none⟩) 0 0, .int .i64 1])) (w1.alloc (.cells #[] 9))) := fun w1 hb => RetPf.lit 1 w1 w.heap.size hb.size
    generalize RetPf [] 1 w.heap.size = RP at *
    clear h e4 hno
    go_enter Tryd.func10, Tryd.ntmps10
    go_wp2_with fail
    refine LK.out.mono ?_
    rintro e w1 ⟨rfl, hb⟩
    have Q : Hid _ := HR.out w1 hb
    have B1 : Hid (Below w.heap.size w (w1.alloc (.cells #[] 9))) := hb.alloc hb.size _
    clear hb LK HR
    go_wp2
    go_ret2
    exact ⟨Q.out, B1.out⟩
  · rw [tB_yes hok] at LK
    have wn : IntKind.i64.wrap ((n : Int) - 1) = (n : Int) - 1 := IntWalk.i64_in _ (by omega)
    have IN : Hid (∀ w : World, Calls Tryd.prog 27 #[.int .i64 k, .int .i64 0, .int .i64 ((n : Int) - 1)] w fun e w' => e = .returned (.bool false) ∧ w = w') := fun w => in_any k 0 ((n : Int) - 1) false (by simp; omega) w
    have HR : Hid (∀ w1 : World, Below w.heap.size w w1 → RetPf [] 4 w.heap.size (.returned (.tuple #[.slice (some ⟨w1.heap.size, 0, none⟩) 0 0, .int .i64 4])) (w1.alloc (.cells #[] 9))) := fun w1 hb => RetPf.lit 4 w1 w.heap.size hb.size
    generalize RetPf [] 4 w.heap.size = RP at *
    clear h hok hk
    go_enter Tryd.func10, Tryd.ntmps10
    go_wp2_with fail
    refine LK.out.mono ?_
    rintro e w1 ⟨rfl, hb⟩
    have Q : Hid _ := HR.out w1 hb
    have B1 : Hid (Below w.heap.size w (w1.alloc (.cells #[] 9))) := hb.alloc hb.size _
    clear hb LK HR
    go_wp2_with fail
    refine (IN.out _).mono ?_
    rintro e _ ⟨rfl, rfl⟩
    clear IN
    go_wp2
    go_ret2
    exact ⟨Q.out, B1.out⟩
  · rw [tB_yes hok] at LK
    obtain ⟨K, rfl⟩ : ∃ K : Nat, k = (K : Int) := ⟨k.toNat, by omega⟩
    rw [Int.toNat_natCast]
    obtain ⟨b, off, rfl, _⟩ := h.opened (by omega)
    have wn : IntKind.i64.wrap ((n : Int) - 1) = (n : Int) - 1 := IntWalk.i64_in _ (by omega)
    have IN : Hid (∀ w : World, Calls Tryd.prog 27 #[.int .i64 (K : Int), .int .i64 0, .int .i64 ((n : Int) - 1)] w fun e w' => e = .returned (.bool true) ∧ w = w') := fun w => in_any K 0 ((n : Int) - 1) true (by simp; omega) w
    have PA : Hid (∀ w : World, Els w 2 (some ⟨b, off, none⟩) n (lfF LF) → Calls Tryd.prog 28 #[.slice (some ⟨b, off, none⟩) n c, .int .i64 (K : Int)] w fun e w' => RetTx (pathT LF 0 n K) w.heap.size e w' ∧ Below w.heap.size w w') := fun w h => l10Path_any n b off c K LF hok.1 hc hcm (by omega) hok.2 w h
    have HE : Hid (Els w 2 (some ⟨b, off, none⟩) n (lfF LF)) := h
    generalize pathT LF 0 n K = SL at *
    have HR : Hid (∀ (a9 : Option Addr) (c9 : Nat) (w1 w2 : World), Below w.heap.size w w1 → EO w2 w1.heap.size 9 1 (.slice a9 SL.length c9) SL.length (txF (entT SL)) → RetPf SL 0 w.heap.size (.returned (.tuple #[.slice a9 SL.length c9, .int .i64 0])) w2) := fun a9 c9 w1 w2 hb ho => ⟨a9, c9, rfl, ho.mono hb.size⟩
    generalize RetPf SL 0 w.heap.size = RP at *
    clear h hok hk
    go_enter Tryd.func10, Tryd.ntmps10
    go_wp2_with fail
    refine LK.out.mono ?_
    rintro e w1 ⟨rfl, hb⟩
    have B1 : Hid (Below w.heap.size w w1) := hb
    clear hb LK
    go_wp2_with fail
    refine (IN.out _).mono ?_
    rintro e _ ⟨rfl, rfl⟩
    clear IN
    go_wp2_with fail
    refine (PA.out _ (HE.out.below B1.out)).mono ?_
    rintro e w2 ⟨⟨a9, c9, rfl, ho⟩, hb⟩
    have Q : Hid _ := HR.out a9 c9 w1 w2 B1.out ho
    have B2 : Hid (Below w.heap.size w w2) := B1.out.trans (hb.mono B1.out.size)
    clear hb ho HR B1 PA HE
    go_wp2
    go_ret2
    exact ⟨Q.out, B2.out⟩
end Go.Proofs.YtpljdlgjeeikkaaDoor
