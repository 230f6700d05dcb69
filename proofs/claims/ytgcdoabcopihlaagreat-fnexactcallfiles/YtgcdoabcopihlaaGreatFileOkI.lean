/-
  FilesOK of the program (written by tools/mkfileok.py).
-/
import Derived.Test.YtgcdoabcopihlaaGreatFileM
import Derived.Test.YtgcdoabcopihlaaGreatAnyH
import Derived.Test.YtgcdoabcopihlaaGreatInsJ
namespace Go.Proofs.YtgcdoabcopihlaaGreat
open Go.ChangeShapes Go.WideShapes Go.ChangeAt Go.RowKit
set_option linter.unusedVariables false
theorem ret_says {e : Ending} {z : Bool} {p : Prop} (h : e = .returned (.bool z)) (hz : z = true ↔ p) : Says e p := ⟨z, h, hz⟩
theorem Els.first {w : World} {s : Nat} {a : Option Addr} {n : Nat} {F : Nat → Nat → Value} (h : Els w s a n F) {k : Nat} (hk : k ≤ n) : Els w s a k F := fun i hi => h i (by omega)
set_option maxRecDepth 100000 in
set_option maxHeartbeats 4000000 in
theorem implFilesOK_any (a : Option Addr) (n c : Nat) (F : Nat → Fi) (hsz : ∀ i, i < n → (F i).p.size ≤ 1048576) (hsl : SlP a n c) (w : World) (h : Els w 3 a n (fiF F)) :
    Calls Tryz.prog 10 #[.slice a n c] w fun e w' => Says e (FsOk n F) ∧ Below w.heap.size w w' := by
  have HSZ : Hid (∀ i, i < n → (F i).p.size ≤ 1048576) := hsz
  have H : Hid (Els w 3 a n (fiF F)) := h
  clear h hsz
  by_cases h0 : n ≤ 12
  · have h0' : ¬ (12 : Int) < (n : Int) := by omega
    go_enter Tryz.func10, Tryz.ntmps10
    go_wp2
    go_loopw [10] (fun i wr => ∃ k : Nat, k ≤ n ∧ i = .int .i64 k ∧ (∀ i, i < k → (F i).Ok ∧ (0 < i → ord (F (i - 1)).p < ord (F i).p) ∧ Home n F (par (F i).p)) ∧ Below w.heap.size w wr) (fun i _ => n - (intOf i).toNat)
    case atStart => exact ⟨0, by omega, rfl, fun i hi => absurd hi (by omega), Below.refl _ _⟩
    case round =>
      obtain ⟨k, hk, rfl, hI, hb⟩ := hrel
      have HB : Hid (Below w.heap.size w wr) := hb
      have HI : Hid (∀ i, i < k → (F i).Ok ∧ (0 < i → ord (F (i - 1)).p < ord (F i).p) ∧ Home n F (par (F i).p)) := hI
      clear hI
      by_cases hlt : k < n
      · have hlt' : (k : Int) < (n : Int) := by omega
        obtain ⟨b, off, rfl, hc⟩ := (H.out.below hb).opened (by omega)
        have HSR : Hid (Srt k F) := ⟨fun i hi => (HI.out i hi).1.1, rises_of (fun i hi z => (HI.out i hi).2.1 z)⟩
        obtain ⟨c0, c1, c2⟩ := Els.fiC hc k hlt
        have HC : Hid (∀ i, i < n → ∀ j, j < 3 → wr.cell? ⟨b, off + i * 3 + j, none⟩ = some (fiF F i j)) := hc
        have PO : Hid (∀ w : World, Calls Tryz.prog 30 #[.string (F k).p] w fun e w' => Says e (PathOk (F k).p) ∧ Below w.heap.size w w') := implPathOK_any _ (HSZ.out k hlt)
        have HN : Hid (¬ (F k).Ok → ¬ FsOk n F) := fun q x => q (x.2 k hlt).1
        have HK0 : Hid ((F k).Ok ↔ PathOk (F k).p ∧ (F k).t.size ≤ 200 ∧ ((F k).d = true → (F k).t.size = 0)) := Iff.rfl
        obtain ⟨fp, hfp⟩ : ∃ x, x = (F k).p := ⟨_, rfl⟩
        obtain ⟨fd, hfd⟩ : ∃ x, x = (F k).d := ⟨_, rfl⟩
        obtain ⟨ft, hft⟩ : ∃ x, x = (F k).t := ⟨_, rfl⟩
        rw [← hfp] at c0 PO HK0
        rw [← hfd] at c1 HK0
        rw [← hft] at c2 HK0
        have HFP : Hid (fp = (F k).p) := hfp
        clear hc hb hfp hfd hft
        go_wp2_with fail
        have B1 : Hid (Below w.heap.size w (wr.alloc (.cells #[.string fp, .bool fd, .string ft] 51))) := HB.out.alloc HB.out.size _
        have hb : Below wr.heap.size wr (wr.alloc (.cells #[.string fp, .bool fd, .string ft] 51)) := (Below.refl _ _).alloc (Nat.le_refl _) _
        have X : Hid (Box3 (wr.alloc (.cells #[.string fp, .bool fd, .string ft] 51)) wr.heap.size 51 (.string fp) (.bool fd) (.string ft)) := Box3.made _ _ _ _ _
        have HE : Hid (∀ i, i < n → ∀ j, j < 3 → (wr.alloc (.cells #[.string fp, .bool fd, .string ft] 51)).cell? ⟨b, off + i * 3 + j, none⟩ = some (fiF F i j)) := fun i hi j hj => (hb.cell (p := ⟨b, off + i * 3 + j, none⟩) (strBlock (HC.out i hi j hj))).trans (HC.out i hi j hj)
        generalize (wr.alloc (.cells #[.string fp, .bool fd, .string ft] 51)) = v0 at *
        generalize wr.heap.size = rb at *
        clear hb HB HC c0 c1 c2
        refine (PO.out _).mono ?_
        rintro e v1 ⟨⟨ok, rfl, hok⟩, hb⟩
        have B2 : Hid (Below w.heap.size w v1) := B1.out.trans (hb.mono B1.out.size)
        replace X : Hid (Box3 v1 rb 51 (.string fp) (.bool fd) (.string ft)) := X.out.below hb
        replace HE : Hid (∀ i, i < n → ∀ j, j < 3 → v1.cell? ⟨b, off + i * 3 + j, none⟩ = some (fiF F i j)) := fun i hi j hj => (hb.cell (p := ⟨b, off + i * 3 + j, none⟩) (strBlock (HE.out i hi j hj))).trans (HE.out i hi j hj)
        have HOK : Hid (ok = true ↔ PathOk fp) := hok
        have t0 := X.out.c0
        have t1 := X.out.c1
        have t2 := X.out.c2
        clear hb hok B1 PO
        by_cases hK : (F k).Ok
        · obtain rfl : ok = true := HOK.out.2 (HK0.out.1 hK).1
          have k2 : ¬ (200 : Int) < (ft.size : Int) := by have := (HK0.out.1 hK).2.1; omega
          have k2' : decide ((200 : Int) < (ft.size : Int)) = false := decide_eq_false k2
          have HKK : Hid ((F k).Ok) := hK
          have HKP : Hid (PathOk fp) := (HK0.out.1 hK).1
          have PA : Hid (∀ w : World, Calls Tryz.prog 33 #[.string fp] w fun e w' => e = .returned (.string (par fp)) ∧ w' = w) := parentOf_any fp (by have := HKP.out.1; omega)
          have DF : Hid (∀ w' : World, Below v1.heap.size v1 w' → Calls Tryz.prog 32 #[.slice (some ⟨b, off, none⟩) k c, .string (par fp)] w' fun e w'' => (∃ x : Int, e = .returned (.int .i64 x) ∧ DirIs k F (par fp) x) ∧ Below w'.heap.size w' w'') := fun w' hb => dirFault_any _ _ _ F _ HSR.out (by have := par_size fp; have := HKP.out.1; omega) (by omega) w' (fun i hi => ⟨b, off, rfl, fun j hj => (hb.cell (p := ⟨b, off + i * 3 + j, none⟩) (strBlock (HE.out i (by omega) j hj))).trans (HE.out i (by omega) j hj)⟩)
          have CT : ∀ w : World, (Instr.slice 23 (.slice (some ⟨b, off, none⟩) n c) none (some (.int .i64 (k : Int))) none).run Tryz.prog w = .ok (.slice (some ⟨b, off, none⟩) k c) w := fun w => run_cut_to 23 rfl 3 (fun w => by kernel_rfl) hsl k (by have := hsl.le; omega) w
          have HPP : Hid (par fp = par (F k).p) := by show _ = _; rw [HFP.out]
          generalize par fp = pf at *
          have HD0 : Hid (fd = true → ft = ⟨#[]⟩) := fun e => ByteArray.ext (Array.eq_empty_of_size_eq_zero ((HK0.out.1 hK).2.2 e))
          clear hK HK0 HN
          have HFL : Hid (∀ x : Int, DirIs k F pf x → x ≠ 0 → ¬ FsOk n F) := fun x hx hne hf => hne (hx.ofHome HSR.out (by rw [HPP.out]; exact hf.ahead hlt))
          have HFS : Hid (∀ x : Int, DirIs k F pf x → x = 0 → Home n F (par (F k).p)) := fun x hx he => by rw [← HPP.out]; exact (hx.home he).mono hk
          have BV : Hid (∀ w : World, 0 < k → Calls Tryz.prog 31 #[.agg #[.string (F (k - 1)).p, .bool (F (k - 1)).d, .string (F (k - 1)).t], .string fp] w fun e w' => e = .returned (.int .i64 (cmpI (ord (F (k - 1)).p) (ord fp))) ∧ Below w.heap.size w w') := fun w z => byPath_any _ _ _ _ ((HSR.out.ok (k - 1) (by omega)).1) HKP.out.1 w
          have HUP : Hid (¬ (0 < k → ord (F (k - 1)).p < ord fp) → ¬ FsOk n F) := fun q x => q (fun z => by rw [HFP.out]; exact (x.2 k hlt).2.1 z)
          have HGO : Hid ((0 < k → ord (F (k - 1)).p < ord fp) → Home n F (par (F k).p) → ∀ i, i < k + 1 → (F i).Ok ∧ (0 < i → ord (F (i - 1)).p < ord (F i).p) ∧ Home n F (par (F i).p)) := fun hu hh i hi => by
            rcases Nat.lt_or_ge i k with g | g
            · exact HI.out i g
            · obtain rfl : i = k := by omega
              exact ⟨HKK.out, fun z => by rw [← HFP.out]; exact hu z, hh⟩
          clear HI HOK HSR HKK HFP HPP HKP
          cases fd
          · clear HD0
            go_wp2_with fail
            clear t0 t1 t2
            rcases Nat.eq_zero_or_pos k with hz | hp
            · have z0 : ¬ (0 : Int) < (k : Int) := by omega
              have HZ : Hid (k = 0) := hz
              have zz : decide ((0 : Int) < (k : Int)) = false := decide_eq_false z0
              clear hz
              have H : Below v1.heap.size v1 v1.drew := (Below.refl _ _).drew
              refine wp_region_noPanic ?_
              refine wp_region_held_drew (S := fun w' => Below v1.heap.size v1 w') (by kernel_rfl) H (fun _ => ?_)
              generalize v1.drew = x0 at *
              refine wpAnyH_take (i := 0) (v := .int .i64 k) rfl (by kernel_rfl) (by kernel_rfl) (by kernel_rfl) (fun _ _ _ h => h) (Or.inl ⟨by rfl, ?_⟩) H ?_
              · intro w' hSw; clear hSw; go_simp
              refine wpAnyH_take (i := 1) (v := .bool false) rfl (by kernel_rfl) (by kernel_rfl) (by kernel_rfl) (fun _ _ _ h => h) (Or.inl ⟨by rfl, ?_⟩) H ?_
              · intro w' hSw; clear hSw; go_simp; exact HZ.out
              refine wpAnyH_take (i := 2) (v := .bool false) rfl (by kernel_rfl) (by kernel_rfl) (by kernel_rfl) (fun _ _ _ h => h) (Or.inl ⟨by rfl, ?_⟩) H ?_
              · intro w' hSw; clear hSw; go_simp
              change wpAnyH _ _ _ _ _ _ _ { tmps := #[_, _, _, _, _, _, _, _, _, _, _, _, _, _, _, _, _, _, _, _, _, _, _, _, _, _, _, _, _, _, _, _, _, _, _, _, _, _, _, _, _, _, _, _, _, _, _, _, _, _, _, _, _, _, _, _, _, _], defers := _ } _
              refine wpAnyH_take (i := 3) (v := undef) rfl (by kernel_rfl) (by kernel_rfl) (by kernel_rfl) (fun _ _ _ h => h) (Or.inr ⟨by rfl, rfl⟩) H ?_
              refine wpAnyH_take (i := 4) (v := undef) rfl (by kernel_rfl) (by kernel_rfl) (by kernel_rfl) (fun _ _ _ h => h) (Or.inr ⟨by rfl, rfl⟩) H ?_
              refine wpAnyH_take (i := 5) (v := undef) rfl (by kernel_rfl) (by kernel_rfl) (by kernel_rfl) (fun _ _ _ h => h) (Or.inr ⟨by rfl, rfl⟩) H ?_
              change wpAnyH _ _ _ _ _ _ _ { tmps := #[_, _, _, _, _, _, _, _, _, _, _, _, _, _, _, _, _, _, _, _, _, _, _, _, _, _, _, _, _, _, _, _, _, _, _, _, _, _, _, _, _, _, _, _, _, _, _, _, _, _, _, _, _, _, _, _, _, _], defers := _ } _
              refine wpAnyH_take (i := 6) (v := undef) rfl (by kernel_rfl) (by kernel_rfl) (by kernel_rfl) (fun _ _ _ h => h) (Or.inr ⟨by rfl, rfl⟩) H ?_
              refine wpAnyH_take (i := 7) (v := undef) rfl (by kernel_rfl) (by kernel_rfl) (by kernel_rfl) (fun _ _ _ h => h) (Or.inr ⟨by rfl, rfl⟩) H ?_
              refine wpAnyH_take (i := 8) (v := undef) rfl (by kernel_rfl) (by kernel_rfl) (by kernel_rfl) (fun _ _ _ h => h) (Or.inr ⟨by rfl, rfl⟩) H ?_
              change wpAnyH _ _ _ _ _ _ _ { tmps := #[_, _, _, _, _, _, _, _, _, _, _, _, _, _, _, _, _, _, _, _, _, _, _, _, _, _, _, _, _, _, _, _, _, _, _, _, _, _, _, _, _, _, _, _, _, _, _, _, _, _, _, _, _, _, _, _, _, _], defers := _ } _
              refine wpAnyH_take (i := 9) (v := undef) rfl (by kernel_rfl) (by kernel_rfl) (by kernel_rfl) (fun _ _ _ h => h) (Or.inr ⟨by rfl, rfl⟩) H ?_
              refine wpAnyH_take (i := 10) (v := undef) rfl (by kernel_rfl) (by kernel_rfl) (by kernel_rfl) (fun _ _ _ h => h) (Or.inr ⟨by rfl, rfl⟩) H ?_
              refine wpAnyH_take (i := 11) (v := undef) rfl (by kernel_rfl) (by kernel_rfl) (by kernel_rfl) (fun _ _ _ h => h) (Or.inr ⟨by rfl, rfl⟩) H ?_
              change wpAnyH _ _ _ _ _ _ _ { tmps := #[_, _, _, _, _, _, _, _, _, _, _, _, _, _, _, _, _, _, _, _, _, _, _, _, _, _, _, _, _, _, _, _, _, _, _, _, _, _, _, _, _, _, _, _, _, _, _, _, _, _, _, _, _, _, _, _, _, _], defers := _ } _
              refine wpAnyH_take (i := 12) (v := .bool false) rfl (by kernel_rfl) (by kernel_rfl) (by kernel_rfl) (fun _ _ _ h => h) (Or.inl ⟨by rfl, ?_⟩) H ?_
              · intro w' hSw; clear hSw; go_simp
              refine wpAnyH_take (i := 13) (v := .bool false) rfl (by kernel_rfl) (by kernel_rfl) (by kernel_rfl) (fun _ _ _ h => h) (Or.inl ⟨by rfl, ?_⟩) H ?_
              · intro w' hSw; clear hSw; go_simp
              refine wpAnyH_take (i := 14) (v := .slice (some ⟨b, off, none⟩) n c) rfl (by kernel_rfl) (by kernel_rfl) (by kernel_rfl) (fun _ _ _ h => h) (Or.inl ⟨by rfl, ?_⟩) H ?_
              · intro w' hSw; clear hSw; go_simp
              change wpAnyH _ _ _ _ _ _ _ { tmps := #[_, _, _, _, _, _, _, _, _, _, _, _, _, _, _, _, _, _, _, _, _, _, _, _, _, _, _, _, _, _, _, _, _, _, _, _, _, _, _, _, _, _, _, _, _, _, _, _, _, _, _, _, _, _, _, _, _, _], defers := _ } _
              refine wpAnyH_take (i := 15) (v := .int .i64 k) rfl (by kernel_rfl) (by kernel_rfl) (by kernel_rfl) (fun _ _ _ h => h) (Or.inl ⟨by rfl, ?_⟩) H ?_
              · intro w' hSw; clear hSw; go_simp
              refine wpAnyH_take (i := 16) (v := .slice (some ⟨b, off, none⟩) k c) rfl (by kernel_rfl) (by kernel_rfl) (by kernel_rfl) (fun _ _ _ h => h) (Or.inl ⟨by rfl, ?_⟩) H ?_
              · intro w' hSw; clear hSw; go_simp
              refine wpAnyH_take (i := 17) (v := .pointer (some ⟨rb, 0, none⟩)) rfl (by kernel_rfl) (by kernel_rfl) (by kernel_rfl) (fun _ _ _ h => h) (Or.inl ⟨by rfl, ?_⟩) H ?_
              · intro w' hSw; clear hSw; go_simp
              change wpAnyH _ _ _ _ _ _ _ { tmps := #[_, _, _, _, _, _, _, _, _, _, _, _, _, _, _, _, _, _, _, _, _, _, _, _, _, _, _, _, _, _, _, _, _, _, _, _, _, _, _, _, _, _, _, _, _, _, _, _, _, _, _, _, _, _, _, _, _, _], defers := _ } _
              refine wpAnyH_take (i := 18) (v := .string fp) rfl (by kernel_rfl) (by kernel_rfl) (by kernel_rfl) (fun _ _ _ h => h) (Or.inl ⟨by rfl, ?_⟩) H ?_
              · intro w' hSw; have t0 := (X.out.below hSw).c0; clear hSw; go_simp
              refine wpAnyH_ready (rs := [19]) (by kernel_rfl) (by simp) ?_
              refine AllReadyH.cons rfl (fun KK hK => ?_) AllReadyH.nil
              go_simp
              refine (PA.out _).mono ?_
              rintro e _ ⟨rfl, rfl⟩
              refine hK.out _ _ H (fun _ => ?_)
              clear hK KK
              change wpAnyH _ _ _ _ _ _ _ { tmps := #[_, _, _, _, _, _, _, _, _, _, _, _, _, _, _, _, _, _, _, _, _, _, _, _, _, _, _, _, _, _, _, _, _, _, _, _, _, _, _, _, _, _, _, _, _, _, _, _, _, _, _, _, _, _, _, _, _, _], defers := _ } _
              refine wpAnyH_ready (rs := [20]) (by kernel_rfl) (by simp) ?_
              refine AllReadyH.cons rfl (fun KK hK => ?_) AllReadyH.nil
              go_simp
              refine (DF.out _ H).mono ?_
              rintro e x2 ⟨⟨x, rfl, hx⟩, hb⟩
              replace H : Below v1.heap.size v1 x2 := H.trans (hb.mono H.size)
              obtain ⟨y, hy⟩ : ∃ y : Bool, (x != 0) = y := ⟨_, rfl⟩
              have HX : Hid (DirIs k F pf x) := hx
              have HXY : Hid ((x != 0) = y) := hy
              clear hx
              clear hb
              refine hK.out _ _ H (fun _ => ?_)
              clear hK KK
              change wpAnyH _ _ _ _ _ _ _ { tmps := #[_, _, _, _, _, _, _, _, _, _, _, _, _, _, _, _, _, _, _, _, _, _, _, _, _, _, _, _, _, _, _, _, _, _, _, _, _, _, _, _, _, _, _, _, _, _, _, _, _, _, _, _, _, _, _, _, _, _], defers := _ } _
              refine wpAnyH_take (i := 21) (v := .bool y) rfl (by kernel_rfl) (by kernel_rfl) (by kernel_rfl) (fun _ _ _ h => h) (Or.inl ⟨by rfl, ?_⟩) H ?_
              · intro w' hSw; clear hSw; go_simp
              refine wpAnyH_take (i := 22) (v := .bool y) rfl (by kernel_rfl) (by kernel_rfl) (by kernel_rfl) (fun _ _ _ h => h) (Or.inl ⟨by rfl, ?_⟩) H ?_
              · intro w' hSw; clear hSw; go_simp
              refine wpAnyH_done (by kernel_rfl) ?_ _
              refine NoPanic.normal ?_
              have B3 : Hid (Below w.heap.size w x2) := B2.out.trans (H.mono B2.out.size)
              clear H B2 X HE DF PA BV CT hy
              cases y with
              | true =>
                have HNO : Hid (¬ FsOk n F) := HFL.out x HX.out (by have := HXY.out; simpa using this)
                clear HX HXY HFL HFS HGO HUP
                go_wp2
                go_ret
                exact ⟨⟨false, rfl, by simpa using HNO.out⟩, B3.out⟩
              | false =>
                have HHH : Hid (Home n F (par (F k).p)) := HFS.out x HX.out (by have := HXY.out; simpa using this)
                clear HX HXY HFL HFS HUP
                go_wp2
                go_roundw
                case rel => exact ⟨k + 1, by omega, by go_num, HGO.out (fun z => absurd HZ.out (by omega)) HHH.out, B3.out⟩
                case measure => simp [intOf]; omega
            · have z0 : (0 : Int) < (k : Int) := by omega
              have zz : decide ((0 : Int) < (k : Int)) = true := decide_eq_true z0
              obtain ⟨d0, d1, d2⟩ := Els.fiC HE.out (k - 1) (by omega)
              have HP : Hid (0 < k) := hp
              have i1 : IntKind.i64.wrap ((k : Int) - 1) = ((k - 1 : Nat) : Int) := by rw [IntWalk.i64_in _ (by omega)]; omega
              have i2 : ((k - 1 : Nat) : Int) < (n : Int) := by omega
              have HV : Hid (ord (F (k - 1)).p < ord fp ∨ ¬ ord (F (k - 1)).p < ord fp) := Classical.em _
              clear hp
              rcases HV.out with g | g
              · have hcmp := cmpI_lt g
                have G : Hid (ord (F (k - 1)).p < ord fp) := g
                clear g HV
                have H : Below v1.heap.size v1 v1.drew := (Below.refl _ _).drew
                refine wp_region_noPanic ?_
                refine wp_region_held_drew (S := fun w' => Below v1.heap.size v1 w') (by kernel_rfl) H (fun _ => ?_)
                generalize v1.drew = x0 at *
                refine wpAnyH_take (i := 0) (v := .int .i64 k) rfl (by kernel_rfl) (by kernel_rfl) (by kernel_rfl) (fun _ _ _ h => h) (Or.inl ⟨by rfl, ?_⟩) H ?_
                · intro w' hSw; clear hSw; go_simp
                refine wpAnyH_take (i := 1) (v := .bool true) rfl (by kernel_rfl) (by kernel_rfl) (by kernel_rfl) (fun _ _ _ h => h) (Or.inl ⟨by rfl, ?_⟩) H ?_
                · intro w' hSw; clear hSw; go_simp; exact HP.out
                refine wpAnyH_take (i := 2) (v := .bool true) rfl (by kernel_rfl) (by kernel_rfl) (by kernel_rfl) (fun _ _ _ h => h) (Or.inl ⟨by rfl, ?_⟩) H ?_
                · intro w' hSw; clear hSw; go_simp
                change wpAnyH _ _ _ _ _ _ _ { tmps := #[_, _, _, _, _, _, _, _, _, _, _, _, _, _, _, _, _, _, _, _, _, _, _, _, _, _, _, _, _, _, _, _, _, _, _, _, _, _, _, _, _, _, _, _, _, _, _, _, _, _, _, _, _, _, _, _, _, _], defers := _ } _
                refine wpAnyH_take (i := 3) (v := .slice (some ⟨b, off, none⟩) n c) rfl (by kernel_rfl) (by kernel_rfl) (by kernel_rfl) (fun _ _ _ h => h) (Or.inl ⟨by rfl, ?_⟩) H ?_
                · intro w' hSw; clear hSw; go_simp
                refine wpAnyH_take (i := 4) (v := .int .i64 k) rfl (by kernel_rfl) (by kernel_rfl) (by kernel_rfl) (fun _ _ _ h => h) (Or.inl ⟨by rfl, ?_⟩) H ?_
                · intro w' hSw; clear hSw; go_simp
                refine wpAnyH_take (i := 5) (v := .int .i64 ((k - 1 : Nat) : Int)) rfl (by kernel_rfl) (by kernel_rfl) (by kernel_rfl) (fun _ _ _ h => h) (Or.inl ⟨by rfl, ?_⟩) H ?_
                · intro w' hSw; clear hSw; go_simp
                change wpAnyH _ _ _ _ _ _ _ { tmps := #[_, _, _, _, _, _, _, _, _, _, _, _, _, _, _, _, _, _, _, _, _, _, _, _, _, _, _, _, _, _, _, _, _, _, _, _, _, _, _, _, _, _, _, _, _, _, _, _, _, _, _, _, _, _, _, _, _, _], defers := _ } _
                refine wpAnyH_take (i := 6) (v := .pointer (some ⟨b, off + (k - 1) * 3, none⟩)) rfl (by kernel_rfl) (by kernel_rfl) (by kernel_rfl) (fun _ _ _ h => h) (Or.inl ⟨by rfl, ?_⟩) H ?_
                · intro w' hSw; clear hSw; go_simp
                refine wpAnyH_take (i := 7) (v := .agg #[.string (F (k - 1)).p, .bool (F (k - 1)).d, .string (F (k - 1)).t]) rfl (by kernel_rfl) (by kernel_rfl) (by kernel_rfl) (fun _ _ _ h => h) (Or.inl ⟨by rfl, ?_⟩) H ?_
                · intro w' hSw; have t0 := (hSw.cell (strBlock d0)).trans d0; have t1 := (hSw.cell (strBlock d1)).trans d1; have t2 := (hSw.cell (strBlock d2)).trans d2; clear hSw; go_simp
                refine wpAnyH_take (i := 8) (v := .pointer (some ⟨rb, 0, none⟩)) rfl (by kernel_rfl) (by kernel_rfl) (by kernel_rfl) (fun _ _ _ h => h) (Or.inl ⟨by rfl, ?_⟩) H ?_
                · intro w' hSw; clear hSw; go_simp
                change wpAnyH _ _ _ _ _ _ _ { tmps := #[_, _, _, _, _, _, _, _, _, _, _, _, _, _, _, _, _, _, _, _, _, _, _, _, _, _, _, _, _, _, _, _, _, _, _, _, _, _, _, _, _, _, _, _, _, _, _, _, _, _, _, _, _, _, _, _, _, _], defers := _ } _
                refine wpAnyH_take (i := 9) (v := .string fp) rfl (by kernel_rfl) (by kernel_rfl) (by kernel_rfl) (fun _ _ _ h => h) (Or.inl ⟨by rfl, ?_⟩) H ?_
                · intro w' hSw; have t0 := (X.out.below hSw).c0; clear hSw; go_simp
                refine wpAnyH_ready (rs := [10]) (by kernel_rfl) (by simp) ?_
                refine AllReadyH.cons rfl (fun KK hK => ?_) AllReadyH.nil
                go_simp
                refine (BV.out _ HP.out).mono ?_
                rintro e x1 ⟨rfl, hb⟩
                replace H : Below v1.heap.size v1 x1 := H.trans (hb.mono H.size)
                rw [hcmp]
                clear hb
                refine hK.out _ _ H (fun _ => ?_)
                clear hK KK
                change wpAnyH _ _ _ _ _ _ _ { tmps := #[_, _, _, _, _, _, _, _, _, _, _, _, _, _, _, _, _, _, _, _, _, _, _, _, _, _, _, _, _, _, _, _, _, _, _, _, _, _, _, _, _, _, _, _, _, _, _, _, _, _, _, _, _, _, _, _, _, _], defers := _ } _
                refine wpAnyH_take (i := 11) (v := .bool false) rfl (by kernel_rfl) (by kernel_rfl) (by kernel_rfl) (fun _ _ _ h => h) (Or.inl ⟨by rfl, ?_⟩) H ?_
                · intro w' hSw; clear hSw; go_simp
                change wpAnyH _ _ _ _ _ _ _ { tmps := #[_, _, _, _, _, _, _, _, _, _, _, _, _, _, _, _, _, _, _, _, _, _, _, _, _, _, _, _, _, _, _, _, _, _, _, _, _, _, _, _, _, _, _, _, _, _, _, _, _, _, _, _, _, _, _, _, _, _], defers := _ } _
                refine wpAnyH_take (i := 12) (v := .bool false) rfl (by kernel_rfl) (by kernel_rfl) (by kernel_rfl) (fun _ _ _ h => h) (Or.inl ⟨by rfl, ?_⟩) H ?_
                · intro w' hSw; clear hSw; go_simp
                refine wpAnyH_take (i := 13) (v := .bool false) rfl (by kernel_rfl) (by kernel_rfl) (by kernel_rfl) (fun _ _ _ h => h) (Or.inl ⟨by rfl, ?_⟩) H ?_
                · intro w' hSw; clear hSw; go_simp
                refine wpAnyH_take (i := 14) (v := .slice (some ⟨b, off, none⟩) n c) rfl (by kernel_rfl) (by kernel_rfl) (by kernel_rfl) (fun _ _ _ h => h) (Or.inl ⟨by rfl, ?_⟩) H ?_
                · intro w' hSw; clear hSw; go_simp
                change wpAnyH _ _ _ _ _ _ _ { tmps := #[_, _, _, _, _, _, _, _, _, _, _, _, _, _, _, _, _, _, _, _, _, _, _, _, _, _, _, _, _, _, _, _, _, _, _, _, _, _, _, _, _, _, _, _, _, _, _, _, _, _, _, _, _, _, _, _, _, _], defers := _ } _
                refine wpAnyH_take (i := 15) (v := .int .i64 k) rfl (by kernel_rfl) (by kernel_rfl) (by kernel_rfl) (fun _ _ _ h => h) (Or.inl ⟨by rfl, ?_⟩) H ?_
                · intro w' hSw; clear hSw; go_simp
                refine wpAnyH_take (i := 16) (v := .slice (some ⟨b, off, none⟩) k c) rfl (by kernel_rfl) (by kernel_rfl) (by kernel_rfl) (fun _ _ _ h => h) (Or.inl ⟨by rfl, ?_⟩) H ?_
                · intro w' hSw; clear hSw; go_simp
                refine wpAnyH_take (i := 17) (v := .pointer (some ⟨rb, 0, none⟩)) rfl (by kernel_rfl) (by kernel_rfl) (by kernel_rfl) (fun _ _ _ h => h) (Or.inl ⟨by rfl, ?_⟩) H ?_
                · intro w' hSw; clear hSw; go_simp
                change wpAnyH _ _ _ _ _ _ _ { tmps := #[_, _, _, _, _, _, _, _, _, _, _, _, _, _, _, _, _, _, _, _, _, _, _, _, _, _, _, _, _, _, _, _, _, _, _, _, _, _, _, _, _, _, _, _, _, _, _, _, _, _, _, _, _, _, _, _, _, _], defers := _ } _
                refine wpAnyH_take (i := 18) (v := .string fp) rfl (by kernel_rfl) (by kernel_rfl) (by kernel_rfl) (fun _ _ _ h => h) (Or.inl ⟨by rfl, ?_⟩) H ?_
                · intro w' hSw; have t0 := (X.out.below hSw).c0; clear hSw; go_simp
                refine wpAnyH_ready (rs := [19]) (by kernel_rfl) (by simp) ?_
                refine AllReadyH.cons rfl (fun KK hK => ?_) AllReadyH.nil
                go_simp
                refine (PA.out _).mono ?_
                rintro e _ ⟨rfl, rfl⟩
                refine hK.out _ _ H (fun _ => ?_)
                clear hK KK
                change wpAnyH _ _ _ _ _ _ _ { tmps := #[_, _, _, _, _, _, _, _, _, _, _, _, _, _, _, _, _, _, _, _, _, _, _, _, _, _, _, _, _, _, _, _, _, _, _, _, _, _, _, _, _, _, _, _, _, _, _, _, _, _, _, _, _, _, _, _, _, _], defers := _ } _
                refine wpAnyH_ready (rs := [20]) (by kernel_rfl) (by simp) ?_
                refine AllReadyH.cons rfl (fun KK hK => ?_) AllReadyH.nil
                go_simp
                refine (DF.out _ H).mono ?_
                rintro e x3 ⟨⟨x, rfl, hx⟩, hb⟩
                replace H : Below v1.heap.size v1 x3 := H.trans (hb.mono H.size)
                obtain ⟨y, hy⟩ : ∃ y : Bool, (x != 0) = y := ⟨_, rfl⟩
                have HX : Hid (DirIs k F pf x) := hx
                have HXY : Hid ((x != 0) = y) := hy
                clear hx
                clear hb
                refine hK.out _ _ H (fun _ => ?_)
                clear hK KK
                change wpAnyH _ _ _ _ _ _ _ { tmps := #[_, _, _, _, _, _, _, _, _, _, _, _, _, _, _, _, _, _, _, _, _, _, _, _, _, _, _, _, _, _, _, _, _, _, _, _, _, _, _, _, _, _, _, _, _, _, _, _, _, _, _, _, _, _, _, _, _, _], defers := _ } _
                refine wpAnyH_take (i := 21) (v := .bool y) rfl (by kernel_rfl) (by kernel_rfl) (by kernel_rfl) (fun _ _ _ h => h) (Or.inl ⟨by rfl, ?_⟩) H ?_
                · intro w' hSw; clear hSw; go_simp
                refine wpAnyH_take (i := 22) (v := .bool y) rfl (by kernel_rfl) (by kernel_rfl) (by kernel_rfl) (fun _ _ _ h => h) (Or.inl ⟨by rfl, ?_⟩) H ?_
                · intro w' hSw; clear hSw; go_simp
                refine wpAnyH_done (by kernel_rfl) ?_ _
                refine NoPanic.normal ?_
                clear d0 d1 d2 hcmp
                have B3 : Hid (Below w.heap.size w x3) := B2.out.trans (H.mono B2.out.size)
                clear H B2 X HE DF PA BV CT hy
                cases y with
                | true =>
                  have HNO : Hid (¬ FsOk n F) := HFL.out x HX.out (by have := HXY.out; simpa using this)
                  clear HX HXY HFL HFS HGO HUP
                  go_wp2
                  go_ret
                  exact ⟨⟨false, rfl, by simpa using HNO.out⟩, B3.out⟩
                | false =>
                  have HHH : Hid (Home n F (par (F k).p)) := HFS.out x HX.out (by have := HXY.out; simpa using this)
                  clear HX HXY HFL HFS HUP
                  go_wp2
                  go_roundw
                  case rel => exact ⟨k + 1, by omega, by go_num, HGO.out (fun _ => G.out) HHH.out, B3.out⟩
                  case measure => simp [intOf]; omega
              · have HNO : Hid (¬ FsOk n F) := HUP.out (fun q => g (q HP.out))
                obtain ⟨y, hcmp, hy⟩ : ∃ y, cmpI (ord (F (k - 1)).p) (ord fp) = y ∧ 0 ≤ y := ⟨_, rfl, by unfold cmpI; rw [if_neg g]; split <;> omega⟩
                clear g HV HFL HFS HGO HUP
                have H : Below v1.heap.size v1 v1.drew := (Below.refl _ _).drew
                refine wp_region_noPanic ?_
                refine wp_region_held_drew (S := fun w' => Below v1.heap.size v1 w') (by kernel_rfl) H (fun _ => ?_)
                generalize v1.drew = x0 at *
                refine wpAnyH_take (i := 0) (v := .int .i64 k) rfl (by kernel_rfl) (by kernel_rfl) (by kernel_rfl) (fun _ _ _ h => h) (Or.inl ⟨by rfl, ?_⟩) H ?_
                · intro w' hSw; clear hSw; go_simp
                refine wpAnyH_take (i := 1) (v := .bool true) rfl (by kernel_rfl) (by kernel_rfl) (by kernel_rfl) (fun _ _ _ h => h) (Or.inl ⟨by rfl, ?_⟩) H ?_
                · intro w' hSw; clear hSw; go_simp; exact HP.out
                refine wpAnyH_take (i := 2) (v := .bool true) rfl (by kernel_rfl) (by kernel_rfl) (by kernel_rfl) (fun _ _ _ h => h) (Or.inl ⟨by rfl, ?_⟩) H ?_
                · intro w' hSw; clear hSw; go_simp
                change wpAnyH _ _ _ _ _ _ _ { tmps := #[_, _, _, _, _, _, _, _, _, _, _, _, _, _, _, _, _, _, _, _, _, _, _, _, _, _, _, _, _, _, _, _, _, _, _, _, _, _, _, _, _, _, _, _, _, _, _, _, _, _, _, _, _, _, _, _, _, _], defers := _ } _
                refine wpAnyH_take (i := 3) (v := .slice (some ⟨b, off, none⟩) n c) rfl (by kernel_rfl) (by kernel_rfl) (by kernel_rfl) (fun _ _ _ h => h) (Or.inl ⟨by rfl, ?_⟩) H ?_
                · intro w' hSw; clear hSw; go_simp
                refine wpAnyH_take (i := 4) (v := .int .i64 k) rfl (by kernel_rfl) (by kernel_rfl) (by kernel_rfl) (fun _ _ _ h => h) (Or.inl ⟨by rfl, ?_⟩) H ?_
                · intro w' hSw; clear hSw; go_simp
                refine wpAnyH_take (i := 5) (v := .int .i64 ((k - 1 : Nat) : Int)) rfl (by kernel_rfl) (by kernel_rfl) (by kernel_rfl) (fun _ _ _ h => h) (Or.inl ⟨by rfl, ?_⟩) H ?_
                · intro w' hSw; clear hSw; go_simp
                change wpAnyH _ _ _ _ _ _ _ { tmps := #[_, _, _, _, _, _, _, _, _, _, _, _, _, _, _, _, _, _, _, _, _, _, _, _, _, _, _, _, _, _, _, _, _, _, _, _, _, _, _, _, _, _, _, _, _, _, _, _, _, _, _, _, _, _, _, _, _, _], defers := _ } _
                refine wpAnyH_take (i := 6) (v := .pointer (some ⟨b, off + (k - 1) * 3, none⟩)) rfl (by kernel_rfl) (by kernel_rfl) (by kernel_rfl) (fun _ _ _ h => h) (Or.inl ⟨by rfl, ?_⟩) H ?_
                · intro w' hSw; clear hSw; go_simp
                refine wpAnyH_take (i := 7) (v := .agg #[.string (F (k - 1)).p, .bool (F (k - 1)).d, .string (F (k - 1)).t]) rfl (by kernel_rfl) (by kernel_rfl) (by kernel_rfl) (fun _ _ _ h => h) (Or.inl ⟨by rfl, ?_⟩) H ?_
                · intro w' hSw; have t0 := (hSw.cell (strBlock d0)).trans d0; have t1 := (hSw.cell (strBlock d1)).trans d1; have t2 := (hSw.cell (strBlock d2)).trans d2; clear hSw; go_simp
                refine wpAnyH_take (i := 8) (v := .pointer (some ⟨rb, 0, none⟩)) rfl (by kernel_rfl) (by kernel_rfl) (by kernel_rfl) (fun _ _ _ h => h) (Or.inl ⟨by rfl, ?_⟩) H ?_
                · intro w' hSw; clear hSw; go_simp
                change wpAnyH _ _ _ _ _ _ _ { tmps := #[_, _, _, _, _, _, _, _, _, _, _, _, _, _, _, _, _, _, _, _, _, _, _, _, _, _, _, _, _, _, _, _, _, _, _, _, _, _, _, _, _, _, _, _, _, _, _, _, _, _, _, _, _, _, _, _, _, _], defers := _ } _
                refine wpAnyH_take (i := 9) (v := .string fp) rfl (by kernel_rfl) (by kernel_rfl) (by kernel_rfl) (fun _ _ _ h => h) (Or.inl ⟨by rfl, ?_⟩) H ?_
                · intro w' hSw; have t0 := (X.out.below hSw).c0; clear hSw; go_simp
                refine wpAnyH_ready (rs := [10]) (by kernel_rfl) (by simp) ?_
                refine AllReadyH.cons rfl (fun KK hK => ?_) AllReadyH.nil
                go_simp
                refine (BV.out _ HP.out).mono ?_
                rintro e x1 ⟨rfl, hb⟩
                replace H : Below v1.heap.size v1 x1 := H.trans (hb.mono H.size)
                rw [hcmp]
                clear hb
                refine hK.out _ _ H (fun _ => ?_)
                clear hK KK
                change wpAnyH _ _ _ _ _ _ _ { tmps := #[_, _, _, _, _, _, _, _, _, _, _, _, _, _, _, _, _, _, _, _, _, _, _, _, _, _, _, _, _, _, _, _, _, _, _, _, _, _, _, _, _, _, _, _, _, _, _, _, _, _, _, _, _, _, _, _, _, _], defers := _ } _
                refine wpAnyH_take (i := 11) (v := .bool true) rfl (by kernel_rfl) (by kernel_rfl) (by kernel_rfl) (fun _ _ _ h => h) (Or.inl ⟨by rfl, ?_⟩) H ?_
                · intro w' hSw; clear hSw; go_simp
                change wpAnyH _ _ _ _ _ _ _ { tmps := #[_, _, _, _, _, _, _, _, _, _, _, _, _, _, _, _, _, _, _, _, _, _, _, _, _, _, _, _, _, _, _, _, _, _, _, _, _, _, _, _, _, _, _, _, _, _, _, _, _, _, _, _, _, _, _, _, _, _], defers := _ } _
                refine wpAnyH_take (i := 12) (v := .bool true) rfl (by kernel_rfl) (by kernel_rfl) (by kernel_rfl) (fun _ _ _ h => h) (Or.inl ⟨by rfl, ?_⟩) H ?_
                · intro w' hSw; clear hSw; go_simp
                refine wpAnyH_take (i := 13) (v := .bool true) rfl (by kernel_rfl) (by kernel_rfl) (by kernel_rfl) (fun _ _ _ h => h) (Or.inl ⟨by rfl, ?_⟩) H ?_
                · intro w' hSw; clear hSw; go_simp
                refine wpAnyH_take (i := 14) (v := undef) rfl (by kernel_rfl) (by kernel_rfl) (by kernel_rfl) (fun _ _ _ h => h) (Or.inr ⟨by rfl, rfl⟩) H ?_
                change wpAnyH _ _ _ _ _ _ _ { tmps := #[_, _, _, _, _, _, _, _, _, _, _, _, _, _, _, _, _, _, _, _, _, _, _, _, _, _, _, _, _, _, _, _, _, _, _, _, _, _, _, _, _, _, _, _, _, _, _, _, _, _, _, _, _, _, _, _, _, _], defers := _ } _
                refine wpAnyH_take (i := 15) (v := undef) rfl (by kernel_rfl) (by kernel_rfl) (by kernel_rfl) (fun _ _ _ h => h) (Or.inr ⟨by rfl, rfl⟩) H ?_
                refine wpAnyH_take (i := 16) (v := undef) rfl (by kernel_rfl) (by kernel_rfl) (by kernel_rfl) (fun _ _ _ h => h) (Or.inr ⟨by rfl, rfl⟩) H ?_
                refine wpAnyH_take (i := 17) (v := undef) rfl (by kernel_rfl) (by kernel_rfl) (by kernel_rfl) (fun _ _ _ h => h) (Or.inr ⟨by rfl, rfl⟩) H ?_
                change wpAnyH _ _ _ _ _ _ _ { tmps := #[_, _, _, _, _, _, _, _, _, _, _, _, _, _, _, _, _, _, _, _, _, _, _, _, _, _, _, _, _, _, _, _, _, _, _, _, _, _, _, _, _, _, _, _, _, _, _, _, _, _, _, _, _, _, _, _, _, _], defers := _ } _
                refine wpAnyH_take (i := 18) (v := undef) rfl (by kernel_rfl) (by kernel_rfl) (by kernel_rfl) (fun _ _ _ h => h) (Or.inr ⟨by rfl, rfl⟩) H ?_
                refine wpAnyH_take (i := 19) (v := undef) rfl (by kernel_rfl) (by kernel_rfl) (by kernel_rfl) (fun _ _ _ h => h) (Or.inr ⟨by rfl, rfl⟩) H ?_
                refine wpAnyH_take (i := 20) (v := undef) rfl (by kernel_rfl) (by kernel_rfl) (by kernel_rfl) (fun _ _ _ h => h) (Or.inr ⟨by rfl, rfl⟩) H ?_
                change wpAnyH _ _ _ _ _ _ _ { tmps := #[_, _, _, _, _, _, _, _, _, _, _, _, _, _, _, _, _, _, _, _, _, _, _, _, _, _, _, _, _, _, _, _, _, _, _, _, _, _, _, _, _, _, _, _, _, _, _, _, _, _, _, _, _, _, _, _, _, _], defers := _ } _
                refine wpAnyH_take (i := 21) (v := undef) rfl (by kernel_rfl) (by kernel_rfl) (by kernel_rfl) (fun _ _ _ h => h) (Or.inr ⟨by rfl, rfl⟩) H ?_
                refine wpAnyH_take (i := 22) (v := .bool true) rfl (by kernel_rfl) (by kernel_rfl) (by kernel_rfl) (fun _ _ _ h => h) (Or.inl ⟨by rfl, ?_⟩) H ?_
                · intro w' hSw; clear hSw; go_simp
                refine wpAnyH_done (by kernel_rfl) ?_ _
                refine NoPanic.normal ?_
                have B3 : Hid (Below w.heap.size w x1) := B2.out.trans (H.mono B2.out.size)
                clear H B2 X HE DF PA BV CT d0 d1 d2 hcmp
                go_wp2
                go_ret
                exact ⟨⟨false, rfl, by simpa using HNO.out⟩, B3.out⟩
          · obtain rfl := HD0.out rfl
            clear HD0
            go_wp2_with fail
            clear t0 t1 t2
            rcases Nat.eq_zero_or_pos k with hz | hp
            · have z0 : ¬ (0 : Int) < (k : Int) := by omega
              have HZ : Hid (k = 0) := hz
              have zz : decide ((0 : Int) < (k : Int)) = false := decide_eq_false z0
              clear hz
              have H : Below v1.heap.size v1 v1.drew := (Below.refl _ _).drew
              refine wp_region_noPanic ?_
              refine wp_region_held_drew (S := fun w' => Below v1.heap.size v1 w') (by kernel_rfl) H (fun _ => ?_)
              generalize v1.drew = x0 at *
              refine wpAnyH_take (i := 0) (v := .int .i64 k) rfl (by kernel_rfl) (by kernel_rfl) (by kernel_rfl) (fun _ _ _ h => h) (Or.inl ⟨by rfl, ?_⟩) H ?_
              · intro w' hSw; clear hSw; go_simp
              refine wpAnyH_take (i := 1) (v := .bool false) rfl (by kernel_rfl) (by kernel_rfl) (by kernel_rfl) (fun _ _ _ h => h) (Or.inl ⟨by rfl, ?_⟩) H ?_
              · intro w' hSw; clear hSw; go_simp; exact HZ.out
              refine wpAnyH_take (i := 2) (v := .bool false) rfl (by kernel_rfl) (by kernel_rfl) (by kernel_rfl) (fun _ _ _ h => h) (Or.inl ⟨by rfl, ?_⟩) H ?_
              · intro w' hSw; clear hSw; go_simp
              change wpAnyH _ _ _ _ _ _ _ { tmps := #[_, _, _, _, _, _, _, _, _, _, _, _, _, _, _, _, _, _, _, _, _, _, _, _, _, _, _, _, _, _, _, _, _, _, _, _, _, _, _, _, _, _, _, _, _, _, _, _, _, _, _, _, _, _, _, _, _, _], defers := _ } _
              refine wpAnyH_take (i := 3) (v := undef) rfl (by kernel_rfl) (by kernel_rfl) (by kernel_rfl) (fun _ _ _ h => h) (Or.inr ⟨by rfl, rfl⟩) H ?_
              refine wpAnyH_take (i := 4) (v := undef) rfl (by kernel_rfl) (by kernel_rfl) (by kernel_rfl) (fun _ _ _ h => h) (Or.inr ⟨by rfl, rfl⟩) H ?_
              refine wpAnyH_take (i := 5) (v := undef) rfl (by kernel_rfl) (by kernel_rfl) (by kernel_rfl) (fun _ _ _ h => h) (Or.inr ⟨by rfl, rfl⟩) H ?_
              change wpAnyH _ _ _ _ _ _ _ { tmps := #[_, _, _, _, _, _, _, _, _, _, _, _, _, _, _, _, _, _, _, _, _, _, _, _, _, _, _, _, _, _, _, _, _, _, _, _, _, _, _, _, _, _, _, _, _, _, _, _, _, _, _, _, _, _, _, _, _, _], defers := _ } _
              refine wpAnyH_take (i := 6) (v := undef) rfl (by kernel_rfl) (by kernel_rfl) (by kernel_rfl) (fun _ _ _ h => h) (Or.inr ⟨by rfl, rfl⟩) H ?_
              refine wpAnyH_take (i := 7) (v := undef) rfl (by kernel_rfl) (by kernel_rfl) (by kernel_rfl) (fun _ _ _ h => h) (Or.inr ⟨by rfl, rfl⟩) H ?_
              refine wpAnyH_take (i := 8) (v := undef) rfl (by kernel_rfl) (by kernel_rfl) (by kernel_rfl) (fun _ _ _ h => h) (Or.inr ⟨by rfl, rfl⟩) H ?_
              change wpAnyH _ _ _ _ _ _ _ { tmps := #[_, _, _, _, _, _, _, _, _, _, _, _, _, _, _, _, _, _, _, _, _, _, _, _, _, _, _, _, _, _, _, _, _, _, _, _, _, _, _, _, _, _, _, _, _, _, _, _, _, _, _, _, _, _, _, _, _, _], defers := _ } _
              refine wpAnyH_take (i := 9) (v := undef) rfl (by kernel_rfl) (by kernel_rfl) (by kernel_rfl) (fun _ _ _ h => h) (Or.inr ⟨by rfl, rfl⟩) H ?_
              refine wpAnyH_take (i := 10) (v := undef) rfl (by kernel_rfl) (by kernel_rfl) (by kernel_rfl) (fun _ _ _ h => h) (Or.inr ⟨by rfl, rfl⟩) H ?_
              refine wpAnyH_take (i := 11) (v := undef) rfl (by kernel_rfl) (by kernel_rfl) (by kernel_rfl) (fun _ _ _ h => h) (Or.inr ⟨by rfl, rfl⟩) H ?_
              change wpAnyH _ _ _ _ _ _ _ { tmps := #[_, _, _, _, _, _, _, _, _, _, _, _, _, _, _, _, _, _, _, _, _, _, _, _, _, _, _, _, _, _, _, _, _, _, _, _, _, _, _, _, _, _, _, _, _, _, _, _, _, _, _, _, _, _, _, _, _, _], defers := _ } _
              refine wpAnyH_take (i := 12) (v := .bool false) rfl (by kernel_rfl) (by kernel_rfl) (by kernel_rfl) (fun _ _ _ h => h) (Or.inl ⟨by rfl, ?_⟩) H ?_
              · intro w' hSw; clear hSw; go_simp
              refine wpAnyH_take (i := 13) (v := .bool false) rfl (by kernel_rfl) (by kernel_rfl) (by kernel_rfl) (fun _ _ _ h => h) (Or.inl ⟨by rfl, ?_⟩) H ?_
              · intro w' hSw; clear hSw; go_simp
              refine wpAnyH_take (i := 14) (v := .slice (some ⟨b, off, none⟩) n c) rfl (by kernel_rfl) (by kernel_rfl) (by kernel_rfl) (fun _ _ _ h => h) (Or.inl ⟨by rfl, ?_⟩) H ?_
              · intro w' hSw; clear hSw; go_simp
              change wpAnyH _ _ _ _ _ _ _ { tmps := #[_, _, _, _, _, _, _, _, _, _, _, _, _, _, _, _, _, _, _, _, _, _, _, _, _, _, _, _, _, _, _, _, _, _, _, _, _, _, _, _, _, _, _, _, _, _, _, _, _, _, _, _, _, _, _, _, _, _], defers := _ } _
              refine wpAnyH_take (i := 15) (v := .int .i64 k) rfl (by kernel_rfl) (by kernel_rfl) (by kernel_rfl) (fun _ _ _ h => h) (Or.inl ⟨by rfl, ?_⟩) H ?_
              · intro w' hSw; clear hSw; go_simp
              refine wpAnyH_take (i := 16) (v := .slice (some ⟨b, off, none⟩) k c) rfl (by kernel_rfl) (by kernel_rfl) (by kernel_rfl) (fun _ _ _ h => h) (Or.inl ⟨by rfl, ?_⟩) H ?_
              · intro w' hSw; clear hSw; go_simp
              refine wpAnyH_take (i := 17) (v := .pointer (some ⟨rb, 0, none⟩)) rfl (by kernel_rfl) (by kernel_rfl) (by kernel_rfl) (fun _ _ _ h => h) (Or.inl ⟨by rfl, ?_⟩) H ?_
              · intro w' hSw; clear hSw; go_simp
              change wpAnyH _ _ _ _ _ _ _ { tmps := #[_, _, _, _, _, _, _, _, _, _, _, _, _, _, _, _, _, _, _, _, _, _, _, _, _, _, _, _, _, _, _, _, _, _, _, _, _, _, _, _, _, _, _, _, _, _, _, _, _, _, _, _, _, _, _, _, _, _], defers := _ } _
              refine wpAnyH_take (i := 18) (v := .string fp) rfl (by kernel_rfl) (by kernel_rfl) (by kernel_rfl) (fun _ _ _ h => h) (Or.inl ⟨by rfl, ?_⟩) H ?_
              · intro w' hSw; have t0 := (X.out.below hSw).c0; clear hSw; go_simp
              refine wpAnyH_ready (rs := [19]) (by kernel_rfl) (by simp) ?_
              refine AllReadyH.cons rfl (fun KK hK => ?_) AllReadyH.nil
              go_simp
              refine (PA.out _).mono ?_
              rintro e _ ⟨rfl, rfl⟩
              refine hK.out _ _ H (fun _ => ?_)
              clear hK KK
              change wpAnyH _ _ _ _ _ _ _ { tmps := #[_, _, _, _, _, _, _, _, _, _, _, _, _, _, _, _, _, _, _, _, _, _, _, _, _, _, _, _, _, _, _, _, _, _, _, _, _, _, _, _, _, _, _, _, _, _, _, _, _, _, _, _, _, _, _, _, _, _], defers := _ } _
              refine wpAnyH_ready (rs := [20]) (by kernel_rfl) (by simp) ?_
              refine AllReadyH.cons rfl (fun KK hK => ?_) AllReadyH.nil
              go_simp
              refine (DF.out _ H).mono ?_
              rintro e x2 ⟨⟨x, rfl, hx⟩, hb⟩
              replace H : Below v1.heap.size v1 x2 := H.trans (hb.mono H.size)
              obtain ⟨y, hy⟩ : ∃ y : Bool, (x != 0) = y := ⟨_, rfl⟩
              have HX : Hid (DirIs k F pf x) := hx
              have HXY : Hid ((x != 0) = y) := hy
              clear hx
              clear hb
              refine hK.out _ _ H (fun _ => ?_)
              clear hK KK
              change wpAnyH _ _ _ _ _ _ _ { tmps := #[_, _, _, _, _, _, _, _, _, _, _, _, _, _, _, _, _, _, _, _, _, _, _, _, _, _, _, _, _, _, _, _, _, _, _, _, _, _, _, _, _, _, _, _, _, _, _, _, _, _, _, _, _, _, _, _, _, _], defers := _ } _
              refine wpAnyH_take (i := 21) (v := .bool y) rfl (by kernel_rfl) (by kernel_rfl) (by kernel_rfl) (fun _ _ _ h => h) (Or.inl ⟨by rfl, ?_⟩) H ?_
              · intro w' hSw; clear hSw; go_simp
              refine wpAnyH_take (i := 22) (v := .bool y) rfl (by kernel_rfl) (by kernel_rfl) (by kernel_rfl) (fun _ _ _ h => h) (Or.inl ⟨by rfl, ?_⟩) H ?_
              · intro w' hSw; clear hSw; go_simp
              refine wpAnyH_done (by kernel_rfl) ?_ _
              refine NoPanic.normal ?_
              have B3 : Hid (Below w.heap.size w x2) := B2.out.trans (H.mono B2.out.size)
              clear H B2 X HE DF PA BV CT hy
              cases y with
              | true =>
                have HNO : Hid (¬ FsOk n F) := HFL.out x HX.out (by have := HXY.out; simpa using this)
                clear HX HXY HFL HFS HGO HUP
                go_wp2
                go_ret
                exact ⟨⟨false, rfl, by simpa using HNO.out⟩, B3.out⟩
              | false =>
                have HHH : Hid (Home n F (par (F k).p)) := HFS.out x HX.out (by have := HXY.out; simpa using this)
                clear HX HXY HFL HFS HUP
                go_wp2
                go_roundw
                case rel => exact ⟨k + 1, by omega, by go_num, HGO.out (fun z => absurd HZ.out (by omega)) HHH.out, B3.out⟩
                case measure => simp [intOf]; omega
            · have z0 : (0 : Int) < (k : Int) := by omega
              have zz : decide ((0 : Int) < (k : Int)) = true := decide_eq_true z0
              obtain ⟨d0, d1, d2⟩ := Els.fiC HE.out (k - 1) (by omega)
              have HP : Hid (0 < k) := hp
              have i1 : IntKind.i64.wrap ((k : Int) - 1) = ((k - 1 : Nat) : Int) := by rw [IntWalk.i64_in _ (by omega)]; omega
              have i2 : ((k - 1 : Nat) : Int) < (n : Int) := by omega
              have HV : Hid (ord (F (k - 1)).p < ord fp ∨ ¬ ord (F (k - 1)).p < ord fp) := Classical.em _
              clear hp
              rcases HV.out with g | g
              · have hcmp := cmpI_lt g
                have G : Hid (ord (F (k - 1)).p < ord fp) := g
                clear g HV
                have H : Below v1.heap.size v1 v1.drew := (Below.refl _ _).drew
                refine wp_region_noPanic ?_
                refine wp_region_held_drew (S := fun w' => Below v1.heap.size v1 w') (by kernel_rfl) H (fun _ => ?_)
                generalize v1.drew = x0 at *
                refine wpAnyH_take (i := 0) (v := .int .i64 k) rfl (by kernel_rfl) (by kernel_rfl) (by kernel_rfl) (fun _ _ _ h => h) (Or.inl ⟨by rfl, ?_⟩) H ?_
                · intro w' hSw; clear hSw; go_simp
                refine wpAnyH_take (i := 1) (v := .bool true) rfl (by kernel_rfl) (by kernel_rfl) (by kernel_rfl) (fun _ _ _ h => h) (Or.inl ⟨by rfl, ?_⟩) H ?_
                · intro w' hSw; clear hSw; go_simp; exact HP.out
                refine wpAnyH_take (i := 2) (v := .bool true) rfl (by kernel_rfl) (by kernel_rfl) (by kernel_rfl) (fun _ _ _ h => h) (Or.inl ⟨by rfl, ?_⟩) H ?_
                · intro w' hSw; clear hSw; go_simp
                change wpAnyH _ _ _ _ _ _ _ { tmps := #[_, _, _, _, _, _, _, _, _, _, _, _, _, _, _, _, _, _, _, _, _, _, _, _, _, _, _, _, _, _, _, _, _, _, _, _, _, _, _, _, _, _, _, _, _, _, _, _, _, _, _, _, _, _, _, _, _, _], defers := _ } _
                refine wpAnyH_take (i := 3) (v := .slice (some ⟨b, off, none⟩) n c) rfl (by kernel_rfl) (by kernel_rfl) (by kernel_rfl) (fun _ _ _ h => h) (Or.inl ⟨by rfl, ?_⟩) H ?_
                · intro w' hSw; clear hSw; go_simp
                refine wpAnyH_take (i := 4) (v := .int .i64 k) rfl (by kernel_rfl) (by kernel_rfl) (by kernel_rfl) (fun _ _ _ h => h) (Or.inl ⟨by rfl, ?_⟩) H ?_
                · intro w' hSw; clear hSw; go_simp
                refine wpAnyH_take (i := 5) (v := .int .i64 ((k - 1 : Nat) : Int)) rfl (by kernel_rfl) (by kernel_rfl) (by kernel_rfl) (fun _ _ _ h => h) (Or.inl ⟨by rfl, ?_⟩) H ?_
                · intro w' hSw; clear hSw; go_simp
                change wpAnyH _ _ _ _ _ _ _ { tmps := #[_, _, _, _, _, _, _, _, _, _, _, _, _, _, _, _, _, _, _, _, _, _, _, _, _, _, _, _, _, _, _, _, _, _, _, _, _, _, _, _, _, _, _, _, _, _, _, _, _, _, _, _, _, _, _, _, _, _], defers := _ } _
                refine wpAnyH_take (i := 6) (v := .pointer (some ⟨b, off + (k - 1) * 3, none⟩)) rfl (by kernel_rfl) (by kernel_rfl) (by kernel_rfl) (fun _ _ _ h => h) (Or.inl ⟨by rfl, ?_⟩) H ?_
                · intro w' hSw; clear hSw; go_simp
                refine wpAnyH_take (i := 7) (v := .agg #[.string (F (k - 1)).p, .bool (F (k - 1)).d, .string (F (k - 1)).t]) rfl (by kernel_rfl) (by kernel_rfl) (by kernel_rfl) (fun _ _ _ h => h) (Or.inl ⟨by rfl, ?_⟩) H ?_
                · intro w' hSw; have t0 := (hSw.cell (strBlock d0)).trans d0; have t1 := (hSw.cell (strBlock d1)).trans d1; have t2 := (hSw.cell (strBlock d2)).trans d2; clear hSw; go_simp
                refine wpAnyH_take (i := 8) (v := .pointer (some ⟨rb, 0, none⟩)) rfl (by kernel_rfl) (by kernel_rfl) (by kernel_rfl) (fun _ _ _ h => h) (Or.inl ⟨by rfl, ?_⟩) H ?_
                · intro w' hSw; clear hSw; go_simp
                change wpAnyH _ _ _ _ _ _ _ { tmps := #[_, _, _, _, _, _, _, _, _, _, _, _, _, _, _, _, _, _, _, _, _, _, _, _, _, _, _, _, _, _, _, _, _, _, _, _, _, _, _, _, _, _, _, _, _, _, _, _, _, _, _, _, _, _, _, _, _, _], defers := _ } _
                refine wpAnyH_take (i := 9) (v := .string fp) rfl (by kernel_rfl) (by kernel_rfl) (by kernel_rfl) (fun _ _ _ h => h) (Or.inl ⟨by rfl, ?_⟩) H ?_
                · intro w' hSw; have t0 := (X.out.below hSw).c0; clear hSw; go_simp
                refine wpAnyH_ready (rs := [10]) (by kernel_rfl) (by simp) ?_
                refine AllReadyH.cons rfl (fun KK hK => ?_) AllReadyH.nil
                go_simp
                refine (BV.out _ HP.out).mono ?_
                rintro e x1 ⟨rfl, hb⟩
                replace H : Below v1.heap.size v1 x1 := H.trans (hb.mono H.size)
                rw [hcmp]
                clear hb
                refine hK.out _ _ H (fun _ => ?_)
                clear hK KK
                change wpAnyH _ _ _ _ _ _ _ { tmps := #[_, _, _, _, _, _, _, _, _, _, _, _, _, _, _, _, _, _, _, _, _, _, _, _, _, _, _, _, _, _, _, _, _, _, _, _, _, _, _, _, _, _, _, _, _, _, _, _, _, _, _, _, _, _, _, _, _, _], defers := _ } _
                refine wpAnyH_take (i := 11) (v := .bool false) rfl (by kernel_rfl) (by kernel_rfl) (by kernel_rfl) (fun _ _ _ h => h) (Or.inl ⟨by rfl, ?_⟩) H ?_
                · intro w' hSw; clear hSw; go_simp
                change wpAnyH _ _ _ _ _ _ _ { tmps := #[_, _, _, _, _, _, _, _, _, _, _, _, _, _, _, _, _, _, _, _, _, _, _, _, _, _, _, _, _, _, _, _, _, _, _, _, _, _, _, _, _, _, _, _, _, _, _, _, _, _, _, _, _, _, _, _, _, _], defers := _ } _
                refine wpAnyH_take (i := 12) (v := .bool false) rfl (by kernel_rfl) (by kernel_rfl) (by kernel_rfl) (fun _ _ _ h => h) (Or.inl ⟨by rfl, ?_⟩) H ?_
                · intro w' hSw; clear hSw; go_simp
                refine wpAnyH_take (i := 13) (v := .bool false) rfl (by kernel_rfl) (by kernel_rfl) (by kernel_rfl) (fun _ _ _ h => h) (Or.inl ⟨by rfl, ?_⟩) H ?_
                · intro w' hSw; clear hSw; go_simp
                refine wpAnyH_take (i := 14) (v := .slice (some ⟨b, off, none⟩) n c) rfl (by kernel_rfl) (by kernel_rfl) (by kernel_rfl) (fun _ _ _ h => h) (Or.inl ⟨by rfl, ?_⟩) H ?_
                · intro w' hSw; clear hSw; go_simp
                change wpAnyH _ _ _ _ _ _ _ { tmps := #[_, _, _, _, _, _, _, _, _, _, _, _, _, _, _, _, _, _, _, _, _, _, _, _, _, _, _, _, _, _, _, _, _, _, _, _, _, _, _, _, _, _, _, _, _, _, _, _, _, _, _, _, _, _, _, _, _, _], defers := _ } _
                refine wpAnyH_take (i := 15) (v := .int .i64 k) rfl (by kernel_rfl) (by kernel_rfl) (by kernel_rfl) (fun _ _ _ h => h) (Or.inl ⟨by rfl, ?_⟩) H ?_
                · intro w' hSw; clear hSw; go_simp
                refine wpAnyH_take (i := 16) (v := .slice (some ⟨b, off, none⟩) k c) rfl (by kernel_rfl) (by kernel_rfl) (by kernel_rfl) (fun _ _ _ h => h) (Or.inl ⟨by rfl, ?_⟩) H ?_
                · intro w' hSw; clear hSw; go_simp
                refine wpAnyH_take (i := 17) (v := .pointer (some ⟨rb, 0, none⟩)) rfl (by kernel_rfl) (by kernel_rfl) (by kernel_rfl) (fun _ _ _ h => h) (Or.inl ⟨by rfl, ?_⟩) H ?_
                · intro w' hSw; clear hSw; go_simp
                change wpAnyH _ _ _ _ _ _ _ { tmps := #[_, _, _, _, _, _, _, _, _, _, _, _, _, _, _, _, _, _, _, _, _, _, _, _, _, _, _, _, _, _, _, _, _, _, _, _, _, _, _, _, _, _, _, _, _, _, _, _, _, _, _, _, _, _, _, _, _, _], defers := _ } _
                refine wpAnyH_take (i := 18) (v := .string fp) rfl (by kernel_rfl) (by kernel_rfl) (by kernel_rfl) (fun _ _ _ h => h) (Or.inl ⟨by rfl, ?_⟩) H ?_
                · intro w' hSw; have t0 := (X.out.below hSw).c0; clear hSw; go_simp
                refine wpAnyH_ready (rs := [19]) (by kernel_rfl) (by simp) ?_
                refine AllReadyH.cons rfl (fun KK hK => ?_) AllReadyH.nil
                go_simp
                refine (PA.out _).mono ?_
                rintro e _ ⟨rfl, rfl⟩
                refine hK.out _ _ H (fun _ => ?_)
                clear hK KK
                change wpAnyH _ _ _ _ _ _ _ { tmps := #[_, _, _, _, _, _, _, _, _, _, _, _, _, _, _, _, _, _, _, _, _, _, _, _, _, _, _, _, _, _, _, _, _, _, _, _, _, _, _, _, _, _, _, _, _, _, _, _, _, _, _, _, _, _, _, _, _, _], defers := _ } _
                refine wpAnyH_ready (rs := [20]) (by kernel_rfl) (by simp) ?_
                refine AllReadyH.cons rfl (fun KK hK => ?_) AllReadyH.nil
                go_simp
                refine (DF.out _ H).mono ?_
                rintro e x3 ⟨⟨x, rfl, hx⟩, hb⟩
                replace H : Below v1.heap.size v1 x3 := H.trans (hb.mono H.size)
                obtain ⟨y, hy⟩ : ∃ y : Bool, (x != 0) = y := ⟨_, rfl⟩
                have HX : Hid (DirIs k F pf x) := hx
                have HXY : Hid ((x != 0) = y) := hy
                clear hx
                clear hb
                refine hK.out _ _ H (fun _ => ?_)
                clear hK KK
                change wpAnyH _ _ _ _ _ _ _ { tmps := #[_, _, _, _, _, _, _, _, _, _, _, _, _, _, _, _, _, _, _, _, _, _, _, _, _, _, _, _, _, _, _, _, _, _, _, _, _, _, _, _, _, _, _, _, _, _, _, _, _, _, _, _, _, _, _, _, _, _], defers := _ } _
                refine wpAnyH_take (i := 21) (v := .bool y) rfl (by kernel_rfl) (by kernel_rfl) (by kernel_rfl) (fun _ _ _ h => h) (Or.inl ⟨by rfl, ?_⟩) H ?_
                · intro w' hSw; clear hSw; go_simp
                refine wpAnyH_take (i := 22) (v := .bool y) rfl (by kernel_rfl) (by kernel_rfl) (by kernel_rfl) (fun _ _ _ h => h) (Or.inl ⟨by rfl, ?_⟩) H ?_
                · intro w' hSw; clear hSw; go_simp
                refine wpAnyH_done (by kernel_rfl) ?_ _
                refine NoPanic.normal ?_
                clear d0 d1 d2 hcmp
                have B3 : Hid (Below w.heap.size w x3) := B2.out.trans (H.mono B2.out.size)
                clear H B2 X HE DF PA BV CT hy
                cases y with
                | true =>
                  have HNO : Hid (¬ FsOk n F) := HFL.out x HX.out (by have := HXY.out; simpa using this)
                  clear HX HXY HFL HFS HGO HUP
                  go_wp2
                  go_ret
                  exact ⟨⟨false, rfl, by simpa using HNO.out⟩, B3.out⟩
                | false =>
                  have HHH : Hid (Home n F (par (F k).p)) := HFS.out x HX.out (by have := HXY.out; simpa using this)
                  clear HX HXY HFL HFS HUP
                  go_wp2
                  go_roundw
                  case rel => exact ⟨k + 1, by omega, by go_num, HGO.out (fun _ => G.out) HHH.out, B3.out⟩
                  case measure => simp [intOf]; omega
              · have HNO : Hid (¬ FsOk n F) := HUP.out (fun q => g (q HP.out))
                obtain ⟨y, hcmp, hy⟩ : ∃ y, cmpI (ord (F (k - 1)).p) (ord fp) = y ∧ 0 ≤ y := ⟨_, rfl, by unfold cmpI; rw [if_neg g]; split <;> omega⟩
                clear g HV HFL HFS HGO HUP
                have H : Below v1.heap.size v1 v1.drew := (Below.refl _ _).drew
                refine wp_region_noPanic ?_
                refine wp_region_held_drew (S := fun w' => Below v1.heap.size v1 w') (by kernel_rfl) H (fun _ => ?_)
                generalize v1.drew = x0 at *
                refine wpAnyH_take (i := 0) (v := .int .i64 k) rfl (by kernel_rfl) (by kernel_rfl) (by kernel_rfl) (fun _ _ _ h => h) (Or.inl ⟨by rfl, ?_⟩) H ?_
                · intro w' hSw; clear hSw; go_simp
                refine wpAnyH_take (i := 1) (v := .bool true) rfl (by kernel_rfl) (by kernel_rfl) (by kernel_rfl) (fun _ _ _ h => h) (Or.inl ⟨by rfl, ?_⟩) H ?_
                · intro w' hSw; clear hSw; go_simp; exact HP.out
                refine wpAnyH_take (i := 2) (v := .bool true) rfl (by kernel_rfl) (by kernel_rfl) (by kernel_rfl) (fun _ _ _ h => h) (Or.inl ⟨by rfl, ?_⟩) H ?_
                · intro w' hSw; clear hSw; go_simp
                change wpAnyH _ _ _ _ _ _ _ { tmps := #[_, _, _, _, _, _, _, _, _, _, _, _, _, _, _, _, _, _, _, _, _, _, _, _, _, _, _, _, _, _, _, _, _, _, _, _, _, _, _, _, _, _, _, _, _, _, _, _, _, _, _, _, _, _, _, _, _, _], defers := _ } _
                refine wpAnyH_take (i := 3) (v := .slice (some ⟨b, off, none⟩) n c) rfl (by kernel_rfl) (by kernel_rfl) (by kernel_rfl) (fun _ _ _ h => h) (Or.inl ⟨by rfl, ?_⟩) H ?_
                · intro w' hSw; clear hSw; go_simp
                refine wpAnyH_take (i := 4) (v := .int .i64 k) rfl (by kernel_rfl) (by kernel_rfl) (by kernel_rfl) (fun _ _ _ h => h) (Or.inl ⟨by rfl, ?_⟩) H ?_
                · intro w' hSw; clear hSw; go_simp
                refine wpAnyH_take (i := 5) (v := .int .i64 ((k - 1 : Nat) : Int)) rfl (by kernel_rfl) (by kernel_rfl) (by kernel_rfl) (fun _ _ _ h => h) (Or.inl ⟨by rfl, ?_⟩) H ?_
                · intro w' hSw; clear hSw; go_simp
                change wpAnyH _ _ _ _ _ _ _ { tmps := #[_, _, _, _, _, _, _, _, _, _, _, _, _, _, _, _, _, _, _, _, _, _, _, _, _, _, _, _, _, _, _, _, _, _, _, _, _, _, _, _, _, _, _, _, _, _, _, _, _, _, _, _, _, _, _, _, _, _], defers := _ } _
                refine wpAnyH_take (i := 6) (v := .pointer (some ⟨b, off + (k - 1) * 3, none⟩)) rfl (by kernel_rfl) (by kernel_rfl) (by kernel_rfl) (fun _ _ _ h => h) (Or.inl ⟨by rfl, ?_⟩) H ?_
                · intro w' hSw; clear hSw; go_simp
                refine wpAnyH_take (i := 7) (v := .agg #[.string (F (k - 1)).p, .bool (F (k - 1)).d, .string (F (k - 1)).t]) rfl (by kernel_rfl) (by kernel_rfl) (by kernel_rfl) (fun _ _ _ h => h) (Or.inl ⟨by rfl, ?_⟩) H ?_
                · intro w' hSw; have t0 := (hSw.cell (strBlock d0)).trans d0; have t1 := (hSw.cell (strBlock d1)).trans d1; have t2 := (hSw.cell (strBlock d2)).trans d2; clear hSw; go_simp
                refine wpAnyH_take (i := 8) (v := .pointer (some ⟨rb, 0, none⟩)) rfl (by kernel_rfl) (by kernel_rfl) (by kernel_rfl) (fun _ _ _ h => h) (Or.inl ⟨by rfl, ?_⟩) H ?_
                · intro w' hSw; clear hSw; go_simp
                change wpAnyH _ _ _ _ _ _ _ { tmps := #[_, _, _, _, _, _, _, _, _, _, _, _, _, _, _, _, _, _, _, _, _, _, _, _, _, _, _, _, _, _, _, _, _, _, _, _, _, _, _, _, _, _, _, _, _, _, _, _, _, _, _, _, _, _, _, _, _, _], defers := _ } _
                refine wpAnyH_take (i := 9) (v := .string fp) rfl (by kernel_rfl) (by kernel_rfl) (by kernel_rfl) (fun _ _ _ h => h) (Or.inl ⟨by rfl, ?_⟩) H ?_
                · intro w' hSw; have t0 := (X.out.below hSw).c0; clear hSw; go_simp
                refine wpAnyH_ready (rs := [10]) (by kernel_rfl) (by simp) ?_
                refine AllReadyH.cons rfl (fun KK hK => ?_) AllReadyH.nil
                go_simp
                refine (BV.out _ HP.out).mono ?_
                rintro e x1 ⟨rfl, hb⟩
                replace H : Below v1.heap.size v1 x1 := H.trans (hb.mono H.size)
                rw [hcmp]
                clear hb
                refine hK.out _ _ H (fun _ => ?_)
                clear hK KK
                change wpAnyH _ _ _ _ _ _ _ { tmps := #[_, _, _, _, _, _, _, _, _, _, _, _, _, _, _, _, _, _, _, _, _, _, _, _, _, _, _, _, _, _, _, _, _, _, _, _, _, _, _, _, _, _, _, _, _, _, _, _, _, _, _, _, _, _, _, _, _, _], defers := _ } _
                refine wpAnyH_take (i := 11) (v := .bool true) rfl (by kernel_rfl) (by kernel_rfl) (by kernel_rfl) (fun _ _ _ h => h) (Or.inl ⟨by rfl, ?_⟩) H ?_
                · intro w' hSw; clear hSw; go_simp
                change wpAnyH _ _ _ _ _ _ _ { tmps := #[_, _, _, _, _, _, _, _, _, _, _, _, _, _, _, _, _, _, _, _, _, _, _, _, _, _, _, _, _, _, _, _, _, _, _, _, _, _, _, _, _, _, _, _, _, _, _, _, _, _, _, _, _, _, _, _, _, _], defers := _ } _
                refine wpAnyH_take (i := 12) (v := .bool true) rfl (by kernel_rfl) (by kernel_rfl) (by kernel_rfl) (fun _ _ _ h => h) (Or.inl ⟨by rfl, ?_⟩) H ?_
                · intro w' hSw; clear hSw; go_simp
                refine wpAnyH_take (i := 13) (v := .bool true) rfl (by kernel_rfl) (by kernel_rfl) (by kernel_rfl) (fun _ _ _ h => h) (Or.inl ⟨by rfl, ?_⟩) H ?_
                · intro w' hSw; clear hSw; go_simp
                refine wpAnyH_take (i := 14) (v := undef) rfl (by kernel_rfl) (by kernel_rfl) (by kernel_rfl) (fun _ _ _ h => h) (Or.inr ⟨by rfl, rfl⟩) H ?_
                change wpAnyH _ _ _ _ _ _ _ { tmps := #[_, _, _, _, _, _, _, _, _, _, _, _, _, _, _, _, _, _, _, _, _, _, _, _, _, _, _, _, _, _, _, _, _, _, _, _, _, _, _, _, _, _, _, _, _, _, _, _, _, _, _, _, _, _, _, _, _, _], defers := _ } _
                refine wpAnyH_take (i := 15) (v := undef) rfl (by kernel_rfl) (by kernel_rfl) (by kernel_rfl) (fun _ _ _ h => h) (Or.inr ⟨by rfl, rfl⟩) H ?_
                refine wpAnyH_take (i := 16) (v := undef) rfl (by kernel_rfl) (by kernel_rfl) (by kernel_rfl) (fun _ _ _ h => h) (Or.inr ⟨by rfl, rfl⟩) H ?_
                refine wpAnyH_take (i := 17) (v := undef) rfl (by kernel_rfl) (by kernel_rfl) (by kernel_rfl) (fun _ _ _ h => h) (Or.inr ⟨by rfl, rfl⟩) H ?_
                change wpAnyH _ _ _ _ _ _ _ { tmps := #[_, _, _, _, _, _, _, _, _, _, _, _, _, _, _, _, _, _, _, _, _, _, _, _, _, _, _, _, _, _, _, _, _, _, _, _, _, _, _, _, _, _, _, _, _, _, _, _, _, _, _, _, _, _, _, _, _, _], defers := _ } _
                refine wpAnyH_take (i := 18) (v := undef) rfl (by kernel_rfl) (by kernel_rfl) (by kernel_rfl) (fun _ _ _ h => h) (Or.inr ⟨by rfl, rfl⟩) H ?_
                refine wpAnyH_take (i := 19) (v := undef) rfl (by kernel_rfl) (by kernel_rfl) (by kernel_rfl) (fun _ _ _ h => h) (Or.inr ⟨by rfl, rfl⟩) H ?_
                refine wpAnyH_take (i := 20) (v := undef) rfl (by kernel_rfl) (by kernel_rfl) (by kernel_rfl) (fun _ _ _ h => h) (Or.inr ⟨by rfl, rfl⟩) H ?_
                change wpAnyH _ _ _ _ _ _ _ { tmps := #[_, _, _, _, _, _, _, _, _, _, _, _, _, _, _, _, _, _, _, _, _, _, _, _, _, _, _, _, _, _, _, _, _, _, _, _, _, _, _, _, _, _, _, _, _, _, _, _, _, _, _, _, _, _, _, _, _, _], defers := _ } _
                refine wpAnyH_take (i := 21) (v := undef) rfl (by kernel_rfl) (by kernel_rfl) (by kernel_rfl) (fun _ _ _ h => h) (Or.inr ⟨by rfl, rfl⟩) H ?_
                refine wpAnyH_take (i := 22) (v := .bool true) rfl (by kernel_rfl) (by kernel_rfl) (by kernel_rfl) (fun _ _ _ h => h) (Or.inl ⟨by rfl, ?_⟩) H ?_
                · intro w' hSw; clear hSw; go_simp
                refine wpAnyH_done (by kernel_rfl) ?_ _
                refine NoPanic.normal ?_
                have B3 : Hid (Below w.heap.size w x1) := B2.out.trans (H.mono B2.out.size)
                clear H B2 X HE DF PA BV CT d0 d1 d2 hcmp
                go_wp2
                go_ret
                exact ⟨⟨false, rfl, by simpa using HNO.out⟩, B3.out⟩
        · have HNO : Hid (¬ FsOk n F) := HN.out hK
          cases ok with
          | false =>
            clear HOK HK0 HN HI HSR hK
            go_wp2
            go_ret
            exact ⟨⟨false, rfl, by simpa using HNO.out⟩, B2.out⟩
          | true =>
            have hP : PathOk fp := HOK.out.1 rfl
            by_cases k2 : (200 : Int) < (ft.size : Int)
            · have k2' : decide ((200 : Int) < (ft.size : Int)) = true := decide_eq_true k2
              clear HOK HK0 HN HI HSR hK hP
              go_wp2
              go_ret
              exact ⟨⟨false, rfl, by simpa using HNO.out⟩, B2.out⟩
            · have k2' : decide ((200 : Int) < (ft.size : Int)) = false := decide_eq_false k2
              have k3 : ¬ (fd = true → ft.size = 0) := fun q => hK (HK0.out.2 ⟨hP, by omega, q⟩)
              obtain rfl : fd = true := by
                cases fd with
                | true => rfl
                | false => exact absurd (fun e => by cases e) k3
              have k4 : 0 < ft.size := by
                rcases Nat.eq_zero_or_pos ft.size with e | e
                · exact absurd (fun _ => e) k3
                · exact e
              have g1 : (ft.toList == []) = false := textEmpty k4
              have g2 : ft.toList.isEmpty = false := textEmpty2 k4
              clear HOK HK0 HN HI HSR hK hP k3 k4
              go_wp2
              go_ret
              exact ⟨⟨false, rfl, by simpa using HNO.out⟩, B2.out⟩
      · have hlt' : ¬ (k : Int) < (n : Int) := by omega
        have HF : Hid (FsOk n F) := ⟨h0, fun i hi => HI.out i (by omega)⟩
        clear hb
        go_wp2
        go_ret
        exact ⟨⟨true, rfl, by simpa using HF.out⟩, HB.out⟩
  · have h0' : (12 : Int) < (n : Int) := by omega
    have HF : Hid (¬ FsOk n F) := fun x => h0 x.1
    clear H h0
    go_enter Tryz.func10, Tryz.ntmps10
    go_wp2
    go_ret
    exact ⟨⟨false, rfl, by simpa using HF.out⟩, Below.refl _ _⟩
end Go.Proofs.YtgcdoabcopihlaaGreat
