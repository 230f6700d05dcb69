/-
  The exact law of LinkTake.
-/
import Derived.Test.YtkhglllicblbbabDoorPkTo
import Derived.Test.YtkhglllicblbbabDoorLkTk4
import Derived.Deep.Cut
import Derived.Deep.CutRange
import Derived.Deep.DeepCutAuto
namespace Go.Proofs.YtkhglllicblbbabDoor
open Go.ChangeShapes Go.WideShapes Go.ChangeAt Go.RowKit
set_option linter.unusedVariables false
set_option maxRecDepth 100000 in
set_option maxHeartbeats 40000000 in
theorem law_linkTake (K : ByteArray) (se tp : Int) (a : Option Addr) (n c : Nat) (f : Nat → Bool) (q : Int) (B T : ByteArray) (hn : n ≤ maxLen) (hs : K.size ≤ maxLen) (hbm : B.size ≤ maxLen) (htm : T.size ≤ maxLen) (w : World) (h : Bools w a n f) (ht : Tabs w) :
    Calls Tryd.prog 5 #[.agg #[.string K, .int .i64 se, .int .i64 tp, .slice a n c], .agg #[.int .i64 q, .string B, .string T]] w fun e w' => e = .returned (.bool true) ∧ Below w.heap.size w w' := by
  obtain ⟨K', se', tp', n', f', code, hA⟩ := tkA_ex K se tp n f q B T
  have HN : Hid (n' ≤ 32) := hA.le
  have SZ : Hid (∀ w : World, Calls Tryd.prog 8 #[.agg #[.string K, .int .i64 se, .int .i64 tp, .slice a n c], .int .i64 1048576] w fun e w' => (∃ y : Int, e = .returned (.int .i64 y) ∧ y ≤ 1048576 ∧ (0 ≤ y → n ≤ 1048576 ∧ K.size ≤ 1048576)) ∧ Below w.heap.size w w') := fun w => szLink_x K se tp a n c w hn hs
  have SP : Hid (∀ (x : Int) (w : World), 0 ≤ x → x ≤ 1048576 → Calls Tryd.prog 16 #[.agg #[.int .i64 q, .string B, .string T], .int .i64 x] w fun e w' => (∃ y : Int, e = .returned (.int .i64 y) ∧ y ≤ 1048576 ∧ (0 ≤ y → B.size ≤ 1048576 ∧ T.size ≤ 1048576)) ∧ Below w.heap.size w w') := fun x w h1 h2 => szPacket_x q B T x h1 h2 w hbm htm
  have LA : Hid (0 < n → ∀ p, a = some p → p.block < w.heap.size) := h.ltB
  have HT : Hid (Tabs w) := ht
  have HX : Hid (Bools w a n f) := h
  have k1 : ¬ ((1 + n' : Nat) : Int) < 0 := by omega
  have HAA : Hid (TkA K se tp n f q B T K' se' tp' n' f' code) := hA
  clear h hA hn hs ht hbm htm
  have A1 : Hid (Below w.heap.size w ((w.alloc (.cells #[.string K, .int .i64 se, .int .i64 tp, .slice a n c] 27)).alloc (.cells #[.int .i64 q, .string B, .string T] 39))) := ((Below.refl w.heap.size w).alloc (Nat.le_refl _) _).alloc (by simp) _
  have RA : Hid (Box4 ((w.alloc (.cells #[.string K, .int .i64 se, .int .i64 tp, .slice a n c] 27)).alloc (.cells #[.int .i64 q, .string B, .string T] 39)) w.heap.size 27 (.string K) (.int .i64 se) (.int .i64 tp) (.slice a n c)) := (Box4.madeAt rfl _ _ _ _ _).alloc _
  have RP : Hid (BoxP ((w.alloc (.cells #[.string K, .int .i64 se, .int .i64 tp, .slice a n c] 27)).alloc (.cells #[.int .i64 q, .string B, .string T] 39)) (w.heap.size + 1) 39 (.int .i64 q) (.string B) (.string T)) := BoxP.madeAt (by simp) _ _ _ _
  have HB : Hid (Bools ((w.alloc (.cells #[.string K, .int .i64 se, .int .i64 tp, .slice a n c] 27)).alloc (.cells #[.int .i64 q, .string B, .string T] 39)) a n f) := HX.out.below A1.out
  clear HX
  go_enter Tryd.func5, Tryd.ntmps5
  go_wp2_with fail
  generalize ((w.alloc (.cells #[.string K, .int .i64 se, .int .i64 tp, .slice a n c] 27)).alloc (.cells #[.int .i64 q, .string B, .string T] 39)) = v1 at *
  refine (SZ.out _).mono ?_
  rintro e v2 ⟨⟨y, rfl, hy, hy2⟩, hb⟩
  replace A1 : Hid (Below w.heap.size w v2) := A1.out.trans (hb.mono A1.out.size)
  replace RA : Hid (Box4 v2 w.heap.size 27 (.string K) (.int .i64 se) (.int .i64 tp) (.slice a n c)) := RA.out.below hb
  replace RP : Hid (BoxP v2 (w.heap.size + 1) 39 (.int .i64 q) (.string B) (.string T)) := RP.out.below hb
  replace HB : Hid (Bools v2 a n f) := HB.out.below hb
  clear hb SZ
  by_cases hy0 : y < 0
  · clear hy2
    go_wp2
    go_ret
    exact ⟨rfl, A1.out⟩
  · obtain ⟨h0, h1⟩ := hy2 (by omega)
    clear hy2
    have s0 := RP.out.c0
    have s1 := RP.out.c1
    have s2 := RP.out.c2
    go_wp2_with fail
    clear s0 s1 s2
    refine (SP.out _ _ (by omega) (by omega)).mono ?_
    rintro e v3 ⟨⟨z, rfl, hz, hz2⟩, hb⟩
    replace A1 : Hid (Below w.heap.size w v3) := A1.out.trans (hb.mono A1.out.size)
    replace RA : Hid (Box4 v3 w.heap.size 27 (.string K) (.int .i64 se) (.int .i64 tp) (.slice a n c)) := RA.out.below hb
    replace RP : Hid (BoxP v3 (w.heap.size + 1) 39 (.int .i64 q) (.string B) (.string T)) := RP.out.below hb
    replace HB : Hid (Bools v3 a n f) := HB.out.below hb
    clear hb SP
    by_cases hz0 : z < 0
    · clear hz2
      go_wp2
      go_ret
      exact ⟨rfl, A1.out⟩
    · obtain ⟨h3, h4⟩ := hz2 (by omega)
      clear hz2
      have SS : Hid (∀ (g c : Nat) (w : World), Bools w (some ⟨g, 0, none⟩) n f → Calls Tryd.prog 17 #[.agg #[.string K, .int .i64 se, .int .i64 tp, .slice (some ⟨g, 0, none⟩) n c], .agg #[.int .i64 q, .string B, .string T]] w fun e w' => RetL w w' e K' se' tp' n' f' code ∧ Below w.heap.size w w') := fun g c w h => specTake_any K se tp _ n c f q B T K' se' tp' n' f' code HAA.out h3 w h
      have IS : Hid (∀ (g c : Nat) (w : World), Bools w (some ⟨g, 0, none⟩) n f → Tabs w → Calls Tryd.prog 19 #[.agg #[.string K, .int .i64 se, .int .i64 tp, .slice (some ⟨g, 0, none⟩) n c], .agg #[.int .i64 q, .string B, .string T]] w fun e w' => RetL w w' e K' se' tp' n' f' code ∧ Below w.heap.size w w') := fun g c w h ht => implTake_any K se tp _ n c f q B T K' se' tp' n' f' code HAA.out h3 w h ht
      have TP : Hid (∀ w : World, Calls Tryd.prog 18 #[.agg #[.int .i64 q, .string B, .string T]] w fun e w' => e = .returned (.agg #[.int .i64 q, .string B, .string T]) ∧ Below w.heap.size w w') := fun w => toPacket_any q B T w
      have TL : Hid (∀ w : World, Bools w a n f → Calls Tryd.prog 10 #[.agg #[.string K, .int .i64 se, .int .i64 tp, .slice a n c]] w fun e w' => (∃ g, w.heap.size ≤ g ∧ e = .returned (.agg #[.string K, .int .i64 se, .int .i64 tp, .slice (some ⟨g, 0, none⟩) n n]) ∧ w'.rowIs g 4 n (fun i => .bool (f i))) ∧ Below w.heap.size w w') := fun w h => (toLink_any K se tp a n c f h0 w h).mono fun _ _ q => ⟨⟨_, by omega, q.1, q.2.1⟩, q.2.2⟩
      have h0' : Hid (n ≤ 1048576) := h0
      have k0 : ¬ ((1 + n : Nat) : Int) < 0 := by omega
      clear h0 h1 h3 h4 HAA
      go_wp2_with fail
      clear hy0 hz0
      obtain ⟨bs, hbs⟩ : ∃ x, x = v3.heap.size := ⟨_, rfl⟩
      go_cut [6, 7] (fun p cd wx => ∃ (pb : Nat) (ax : Option Addr) (cx : Nat), p = .pointer (some ⟨pb, 0, none⟩) ∧ cd = .int .i64 code ∧ Box4 wx pb 29 (.string K') (.int .i64 se') (.int .i64 tp') (.slice ax n' cx) ∧ OwnB wx bs ax n' f' ∧ bs ≤ pb ∧ (0 < n' → ∀ p, ax = some p → p.block ≠ pb) ∧ Below bs v3 wx)
      case first =>
        have H : Below bs v3 v3.drew := by rw [hbs]; exact (Below.refl _ _).drew
        refine wp_region_noPanic ?_
        refine wp_region_held_drew (S := fun w' => Below bs v3 w') (by kernel_rfl) H (fun _ => ?_)
        generalize v3.drew = v4 at *
        have HS : Hid (bs = v3.heap.size) := hbs
        clear hbs
        refine wpAnyH_take (i := 0) (v := .agg #[.string K, .int .i64 se, .int .i64 tp, .slice a n c]) rfl (by kernel_rfl) (by kernel_rfl) (by kernel_rfl) (fun _ _ _ h => h) (Or.inl ⟨by rfl, ?_⟩) H ?_
        · intro w' hSw; rw [HS.out] at hSw; have t0 := (RA.out.below hSw).c0; have t1 := (RA.out.below hSw).c1; have t2 := (RA.out.below hSw).c2; have t3 := (RA.out.below hSw).c3; clear hSw; go_simp
        change wpAnyH _ _ _ _ _ _ _ { tmps := #[_, _, _, _, _, _, _, _, _, _, _, _, _, _, _, _, _, _, _, _, _, _, _, _, _, _, _, _, _, _, _, _, _, _, _, _, _, _, _, _, _, _, _, _, _, _, _, _, _, _, _, _, _, _, _, _, _, _, _, _, _, _, _, _, _, _, _, _, _, _, _, _, _, _, _, _, _, _, _, _, _, _, _, _, _, _, _, _, _, _, _, _, _, _, _, _, _, _, _, _, _, _, _, _, _, _, _, _, _], defers := _ } _
        refine wpAnyH_take (i := 2) (v := .agg #[.int .i64 q, .string B, .string T]) rfl (by kernel_rfl) (by kernel_rfl) (by kernel_rfl) (fun _ _ _ h => h) (Or.inl ⟨by rfl, ?_⟩) H ?_
        · intro w' hSw; rw [HS.out] at hSw; have t0 := (RP.out.below hSw).c0; have t1 := (RP.out.below hSw).c1; have t2 := (RP.out.below hSw).c2; clear hSw; go_simp
        change wpAnyH _ _ _ _ _ _ _ { tmps := #[_, _, _, _, _, _, _, _, _, _, _, _, _, _, _, _, _, _, _, _, _, _, _, _, _, _, _, _, _, _, _, _, _, _, _, _, _, _, _, _, _, _, _, _, _, _, _, _, _, _, _, _, _, _, _, _, _, _, _, _, _, _, _, _, _, _, _, _, _, _, _, _, _, _, _, _, _, _, _, _, _, _, _, _, _, _, _, _, _, _, _, _, _, _, _, _, _, _, _, _, _, _, _, _, _, _, _, _, _], defers := _ } _
        refine wpAnyH_ready (rs := [1, 8]) (by kernel_rfl) (by simp) ?_
        refine (AllReadyH.cons rfl (fun KK hK => ?_) (AllReadyH.cons rfl (fun KK hK => ?_) AllReadyH.nil))
        · skip
          go_simp
          refine (TL.out _ (HB.out.below (by rw [HS.out] at H; exact H))).mono ?_
          rintro e v5 ⟨⟨g0, hg0, rfl, hr0⟩, hb⟩
          have X0 : Hid (Bools v5 (some ⟨g0, 0, none⟩) n f) := Bools.ofRow hr0
          replace H : Below bs v3 v5 := H.trans (hb.mono (by have h1 := H.size; have h2 := HS.out; omega))
          clear hb hr0 hg0
          refine hK.out _ _ H (fun _ => ?_)
          clear hK KK
          change wpAnyH _ _ _ _ _ _ _ { tmps := #[_, _, _, _, _, _, _, _, _, _, _, _, _, _, _, _, _, _, _, _, _, _, _, _, _, _, _, _, _, _, _, _, _, _, _, _, _, _, _, _, _, _, _, _, _, _, _, _, _, _, _, _, _, _, _, _, _, _, _, _, _, _, _, _, _, _, _, _, _, _, _, _, _, _, _, _, _, _, _, _, _, _, _, _, _, _, _, _, _, _, _, _, _, _, _, _, _, _, _, _, _, _, _, _, _, _, _, _, _], defers := _ } _
          refine wpAnyH_ready (rs := [3, 8]) (by kernel_rfl) (by simp) ?_
          refine (AllReadyH.cons rfl (fun KK hK => ?_) (AllReadyH.cons rfl (fun KK hK => ?_) AllReadyH.nil))
          · skip
            go_simp
            refine (TP.out _).mono ?_
            rintro e v6 ⟨rfl, hb⟩
            replace X0 : Hid (Bools v6 (some ⟨g0, 0, none⟩) n f) := X0.out.below hb
            replace H : Below bs v3 v6 := H.trans (hb.mono (by have h1 := H.size; have h2 := HS.out; omega))
            clear hb 
            refine hK.out _ _ H (fun _ => ?_)
            clear hK KK
            change wpAnyH _ _ _ _ _ _ _ { tmps := #[_, _, _, _, _, _, _, _, _, _, _, _, _, _, _, _, _, _, _, _, _, _, _, _, _, _, _, _, _, _, _, _, _, _, _, _, _, _, _, _, _, _, _, _, _, _, _, _, _, _, _, _, _, _, _, _, _, _, _, _, _, _, _, _, _, _, _, _, _, _, _, _, _, _, _, _, _, _, _, _, _, _, _, _, _, _, _, _, _, _, _, _, _, _, _, _, _, _, _, _, _, _, _, _, _, _, _, _, _], defers := _ } _
            refine wpAnyH_ready (rs := [4, 8]) (by kernel_rfl) (by simp) ?_
            refine (AllReadyH.cons rfl (fun KK hK => ?_) (AllReadyH.cons rfl (fun KK hK => ?_) AllReadyH.nil))
            · skip
              go_simp
              have SB : Hid (bs ≤ v6.heap.size) := by have h1 := H.size; have h2 := HS.out; show _ ≤ _; omega
              refine (SS.out g0 n _ X0.out).mono ?_
              rintro e v7 ⟨⟨ax, cx, rfl, ow⟩, hb⟩
              replace X0 : Hid (Bools v7 (some ⟨g0, 0, none⟩) n f) := X0.out.below hb
              have VW : Hid (OwnB v7 bs ax n' f') := ow.mono SB.out
              replace H : Below bs v3 v7 := H.trans (hb.mono (by have h1 := H.size; have h2 := HS.out; omega))
              clear hb  SB ow
              refine hK.out _ _ H (fun _ => ?_)
              clear hK KK
              change wpAnyH _ _ _ _ _ _ _ { tmps := #[_, _, _, _, _, _, _, _, _, _, _, _, _, _, _, _, _, _, _, _, _, _, _, _, _, _, _, _, _, _, _, _, _, _, _, _, _, _, _, _, _, _, _, _, _, _, _, _, _, _, _, _, _, _, _, _, _, _, _, _, _, _, _, _, _, _, _, _, _, _, _, _, _, _, _, _, _, _, _, _, _, _, _, _, _, _, _, _, _, _, _, _, _, _, _, _, _, _, _, _, _, _, _, _, _, _, _, _, _], defers := _ } _
              refine wpAnyH_take (i := 5) (v := .tuple #[.agg #[.string K', .int .i64 se', .int .i64 tp', .slice ax n' cx], .int .i64 code]) rfl (by kernel_rfl) (by kernel_rfl) (by kernel_rfl) (fun _ _ _ h => h) (Or.inl ⟨by rfl, ?_⟩) H ?_
              · intro w' hSw; go_simp
              change wpAnyH _ _ _ _ _ _ _ { tmps := #[_, _, _, _, _, _, _, _, _, _, _, _, _, _, _, _, _, _, _, _, _, _, _, _, _, _, _, _, _, _, _, _, _, _, _, _, _, _, _, _, _, _, _, _, _, _, _, _, _, _, _, _, _, _, _, _, _, _, _, _, _, _, _, _, _, _, _, _, _, _, _, _, _, _, _, _, _, _, _, _, _, _, _, _, _, _, _, _, _, _, _, _, _, _, _, _, _, _, _, _, _, _, _, _, _, _, _, _, _], defers := _ } _
              refine wpAnyH_take (i := 6) (v := .agg #[.string K', .int .i64 se', .int .i64 tp', .slice ax n' cx]) rfl (by kernel_rfl) (by kernel_rfl) (by kernel_rfl) (fun _ _ _ h => h) (Or.inl ⟨by rfl, ?_⟩) H ?_
              · intro w' hSw; go_simp
              change wpAnyH _ _ _ _ _ _ _ { tmps := #[_, _, _, _, _, _, _, _, _, _, _, _, _, _, _, _, _, _, _, _, _, _, _, _, _, _, _, _, _, _, _, _, _, _, _, _, _, _, _, _, _, _, _, _, _, _, _, _, _, _, _, _, _, _, _, _, _, _, _, _, _, _, _, _, _, _, _, _, _, _, _, _, _, _, _, _, _, _, _, _, _, _, _, _, _, _, _, _, _, _, _, _, _, _, _, _, _, _, _, _, _, _, _, _, _, _, _, _, _], defers := _ } _
              refine wpAnyH_take (i := 7) (v := .int .i64 code) rfl (by kernel_rfl) (by kernel_rfl) (by kernel_rfl) (fun _ _ _ h => h) (Or.inl ⟨by rfl, ?_⟩) H ?_
              · intro w' hSw; go_simp
              change wpAnyH _ _ _ _ _ _ _ { tmps := #[_, _, _, _, _, _, _, _, _, _, _, _, _, _, _, _, _, _, _, _, _, _, _, _, _, _, _, _, _, _, _, _, _, _, _, _, _, _, _, _, _, _, _, _, _, _, _, _, _, _, _, _, _, _, _, _, _, _, _, _, _, _, _, _, _, _, _, _, _, _, _, _, _, _, _, _, _, _, _, _, _, _, _, _, _, _, _, _, _, _, _, _, _, _, _, _, _, _, _, _, _, _, _, _, _, _, _, _, _], defers := _ } _
              refine wpAnyH_ready (rs := [8]) (by kernel_rfl) (by simp) ?_
              refine (AllReadyH.cons rfl (fun KK hK => ?_) AllReadyH.nil)
              go_simp
              have hb : Below v7.heap.size v7 (v7.alloc (.cells #[.string ⟨#[]⟩, .int .i64 0, .int .i64 0, .slice none 0 0] 29)) := (Below.refl _ _).alloc (Nat.le_refl _) _
              have PZ : Hid (Box4 (v7.alloc (.cells #[.string ⟨#[]⟩, .int .i64 0, .int .i64 0, .slice none 0 0] 29)) v7.heap.size 29 (.string ⟨#[]⟩) (.int .i64 0) (.int .i64 0) (.slice none 0 0)) := Box4.madeAt rfl _ _ _ _ _
              have PB : Hid (bs ≤ v7.heap.size) := by have h1 := H.size; have h2 := HS.out; show _ ≤ _; omega
              have NE : Hid (0 < n' → ∀ p, ax = some p → p.block ≠ v7.heap.size) := fun h0 p hp e => by have h1 := VW.out.bools.ltB h0 p hp; omega
              replace H : Below bs v3 (v7.alloc (.cells #[.string ⟨#[]⟩, .int .i64 0, .int .i64 0, .slice none 0 0] 29)) := H.trans (hb.mono PB.out)
              refine hK.out _ _ H (fun _ => ?_)
              clear hK KK
              change wpAnyH _ _ _ _ _ _ _ { tmps := #[_, _, _, _, _, _, _, _, _, _, _, _, _, _, _, _, _, _, _, _, _, _, _, _, _, _, _, _, _, _, _, _, _, _, _, _, _, _, _, _, _, _, _, _, _, _, _, _, _, _, _, _, _, _, _, _, _, _, _, _, _, _, _, _, _, _, _, _, _, _, _, _, _, _, _, _, _, _, _, _, _, _, _, _, _, _, _, _, _, _, _, _, _, _, _, _, _, _, _, _, _, _, _, _, _, _, _, _, _], defers := _ } _
              generalize (v7.alloc (.cells #[.string ⟨#[]⟩, .int .i64 0, .int .i64 0, .slice none 0 0] 29)) = v8 at *
              replace X0 : Hid (Bools v8 (some ⟨g0, 0, none⟩) n f) := X0.out.below hb
              replace VW : Hid (OwnB v8 bs ax n' f') := VW.out.below hb
              clear hb
              obtain ⟨pb, hpb⟩ : ∃ bx, bx = v7.heap.size := ⟨_, rfl⟩
              rw [← hpb] at PZ PB NE ⊢
              clear hpb
              refine wpAnyH_ready (rs := [9]) (by kernel_rfl) (by simp) ?_
              refine AllReadyH.cons rfl (fun KK hK => ?_) AllReadyH.nil
              rw [if_pos (by rfl)]
              refine wp_store_mid 29 (.tmp 6) (.tmp 32) rfl pb 0 #[.string K', .int .i64 se', .int .i64 tp', .slice ax n' cx] rfl rfl PZ.out.there Tryd.sizeLk (one4L _ _ _ _ _ _) ?_
              have ho : OnlyB pb v8 (v8.setCells pb 0 [.string K', .int .i64 se', .int .i64 tp', .slice ax n' cx]) := OnlyB.stored4L _ _ _ _ _ _
              have XN : Hid (Box4 (v8.setCells pb 0 [.string K', .int .i64 se', .int .i64 tp', .slice ax n' cx]) pb 29 (.string K') (.int .i64 se') (.int .i64 tp') (.slice ax n' cx)) := PZ.out.stored _ _ _ _
              have V9 : Hid (OwnB (v8.setCells pb 0 [.string K', .int .i64 se', .int .i64 tp', .slice ax n' cx]) bs ax n' f') := by
                rcases Nat.eq_zero_or_pos n' with h | h
                · exact .inl h
                · exact VW.out.one ho (NE.out h)
              replace H : Below bs v3 (v8.setCells pb 0 [.string K', .int .i64 se', .int .i64 tp', .slice ax n' cx]) := H.trans (ho.toBelow PB.out (by have h1 := H.size; have h2 := HS.out; omega))
              refine hK.out _ _ H (fun _ => ?_)
              clear hK KK ho PZ VW
              generalize (v8.setCells pb 0 [.string K', .int .i64 se', .int .i64 tp', .slice ax n' cx]) = v9 at *
              change wpAnyH _ _ _ _ _ _ _ { tmps := #[_, _, _, _, _, _, _, _, _, _, _, _, _, _, _, _, _, _, _, _, _, _, _, _, _, _, _, _, _, _, _, _, _, _, _, _, _, _, _, _, _, _, _, _, _, _, _, _, _, _, _, _, _, _, _, _, _, _, _, _, _, _, _, _, _, _, _, _, _, _, _, _, _, _, _, _, _, _, _, _, _, _, _, _, _, _, _, _, _, _, _, _, _, _, _, _, _, _, _, _, _, _, _, _, _, _, _, _, _], defers := _ } _
              refine wpAnyH_take (i := 10) (v := .int .i64 code) rfl (by kernel_rfl) (by kernel_rfl) (by kernel_rfl) (fun _ _ _ h => h) (Or.inl ⟨by rfl, ?_⟩) H ?_
              · intro w' hSw; go_simp
              change wpAnyH _ _ _ _ _ _ _ { tmps := #[_, _, _, _, _, _, _, _, _, _, _, _, _, _, _, _, _, _, _, _, _, _, _, _, _, _, _, _, _, _, _, _, _, _, _, _, _, _, _, _, _, _, _, _, _, _, _, _, _, _, _, _, _, _, _, _, _, _, _, _, _, _, _, _, _, _, _, _, _, _, _, _, _, _, _, _, _, _, _, _, _, _, _, _, _, _, _, _, _, _, _, _, _, _, _, _, _, _, _, _, _, _, _, _, _, _, _, _, _], defers := _ } _
              refine wpAnyH_done (by kernel_rfl) ?_ _
              refine NoPanic.normal ?_
              change Exit.then _ _ Exit.normal { tmps := #[_, _, _, _, _, _, _, _, _, _, _, _, _, _, _, _, _, _, _, _, _, _, _, _, _, _, _, _, _, _, _, _, _, _, _, _, _, _, _, _, _, _, _, _, _, _, _, _, _, _, _, _, _, _, _, _, _, _, _, _, _, _, _, _, _, _, _, _, _, _, _, _, _, _, _, _, _, _, _, _, _, _, _, _, _, _, _, _, _, _, _, _, _, _, _, _, _, _, _, _, _, _, _, _, _, _, _, _, _], defers := _ } _
              go_wp2_with fail
              go_meet
              exact ⟨pb, ax, cx, rfl, rfl, XN.out, V9.out, PB.out, NE.out, H⟩
            · skip
              go_simp
              have hb : Below v6.heap.size v6 (v6.alloc (.cells #[.string ⟨#[]⟩, .int .i64 0, .int .i64 0, .slice none 0 0] 29)) := (Below.refl _ _).alloc (Nat.le_refl _) _
              have PZ : Hid (Box4 (v6.alloc (.cells #[.string ⟨#[]⟩, .int .i64 0, .int .i64 0, .slice none 0 0] 29)) v6.heap.size 29 (.string ⟨#[]⟩) (.int .i64 0) (.int .i64 0) (.slice none 0 0)) := Box4.madeAt rfl _ _ _ _ _
              have PB : Hid (bs ≤ v6.heap.size) := by have h1 := H.size; have h2 := HS.out; show _ ≤ _; omega
              replace H : Below bs v3 (v6.alloc (.cells #[.string ⟨#[]⟩, .int .i64 0, .int .i64 0, .slice none 0 0] 29)) := H.trans (hb.mono PB.out)
              refine hK.out _ _ H (fun _ => ?_)
              clear hK KK
              change wpAnyH _ _ _ _ _ _ _ { tmps := #[_, _, _, _, _, _, _, _, _, _, _, _, _, _, _, _, _, _, _, _, _, _, _, _, _, _, _, _, _, _, _, _, _, _, _, _, _, _, _, _, _, _, _, _, _, _, _, _, _, _, _, _, _, _, _, _, _, _, _, _, _, _, _, _, _, _, _, _, _, _, _, _, _, _, _, _, _, _, _, _, _, _, _, _, _, _, _, _, _, _, _, _, _, _, _, _, _, _, _, _, _, _, _, _, _, _, _, _, _], defers := _ } _
              generalize (v6.alloc (.cells #[.string ⟨#[]⟩, .int .i64 0, .int .i64 0, .slice none 0 0] 29)) = v10 at *
              replace X0 : Hid (Bools v10 (some ⟨g0, 0, none⟩) n f) := X0.out.below hb
              clear hb
              obtain ⟨pb, hpb⟩ : ∃ bx, bx = v6.heap.size := ⟨_, rfl⟩
              rw [← hpb] at PZ PB ⊢
              clear hpb
              refine wpAnyH_ready (rs := [4]) (by kernel_rfl) (by simp) ?_
              refine (AllReadyH.cons rfl (fun KK hK => ?_) AllReadyH.nil)
              go_simp
              have PL : Hid (pb < v10.heap.size) := PZ.out.lt
              have SB : Hid (bs ≤ v10.heap.size) := by have h1 := H.size; have h2 := HS.out; show _ ≤ _; omega
              refine (SS.out g0 n _ X0.out).mono ?_
              rintro e v11 ⟨⟨ax, cx, rfl, ow⟩, hb⟩
              replace X0 : Hid (Bools v11 (some ⟨g0, 0, none⟩) n f) := X0.out.below hb
              replace PZ : Hid (Box4 v11 pb 29 (.string ⟨#[]⟩) (.int .i64 0) (.int .i64 0) (.slice none 0 0)) := PZ.out.below hb
              have VW : Hid (OwnB v11 bs ax n' f') := ow.mono SB.out
              have NE : Hid (0 < n' → ∀ p, ax = some p → p.block ≠ pb) := fun h0 p hp e => by have h1 := ow.ge h0 p hp; have h2 := PL.out; omega
              replace H : Below bs v3 v11 := H.trans (hb.mono (by have h1 := H.size; have h2 := HS.out; omega))
              clear hb  SB ow PL
              refine hK.out _ _ H (fun _ => ?_)
              clear hK KK
              change wpAnyH _ _ _ _ _ _ _ { tmps := #[_, _, _, _, _, _, _, _, _, _, _, _, _, _, _, _, _, _, _, _, _, _, _, _, _, _, _, _, _, _, _, _, _, _, _, _, _, _, _, _, _, _, _, _, _, _, _, _, _, _, _, _, _, _, _, _, _, _, _, _, _, _, _, _, _, _, _, _, _, _, _, _, _, _, _, _, _, _, _, _, _, _, _, _, _, _, _, _, _, _, _, _, _, _, _, _, _, _, _, _, _, _, _, _, _, _, _, _, _], defers := _ } _
              refine wpAnyH_take (i := 5) (v := .tuple #[.agg #[.string K', .int .i64 se', .int .i64 tp', .slice ax n' cx], .int .i64 code]) rfl (by kernel_rfl) (by kernel_rfl) (by kernel_rfl) (fun _ _ _ h => h) (Or.inl ⟨by rfl, ?_⟩) H ?_
              · intro w' hSw; go_simp
              change wpAnyH _ _ _ _ _ _ _ { tmps := #[_, _, _, _, _, _, _, _, _, _, _, _, _, _, _, _, _, _, _, _, _, _, _, _, _, _, _, _, _, _, _, _, _, _, _, _, _, _, _, _, _, _, _, _, _, _, _, _, _, _, _, _, _, _, _, _, _, _, _, _, _, _, _, _, _, _, _, _, _, _, _, _, _, _, _, _, _, _, _, _, _, _, _, _, _, _, _, _, _, _, _, _, _, _, _, _, _, _, _, _, _, _, _, _, _, _, _, _, _], defers := _ } _
              refine wpAnyH_take (i := 6) (v := .agg #[.string K', .int .i64 se', .int .i64 tp', .slice ax n' cx]) rfl (by kernel_rfl) (by kernel_rfl) (by kernel_rfl) (fun _ _ _ h => h) (Or.inl ⟨by rfl, ?_⟩) H ?_
              · intro w' hSw; go_simp
              change wpAnyH _ _ _ _ _ _ _ { tmps := #[_, _, _, _, _, _, _, _, _, _, _, _, _, _, _, _, _, _, _, _, _, _, _, _, _, _, _, _, _, _, _, _, _, _, _, _, _, _, _, _, _, _, _, _, _, _, _, _, _, _, _, _, _, _, _, _, _, _, _, _, _, _, _, _, _, _, _, _, _, _, _, _, _, _, _, _, _, _, _, _, _, _, _, _, _, _, _, _, _, _, _, _, _, _, _, _, _, _, _, _, _, _, _, _, _, _, _, _, _], defers := _ } _
              refine wpAnyH_take (i := 7) (v := .int .i64 code) rfl (by kernel_rfl) (by kernel_rfl) (by kernel_rfl) (fun _ _ _ h => h) (Or.inl ⟨by rfl, ?_⟩) H ?_
              · intro w' hSw; go_simp
              change wpAnyH _ _ _ _ _ _ _ { tmps := #[_, _, _, _, _, _, _, _, _, _, _, _, _, _, _, _, _, _, _, _, _, _, _, _, _, _, _, _, _, _, _, _, _, _, _, _, _, _, _, _, _, _, _, _, _, _, _, _, _, _, _, _, _, _, _, _, _, _, _, _, _, _, _, _, _, _, _, _, _, _, _, _, _, _, _, _, _, _, _, _, _, _, _, _, _, _, _, _, _, _, _, _, _, _, _, _, _, _, _, _, _, _, _, _, _, _, _, _, _], defers := _ } _
              refine wpAnyH_ready (rs := [9]) (by kernel_rfl) (by simp) ?_
              refine AllReadyH.cons rfl (fun KK hK => ?_) AllReadyH.nil
              rw [if_pos (by rfl)]
              refine wp_store_mid 29 (.tmp 6) (.tmp 32) rfl pb 0 #[.string K', .int .i64 se', .int .i64 tp', .slice ax n' cx] rfl rfl PZ.out.there Tryd.sizeLk (one4L _ _ _ _ _ _) ?_
              have ho : OnlyB pb v11 (v11.setCells pb 0 [.string K', .int .i64 se', .int .i64 tp', .slice ax n' cx]) := OnlyB.stored4L _ _ _ _ _ _
              have XN : Hid (Box4 (v11.setCells pb 0 [.string K', .int .i64 se', .int .i64 tp', .slice ax n' cx]) pb 29 (.string K') (.int .i64 se') (.int .i64 tp') (.slice ax n' cx)) := PZ.out.stored _ _ _ _
              have V9 : Hid (OwnB (v11.setCells pb 0 [.string K', .int .i64 se', .int .i64 tp', .slice ax n' cx]) bs ax n' f') := by
                rcases Nat.eq_zero_or_pos n' with h | h
                · exact .inl h
                · exact VW.out.one ho (NE.out h)
              replace H : Below bs v3 (v11.setCells pb 0 [.string K', .int .i64 se', .int .i64 tp', .slice ax n' cx]) := H.trans (ho.toBelow PB.out (by have h1 := H.size; have h2 := HS.out; omega))
              refine hK.out _ _ H (fun _ => ?_)
              clear hK KK ho PZ VW
              generalize (v11.setCells pb 0 [.string K', .int .i64 se', .int .i64 tp', .slice ax n' cx]) = v12 at *
              change wpAnyH _ _ _ _ _ _ _ { tmps := #[_, _, _, _, _, _, _, _, _, _, _, _, _, _, _, _, _, _, _, _, _, _, _, _, _, _, _, _, _, _, _, _, _, _, _, _, _, _, _, _, _, _, _, _, _, _, _, _, _, _, _, _, _, _, _, _, _, _, _, _, _, _, _, _, _, _, _, _, _, _, _, _, _, _, _, _, _, _, _, _, _, _, _, _, _, _, _, _, _, _, _, _, _, _, _, _, _, _, _, _, _, _, _, _, _, _, _, _, _], defers := _ } _
              refine wpAnyH_take (i := 10) (v := .int .i64 code) rfl (by kernel_rfl) (by kernel_rfl) (by kernel_rfl) (fun _ _ _ h => h) (Or.inl ⟨by rfl, ?_⟩) H ?_
              · intro w' hSw; go_simp
              change wpAnyH _ _ _ _ _ _ _ { tmps := #[_, _, _, _, _, _, _, _, _, _, _, _, _, _, _, _, _, _, _, _, _, _, _, _, _, _, _, _, _, _, _, _, _, _, _, _, _, _, _, _, _, _, _, _, _, _, _, _, _, _, _, _, _, _, _, _, _, _, _, _, _, _, _, _, _, _, _, _, _, _, _, _, _, _, _, _, _, _, _, _, _, _, _, _, _, _, _, _, _, _, _, _, _, _, _, _, _, _, _, _, _, _, _, _, _, _, _, _, _], defers := _ } _
              refine wpAnyH_done (by kernel_rfl) ?_ _
              refine NoPanic.normal ?_
              change Exit.then _ _ Exit.normal { tmps := #[_, _, _, _, _, _, _, _, _, _, _, _, _, _, _, _, _, _, _, _, _, _, _, _, _, _, _, _, _, _, _, _, _, _, _, _, _, _, _, _, _, _, _, _, _, _, _, _, _, _, _, _, _, _, _, _, _, _, _, _, _, _, _, _, _, _, _, _, _, _, _, _, _, _, _, _, _, _, _, _, _, _, _, _, _, _, _, _, _, _, _, _, _, _, _, _, _, _, _, _, _, _, _, _, _, _, _, _, _], defers := _ } _
              go_wp2_with fail
              go_meet
              exact ⟨pb, ax, cx, rfl, rfl, XN.out, V9.out, PB.out, NE.out, H⟩
          · skip
            go_simp
            have hb : Below v5.heap.size v5 (v5.alloc (.cells #[.string ⟨#[]⟩, .int .i64 0, .int .i64 0, .slice none 0 0] 29)) := (Below.refl _ _).alloc (Nat.le_refl _) _
            have PZ : Hid (Box4 (v5.alloc (.cells #[.string ⟨#[]⟩, .int .i64 0, .int .i64 0, .slice none 0 0] 29)) v5.heap.size 29 (.string ⟨#[]⟩) (.int .i64 0) (.int .i64 0) (.slice none 0 0)) := Box4.madeAt rfl _ _ _ _ _
            have PB : Hid (bs ≤ v5.heap.size) := by have h1 := H.size; have h2 := HS.out; show _ ≤ _; omega
            replace H : Below bs v3 (v5.alloc (.cells #[.string ⟨#[]⟩, .int .i64 0, .int .i64 0, .slice none 0 0] 29)) := H.trans (hb.mono PB.out)
            refine hK.out _ _ H (fun _ => ?_)
            clear hK KK
            change wpAnyH _ _ _ _ _ _ _ { tmps := #[_, _, _, _, _, _, _, _, _, _, _, _, _, _, _, _, _, _, _, _, _, _, _, _, _, _, _, _, _, _, _, _, _, _, _, _, _, _, _, _, _, _, _, _, _, _, _, _, _, _, _, _, _, _, _, _, _, _, _, _, _, _, _, _, _, _, _, _, _, _, _, _, _, _, _, _, _, _, _, _, _, _, _, _, _, _, _, _, _, _, _, _, _, _, _, _, _, _, _, _, _, _, _, _, _, _, _, _, _], defers := _ } _
            generalize (v5.alloc (.cells #[.string ⟨#[]⟩, .int .i64 0, .int .i64 0, .slice none 0 0] 29)) = v13 at *
            replace X0 : Hid (Bools v13 (some ⟨g0, 0, none⟩) n f) := X0.out.below hb
            clear hb
            obtain ⟨pb, hpb⟩ : ∃ bx, bx = v5.heap.size := ⟨_, rfl⟩
            rw [← hpb] at PZ PB ⊢
            clear hpb
            refine wpAnyH_ready (rs := [3]) (by kernel_rfl) (by simp) ?_
            refine (AllReadyH.cons rfl (fun KK hK => ?_) AllReadyH.nil)
            go_simp
            refine (TP.out _).mono ?_
            rintro e v14 ⟨rfl, hb⟩
            replace X0 : Hid (Bools v14 (some ⟨g0, 0, none⟩) n f) := X0.out.below hb
            replace PZ : Hid (Box4 v14 pb 29 (.string ⟨#[]⟩) (.int .i64 0) (.int .i64 0) (.slice none 0 0)) := PZ.out.below hb
            replace H : Below bs v3 v14 := H.trans (hb.mono (by have h1 := H.size; have h2 := HS.out; omega))
            clear hb 
            refine hK.out _ _ H (fun _ => ?_)
            clear hK KK
            change wpAnyH _ _ _ _ _ _ _ { tmps := #[_, _, _, _, _, _, _, _, _, _, _, _, _, _, _, _, _, _, _, _, _, _, _, _, _, _, _, _, _, _, _, _, _, _, _, _, _, _, _, _, _, _, _, _, _, _, _, _, _, _, _, _, _, _, _, _, _, _, _, _, _, _, _, _, _, _, _, _, _, _, _, _, _, _, _, _, _, _, _, _, _, _, _, _, _, _, _, _, _, _, _, _, _, _, _, _, _, _, _, _, _, _, _, _, _, _, _, _, _], defers := _ } _
            refine wpAnyH_ready (rs := [4]) (by kernel_rfl) (by simp) ?_
            refine (AllReadyH.cons rfl (fun KK hK => ?_) AllReadyH.nil)
            go_simp
            have PL : Hid (pb < v14.heap.size) := PZ.out.lt
            have SB : Hid (bs ≤ v14.heap.size) := by have h1 := H.size; have h2 := HS.out; show _ ≤ _; omega
            refine (SS.out g0 n _ X0.out).mono ?_
            rintro e v15 ⟨⟨ax, cx, rfl, ow⟩, hb⟩
            replace X0 : Hid (Bools v15 (some ⟨g0, 0, none⟩) n f) := X0.out.below hb
            replace PZ : Hid (Box4 v15 pb 29 (.string ⟨#[]⟩) (.int .i64 0) (.int .i64 0) (.slice none 0 0)) := PZ.out.below hb
            have VW : Hid (OwnB v15 bs ax n' f') := ow.mono SB.out
            have NE : Hid (0 < n' → ∀ p, ax = some p → p.block ≠ pb) := fun h0 p hp e => by have h1 := ow.ge h0 p hp; have h2 := PL.out; omega
            replace H : Below bs v3 v15 := H.trans (hb.mono (by have h1 := H.size; have h2 := HS.out; omega))
            clear hb  SB ow PL
            refine hK.out _ _ H (fun _ => ?_)
            clear hK KK
            change wpAnyH _ _ _ _ _ _ _ { tmps := #[_, _, _, _, _, _, _, _, _, _, _, _, _, _, _, _, _, _, _, _, _, _, _, _, _, _, _, _, _, _, _, _, _, _, _, _, _, _, _, _, _, _, _, _, _, _, _, _, _, _, _, _, _, _, _, _, _, _, _, _, _, _, _, _, _, _, _, _, _, _, _, _, _, _, _, _, _, _, _, _, _, _, _, _, _, _, _, _, _, _, _, _, _, _, _, _, _, _, _, _, _, _, _, _, _, _, _, _, _], defers := _ } _
            refine wpAnyH_take (i := 5) (v := .tuple #[.agg #[.string K', .int .i64 se', .int .i64 tp', .slice ax n' cx], .int .i64 code]) rfl (by kernel_rfl) (by kernel_rfl) (by kernel_rfl) (fun _ _ _ h => h) (Or.inl ⟨by rfl, ?_⟩) H ?_
            · intro w' hSw; go_simp
            change wpAnyH _ _ _ _ _ _ _ { tmps := #[_, _, _, _, _, _, _, _, _, _, _, _, _, _, _, _, _, _, _, _, _, _, _, _, _, _, _, _, _, _, _, _, _, _, _, _, _, _, _, _, _, _, _, _, _, _, _, _, _, _, _, _, _, _, _, _, _, _, _, _, _, _, _, _, _, _, _, _, _, _, _, _, _, _, _, _, _, _, _, _, _, _, _, _, _, _, _, _, _, _, _, _, _, _, _, _, _, _, _, _, _, _, _, _, _, _, _, _, _], defers := _ } _
            refine wpAnyH_take (i := 6) (v := .agg #[.string K', .int .i64 se', .int .i64 tp', .slice ax n' cx]) rfl (by kernel_rfl) (by kernel_rfl) (by kernel_rfl) (fun _ _ _ h => h) (Or.inl ⟨by rfl, ?_⟩) H ?_
            · intro w' hSw; go_simp
            change wpAnyH _ _ _ _ _ _ _ { tmps := #[_, _, _, _, _, _, _, _, _, _, _, _, _, _, _, _, _, _, _, _, _, _, _, _, _, _, _, _, _, _, _, _, _, _, _, _, _, _, _, _, _, _, _, _, _, _, _, _, _, _, _, _, _, _, _, _, _, _, _, _, _, _, _, _, _, _, _, _, _, _, _, _, _, _, _, _, _, _, _, _, _, _, _, _, _, _, _, _, _, _, _, _, _, _, _, _, _, _, _, _, _, _, _, _, _, _, _, _, _], defers := _ } _
            refine wpAnyH_take (i := 7) (v := .int .i64 code) rfl (by kernel_rfl) (by kernel_rfl) (by kernel_rfl) (fun _ _ _ h => h) (Or.inl ⟨by rfl, ?_⟩) H ?_
            · intro w' hSw; go_simp
            change wpAnyH _ _ _ _ _ _ _ { tmps := #[_, _, _, _, _, _, _, _, _, _, _, _, _, _, _, _, _, _, _, _, _, _, _, _, _, _, _, _, _, _, _, _, _, _, _, _, _, _, _, _, _, _, _, _, _, _, _, _, _, _, _, _, _, _, _, _, _, _, _, _, _, _, _, _, _, _, _, _, _, _, _, _, _, _, _, _, _, _, _, _, _, _, _, _, _, _, _, _, _, _, _, _, _, _, _, _, _, _, _, _, _, _, _, _, _, _, _, _, _], defers := _ } _
            refine wpAnyH_ready (rs := [9]) (by kernel_rfl) (by simp) ?_
            refine AllReadyH.cons rfl (fun KK hK => ?_) AllReadyH.nil
            rw [if_pos (by rfl)]
            refine wp_store_mid 29 (.tmp 6) (.tmp 32) rfl pb 0 #[.string K', .int .i64 se', .int .i64 tp', .slice ax n' cx] rfl rfl PZ.out.there Tryd.sizeLk (one4L _ _ _ _ _ _) ?_
            have ho : OnlyB pb v15 (v15.setCells pb 0 [.string K', .int .i64 se', .int .i64 tp', .slice ax n' cx]) := OnlyB.stored4L _ _ _ _ _ _
            have XN : Hid (Box4 (v15.setCells pb 0 [.string K', .int .i64 se', .int .i64 tp', .slice ax n' cx]) pb 29 (.string K') (.int .i64 se') (.int .i64 tp') (.slice ax n' cx)) := PZ.out.stored _ _ _ _
            have V9 : Hid (OwnB (v15.setCells pb 0 [.string K', .int .i64 se', .int .i64 tp', .slice ax n' cx]) bs ax n' f') := by
              rcases Nat.eq_zero_or_pos n' with h | h
              · exact .inl h
              · exact VW.out.one ho (NE.out h)
            replace H : Below bs v3 (v15.setCells pb 0 [.string K', .int .i64 se', .int .i64 tp', .slice ax n' cx]) := H.trans (ho.toBelow PB.out (by have h1 := H.size; have h2 := HS.out; omega))
            refine hK.out _ _ H (fun _ => ?_)
            clear hK KK ho PZ VW
            generalize (v15.setCells pb 0 [.string K', .int .i64 se', .int .i64 tp', .slice ax n' cx]) = v16 at *
            change wpAnyH _ _ _ _ _ _ _ { tmps := #[_, _, _, _, _, _, _, _, _, _, _, _, _, _, _, _, _, _, _, _, _, _, _, _, _, _, _, _, _, _, _, _, _, _, _, _, _, _, _, _, _, _, _, _, _, _, _, _, _, _, _, _, _, _, _, _, _, _, _, _, _, _, _, _, _, _, _, _, _, _, _, _, _, _, _, _, _, _, _, _, _, _, _, _, _, _, _, _, _, _, _, _, _, _, _, _, _, _, _, _, _, _, _, _, _, _, _, _, _], defers := _ } _
            refine wpAnyH_take (i := 10) (v := .int .i64 code) rfl (by kernel_rfl) (by kernel_rfl) (by kernel_rfl) (fun _ _ _ h => h) (Or.inl ⟨by rfl, ?_⟩) H ?_
            · intro w' hSw; go_simp
            change wpAnyH _ _ _ _ _ _ _ { tmps := #[_, _, _, _, _, _, _, _, _, _, _, _, _, _, _, _, _, _, _, _, _, _, _, _, _, _, _, _, _, _, _, _, _, _, _, _, _, _, _, _, _, _, _, _, _, _, _, _, _, _, _, _, _, _, _, _, _, _, _, _, _, _, _, _, _, _, _, _, _, _, _, _, _, _, _, _, _, _, _, _, _, _, _, _, _, _, _, _, _, _, _, _, _, _, _, _, _, _, _, _, _, _, _, _, _, _, _, _, _], defers := _ } _
            refine wpAnyH_done (by kernel_rfl) ?_ _
            refine NoPanic.normal ?_
            change Exit.then _ _ Exit.normal { tmps := #[_, _, _, _, _, _, _, _, _, _, _, _, _, _, _, _, _, _, _, _, _, _, _, _, _, _, _, _, _, _, _, _, _, _, _, _, _, _, _, _, _, _, _, _, _, _, _, _, _, _, _, _, _, _, _, _, _, _, _, _, _, _, _, _, _, _, _, _, _, _, _, _, _, _, _, _, _, _, _, _, _, _, _, _, _, _, _, _, _, _, _, _, _, _, _, _, _, _, _, _, _, _, _, _, _, _, _, _, _], defers := _ } _
            go_wp2_with fail
            go_meet
            exact ⟨pb, ax, cx, rfl, rfl, XN.out, V9.out, PB.out, NE.out, H⟩
        · skip
          go_simp
          have hb : Below v4.heap.size v4 (v4.alloc (.cells #[.string ⟨#[]⟩, .int .i64 0, .int .i64 0, .slice none 0 0] 29)) := (Below.refl _ _).alloc (Nat.le_refl _) _
          have PZ : Hid (Box4 (v4.alloc (.cells #[.string ⟨#[]⟩, .int .i64 0, .int .i64 0, .slice none 0 0] 29)) v4.heap.size 29 (.string ⟨#[]⟩) (.int .i64 0) (.int .i64 0) (.slice none 0 0)) := Box4.madeAt rfl _ _ _ _ _
          have PB : Hid (bs ≤ v4.heap.size) := by have h1 := H.size; have h2 := HS.out; show _ ≤ _; omega
          replace H : Below bs v3 (v4.alloc (.cells #[.string ⟨#[]⟩, .int .i64 0, .int .i64 0, .slice none 0 0] 29)) := H.trans (hb.mono PB.out)
          refine hK.out _ _ H (fun _ => ?_)
          clear hK KK
          change wpAnyH _ _ _ _ _ _ _ { tmps := #[_, _, _, _, _, _, _, _, _, _, _, _, _, _, _, _, _, _, _, _, _, _, _, _, _, _, _, _, _, _, _, _, _, _, _, _, _, _, _, _, _, _, _, _, _, _, _, _, _, _, _, _, _, _, _, _, _, _, _, _, _, _, _, _, _, _, _, _, _, _, _, _, _, _, _, _, _, _, _, _, _, _, _, _, _, _, _, _, _, _, _, _, _, _, _, _, _, _, _, _, _, _, _, _, _, _, _, _, _], defers := _ } _
          generalize (v4.alloc (.cells #[.string ⟨#[]⟩, .int .i64 0, .int .i64 0, .slice none 0 0] 29)) = v17 at *
          clear hb
          obtain ⟨pb, hpb⟩ : ∃ bx, bx = v4.heap.size := ⟨_, rfl⟩
          rw [← hpb] at PZ PB ⊢
          clear hpb
          refine wpAnyH_ready (rs := [1]) (by kernel_rfl) (by simp) ?_
          refine (AllReadyH.cons rfl (fun KK hK => ?_) AllReadyH.nil)
          go_simp
          refine (TL.out _ (HB.out.below (by rw [HS.out] at H; exact H))).mono ?_
          rintro e v18 ⟨⟨g0, hg0, rfl, hr0⟩, hb⟩
          replace PZ : Hid (Box4 v18 pb 29 (.string ⟨#[]⟩) (.int .i64 0) (.int .i64 0) (.slice none 0 0)) := PZ.out.below hb
          have X0 : Hid (Bools v18 (some ⟨g0, 0, none⟩) n f) := Bools.ofRow hr0
          replace H : Below bs v3 v18 := H.trans (hb.mono (by have h1 := H.size; have h2 := HS.out; omega))
          clear hb hr0 hg0
          refine hK.out _ _ H (fun _ => ?_)
          clear hK KK
          change wpAnyH _ _ _ _ _ _ _ { tmps := #[_, _, _, _, _, _, _, _, _, _, _, _, _, _, _, _, _, _, _, _, _, _, _, _, _, _, _, _, _, _, _, _, _, _, _, _, _, _, _, _, _, _, _, _, _, _, _, _, _, _, _, _, _, _, _, _, _, _, _, _, _, _, _, _, _, _, _, _, _, _, _, _, _, _, _, _, _, _, _, _, _, _, _, _, _, _, _, _, _, _, _, _, _, _, _, _, _, _, _, _, _, _, _, _, _, _, _, _, _], defers := _ } _
          refine wpAnyH_ready (rs := [3]) (by kernel_rfl) (by simp) ?_
          refine (AllReadyH.cons rfl (fun KK hK => ?_) AllReadyH.nil)
          go_simp
          refine (TP.out _).mono ?_
          rintro e v19 ⟨rfl, hb⟩
          replace PZ : Hid (Box4 v19 pb 29 (.string ⟨#[]⟩) (.int .i64 0) (.int .i64 0) (.slice none 0 0)) := PZ.out.below hb
          replace X0 : Hid (Bools v19 (some ⟨g0, 0, none⟩) n f) := X0.out.below hb
          replace H : Below bs v3 v19 := H.trans (hb.mono (by have h1 := H.size; have h2 := HS.out; omega))
          clear hb 
          refine hK.out _ _ H (fun _ => ?_)
          clear hK KK
          change wpAnyH _ _ _ _ _ _ _ { tmps := #[_, _, _, _, _, _, _, _, _, _, _, _, _, _, _, _, _, _, _, _, _, _, _, _, _, _, _, _, _, _, _, _, _, _, _, _, _, _, _, _, _, _, _, _, _, _, _, _, _, _, _, _, _, _, _, _, _, _, _, _, _, _, _, _, _, _, _, _, _, _, _, _, _, _, _, _, _, _, _, _, _, _, _, _, _, _, _, _, _, _, _, _, _, _, _, _, _, _, _, _, _, _, _, _, _, _, _, _, _], defers := _ } _
          refine wpAnyH_ready (rs := [4]) (by kernel_rfl) (by simp) ?_
          refine (AllReadyH.cons rfl (fun KK hK => ?_) AllReadyH.nil)
          go_simp
          have PL : Hid (pb < v19.heap.size) := PZ.out.lt
          have SB : Hid (bs ≤ v19.heap.size) := by have h1 := H.size; have h2 := HS.out; show _ ≤ _; omega
          refine (SS.out g0 n _ X0.out).mono ?_
          rintro e v20 ⟨⟨ax, cx, rfl, ow⟩, hb⟩
          replace PZ : Hid (Box4 v20 pb 29 (.string ⟨#[]⟩) (.int .i64 0) (.int .i64 0) (.slice none 0 0)) := PZ.out.below hb
          replace X0 : Hid (Bools v20 (some ⟨g0, 0, none⟩) n f) := X0.out.below hb
          have VW : Hid (OwnB v20 bs ax n' f') := ow.mono SB.out
          have NE : Hid (0 < n' → ∀ p, ax = some p → p.block ≠ pb) := fun h0 p hp e => by have h1 := ow.ge h0 p hp; have h2 := PL.out; omega
          replace H : Below bs v3 v20 := H.trans (hb.mono (by have h1 := H.size; have h2 := HS.out; omega))
          clear hb  SB ow PL
          refine hK.out _ _ H (fun _ => ?_)
          clear hK KK
          change wpAnyH _ _ _ _ _ _ _ { tmps := #[_, _, _, _, _, _, _, _, _, _, _, _, _, _, _, _, _, _, _, _, _, _, _, _, _, _, _, _, _, _, _, _, _, _, _, _, _, _, _, _, _, _, _, _, _, _, _, _, _, _, _, _, _, _, _, _, _, _, _, _, _, _, _, _, _, _, _, _, _, _, _, _, _, _, _, _, _, _, _, _, _, _, _, _, _, _, _, _, _, _, _, _, _, _, _, _, _, _, _, _, _, _, _, _, _, _, _, _, _], defers := _ } _
          refine wpAnyH_take (i := 5) (v := .tuple #[.agg #[.string K', .int .i64 se', .int .i64 tp', .slice ax n' cx], .int .i64 code]) rfl (by kernel_rfl) (by kernel_rfl) (by kernel_rfl) (fun _ _ _ h => h) (Or.inl ⟨by rfl, ?_⟩) H ?_
          · intro w' hSw; go_simp
          change wpAnyH _ _ _ _ _ _ _ { tmps := #[_, _, _, _, _, _, _, _, _, _, _, _, _, _, _, _, _, _, _, _, _, _, _, _, _, _, _, _, _, _, _, _, _, _, _, _, _, _, _, _, _, _, _, _, _, _, _, _, _, _, _, _, _, _, _, _, _, _, _, _, _, _, _, _, _, _, _, _, _, _, _, _, _, _, _, _, _, _, _, _, _, _, _, _, _, _, _, _, _, _, _, _, _, _, _, _, _, _, _, _, _, _, _, _, _, _, _, _, _], defers := _ } _
          refine wpAnyH_take (i := 6) (v := .agg #[.string K', .int .i64 se', .int .i64 tp', .slice ax n' cx]) rfl (by kernel_rfl) (by kernel_rfl) (by kernel_rfl) (fun _ _ _ h => h) (Or.inl ⟨by rfl, ?_⟩) H ?_
          · intro w' hSw; go_simp
          change wpAnyH _ _ _ _ _ _ _ { tmps := #[_, _, _, _, _, _, _, _, _, _, _, _, _, _, _, _, _, _, _, _, _, _, _, _, _, _, _, _, _, _, _, _, _, _, _, _, _, _, _, _, _, _, _, _, _, _, _, _, _, _, _, _, _, _, _, _, _, _, _, _, _, _, _, _, _, _, _, _, _, _, _, _, _, _, _, _, _, _, _, _, _, _, _, _, _, _, _, _, _, _, _, _, _, _, _, _, _, _, _, _, _, _, _, _, _, _, _, _, _], defers := _ } _
          refine wpAnyH_take (i := 7) (v := .int .i64 code) rfl (by kernel_rfl) (by kernel_rfl) (by kernel_rfl) (fun _ _ _ h => h) (Or.inl ⟨by rfl, ?_⟩) H ?_
          · intro w' hSw; go_simp
          change wpAnyH _ _ _ _ _ _ _ { tmps := #[_, _, _, _, _, _, _, _, _, _, _, _, _, _, _, _, _, _, _, _, _, _, _, _, _, _, _, _, _, _, _, _, _, _, _, _, _, _, _, _, _, _, _, _, _, _, _, _, _, _, _, _, _, _, _, _, _, _, _, _, _, _, _, _, _, _, _, _, _, _, _, _, _, _, _, _, _, _, _, _, _, _, _, _, _, _, _, _, _, _, _, _, _, _, _, _, _, _, _, _, _, _, _, _, _, _, _, _, _], defers := _ } _
          refine wpAnyH_ready (rs := [9]) (by kernel_rfl) (by simp) ?_
          refine AllReadyH.cons rfl (fun KK hK => ?_) AllReadyH.nil
          rw [if_pos (by rfl)]
          refine wp_store_mid 29 (.tmp 6) (.tmp 32) rfl pb 0 #[.string K', .int .i64 se', .int .i64 tp', .slice ax n' cx] rfl rfl PZ.out.there Tryd.sizeLk (one4L _ _ _ _ _ _) ?_
          have ho : OnlyB pb v20 (v20.setCells pb 0 [.string K', .int .i64 se', .int .i64 tp', .slice ax n' cx]) := OnlyB.stored4L _ _ _ _ _ _
          have XN : Hid (Box4 (v20.setCells pb 0 [.string K', .int .i64 se', .int .i64 tp', .slice ax n' cx]) pb 29 (.string K') (.int .i64 se') (.int .i64 tp') (.slice ax n' cx)) := PZ.out.stored _ _ _ _
          have V9 : Hid (OwnB (v20.setCells pb 0 [.string K', .int .i64 se', .int .i64 tp', .slice ax n' cx]) bs ax n' f') := by
            rcases Nat.eq_zero_or_pos n' with h | h
            · exact .inl h
            · exact VW.out.one ho (NE.out h)
          replace H : Below bs v3 (v20.setCells pb 0 [.string K', .int .i64 se', .int .i64 tp', .slice ax n' cx]) := H.trans (ho.toBelow PB.out (by have h1 := H.size; have h2 := HS.out; omega))
          refine hK.out _ _ H (fun _ => ?_)
          clear hK KK ho PZ VW
          generalize (v20.setCells pb 0 [.string K', .int .i64 se', .int .i64 tp', .slice ax n' cx]) = v21 at *
          change wpAnyH _ _ _ _ _ _ _ { tmps := #[_, _, _, _, _, _, _, _, _, _, _, _, _, _, _, _, _, _, _, _, _, _, _, _, _, _, _, _, _, _, _, _, _, _, _, _, _, _, _, _, _, _, _, _, _, _, _, _, _, _, _, _, _, _, _, _, _, _, _, _, _, _, _, _, _, _, _, _, _, _, _, _, _, _, _, _, _, _, _, _, _, _, _, _, _, _, _, _, _, _, _, _, _, _, _, _, _, _, _, _, _, _, _, _, _, _, _, _, _], defers := _ } _
          refine wpAnyH_take (i := 10) (v := .int .i64 code) rfl (by kernel_rfl) (by kernel_rfl) (by kernel_rfl) (fun _ _ _ h => h) (Or.inl ⟨by rfl, ?_⟩) H ?_
          · intro w' hSw; go_simp
          change wpAnyH _ _ _ _ _ _ _ { tmps := #[_, _, _, _, _, _, _, _, _, _, _, _, _, _, _, _, _, _, _, _, _, _, _, _, _, _, _, _, _, _, _, _, _, _, _, _, _, _, _, _, _, _, _, _, _, _, _, _, _, _, _, _, _, _, _, _, _, _, _, _, _, _, _, _, _, _, _, _, _, _, _, _, _, _, _, _, _, _, _, _, _, _, _, _, _, _, _, _, _, _, _, _, _, _, _, _, _, _, _, _, _, _, _, _, _, _, _, _, _], defers := _ } _
          refine wpAnyH_done (by kernel_rfl) ?_ _
          refine NoPanic.normal ?_
          change Exit.then _ _ Exit.normal { tmps := #[_, _, _, _, _, _, _, _, _, _, _, _, _, _, _, _, _, _, _, _, _, _, _, _, _, _, _, _, _, _, _, _, _, _, _, _, _, _, _, _, _, _, _, _, _, _, _, _, _, _, _, _, _, _, _, _, _, _, _, _, _, _, _, _, _, _, _, _, _, _, _, _, _, _, _, _, _, _, _, _, _, _, _, _, _, _, _, _, _, _, _, _, _, _, _, _, _, _, _, _, _, _, _, _, _, _, _, _, _], defers := _ } _
          go_wp2_with fail
          go_meet
          exact ⟨pb, ax, cx, rfl, rfl, XN.out, V9.out, PB.out, NE.out, H⟩
      case rest =>
      obtain ⟨b6, aw, cw, rfl, rfl, xn, ow, bge, ne, hb⟩ := hcut
      rw [hbs] at hb
      replace A1 : Hid (Below w.heap.size w wc) := A1.out.trans (hb.mono A1.out.size)
      replace RA : Hid (Box4 wc w.heap.size 27 (.string K) (.int .i64 se) (.int .i64 tp) (.slice a n c)) := RA.out.below hb
      replace RP : Hid (BoxP wc (w.heap.size + 1) 39 (.int .i64 q) (.string B) (.string T)) := RP.out.below hb
      replace HB : Hid (Bools wc a n f) := HB.out.below hb
      have bsz : bs ≤ wc.heap.size := by rw [hbs]; exact hb.size
      clear hb hbs
      have XW : Hid (Bools wc aw n' f') := ow.bools
      have PW : Hid (Box4 wc b6 29 (.string K') (.int .i64 se') (.int .i64 tp') (.slice aw n' cw)) := xn
      clear xn ow bge ne bsz bs SS
      have t0 := RA.out.c0
      have t1 := RA.out.c1
      have t2 := RA.out.c2
      have t3 := RA.out.c3
      go_wp2_with fail
      clear t0 t1 t2 t3
      obtain ⟨bs1, hbs1⟩ : ∃ x, x = wc.heap.size := ⟨_, rfl⟩
      have LW : Hid (0 < n' → ∀ p, aw = some p → p.block < bs1) := by rw [hbs1]; exact XW.out.ltB
      have P6 : Hid (b6 < bs1) := by rw [hbs1]; exact PW.out.lt
      have WB : Hid (w.heap.size + 1 < bs1) := by rw [hbs1]; exact RP.out.lt
      refine (TL.out _ HB.out).mono ?_
      rintro e v22 ⟨⟨gx, hgx, rfl, hrx⟩, hb⟩
      replace A1 : Hid (Below w.heap.size w v22) := A1.out.trans (hb.mono A1.out.size)
      replace RA : Hid (Box4 v22 w.heap.size 27 (.string K) (.int .i64 se) (.int .i64 tp) (.slice a n c)) := RA.out.below hb
      replace RP : Hid (BoxP v22 (w.heap.size + 1) 39 (.int .i64 q) (.string B) (.string T)) := RP.out.below hb
      replace HB : Hid (Bools v22 a n f) := HB.out.below hb
      replace XW : Hid (Bools v22 aw n' f') := XW.out.below hb
      replace PW : Hid (Box4 v22 b6 29 (.string K') (.int .i64 se') (.int .i64 tp') (.slice aw n' cw)) := PW.out.below hb
      have OX : Hid (OwnB v22 bs1 (some ⟨gx, 0, none⟩) n f) := OwnB.ofRow (by rw [hbs1]; exact hgx) hrx
      have GX : Hid (bs1 ≤ gx) := by rw [hbs1]; exact hgx
      have S1 : Hid (bs1 ≤ v22.heap.size) := by rw [hbs1]; exact hb.size
      have LX : Hid (gx < v22.heap.size) := World.rowIs.lt hrx
      clear hb hrx hgx hbs1
      have hb : Below v22.heap.size v22 (v22.alloc (.cells #[.string K, .int .i64 se, .int .i64 tp, .slice (some ⟨gx, 0, none⟩) n n] 29)) := (Below.refl _ _).alloc (Nat.le_refl _) _
      have PX : Hid (Box4 (v22.alloc (.cells #[.string K, .int .i64 se, .int .i64 tp, .slice (some ⟨gx, 0, none⟩) n n] 29)) v22.heap.size 29 (.string K) (.int .i64 se) (.int .i64 tp) (.slice (some ⟨gx, 0, none⟩) n n)) := Box4.madeAt rfl _ _ _ _ _
      go_wp2_with fail
      generalize (v22.alloc (.cells #[.string K, .int .i64 se, .int .i64 tp, .slice (some ⟨gx, 0, none⟩) n n] 29)) = v23 at *
      replace A1 : Hid (Below w.heap.size w v23) := A1.out.trans (hb.mono A1.out.size)
      replace RA : Hid (Box4 v23 w.heap.size 27 (.string K) (.int .i64 se) (.int .i64 tp) (.slice a n c)) := RA.out.below hb
      replace RP : Hid (BoxP v23 (w.heap.size + 1) 39 (.int .i64 q) (.string B) (.string T)) := RP.out.below hb
      replace HB : Hid (Bools v23 a n f) := HB.out.below hb
      replace XW : Hid (Bools v23 aw n' f') := XW.out.below hb
      replace PW : Hid (Box4 v23 b6 29 (.string K') (.int .i64 se') (.int .i64 tp') (.slice aw n' cw)) := PW.out.below hb
      replace OX : Hid (OwnB v23 bs1 (some ⟨gx, 0, none⟩) n f) := OX.out.below hb
      replace S1 : Hid (bs1 ≤ (v23).heap.size) := Nat.le_trans S1.out hb.size
      replace LX : Hid (gx < (v23).heap.size) := Nat.lt_of_lt_of_le LX.out hb.size
      clear hb 
      obtain ⟨bx, hbx⟩ : ∃ bx, bx = v22.heap.size := ⟨_, rfl⟩
      rw [← hbx] at PX ⊢
      clear hbx
      obtain ⟨b20, hb20⟩ : ∃ x, x = v23.heap.size := ⟨_, rfl⟩
      have LX2 : Hid (gx < b20) := by rw [hb20]; exact LX.out
      have S12 : Hid (bs1 ≤ b20) := by rw [hb20]; exact S1.out
      clear LX
      obtain ⟨bs, hbs⟩ : ∃ x, x = v23.heap.size := ⟨_, rfl⟩
      go_cut [9, 10] (fun p cd wx => ∃ (pb : Nat) (ax : Option Addr) (cx : Nat), p = .pointer (some ⟨pb, 0, none⟩) ∧ cd = .int .i64 code ∧ Box4 wx pb 29 (.string K') (.int .i64 se') (.int .i64 tp') (.slice ax n' cx) ∧ OwnB wx bs ax n' f' ∧ bs ≤ pb ∧ (0 < n' → ∀ p, ax = some p → p.block ≠ pb) ∧ Below bs v23 wx)
      case first =>
        have H : Below bs v23 v23.drew := by rw [hbs]; exact (Below.refl _ _).drew
        refine wp_region_noPanic ?_
        refine wp_region_held_drew (S := fun w' => Below bs v23 w') (by kernel_rfl) H (fun _ => ?_)
        generalize v23.drew = v24 at *
        have HS : Hid (bs = v23.heap.size) := hbs
        clear hbs
        refine wpAnyH_take (i := 0) (v := .agg #[.string K, .int .i64 se, .int .i64 tp, .slice (some ⟨gx, 0, none⟩) n n]) rfl (by kernel_rfl) (by kernel_rfl) (by kernel_rfl) (fun _ _ _ h => h) (Or.inl ⟨by rfl, ?_⟩) H ?_
        · intro w' hSw; rw [HS.out] at hSw; have t0 := (PX.out.below hSw).c0; have t1 := (PX.out.below hSw).c1; have t2 := (PX.out.below hSw).c2; have t3 := (PX.out.below hSw).c3; clear hSw; go_simp
        change wpAnyH _ _ _ _ _ _ _ { tmps := #[_, _, _, _, _, _, _, _, _, _, _, _, _, _, _, _, _, _, _, _, _, _, _, _, _, _, _, _, _, _, _, _, _, _, _, _, _, _, _, _, _, _, _, _, _, _, _, _, _, _, _, _, _, _, _, _, _, _, _, _, _, _, _, _, _, _, _, _, _, _, _, _, _, _, _, _, _, _, _, _, _, _, _, _, _, _, _, _, _, _, _, _, _, _, _, _, _, _, _, _, _, _, _, _, _, _, _, _, _], defers := _ } _
        refine wpAnyH_take (i := 1) (v := .agg #[.int .i64 q, .string B, .string T]) rfl (by kernel_rfl) (by kernel_rfl) (by kernel_rfl) (fun _ _ _ h => h) (Or.inl ⟨by rfl, ?_⟩) H ?_
        · intro w' hSw; rw [HS.out] at hSw; have t0 := (RP.out.below hSw).c0; have t1 := (RP.out.below hSw).c1; have t2 := (RP.out.below hSw).c2; clear hSw; go_simp
        change wpAnyH _ _ _ _ _ _ _ { tmps := #[_, _, _, _, _, _, _, _, _, _, _, _, _, _, _, _, _, _, _, _, _, _, _, _, _, _, _, _, _, _, _, _, _, _, _, _, _, _, _, _, _, _, _, _, _, _, _, _, _, _, _, _, _, _, _, _, _, _, _, _, _, _, _, _, _, _, _, _, _, _, _, _, _, _, _, _, _, _, _, _, _, _, _, _, _, _, _, _, _, _, _, _, _, _, _, _, _, _, _, _, _, _, _, _, _, _, _, _, _], defers := _ } _
        refine wpAnyH_ready (rs := [2, 7]) (by kernel_rfl) (by simp) ?_
        refine (AllReadyH.cons rfl (fun KK hK => ?_) (AllReadyH.cons rfl (fun KK hK => ?_) AllReadyH.nil))
        · skip
          go_simp
          refine (TP.out _).mono ?_
          rintro e v25 ⟨rfl, hb⟩
          replace H : Below bs v23 v25 := H.trans (hb.mono (by have h1 := H.size; have h2 := HS.out; omega))
          clear hb 
          refine hK.out _ _ H (fun _ => ?_)
          clear hK KK
          change wpAnyH _ _ _ _ _ _ _ { tmps := #[_, _, _, _, _, _, _, _, _, _, _, _, _, _, _, _, _, _, _, _, _, _, _, _, _, _, _, _, _, _, _, _, _, _, _, _, _, _, _, _, _, _, _, _, _, _, _, _, _, _, _, _, _, _, _, _, _, _, _, _, _, _, _, _, _, _, _, _, _, _, _, _, _, _, _, _, _, _, _, _, _, _, _, _, _, _, _, _, _, _, _, _, _, _, _, _, _, _, _, _, _, _, _, _, _, _, _, _, _], defers := _ } _
          refine wpAnyH_ready (rs := [3, 7]) (by kernel_rfl) (by simp) ?_
          refine (AllReadyH.cons rfl (fun KK hK => ?_) (AllReadyH.cons rfl (fun KK hK => ?_) AllReadyH.nil))
          · skip
            go_simp
            have SB : Hid (bs ≤ v25.heap.size) := by have h1 := H.size; have h2 := HS.out; show _ ≤ _; omega
            refine (IS.out gx n _ (OX.out.below (by rw [HS.out] at H; exact H)).bools (HT.out.below (A1.out.trans (Below.mono H (by have h1 := A1.out.size; have h2 := HS.out; omega))))).mono ?_
            rintro e v26 ⟨⟨ax, cx, rfl, ow⟩, hb⟩
            have VW : Hid (OwnB v26 bs ax n' f') := ow.mono SB.out
            replace H : Below bs v23 v26 := H.trans (hb.mono (by have h1 := H.size; have h2 := HS.out; omega))
            clear hb  SB ow
            refine hK.out _ _ H (fun _ => ?_)
            clear hK KK
            change wpAnyH _ _ _ _ _ _ _ { tmps := #[_, _, _, _, _, _, _, _, _, _, _, _, _, _, _, _, _, _, _, _, _, _, _, _, _, _, _, _, _, _, _, _, _, _, _, _, _, _, _, _, _, _, _, _, _, _, _, _, _, _, _, _, _, _, _, _, _, _, _, _, _, _, _, _, _, _, _, _, _, _, _, _, _, _, _, _, _, _, _, _, _, _, _, _, _, _, _, _, _, _, _, _, _, _, _, _, _, _, _, _, _, _, _, _, _, _, _, _, _], defers := _ } _
            refine wpAnyH_take (i := 4) (v := .tuple #[.agg #[.string K', .int .i64 se', .int .i64 tp', .slice ax n' cx], .int .i64 code]) rfl (by kernel_rfl) (by kernel_rfl) (by kernel_rfl) (fun _ _ _ h => h) (Or.inl ⟨by rfl, ?_⟩) H ?_
            · intro w' hSw; go_simp
            change wpAnyH _ _ _ _ _ _ _ { tmps := #[_, _, _, _, _, _, _, _, _, _, _, _, _, _, _, _, _, _, _, _, _, _, _, _, _, _, _, _, _, _, _, _, _, _, _, _, _, _, _, _, _, _, _, _, _, _, _, _, _, _, _, _, _, _, _, _, _, _, _, _, _, _, _, _, _, _, _, _, _, _, _, _, _, _, _, _, _, _, _, _, _, _, _, _, _, _, _, _, _, _, _, _, _, _, _, _, _, _, _, _, _, _, _, _, _, _, _, _, _], defers := _ } _
            refine wpAnyH_take (i := 5) (v := .agg #[.string K', .int .i64 se', .int .i64 tp', .slice ax n' cx]) rfl (by kernel_rfl) (by kernel_rfl) (by kernel_rfl) (fun _ _ _ h => h) (Or.inl ⟨by rfl, ?_⟩) H ?_
            · intro w' hSw; go_simp
            change wpAnyH _ _ _ _ _ _ _ { tmps := #[_, _, _, _, _, _, _, _, _, _, _, _, _, _, _, _, _, _, _, _, _, _, _, _, _, _, _, _, _, _, _, _, _, _, _, _, _, _, _, _, _, _, _, _, _, _, _, _, _, _, _, _, _, _, _, _, _, _, _, _, _, _, _, _, _, _, _, _, _, _, _, _, _, _, _, _, _, _, _, _, _, _, _, _, _, _, _, _, _, _, _, _, _, _, _, _, _, _, _, _, _, _, _, _, _, _, _, _, _], defers := _ } _
            refine wpAnyH_take (i := 6) (v := .int .i64 code) rfl (by kernel_rfl) (by kernel_rfl) (by kernel_rfl) (fun _ _ _ h => h) (Or.inl ⟨by rfl, ?_⟩) H ?_
            · intro w' hSw; go_simp
            change wpAnyH _ _ _ _ _ _ _ { tmps := #[_, _, _, _, _, _, _, _, _, _, _, _, _, _, _, _, _, _, _, _, _, _, _, _, _, _, _, _, _, _, _, _, _, _, _, _, _, _, _, _, _, _, _, _, _, _, _, _, _, _, _, _, _, _, _, _, _, _, _, _, _, _, _, _, _, _, _, _, _, _, _, _, _, _, _, _, _, _, _, _, _, _, _, _, _, _, _, _, _, _, _, _, _, _, _, _, _, _, _, _, _, _, _, _, _, _, _, _, _], defers := _ } _
            refine wpAnyH_ready (rs := [7]) (by kernel_rfl) (by simp) ?_
            refine (AllReadyH.cons rfl (fun KK hK => ?_) AllReadyH.nil)
            go_simp
            have hb : Below v26.heap.size v26 (v26.alloc (.cells #[.string ⟨#[]⟩, .int .i64 0, .int .i64 0, .slice none 0 0] 29)) := (Below.refl _ _).alloc (Nat.le_refl _) _
            have PZ : Hid (Box4 (v26.alloc (.cells #[.string ⟨#[]⟩, .int .i64 0, .int .i64 0, .slice none 0 0] 29)) v26.heap.size 29 (.string ⟨#[]⟩) (.int .i64 0) (.int .i64 0) (.slice none 0 0)) := Box4.madeAt rfl _ _ _ _ _
            have PB : Hid (bs ≤ v26.heap.size) := by have h1 := H.size; have h2 := HS.out; show _ ≤ _; omega
            have NE : Hid (0 < n' → ∀ p, ax = some p → p.block ≠ v26.heap.size) := fun h0 p hp e => by have h1 := VW.out.bools.ltB h0 p hp; omega
            replace H : Below bs v23 (v26.alloc (.cells #[.string ⟨#[]⟩, .int .i64 0, .int .i64 0, .slice none 0 0] 29)) := H.trans (hb.mono PB.out)
            refine hK.out _ _ H (fun _ => ?_)
            clear hK KK
            change wpAnyH _ _ _ _ _ _ _ { tmps := #[_, _, _, _, _, _, _, _, _, _, _, _, _, _, _, _, _, _, _, _, _, _, _, _, _, _, _, _, _, _, _, _, _, _, _, _, _, _, _, _, _, _, _, _, _, _, _, _, _, _, _, _, _, _, _, _, _, _, _, _, _, _, _, _, _, _, _, _, _, _, _, _, _, _, _, _, _, _, _, _, _, _, _, _, _, _, _, _, _, _, _, _, _, _, _, _, _, _, _, _, _, _, _, _, _, _, _, _, _], defers := _ } _
            generalize (v26.alloc (.cells #[.string ⟨#[]⟩, .int .i64 0, .int .i64 0, .slice none 0 0] 29)) = v27 at *
            replace VW : Hid (OwnB v27 bs ax n' f') := VW.out.below hb
            clear hb
            obtain ⟨pb, hpb⟩ : ∃ bx, bx = v26.heap.size := ⟨_, rfl⟩
            rw [← hpb] at PZ PB NE ⊢
            clear hpb
            refine wpAnyH_ready (rs := [8]) (by kernel_rfl) (by simp) ?_
            refine AllReadyH.cons rfl (fun KK hK => ?_) AllReadyH.nil
            rw [if_pos (by rfl)]
            refine wp_store_mid 29 (.tmp 9) (.tmp 41) rfl pb 0 #[.string K', .int .i64 se', .int .i64 tp', .slice ax n' cx] rfl rfl PZ.out.there Tryd.sizeLk (one4L _ _ _ _ _ _) ?_
            have ho : OnlyB pb v27 (v27.setCells pb 0 [.string K', .int .i64 se', .int .i64 tp', .slice ax n' cx]) := OnlyB.stored4L _ _ _ _ _ _
            have XN : Hid (Box4 (v27.setCells pb 0 [.string K', .int .i64 se', .int .i64 tp', .slice ax n' cx]) pb 29 (.string K') (.int .i64 se') (.int .i64 tp') (.slice ax n' cx)) := PZ.out.stored _ _ _ _
            have V9 : Hid (OwnB (v27.setCells pb 0 [.string K', .int .i64 se', .int .i64 tp', .slice ax n' cx]) bs ax n' f') := by
              rcases Nat.eq_zero_or_pos n' with h | h
              · exact .inl h
              · exact VW.out.one ho (NE.out h)
            replace H : Below bs v23 (v27.setCells pb 0 [.string K', .int .i64 se', .int .i64 tp', .slice ax n' cx]) := H.trans (ho.toBelow PB.out (by have h1 := H.size; have h2 := HS.out; omega))
            refine hK.out _ _ H (fun _ => ?_)
            clear hK KK ho PZ VW
            generalize (v27.setCells pb 0 [.string K', .int .i64 se', .int .i64 tp', .slice ax n' cx]) = v28 at *
            change wpAnyH _ _ _ _ _ _ _ { tmps := #[_, _, _, _, _, _, _, _, _, _, _, _, _, _, _, _, _, _, _, _, _, _, _, _, _, _, _, _, _, _, _, _, _, _, _, _, _, _, _, _, _, _, _, _, _, _, _, _, _, _, _, _, _, _, _, _, _, _, _, _, _, _, _, _, _, _, _, _, _, _, _, _, _, _, _, _, _, _, _, _, _, _, _, _, _, _, _, _, _, _, _, _, _, _, _, _, _, _, _, _, _, _, _, _, _, _, _, _, _], defers := _ } _
            refine wpAnyH_take (i := 9) (v := .int .i64 code) rfl (by kernel_rfl) (by kernel_rfl) (by kernel_rfl) (fun _ _ _ h => h) (Or.inl ⟨by rfl, ?_⟩) H ?_
            · intro w' hSw; go_simp
            change wpAnyH _ _ _ _ _ _ _ { tmps := #[_, _, _, _, _, _, _, _, _, _, _, _, _, _, _, _, _, _, _, _, _, _, _, _, _, _, _, _, _, _, _, _, _, _, _, _, _, _, _, _, _, _, _, _, _, _, _, _, _, _, _, _, _, _, _, _, _, _, _, _, _, _, _, _, _, _, _, _, _, _, _, _, _, _, _, _, _, _, _, _, _, _, _, _, _, _, _, _, _, _, _, _, _, _, _, _, _, _, _, _, _, _, _, _, _, _, _, _, _], defers := _ } _
            refine wpAnyH_done (by kernel_rfl) ?_ _
            refine NoPanic.normal ?_
            change Exit.then _ _ Exit.normal { tmps := #[_, _, _, _, _, _, _, _, _, _, _, _, _, _, _, _, _, _, _, _, _, _, _, _, _, _, _, _, _, _, _, _, _, _, _, _, _, _, _, _, _, _, _, _, _, _, _, _, _, _, _, _, _, _, _, _, _, _, _, _, _, _, _, _, _, _, _, _, _, _, _, _, _, _, _, _, _, _, _, _, _, _, _, _, _, _, _, _, _, _, _, _, _, _, _, _, _, _, _, _, _, _, _, _, _, _, _, _, _], defers := _ } _
            go_wp2_with fail
            go_meet
            exact ⟨pb, ax, cx, rfl, rfl, XN.out, V9.out, PB.out, NE.out, H⟩
          · skip
            go_simp
            have hb : Below v25.heap.size v25 (v25.alloc (.cells #[.string ⟨#[]⟩, .int .i64 0, .int .i64 0, .slice none 0 0] 29)) := (Below.refl _ _).alloc (Nat.le_refl _) _
            have PZ : Hid (Box4 (v25.alloc (.cells #[.string ⟨#[]⟩, .int .i64 0, .int .i64 0, .slice none 0 0] 29)) v25.heap.size 29 (.string ⟨#[]⟩) (.int .i64 0) (.int .i64 0) (.slice none 0 0)) := Box4.madeAt rfl _ _ _ _ _
            have PB : Hid (bs ≤ v25.heap.size) := by have h1 := H.size; have h2 := HS.out; show _ ≤ _; omega
            replace H : Below bs v23 (v25.alloc (.cells #[.string ⟨#[]⟩, .int .i64 0, .int .i64 0, .slice none 0 0] 29)) := H.trans (hb.mono PB.out)
            refine hK.out _ _ H (fun _ => ?_)
            clear hK KK
            change wpAnyH _ _ _ _ _ _ _ { tmps := #[_, _, _, _, _, _, _, _, _, _, _, _, _, _, _, _, _, _, _, _, _, _, _, _, _, _, _, _, _, _, _, _, _, _, _, _, _, _, _, _, _, _, _, _, _, _, _, _, _, _, _, _, _, _, _, _, _, _, _, _, _, _, _, _, _, _, _, _, _, _, _, _, _, _, _, _, _, _, _, _, _, _, _, _, _, _, _, _, _, _, _, _, _, _, _, _, _, _, _, _, _, _, _, _, _, _, _, _, _], defers := _ } _
            generalize (v25.alloc (.cells #[.string ⟨#[]⟩, .int .i64 0, .int .i64 0, .slice none 0 0] 29)) = v29 at *
            clear hb
            obtain ⟨pb, hpb⟩ : ∃ bx, bx = v25.heap.size := ⟨_, rfl⟩
            rw [← hpb] at PZ PB ⊢
            clear hpb
            refine wpAnyH_ready (rs := [3]) (by kernel_rfl) (by simp) ?_
            refine (AllReadyH.cons rfl (fun KK hK => ?_) AllReadyH.nil)
            go_simp
            have PL : Hid (pb < v29.heap.size) := PZ.out.lt
            have SB : Hid (bs ≤ v29.heap.size) := by have h1 := H.size; have h2 := HS.out; show _ ≤ _; omega
            refine (IS.out gx n _ (OX.out.below (by rw [HS.out] at H; exact H)).bools (HT.out.below (A1.out.trans (Below.mono H (by have h1 := A1.out.size; have h2 := HS.out; omega))))).mono ?_
            rintro e v30 ⟨⟨ax, cx, rfl, ow⟩, hb⟩
            replace PZ : Hid (Box4 v30 pb 29 (.string ⟨#[]⟩) (.int .i64 0) (.int .i64 0) (.slice none 0 0)) := PZ.out.below hb
            have VW : Hid (OwnB v30 bs ax n' f') := ow.mono SB.out
            have NE : Hid (0 < n' → ∀ p, ax = some p → p.block ≠ pb) := fun h0 p hp e => by have h1 := ow.ge h0 p hp; have h2 := PL.out; omega
            replace H : Below bs v23 v30 := H.trans (hb.mono (by have h1 := H.size; have h2 := HS.out; omega))
            clear hb  SB ow PL
            refine hK.out _ _ H (fun _ => ?_)
            clear hK KK
            change wpAnyH _ _ _ _ _ _ _ { tmps := #[_, _, _, _, _, _, _, _, _, _, _, _, _, _, _, _, _, _, _, _, _, _, _, _, _, _, _, _, _, _, _, _, _, _, _, _, _, _, _, _, _, _, _, _, _, _, _, _, _, _, _, _, _, _, _, _, _, _, _, _, _, _, _, _, _, _, _, _, _, _, _, _, _, _, _, _, _, _, _, _, _, _, _, _, _, _, _, _, _, _, _, _, _, _, _, _, _, _, _, _, _, _, _, _, _, _, _, _, _], defers := _ } _
            refine wpAnyH_take (i := 4) (v := .tuple #[.agg #[.string K', .int .i64 se', .int .i64 tp', .slice ax n' cx], .int .i64 code]) rfl (by kernel_rfl) (by kernel_rfl) (by kernel_rfl) (fun _ _ _ h => h) (Or.inl ⟨by rfl, ?_⟩) H ?_
            · intro w' hSw; go_simp
            change wpAnyH _ _ _ _ _ _ _ { tmps := #[_, _, _, _, _, _, _, _, _, _, _, _, _, _, _, _, _, _, _, _, _, _, _, _, _, _, _, _, _, _, _, _, _, _, _, _, _, _, _, _, _, _, _, _, _, _, _, _, _, _, _, _, _, _, _, _, _, _, _, _, _, _, _, _, _, _, _, _, _, _, _, _, _, _, _, _, _, _, _, _, _, _, _, _, _, _, _, _, _, _, _, _, _, _, _, _, _, _, _, _, _, _, _, _, _, _, _, _, _], defers := _ } _
            refine wpAnyH_take (i := 5) (v := .agg #[.string K', .int .i64 se', .int .i64 tp', .slice ax n' cx]) rfl (by kernel_rfl) (by kernel_rfl) (by kernel_rfl) (fun _ _ _ h => h) (Or.inl ⟨by rfl, ?_⟩) H ?_
            · intro w' hSw; go_simp
            change wpAnyH _ _ _ _ _ _ _ { tmps := #[_, _, _, _, _, _, _, _, _, _, _, _, _, _, _, _, _, _, _, _, _, _, _, _, _, _, _, _, _, _, _, _, _, _, _, _, _, _, _, _, _, _, _, _, _, _, _, _, _, _, _, _, _, _, _, _, _, _, _, _, _, _, _, _, _, _, _, _, _, _, _, _, _, _, _, _, _, _, _, _, _, _, _, _, _, _, _, _, _, _, _, _, _, _, _, _, _, _, _, _, _, _, _, _, _, _, _, _, _], defers := _ } _
            refine wpAnyH_take (i := 6) (v := .int .i64 code) rfl (by kernel_rfl) (by kernel_rfl) (by kernel_rfl) (fun _ _ _ h => h) (Or.inl ⟨by rfl, ?_⟩) H ?_
            · intro w' hSw; go_simp
            change wpAnyH _ _ _ _ _ _ _ { tmps := #[_, _, _, _, _, _, _, _, _, _, _, _, _, _, _, _, _, _, _, _, _, _, _, _, _, _, _, _, _, _, _, _, _, _, _, _, _, _, _, _, _, _, _, _, _, _, _, _, _, _, _, _, _, _, _, _, _, _, _, _, _, _, _, _, _, _, _, _, _, _, _, _, _, _, _, _, _, _, _, _, _, _, _, _, _, _, _, _, _, _, _, _, _, _, _, _, _, _, _, _, _, _, _, _, _, _, _, _, _], defers := _ } _
            refine wpAnyH_ready (rs := [8]) (by kernel_rfl) (by simp) ?_
            refine AllReadyH.cons rfl (fun KK hK => ?_) AllReadyH.nil
            rw [if_pos (by rfl)]
            refine wp_store_mid 29 (.tmp 9) (.tmp 41) rfl pb 0 #[.string K', .int .i64 se', .int .i64 tp', .slice ax n' cx] rfl rfl PZ.out.there Tryd.sizeLk (one4L _ _ _ _ _ _) ?_
            have ho : OnlyB pb v30 (v30.setCells pb 0 [.string K', .int .i64 se', .int .i64 tp', .slice ax n' cx]) := OnlyB.stored4L _ _ _ _ _ _
            have XN : Hid (Box4 (v30.setCells pb 0 [.string K', .int .i64 se', .int .i64 tp', .slice ax n' cx]) pb 29 (.string K') (.int .i64 se') (.int .i64 tp') (.slice ax n' cx)) := PZ.out.stored _ _ _ _
            have V9 : Hid (OwnB (v30.setCells pb 0 [.string K', .int .i64 se', .int .i64 tp', .slice ax n' cx]) bs ax n' f') := by
              rcases Nat.eq_zero_or_pos n' with h | h
              · exact .inl h
              · exact VW.out.one ho (NE.out h)
            replace H : Below bs v23 (v30.setCells pb 0 [.string K', .int .i64 se', .int .i64 tp', .slice ax n' cx]) := H.trans (ho.toBelow PB.out (by have h1 := H.size; have h2 := HS.out; omega))
            refine hK.out _ _ H (fun _ => ?_)
            clear hK KK ho PZ VW
            generalize (v30.setCells pb 0 [.string K', .int .i64 se', .int .i64 tp', .slice ax n' cx]) = v31 at *
            change wpAnyH _ _ _ _ _ _ _ { tmps := #[_, _, _, _, _, _, _, _, _, _, _, _, _, _, _, _, _, _, _, _, _, _, _, _, _, _, _, _, _, _, _, _, _, _, _, _, _, _, _, _, _, _, _, _, _, _, _, _, _, _, _, _, _, _, _, _, _, _, _, _, _, _, _, _, _, _, _, _, _, _, _, _, _, _, _, _, _, _, _, _, _, _, _, _, _, _, _, _, _, _, _, _, _, _, _, _, _, _, _, _, _, _, _, _, _, _, _, _, _], defers := _ } _
            refine wpAnyH_take (i := 9) (v := .int .i64 code) rfl (by kernel_rfl) (by kernel_rfl) (by kernel_rfl) (fun _ _ _ h => h) (Or.inl ⟨by rfl, ?_⟩) H ?_
            · intro w' hSw; go_simp
            change wpAnyH _ _ _ _ _ _ _ { tmps := #[_, _, _, _, _, _, _, _, _, _, _, _, _, _, _, _, _, _, _, _, _, _, _, _, _, _, _, _, _, _, _, _, _, _, _, _, _, _, _, _, _, _, _, _, _, _, _, _, _, _, _, _, _, _, _, _, _, _, _, _, _, _, _, _, _, _, _, _, _, _, _, _, _, _, _, _, _, _, _, _, _, _, _, _, _, _, _, _, _, _, _, _, _, _, _, _, _, _, _, _, _, _, _, _, _, _, _, _, _], defers := _ } _
            refine wpAnyH_done (by kernel_rfl) ?_ _
            refine NoPanic.normal ?_
            change Exit.then _ _ Exit.normal { tmps := #[_, _, _, _, _, _, _, _, _, _, _, _, _, _, _, _, _, _, _, _, _, _, _, _, _, _, _, _, _, _, _, _, _, _, _, _, _, _, _, _, _, _, _, _, _, _, _, _, _, _, _, _, _, _, _, _, _, _, _, _, _, _, _, _, _, _, _, _, _, _, _, _, _, _, _, _, _, _, _, _, _, _, _, _, _, _, _, _, _, _, _, _, _, _, _, _, _, _, _, _, _, _, _, _, _, _, _, _, _], defers := _ } _
            go_wp2_with fail
            go_meet
            exact ⟨pb, ax, cx, rfl, rfl, XN.out, V9.out, PB.out, NE.out, H⟩
        · skip
          go_simp
          have hb : Below v24.heap.size v24 (v24.alloc (.cells #[.string ⟨#[]⟩, .int .i64 0, .int .i64 0, .slice none 0 0] 29)) := (Below.refl _ _).alloc (Nat.le_refl _) _
          have PZ : Hid (Box4 (v24.alloc (.cells #[.string ⟨#[]⟩, .int .i64 0, .int .i64 0, .slice none 0 0] 29)) v24.heap.size 29 (.string ⟨#[]⟩) (.int .i64 0) (.int .i64 0) (.slice none 0 0)) := Box4.madeAt rfl _ _ _ _ _
          have PB : Hid (bs ≤ v24.heap.size) := by have h1 := H.size; have h2 := HS.out; show _ ≤ _; omega
          replace H : Below bs v23 (v24.alloc (.cells #[.string ⟨#[]⟩, .int .i64 0, .int .i64 0, .slice none 0 0] 29)) := H.trans (hb.mono PB.out)
          refine hK.out _ _ H (fun _ => ?_)
          clear hK KK
          change wpAnyH _ _ _ _ _ _ _ { tmps := #[_, _, _, _, _, _, _, _, _, _, _, _, _, _, _, _, _, _, _, _, _, _, _, _, _, _, _, _, _, _, _, _, _, _, _, _, _, _, _, _, _, _, _, _, _, _, _, _, _, _, _, _, _, _, _, _, _, _, _, _, _, _, _, _, _, _, _, _, _, _, _, _, _, _, _, _, _, _, _, _, _, _, _, _, _, _, _, _, _, _, _, _, _, _, _, _, _, _, _, _, _, _, _, _, _, _, _, _, _], defers := _ } _
          generalize (v24.alloc (.cells #[.string ⟨#[]⟩, .int .i64 0, .int .i64 0, .slice none 0 0] 29)) = v32 at *
          clear hb
          obtain ⟨pb, hpb⟩ : ∃ bx, bx = v24.heap.size := ⟨_, rfl⟩
          rw [← hpb] at PZ PB ⊢
          clear hpb
          refine wpAnyH_ready (rs := [2]) (by kernel_rfl) (by simp) ?_
          refine (AllReadyH.cons rfl (fun KK hK => ?_) AllReadyH.nil)
          go_simp
          refine (TP.out _).mono ?_
          rintro e v33 ⟨rfl, hb⟩
          replace PZ : Hid (Box4 v33 pb 29 (.string ⟨#[]⟩) (.int .i64 0) (.int .i64 0) (.slice none 0 0)) := PZ.out.below hb
          replace H : Below bs v23 v33 := H.trans (hb.mono (by have h1 := H.size; have h2 := HS.out; omega))
          clear hb 
          refine hK.out _ _ H (fun _ => ?_)
          clear hK KK
          change wpAnyH _ _ _ _ _ _ _ { tmps := #[_, _, _, _, _, _, _, _, _, _, _, _, _, _, _, _, _, _, _, _, _, _, _, _, _, _, _, _, _, _, _, _, _, _, _, _, _, _, _, _, _, _, _, _, _, _, _, _, _, _, _, _, _, _, _, _, _, _, _, _, _, _, _, _, _, _, _, _, _, _, _, _, _, _, _, _, _, _, _, _, _, _, _, _, _, _, _, _, _, _, _, _, _, _, _, _, _, _, _, _, _, _, _, _, _, _, _, _, _], defers := _ } _
          refine wpAnyH_ready (rs := [3]) (by kernel_rfl) (by simp) ?_
          refine (AllReadyH.cons rfl (fun KK hK => ?_) AllReadyH.nil)
          go_simp
          have PL : Hid (pb < v33.heap.size) := PZ.out.lt
          have SB : Hid (bs ≤ v33.heap.size) := by have h1 := H.size; have h2 := HS.out; show _ ≤ _; omega
          refine (IS.out gx n _ (OX.out.below (by rw [HS.out] at H; exact H)).bools (HT.out.below (A1.out.trans (Below.mono H (by have h1 := A1.out.size; have h2 := HS.out; omega))))).mono ?_
          rintro e v34 ⟨⟨ax, cx, rfl, ow⟩, hb⟩
          replace PZ : Hid (Box4 v34 pb 29 (.string ⟨#[]⟩) (.int .i64 0) (.int .i64 0) (.slice none 0 0)) := PZ.out.below hb
          have VW : Hid (OwnB v34 bs ax n' f') := ow.mono SB.out
          have NE : Hid (0 < n' → ∀ p, ax = some p → p.block ≠ pb) := fun h0 p hp e => by have h1 := ow.ge h0 p hp; have h2 := PL.out; omega
          replace H : Below bs v23 v34 := H.trans (hb.mono (by have h1 := H.size; have h2 := HS.out; omega))
          clear hb  SB ow PL
          refine hK.out _ _ H (fun _ => ?_)
          clear hK KK
          change wpAnyH _ _ _ _ _ _ _ { tmps := #[_, _, _, _, _, _, _, _, _, _, _, _, _, _, _, _, _, _, _, _, _, _, _, _, _, _, _, _, _, _, _, _, _, _, _, _, _, _, _, _, _, _, _, _, _, _, _, _, _, _, _, _, _, _, _, _, _, _, _, _, _, _, _, _, _, _, _, _, _, _, _, _, _, _, _, _, _, _, _, _, _, _, _, _, _, _, _, _, _, _, _, _, _, _, _, _, _, _, _, _, _, _, _, _, _, _, _, _, _], defers := _ } _
          refine wpAnyH_take (i := 4) (v := .tuple #[.agg #[.string K', .int .i64 se', .int .i64 tp', .slice ax n' cx], .int .i64 code]) rfl (by kernel_rfl) (by kernel_rfl) (by kernel_rfl) (fun _ _ _ h => h) (Or.inl ⟨by rfl, ?_⟩) H ?_
          · intro w' hSw; go_simp
          change wpAnyH _ _ _ _ _ _ _ { tmps := #[_, _, _, _, _, _, _, _, _, _, _, _, _, _, _, _, _, _, _, _, _, _, _, _, _, _, _, _, _, _, _, _, _, _, _, _, _, _, _, _, _, _, _, _, _, _, _, _, _, _, _, _, _, _, _, _, _, _, _, _, _, _, _, _, _, _, _, _, _, _, _, _, _, _, _, _, _, _, _, _, _, _, _, _, _, _, _, _, _, _, _, _, _, _, _, _, _, _, _, _, _, _, _, _, _, _, _, _, _], defers := _ } _
          refine wpAnyH_take (i := 5) (v := .agg #[.string K', .int .i64 se', .int .i64 tp', .slice ax n' cx]) rfl (by kernel_rfl) (by kernel_rfl) (by kernel_rfl) (fun _ _ _ h => h) (Or.inl ⟨by rfl, ?_⟩) H ?_
          · intro w' hSw; go_simp
          change wpAnyH _ _ _ _ _ _ _ { tmps := #[_, _, _, _, _, _, _, _, _, _, _, _, _, _, _, _, _, _, _, _, _, _, _, _, _, _, _, _, _, _, _, _, _, _, _, _, _, _, _, _, _, _, _, _, _, _, _, _, _, _, _, _, _, _, _, _, _, _, _, _, _, _, _, _, _, _, _, _, _, _, _, _, _, _, _, _, _, _, _, _, _, _, _, _, _, _, _, _, _, _, _, _, _, _, _, _, _, _, _, _, _, _, _, _, _, _, _, _, _], defers := _ } _
          refine wpAnyH_take (i := 6) (v := .int .i64 code) rfl (by kernel_rfl) (by kernel_rfl) (by kernel_rfl) (fun _ _ _ h => h) (Or.inl ⟨by rfl, ?_⟩) H ?_
          · intro w' hSw; go_simp
          change wpAnyH _ _ _ _ _ _ _ { tmps := #[_, _, _, _, _, _, _, _, _, _, _, _, _, _, _, _, _, _, _, _, _, _, _, _, _, _, _, _, _, _, _, _, _, _, _, _, _, _, _, _, _, _, _, _, _, _, _, _, _, _, _, _, _, _, _, _, _, _, _, _, _, _, _, _, _, _, _, _, _, _, _, _, _, _, _, _, _, _, _, _, _, _, _, _, _, _, _, _, _, _, _, _, _, _, _, _, _, _, _, _, _, _, _, _, _, _, _, _, _], defers := _ } _
          refine wpAnyH_ready (rs := [8]) (by kernel_rfl) (by simp) ?_
          refine AllReadyH.cons rfl (fun KK hK => ?_) AllReadyH.nil
          rw [if_pos (by rfl)]
          refine wp_store_mid 29 (.tmp 9) (.tmp 41) rfl pb 0 #[.string K', .int .i64 se', .int .i64 tp', .slice ax n' cx] rfl rfl PZ.out.there Tryd.sizeLk (one4L _ _ _ _ _ _) ?_
          have ho : OnlyB pb v34 (v34.setCells pb 0 [.string K', .int .i64 se', .int .i64 tp', .slice ax n' cx]) := OnlyB.stored4L _ _ _ _ _ _
          have XN : Hid (Box4 (v34.setCells pb 0 [.string K', .int .i64 se', .int .i64 tp', .slice ax n' cx]) pb 29 (.string K') (.int .i64 se') (.int .i64 tp') (.slice ax n' cx)) := PZ.out.stored _ _ _ _
          have V9 : Hid (OwnB (v34.setCells pb 0 [.string K', .int .i64 se', .int .i64 tp', .slice ax n' cx]) bs ax n' f') := by
            rcases Nat.eq_zero_or_pos n' with h | h
            · exact .inl h
            · exact VW.out.one ho (NE.out h)
          replace H : Below bs v23 (v34.setCells pb 0 [.string K', .int .i64 se', .int .i64 tp', .slice ax n' cx]) := H.trans (ho.toBelow PB.out (by have h1 := H.size; have h2 := HS.out; omega))
          refine hK.out _ _ H (fun _ => ?_)
          clear hK KK ho PZ VW
          generalize (v34.setCells pb 0 [.string K', .int .i64 se', .int .i64 tp', .slice ax n' cx]) = v35 at *
          change wpAnyH _ _ _ _ _ _ _ { tmps := #[_, _, _, _, _, _, _, _, _, _, _, _, _, _, _, _, _, _, _, _, _, _, _, _, _, _, _, _, _, _, _, _, _, _, _, _, _, _, _, _, _, _, _, _, _, _, _, _, _, _, _, _, _, _, _, _, _, _, _, _, _, _, _, _, _, _, _, _, _, _, _, _, _, _, _, _, _, _, _, _, _, _, _, _, _, _, _, _, _, _, _, _, _, _, _, _, _, _, _, _, _, _, _, _, _, _, _, _, _], defers := _ } _
          refine wpAnyH_take (i := 9) (v := .int .i64 code) rfl (by kernel_rfl) (by kernel_rfl) (by kernel_rfl) (fun _ _ _ h => h) (Or.inl ⟨by rfl, ?_⟩) H ?_
          · intro w' hSw; go_simp
          change wpAnyH _ _ _ _ _ _ _ { tmps := #[_, _, _, _, _, _, _, _, _, _, _, _, _, _, _, _, _, _, _, _, _, _, _, _, _, _, _, _, _, _, _, _, _, _, _, _, _, _, _, _, _, _, _, _, _, _, _, _, _, _, _, _, _, _, _, _, _, _, _, _, _, _, _, _, _, _, _, _, _, _, _, _, _, _, _, _, _, _, _, _, _, _, _, _, _, _, _, _, _, _, _, _, _, _, _, _, _, _, _, _, _, _, _, _, _, _, _, _, _], defers := _ } _
          refine wpAnyH_done (by kernel_rfl) ?_ _
          refine NoPanic.normal ?_
          change Exit.then _ _ Exit.normal { tmps := #[_, _, _, _, _, _, _, _, _, _, _, _, _, _, _, _, _, _, _, _, _, _, _, _, _, _, _, _, _, _, _, _, _, _, _, _, _, _, _, _, _, _, _, _, _, _, _, _, _, _, _, _, _, _, _, _, _, _, _, _, _, _, _, _, _, _, _, _, _, _, _, _, _, _, _, _, _, _, _, _, _, _, _, _, _, _, _, _, _, _, _, _, _, _, _, _, _, _, _, _, _, _, _, _, _, _, _, _, _], defers := _ } _
          go_wp2_with fail
          go_meet
          exact ⟨pb, ax, cx, rfl, rfl, XN.out, V9.out, PB.out, NE.out, H⟩
      case rest =>
      obtain ⟨b9, agx, cg, rfl, rfl, xn, ow, bge, ne, hb⟩ := hcut
      have eb : bs = b20 := by rw [hbs, hb20]
      rw [hbs] at hb
      replace A1 : Hid (Below w.heap.size w wc) := A1.out.trans (hb.mono A1.out.size)
      replace RA : Hid (Box4 wc w.heap.size 27 (.string K) (.int .i64 se) (.int .i64 tp) (.slice a n c)) := RA.out.below hb
      replace RP : Hid (BoxP wc (w.heap.size + 1) 39 (.int .i64 q) (.string B) (.string T)) := RP.out.below hb
      replace HB : Hid (Bools wc a n f) := HB.out.below hb
      replace XW : Hid (Bools wc aw n' f') := XW.out.below hb
      replace PW : Hid (Box4 wc b6 29 (.string K') (.int .i64 se') (.int .i64 tp') (.slice aw n' cw)) := PW.out.below hb
      replace OX : Hid (OwnB wc bs1 (some ⟨gx, 0, none⟩) n f) := OX.out.below hb
      replace S1 : Hid (bs1 ≤ (wc).heap.size) := Nat.le_trans S1.out hb.size
      replace PX : Hid (Box4 wc bx 29 (.string K) (.int .i64 se) (.int .i64 tp) (.slice (some ⟨gx, 0, none⟩) n n)) := PX.out.below hb
      have bsz : bs ≤ wc.heap.size := by rw [hbs]; exact hb.size
      clear hb hbs
      rw [eb] at ow bge bsz
      have OG : Hid (OwnB wc b20 agx n' f') := ow
      have GB : Hid (b20 ≤ b9) := bge
      have NG : Hid (0 < n' → ∀ p, agx = some p → p.block ≠ b9) := ne
      have S2 : Hid (b20 ≤ wc.heap.size) := bsz
      have PG : Hid (Box4 wc b9 29 (.string K') (.int .i64 se') (.int .i64 tp') (.slice agx n' cg)) := xn
      clear xn ow bge ne bsz eb hb20 bs
      have t0 := PG.out.c0
      have t1 := PG.out.c1
      have t2 := PG.out.c2
      have t3 := PG.out.c3
      have u0 := PW.out.c0
      have u1 := PW.out.c1
      have u2 := PW.out.c2
      have u3 := PW.out.c3
      go_wp2_with fail
      clear t0 t1 t2 t3 u0 u1 u2 u3
      refine (eqLink_yes K' se' tp' agx aw n' cg cw f' (by have := HN.out; omega) _ OG.out.bools XW.out).mono ?_
      rintro e v36 ⟨rfl, hb⟩
      replace A1 : Hid (Below w.heap.size w v36) := A1.out.trans (hb.mono A1.out.size)
      replace RA : Hid (Box4 v36 w.heap.size 27 (.string K) (.int .i64 se) (.int .i64 tp) (.slice a n c)) := RA.out.below hb
      replace RP : Hid (BoxP v36 (w.heap.size + 1) 39 (.int .i64 q) (.string B) (.string T)) := RP.out.below hb
      replace HB : Hid (Bools v36 a n f) := HB.out.below hb
      replace XW : Hid (Bools v36 aw n' f') := XW.out.below hb
      replace PW : Hid (Box4 v36 b6 29 (.string K') (.int .i64 se') (.int .i64 tp') (.slice aw n' cw)) := PW.out.below hb
      replace OX : Hid (OwnB v36 bs1 (some ⟨gx, 0, none⟩) n f) := OX.out.below hb
      replace S1 : Hid (bs1 ≤ (v36).heap.size) := Nat.le_trans S1.out hb.size
      replace PX : Hid (Box4 v36 bx 29 (.string K) (.int .i64 se) (.int .i64 tp) (.slice (some ⟨gx, 0, none⟩) n n)) := PX.out.below hb
      replace OG : Hid (OwnB v36 b20 agx n' f') := OG.out.below hb
      replace PG : Hid (Box4 v36 b9 29 (.string K') (.int .i64 se') (.int .i64 tp') (.slice agx n' cg)) := PG.out.below hb
      replace S2 : Hid (b20 ≤ (v36).heap.size) := Nat.le_trans S2.out hb.size
      clear hb 
      go_wp2_with fail
      have hb : Below v36.heap.size v36 v36.drew := (Below.refl _ _).drew
      have H : (Box4 v36.drew w.heap.size 27 (.string K) (.int .i64 se) (.int .i64 tp) (.slice a n c)) ∧ (Box4 v36.drew bx 29 (.string K) (.int .i64 se) (.int .i64 tp) (.slice (some ⟨gx, 0, none⟩) n n)) := ⟨RA.out.below hb, PX.out.below hb⟩
      replace A1 : Hid (Below w.heap.size w v36.drew) := A1.out.trans (hb.mono A1.out.size)
      replace RP : Hid (BoxP v36.drew (w.heap.size + 1) 39 (.int .i64 q) (.string B) (.string T)) := RP.out.below hb
      replace HB : Hid (Bools v36.drew a n f) := HB.out.below hb
      replace XW : Hid (Bools v36.drew aw n' f') := XW.out.below hb
      replace PW : Hid (Box4 v36.drew b6 29 (.string K') (.int .i64 se') (.int .i64 tp') (.slice aw n' cw)) := PW.out.below hb
      replace OX : Hid (OwnB v36.drew bs1 (some ⟨gx, 0, none⟩) n f) := OX.out.below hb
      replace S1 : Hid (bs1 ≤ (v36.drew).heap.size) := Nat.le_trans S1.out hb.size
      replace OG : Hid (OwnB v36.drew b20 agx n' f') := OG.out.below hb
      replace PG : Hid (Box4 v36.drew b9 29 (.string K') (.int .i64 se') (.int .i64 tp') (.slice agx n' cg)) := PG.out.below hb
      replace S2 : Hid (b20 ≤ (v36.drew).heap.size) := Nat.le_trans S2.out hb.size
      clear hb RA PX
      refine wp_region_noPanic ?_
      refine wp_region_held_drew (S := fun w' => (Box4 w' w.heap.size 27 (.string K) (.int .i64 se) (.int .i64 tp) (.slice a n c)) ∧ (Box4 w' bx 29 (.string K) (.int .i64 se) (.int .i64 tp) (.slice (some ⟨gx, 0, none⟩) n n))) (by kernel_rfl) H (fun _ => ?_)
      generalize v36.drew = v37 at *
      refine wpAnyH_take (i := 0) (v := .agg #[.string K, .int .i64 se, .int .i64 tp, .slice (some ⟨gx, 0, none⟩) n n]) rfl (by kernel_rfl) (by kernel_rfl) (by kernel_rfl) (fun _ _ _ h => h) (Or.inl ⟨by rfl, ?_⟩) H ?_
      · intro w' hSw; have t0 := hSw.2.c0; have t1 := hSw.2.c1; have t2 := hSw.2.c2; have t3 := hSw.2.c3; clear hSw; go_simp
      change wpAnyH _ _ _ _ _ _ _ { tmps := #[_, _, _, _, _, _, _, _, _, _, _, _, _, _, _, _, _, _, _, _, _, _, _, _, _, _, _, _, _, _, _, _, _, _, _, _, _, _, _, _, _, _, _, _, _, _, _, _, _, _, _, _, _, _, _, _, _, _, _, _, _, _, _, _, _, _, _, _, _, _, _, _, _, _, _, _, _, _, _, _, _, _, _, _, _, _, _, _, _, _, _, _, _, _, _, _, _, _, _, _, _, _, _, _, _, _, _, _, _], defers := _ } _
      refine wpAnyH_take (i := 1) (v := .agg #[.string K, .int .i64 se, .int .i64 tp, .slice a n c]) rfl (by kernel_rfl) (by kernel_rfl) (by kernel_rfl) (fun _ _ _ h => h) (Or.inl ⟨by rfl, ?_⟩) H ?_
      · intro w' hSw; have t0 := hSw.1.c0; have t1 := hSw.1.c1; have t2 := hSw.1.c2; have t3 := hSw.1.c3; clear hSw; go_simp
      change wpAnyH _ _ _ _ _ _ _ { tmps := #[_, _, _, _, _, _, _, _, _, _, _, _, _, _, _, _, _, _, _, _, _, _, _, _, _, _, _, _, _, _, _, _, _, _, _, _, _, _, _, _, _, _, _, _, _, _, _, _, _, _, _, _, _, _, _, _, _, _, _, _, _, _, _, _, _, _, _, _, _, _, _, _, _, _, _, _, _, _, _, _, _, _, _, _, _, _, _, _, _, _, _, _, _, _, _, _, _, _, _, _, _, _, _, _, _, _, _, _, _], defers := _ } _
      refine wpAnyH_ready (rs := [2]) (by kernel_rfl) (by simp) ?_
      refine AllReadyH.cons rfl (fun KK hK => ?_) AllReadyH.nil
      go_simp
      refine (TL.out _ HB.out).mono ?_
      rintro e v38 ⟨⟨g2, hg2, rfl, hr2⟩, hb⟩
      replace A1 : Hid (Below w.heap.size w v38) := A1.out.trans (hb.mono A1.out.size)
      replace RP : Hid (BoxP v38 (w.heap.size + 1) 39 (.int .i64 q) (.string B) (.string T)) := RP.out.below hb
      replace HB : Hid (Bools v38 a n f) := HB.out.below hb
      replace XW : Hid (Bools v38 aw n' f') := XW.out.below hb
      replace PW : Hid (Box4 v38 b6 29 (.string K') (.int .i64 se') (.int .i64 tp') (.slice aw n' cw)) := PW.out.below hb
      replace OX : Hid (OwnB v38 bs1 (some ⟨gx, 0, none⟩) n f) := OX.out.below hb
      replace S1 : Hid (bs1 ≤ (v38).heap.size) := Nat.le_trans S1.out hb.size
      replace OG : Hid (OwnB v38 b20 agx n' f') := OG.out.below hb
      replace PG : Hid (Box4 v38 b9 29 (.string K') (.int .i64 se') (.int .i64 tp') (.slice agx n' cg)) := PG.out.below hb
      replace S2 : Hid (b20 ≤ (v38).heap.size) := Nat.le_trans S2.out hb.size
      replace H : (Box4 v38 w.heap.size 27 (.string K) (.int .i64 se) (.int .i64 tp) (.slice a n c)) ∧ (Box4 v38 bx 29 (.string K) (.int .i64 se) (.int .i64 tp) (.slice (some ⟨gx, 0, none⟩) n n)) := ⟨H.1.below hb, H.2.below hb⟩
      have X2 : Hid (Bools v38 (some ⟨g2, 0, none⟩) n f) := Bools.ofRow hr2
      clear hb hr2 hg2
      refine hK.out _ _ H (fun _ => ?_)
      clear hK KK
      change wpAnyH _ _ _ _ _ _ _ { tmps := #[_, _, _, _, _, _, _, _, _, _, _, _, _, _, _, _, _, _, _, _, _, _, _, _, _, _, _, _, _, _, _, _, _, _, _, _, _, _, _, _, _, _, _, _, _, _, _, _, _, _, _, _, _, _, _, _, _, _, _, _, _, _, _, _, _, _, _, _, _, _, _, _, _, _, _, _, _, _, _, _, _, _, _, _, _, _, _, _, _, _, _, _, _, _, _, _, _, _, _, _, _, _, _, _, _, _, _, _, _], defers := _ } _
      refine wpAnyH_ready (rs := [3]) (by kernel_rfl) (by simp) ?_
      refine AllReadyH.cons rfl (fun KK hK => ?_) AllReadyH.nil
      go_simp
      refine (eqLink_yes K se tp (some ⟨gx, 0, none⟩) (some ⟨g2, 0, none⟩) n n n f h0'.out _ OX.out.bools X2.out).mono ?_
      rintro e v39 ⟨rfl, hb⟩
      replace A1 : Hid (Below w.heap.size w v39) := A1.out.trans (hb.mono A1.out.size)
      replace RP : Hid (BoxP v39 (w.heap.size + 1) 39 (.int .i64 q) (.string B) (.string T)) := RP.out.below hb
      replace HB : Hid (Bools v39 a n f) := HB.out.below hb
      replace XW : Hid (Bools v39 aw n' f') := XW.out.below hb
      replace PW : Hid (Box4 v39 b6 29 (.string K') (.int .i64 se') (.int .i64 tp') (.slice aw n' cw)) := PW.out.below hb
      replace OX : Hid (OwnB v39 bs1 (some ⟨gx, 0, none⟩) n f) := OX.out.below hb
      replace S1 : Hid (bs1 ≤ (v39).heap.size) := Nat.le_trans S1.out hb.size
      replace OG : Hid (OwnB v39 b20 agx n' f') := OG.out.below hb
      replace PG : Hid (Box4 v39 b9 29 (.string K') (.int .i64 se') (.int .i64 tp') (.slice agx n' cg)) := PG.out.below hb
      replace S2 : Hid (b20 ≤ (v39).heap.size) := Nat.le_trans S2.out hb.size
      replace X2 : Hid (Bools v39 (some ⟨g2, 0, none⟩) n f) := X2.out.below hb
      replace H : (Box4 v39 w.heap.size 27 (.string K) (.int .i64 se) (.int .i64 tp) (.slice a n c)) ∧ (Box4 v39 bx 29 (.string K) (.int .i64 se) (.int .i64 tp) (.slice (some ⟨gx, 0, none⟩) n n)) := ⟨H.1.below hb, H.2.below hb⟩
      clear hb 
      refine hK.out _ _ H (fun _ => ?_)
      clear hK KK
      change wpAnyH _ _ _ _ _ _ _ { tmps := #[_, _, _, _, _, _, _, _, _, _, _, _, _, _, _, _, _, _, _, _, _, _, _, _, _, _, _, _, _, _, _, _, _, _, _, _, _, _, _, _, _, _, _, _, _, _, _, _, _, _, _, _, _, _, _, _, _, _, _, _, _, _, _, _, _, _, _, _, _, _, _, _, _, _, _, _, _, _, _, _, _, _, _, _, _, _, _, _, _, _, _, _, _, _, _, _, _, _, _, _, _, _, _, _, _, _, _, _, _], defers := _ } _
      refine wpAnyH_take (i := 4) (v := .bool false) rfl (by kernel_rfl) (by kernel_rfl) (by kernel_rfl) (fun _ _ _ h => h) (Or.inl ⟨by rfl, ?_⟩) H ?_
      · intro w' hSw; go_simp
      change wpAnyH _ _ _ _ _ _ _ { tmps := #[_, _, _, _, _, _, _, _, _, _, _, _, _, _, _, _, _, _, _, _, _, _, _, _, _, _, _, _, _, _, _, _, _, _, _, _, _, _, _, _, _, _, _, _, _, _, _, _, _, _, _, _, _, _, _, _, _, _, _, _, _, _, _, _, _, _, _, _, _, _, _, _, _, _, _, _, _, _, _, _, _, _, _, _, _, _, _, _, _, _, _, _, _, _, _, _, _, _, _, _, _, _, _, _, _, _, _, _, _], defers := _ } _
      have RA : Hid (Box4 v39 w.heap.size 27 (.string K) (.int .i64 se) (.int .i64 tp) (.slice a n c)) := H.1
      have PX : Hid (Box4 v39 bx 29 (.string K) (.int .i64 se) (.int .i64 tp) (.slice (some ⟨gx, 0, none⟩) n n)) := H.2
      clear H
      refine wpAnyH_done (by kernel_rfl) ?_ _
      refine NoPanic.normal ?_
      clear X2
      have t0 := PX.out.c0
      have t1 := PX.out.c1
      have t2 := PX.out.c2
      have t3 := PX.out.c3
      go_wp2_with fail
      clear t0 t1 t2 t3
      refine (markLink_own (.string K) (.int .i64 se) (.int .i64 tp) (some ⟨gx, 0, none⟩) n n bs1 f h0'.out _ OX.out).mono ?_
      rintro e v40 ⟨rfl, om, hO⟩
      have GE := OX.out.ge
      have BB : Below bs1 v39 v40 := hO.toBelow GE S1.out
      replace A1 : Hid (Below w.heap.size w v40) := A1.out.trans (BB.mono (by have := WB.out; omega))
      replace RP : Hid (BoxP v40 (w.heap.size + 1) 39 (.int .i64 q) (.string B) (.string T)) := hO.keepP RP.out (fun h0 p hp e => by cases hp; have h1 := WB.out; have h2 := GX.out; have h3 := LX2.out; have h4 := S12.out; have e' : gx = _ := e; omega)
      replace HB : Hid (Bools v40 a n f) := HB.out.onlyA2 hO (fun h0 _ x y hx hy e => by cases hy; have h1 := LA.out h0 x hx; have h2 := GX.out; have h3 := WB.out; have e' : gx = _ := e; omega)
      replace XW : Hid (Bools v40 aw n' f') := XW.out.onlyA2 hO (fun h0 _ x y hx hy e => by cases hy; have h1 := LW.out h0 x hx; have h2 := GX.out; have e' : gx = _ := e; omega)
      replace PW : Hid (Box4 v40 b6 29 (.string K') (.int .i64 se') (.int .i64 tp') (.slice aw n' cw)) := hO.keep4 PW.out (fun h0 p hp e => by cases hp; have h1 := P6.out; have h2 := GX.out; have h3 := LX2.out; have h4 := S12.out; have e' : gx = _ := e; omega)
      replace S1 : Hid (bs1 ≤ (v40).heap.size) := Nat.le_trans S1.out hO.size
      replace OG : Hid (OwnB v40 b20 agx n' f') := OG.out.onlyA hO (fun h0 _ x y hx hy e => by cases hy; have h1 := OG.out.ge h0 x hx; have h2 := LX2.out; have e' : gx = _ := e; omega)
      replace PG : Hid (Box4 v40 b9 29 (.string K') (.int .i64 se') (.int .i64 tp') (.slice agx n' cg)) := hO.keep4 PG.out (fun h0 p hp e => by cases hp; have h1 := GB.out; have h2 := GX.out; have h3 := LX2.out; have h4 := S12.out; have e' : gx = _ := e; omega)
      replace S2 : Hid (b20 ≤ (v40).heap.size) := Nat.le_trans S2.out hO.size
      replace RA : Hid (Box4 v40 w.heap.size 27 (.string K) (.int .i64 se) (.int .i64 tp) (.slice a n c)) := hO.keep4 RA.out (fun h0 p hp e => by cases hp; have h1 := WB.out; have h2 := GX.out; have h3 := LX2.out; have h4 := S12.out; have e' : gx = _ := e; omega)
      clear om hO BB GE PX OX
      generalize ((1 + n : Nat) : Int) = NX at *
      have t0 := PG.out.c0
      have t1 := PG.out.c1
      have t2 := PG.out.c2
      have t3 := PG.out.c3
      have u0 := PW.out.c0
      have u1 := PW.out.c1
      have u2 := PW.out.c2
      have u3 := PW.out.c3
      go_wp2_with fail
      clear t0 t1 t2 t3 u0 u1 u2 u3
      refine (eqLink_yes K' se' tp' agx aw n' cg cw f' (by have := HN.out; omega) _ OG.out.bools XW.out).mono ?_
      rintro e v41 ⟨rfl, hb⟩
      replace A1 : Hid (Below w.heap.size w v41) := A1.out.trans (hb.mono A1.out.size)
      replace RP : Hid (BoxP v41 (w.heap.size + 1) 39 (.int .i64 q) (.string B) (.string T)) := RP.out.below hb
      replace HB : Hid (Bools v41 a n f) := HB.out.below hb
      replace XW : Hid (Bools v41 aw n' f') := XW.out.below hb
      replace PW : Hid (Box4 v41 b6 29 (.string K') (.int .i64 se') (.int .i64 tp') (.slice aw n' cw)) := PW.out.below hb
      replace S1 : Hid (bs1 ≤ (v41).heap.size) := Nat.le_trans S1.out hb.size
      replace OG : Hid (OwnB v41 b20 agx n' f') := OG.out.below hb
      replace PG : Hid (Box4 v41 b9 29 (.string K') (.int .i64 se') (.int .i64 tp') (.slice agx n' cg)) := PG.out.below hb
      replace S2 : Hid (b20 ≤ (v41).heap.size) := Nat.le_trans S2.out hb.size
      replace RA : Hid (Box4 v41 w.heap.size 27 (.string K) (.int .i64 se) (.int .i64 tp) (.slice a n c)) := RA.out.below hb
      clear hb 
      have t0 := PG.out.c0
      have t1 := PG.out.c1
      have t2 := PG.out.c2
      have t3 := PG.out.c3
      go_wp2_with fail
      clear t0 t1 t2 t3
      refine (markLink_own (.string K') (.int .i64 se') (.int .i64 tp') agx n' cg b20 f' (by have := HN.out; omega) _ OG.out).mono ?_
      rintro e v42 ⟨rfl, om, hO⟩
      have GE := OG.out.ge
      have BB : Below b20 v41 v42 := hO.toBelow GE S2.out
      replace A1 : Hid (Below w.heap.size w v42) := A1.out.trans (BB.mono (by have := WB.out; have := S12.out; omega))
      replace RP : Hid (BoxP v42 (w.heap.size + 1) 39 (.int .i64 q) (.string B) (.string T)) := hO.keepP RP.out (fun h0 p hp e => by have h0' := GE h0 p hp; have h1 := WB.out; have h2 := S12.out; omega)
      replace HB : Hid (Bools v42 a n f) := HB.out.onlyA2 hO (fun h0 h0x x y hx hy e => by have h1 := LA.out h0 x hx; have h2 := GE h0x y hy; have h3 := WB.out; have h4 := S12.out; omega)
      replace XW : Hid (Bools v42 aw n' f') := XW.out.onlyA2 hO (fun h0 h0x x y hx hy e => by have h1 := LW.out h0 x hx; have h2 := GE h0x y hy; have h4 := S12.out; omega)
      replace PW : Hid (Box4 v42 b6 29 (.string K') (.int .i64 se') (.int .i64 tp') (.slice aw n' cw)) := hO.keep4 PW.out (fun h0 p hp e => by have h0' := GE h0 p hp; have h1 := P6.out; have h2 := S12.out; omega)
      replace S1 : Hid (bs1 ≤ (v42).heap.size) := Nat.le_trans S1.out hO.size
      replace PG : Hid (Box4 v42 b9 29 (.string K') (.int .i64 se') (.int .i64 tp') (.slice agx n' cg)) := hO.keep4 PG.out NG.out
      replace S2 : Hid (b20 ≤ (v42).heap.size) := Nat.le_trans S2.out hO.size
      replace RA : Hid (Box4 v42 w.heap.size 27 (.string K) (.int .i64 se) (.int .i64 tp) (.slice a n c)) := hO.keep4 RA.out (fun h0 p hp e => by have h0' := GE h0 p hp; have h1 := WB.out; have h2 := S12.out; omega)
      have OM : Hid (Bools v42 agx n' (fun i => mb (1 + i))) := om.bools
      clear om hO BB GE OG
      generalize hNN : ((1 + n' : Nat) : Int) = NN at *
      have HE : Hid (∀ w : World, Bools w agx n' (fun i => mb (1 + i)) → Calls Tryd.prog 15 #[.agg #[.string K', .int .i64 se', .int .i64 tp', .slice agx n' cg], .int .i64 1] w fun e w' => e = .returned (.int .i64 NN) ∧ Below w.heap.size w w') := fun w h => by rw [← hNN]; exact heldLink_yes (.string K') (.int .i64 se') (.int .i64 tp') agx n' cg (by have := HN.out; omega) w h
      clear hNN
      have t0 := PG.out.c0
      have t1 := PG.out.c1
      have t2 := PG.out.c2
      have t3 := PG.out.c3
      go_wp2_with fail
      clear t0 t1 t2 t3
      refine (HE.out _ OM.out).mono ?_
      rintro e v43 ⟨rfl, hb⟩
      replace A1 : Hid (Below w.heap.size w v43) := A1.out.trans (hb.mono A1.out.size)
      replace RP : Hid (BoxP v43 (w.heap.size + 1) 39 (.int .i64 q) (.string B) (.string T)) := RP.out.below hb
      replace HB : Hid (Bools v43 a n f) := HB.out.below hb
      replace XW : Hid (Bools v43 aw n' f') := XW.out.below hb
      replace PW : Hid (Box4 v43 b6 29 (.string K') (.int .i64 se') (.int .i64 tp') (.slice aw n' cw)) := PW.out.below hb
      replace S1 : Hid (bs1 ≤ (v43).heap.size) := Nat.le_trans S1.out hb.size
      replace PG : Hid (Box4 v43 b9 29 (.string K') (.int .i64 se') (.int .i64 tp') (.slice agx n' cg)) := PG.out.below hb
      replace S2 : Hid (b20 ≤ (v43).heap.size) := Nat.le_trans S2.out hb.size
      replace RA : Hid (Box4 v43 w.heap.size 27 (.string K) (.int .i64 se) (.int .i64 tp) (.slice a n c)) := RA.out.below hb
      replace OM : Hid (Bools v43 agx n' (fun i => mb (1 + i))) := OM.out.below hb
      clear hb 
      go_wp2_with fail
      obtain ⟨bs, hbs⟩ : ∃ x, x = v43.heap.size := ⟨_, rfl⟩
      go_cut [14, 15] (fun p cd wx => ∃ (pb : Nat) (ax : Option Addr) (cx : Nat), p = .pointer (some ⟨pb, 0, none⟩) ∧ cd = .int .i64 code ∧ Box4 wx pb 29 (.string K') (.int .i64 se') (.int .i64 tp') (.slice ax n' cx) ∧ OwnB wx bs ax n' f' ∧ bs ≤ pb ∧ (0 < n' → ∀ p, ax = some p → p.block ≠ pb) ∧ Below bs v43 wx)
      case first =>
        have H : Below bs v43 v43.drew := by rw [hbs]; exact (Below.refl _ _).drew
        refine wp_region_noPanic ?_
        refine wp_region_held_drew (S := fun w' => Below bs v43 w') (by kernel_rfl) H (fun _ => ?_)
        generalize v43.drew = v44 at *
        have HS : Hid (bs = v43.heap.size) := hbs
        clear hbs
        refine wpAnyH_take (i := 0) (v := .agg #[.string K, .int .i64 se, .int .i64 tp, .slice a n c]) rfl (by kernel_rfl) (by kernel_rfl) (by kernel_rfl) (fun _ _ _ h => h) (Or.inl ⟨by rfl, ?_⟩) H ?_
        · intro w' hSw; rw [HS.out] at hSw; have t0 := (RA.out.below hSw).c0; have t1 := (RA.out.below hSw).c1; have t2 := (RA.out.below hSw).c2; have t3 := (RA.out.below hSw).c3; clear hSw; go_simp
        change wpAnyH _ _ _ _ _ _ _ { tmps := #[_, _, _, _, _, _, _, _, _, _, _, _, _, _, _, _, _, _, _, _, _, _, _, _, _, _, _, _, _, _, _, _, _, _, _, _, _, _, _, _, _, _, _, _, _, _, _, _, _, _, _, _, _, _, _, _, _, _, _, _, _, _, _, _, _, _, _, _, _, _, _, _, _, _, _, _, _, _, _, _, _, _, _, _, _, _, _, _, _, _, _, _, _, _, _, _, _, _, _, _, _, _, _, _, _, _, _, _, _], defers := _ } _
        refine wpAnyH_take (i := 2) (v := .agg #[.int .i64 q, .string B, .string T]) rfl (by kernel_rfl) (by kernel_rfl) (by kernel_rfl) (fun _ _ _ h => h) (Or.inl ⟨by rfl, ?_⟩) H ?_
        · intro w' hSw; rw [HS.out] at hSw; have t0 := (RP.out.below hSw).c0; have t1 := (RP.out.below hSw).c1; have t2 := (RP.out.below hSw).c2; clear hSw; go_simp
        change wpAnyH _ _ _ _ _ _ _ { tmps := #[_, _, _, _, _, _, _, _, _, _, _, _, _, _, _, _, _, _, _, _, _, _, _, _, _, _, _, _, _, _, _, _, _, _, _, _, _, _, _, _, _, _, _, _, _, _, _, _, _, _, _, _, _, _, _, _, _, _, _, _, _, _, _, _, _, _, _, _, _, _, _, _, _, _, _, _, _, _, _, _, _, _, _, _, _, _, _, _, _, _, _, _, _, _, _, _, _, _, _, _, _, _, _, _, _, _, _, _, _], defers := _ } _
        refine wpAnyH_ready (rs := [1, 8]) (by kernel_rfl) (by simp) ?_
        refine (AllReadyH.cons rfl (fun KK hK => ?_) (AllReadyH.cons rfl (fun KK hK => ?_) AllReadyH.nil))
        · skip
          go_simp
          refine (TL.out _ (HB.out.below (by rw [HS.out] at H; exact H))).mono ?_
          rintro e v45 ⟨⟨g0, hg0, rfl, hr0⟩, hb⟩
          have X0 : Hid (Bools v45 (some ⟨g0, 0, none⟩) n f) := Bools.ofRow hr0
          replace H : Below bs v43 v45 := H.trans (hb.mono (by have h1 := H.size; have h2 := HS.out; omega))
          clear hb hr0 hg0
          refine hK.out _ _ H (fun _ => ?_)
          clear hK KK
          change wpAnyH _ _ _ _ _ _ _ { tmps := #[_, _, _, _, _, _, _, _, _, _, _, _, _, _, _, _, _, _, _, _, _, _, _, _, _, _, _, _, _, _, _, _, _, _, _, _, _, _, _, _, _, _, _, _, _, _, _, _, _, _, _, _, _, _, _, _, _, _, _, _, _, _, _, _, _, _, _, _, _, _, _, _, _, _, _, _, _, _, _, _, _, _, _, _, _, _, _, _, _, _, _, _, _, _, _, _, _, _, _, _, _, _, _, _, _, _, _, _, _], defers := _ } _
          refine wpAnyH_ready (rs := [3, 8]) (by kernel_rfl) (by simp) ?_
          refine (AllReadyH.cons rfl (fun KK hK => ?_) (AllReadyH.cons rfl (fun KK hK => ?_) AllReadyH.nil))
          · skip
            go_simp
            refine (TP.out _).mono ?_
            rintro e v46 ⟨rfl, hb⟩
            replace X0 : Hid (Bools v46 (some ⟨g0, 0, none⟩) n f) := X0.out.below hb
            replace H : Below bs v43 v46 := H.trans (hb.mono (by have h1 := H.size; have h2 := HS.out; omega))
            clear hb 
            refine hK.out _ _ H (fun _ => ?_)
            clear hK KK
            change wpAnyH _ _ _ _ _ _ _ { tmps := #[_, _, _, _, _, _, _, _, _, _, _, _, _, _, _, _, _, _, _, _, _, _, _, _, _, _, _, _, _, _, _, _, _, _, _, _, _, _, _, _, _, _, _, _, _, _, _, _, _, _, _, _, _, _, _, _, _, _, _, _, _, _, _, _, _, _, _, _, _, _, _, _, _, _, _, _, _, _, _, _, _, _, _, _, _, _, _, _, _, _, _, _, _, _, _, _, _, _, _, _, _, _, _, _, _, _, _, _, _], defers := _ } _
            refine wpAnyH_ready (rs := [4, 8]) (by kernel_rfl) (by simp) ?_
            refine (AllReadyH.cons rfl (fun KK hK => ?_) (AllReadyH.cons rfl (fun KK hK => ?_) AllReadyH.nil))
            · skip
              go_simp
              have SB : Hid (bs ≤ v46.heap.size) := by have h1 := H.size; have h2 := HS.out; show _ ≤ _; omega
              refine (IS.out g0 n _ X0.out (HT.out.below (A1.out.trans (Below.mono H (by have h1 := A1.out.size; have h2 := HS.out; omega))))).mono ?_
              rintro e v47 ⟨⟨ax, cx, rfl, ow⟩, hb⟩
              replace X0 : Hid (Bools v47 (some ⟨g0, 0, none⟩) n f) := X0.out.below hb
              have VW : Hid (OwnB v47 bs ax n' f') := ow.mono SB.out
              replace H : Below bs v43 v47 := H.trans (hb.mono (by have h1 := H.size; have h2 := HS.out; omega))
              clear hb  SB ow
              refine hK.out _ _ H (fun _ => ?_)
              clear hK KK
              change wpAnyH _ _ _ _ _ _ _ { tmps := #[_, _, _, _, _, _, _, _, _, _, _, _, _, _, _, _, _, _, _, _, _, _, _, _, _, _, _, _, _, _, _, _, _, _, _, _, _, _, _, _, _, _, _, _, _, _, _, _, _, _, _, _, _, _, _, _, _, _, _, _, _, _, _, _, _, _, _, _, _, _, _, _, _, _, _, _, _, _, _, _, _, _, _, _, _, _, _, _, _, _, _, _, _, _, _, _, _, _, _, _, _, _, _, _, _, _, _, _, _], defers := _ } _
              refine wpAnyH_take (i := 5) (v := .tuple #[.agg #[.string K', .int .i64 se', .int .i64 tp', .slice ax n' cx], .int .i64 code]) rfl (by kernel_rfl) (by kernel_rfl) (by kernel_rfl) (fun _ _ _ h => h) (Or.inl ⟨by rfl, ?_⟩) H ?_
              · intro w' hSw; go_simp
              change wpAnyH _ _ _ _ _ _ _ { tmps := #[_, _, _, _, _, _, _, _, _, _, _, _, _, _, _, _, _, _, _, _, _, _, _, _, _, _, _, _, _, _, _, _, _, _, _, _, _, _, _, _, _, _, _, _, _, _, _, _, _, _, _, _, _, _, _, _, _, _, _, _, _, _, _, _, _, _, _, _, _, _, _, _, _, _, _, _, _, _, _, _, _, _, _, _, _, _, _, _, _, _, _, _, _, _, _, _, _, _, _, _, _, _, _, _, _, _, _, _, _], defers := _ } _
              refine wpAnyH_take (i := 6) (v := .agg #[.string K', .int .i64 se', .int .i64 tp', .slice ax n' cx]) rfl (by kernel_rfl) (by kernel_rfl) (by kernel_rfl) (fun _ _ _ h => h) (Or.inl ⟨by rfl, ?_⟩) H ?_
              · intro w' hSw; go_simp
              change wpAnyH _ _ _ _ _ _ _ { tmps := #[_, _, _, _, _, _, _, _, _, _, _, _, _, _, _, _, _, _, _, _, _, _, _, _, _, _, _, _, _, _, _, _, _, _, _, _, _, _, _, _, _, _, _, _, _, _, _, _, _, _, _, _, _, _, _, _, _, _, _, _, _, _, _, _, _, _, _, _, _, _, _, _, _, _, _, _, _, _, _, _, _, _, _, _, _, _, _, _, _, _, _, _, _, _, _, _, _, _, _, _, _, _, _, _, _, _, _, _, _], defers := _ } _
              refine wpAnyH_take (i := 7) (v := .int .i64 code) rfl (by kernel_rfl) (by kernel_rfl) (by kernel_rfl) (fun _ _ _ h => h) (Or.inl ⟨by rfl, ?_⟩) H ?_
              · intro w' hSw; go_simp
              change wpAnyH _ _ _ _ _ _ _ { tmps := #[_, _, _, _, _, _, _, _, _, _, _, _, _, _, _, _, _, _, _, _, _, _, _, _, _, _, _, _, _, _, _, _, _, _, _, _, _, _, _, _, _, _, _, _, _, _, _, _, _, _, _, _, _, _, _, _, _, _, _, _, _, _, _, _, _, _, _, _, _, _, _, _, _, _, _, _, _, _, _, _, _, _, _, _, _, _, _, _, _, _, _, _, _, _, _, _, _, _, _, _, _, _, _, _, _, _, _, _, _], defers := _ } _
              refine wpAnyH_ready (rs := [8]) (by kernel_rfl) (by simp) ?_
              refine (AllReadyH.cons rfl (fun KK hK => ?_) AllReadyH.nil)
              go_simp
              have hb : Below v47.heap.size v47 (v47.alloc (.cells #[.string ⟨#[]⟩, .int .i64 0, .int .i64 0, .slice none 0 0] 29)) := (Below.refl _ _).alloc (Nat.le_refl _) _
              have PZ : Hid (Box4 (v47.alloc (.cells #[.string ⟨#[]⟩, .int .i64 0, .int .i64 0, .slice none 0 0] 29)) v47.heap.size 29 (.string ⟨#[]⟩) (.int .i64 0) (.int .i64 0) (.slice none 0 0)) := Box4.madeAt rfl _ _ _ _ _
              have PB : Hid (bs ≤ v47.heap.size) := by have h1 := H.size; have h2 := HS.out; show _ ≤ _; omega
              have NE : Hid (0 < n' → ∀ p, ax = some p → p.block ≠ v47.heap.size) := fun h0 p hp e => by have h1 := VW.out.bools.ltB h0 p hp; omega
              replace H : Below bs v43 (v47.alloc (.cells #[.string ⟨#[]⟩, .int .i64 0, .int .i64 0, .slice none 0 0] 29)) := H.trans (hb.mono PB.out)
              refine hK.out _ _ H (fun _ => ?_)
              clear hK KK
              change wpAnyH _ _ _ _ _ _ _ { tmps := #[_, _, _, _, _, _, _, _, _, _, _, _, _, _, _, _, _, _, _, _, _, _, _, _, _, _, _, _, _, _, _, _, _, _, _, _, _, _, _, _, _, _, _, _, _, _, _, _, _, _, _, _, _, _, _, _, _, _, _, _, _, _, _, _, _, _, _, _, _, _, _, _, _, _, _, _, _, _, _, _, _, _, _, _, _, _, _, _, _, _, _, _, _, _, _, _, _, _, _, _, _, _, _, _, _, _, _, _, _], defers := _ } _
              generalize (v47.alloc (.cells #[.string ⟨#[]⟩, .int .i64 0, .int .i64 0, .slice none 0 0] 29)) = v48 at *
              replace X0 : Hid (Bools v48 (some ⟨g0, 0, none⟩) n f) := X0.out.below hb
              replace VW : Hid (OwnB v48 bs ax n' f') := VW.out.below hb
              clear hb
              obtain ⟨pb, hpb⟩ : ∃ bx, bx = v47.heap.size := ⟨_, rfl⟩
              rw [← hpb] at PZ PB NE ⊢
              clear hpb
              refine wpAnyH_ready (rs := [9]) (by kernel_rfl) (by simp) ?_
              refine AllReadyH.cons rfl (fun KK hK => ?_) AllReadyH.nil
              rw [if_pos (by rfl)]
              refine wp_store_mid 29 (.tmp 14) (.tmp 90) rfl pb 0 #[.string K', .int .i64 se', .int .i64 tp', .slice ax n' cx] rfl rfl PZ.out.there Tryd.sizeLk (one4L _ _ _ _ _ _) ?_
              have ho : OnlyB pb v48 (v48.setCells pb 0 [.string K', .int .i64 se', .int .i64 tp', .slice ax n' cx]) := OnlyB.stored4L _ _ _ _ _ _
              have XN : Hid (Box4 (v48.setCells pb 0 [.string K', .int .i64 se', .int .i64 tp', .slice ax n' cx]) pb 29 (.string K') (.int .i64 se') (.int .i64 tp') (.slice ax n' cx)) := PZ.out.stored _ _ _ _
              have V9 : Hid (OwnB (v48.setCells pb 0 [.string K', .int .i64 se', .int .i64 tp', .slice ax n' cx]) bs ax n' f') := by
                rcases Nat.eq_zero_or_pos n' with h | h
                · exact .inl h
                · exact VW.out.one ho (NE.out h)
              replace H : Below bs v43 (v48.setCells pb 0 [.string K', .int .i64 se', .int .i64 tp', .slice ax n' cx]) := H.trans (ho.toBelow PB.out (by have h1 := H.size; have h2 := HS.out; omega))
              refine hK.out _ _ H (fun _ => ?_)
              clear hK KK ho PZ VW
              generalize (v48.setCells pb 0 [.string K', .int .i64 se', .int .i64 tp', .slice ax n' cx]) = v49 at *
              change wpAnyH _ _ _ _ _ _ _ { tmps := #[_, _, _, _, _, _, _, _, _, _, _, _, _, _, _, _, _, _, _, _, _, _, _, _, _, _, _, _, _, _, _, _, _, _, _, _, _, _, _, _, _, _, _, _, _, _, _, _, _, _, _, _, _, _, _, _, _, _, _, _, _, _, _, _, _, _, _, _, _, _, _, _, _, _, _, _, _, _, _, _, _, _, _, _, _, _, _, _, _, _, _, _, _, _, _, _, _, _, _, _, _, _, _, _, _, _, _, _, _], defers := _ } _
              refine wpAnyH_take (i := 10) (v := .int .i64 code) rfl (by kernel_rfl) (by kernel_rfl) (by kernel_rfl) (fun _ _ _ h => h) (Or.inl ⟨by rfl, ?_⟩) H ?_
              · intro w' hSw; go_simp
              change wpAnyH _ _ _ _ _ _ _ { tmps := #[_, _, _, _, _, _, _, _, _, _, _, _, _, _, _, _, _, _, _, _, _, _, _, _, _, _, _, _, _, _, _, _, _, _, _, _, _, _, _, _, _, _, _, _, _, _, _, _, _, _, _, _, _, _, _, _, _, _, _, _, _, _, _, _, _, _, _, _, _, _, _, _, _, _, _, _, _, _, _, _, _, _, _, _, _, _, _, _, _, _, _, _, _, _, _, _, _, _, _, _, _, _, _, _, _, _, _, _, _], defers := _ } _
              refine wpAnyH_done (by kernel_rfl) ?_ _
              refine NoPanic.normal ?_
              change Exit.then _ _ Exit.normal { tmps := #[_, _, _, _, _, _, _, _, _, _, _, _, _, _, _, _, _, _, _, _, _, _, _, _, _, _, _, _, _, _, _, _, _, _, _, _, _, _, _, _, _, _, _, _, _, _, _, _, _, _, _, _, _, _, _, _, _, _, _, _, _, _, _, _, _, _, _, _, _, _, _, _, _, _, _, _, _, _, _, _, _, _, _, _, _, _, _, _, _, _, _, _, _, _, _, _, _, _, _, _, _, _, _, _, _, _, _, _, _], defers := _ } _
              go_wp2_with fail
              go_meet
              exact ⟨pb, ax, cx, rfl, rfl, XN.out, V9.out, PB.out, NE.out, H⟩
            · skip
              go_simp
              have hb : Below v46.heap.size v46 (v46.alloc (.cells #[.string ⟨#[]⟩, .int .i64 0, .int .i64 0, .slice none 0 0] 29)) := (Below.refl _ _).alloc (Nat.le_refl _) _
              have PZ : Hid (Box4 (v46.alloc (.cells #[.string ⟨#[]⟩, .int .i64 0, .int .i64 0, .slice none 0 0] 29)) v46.heap.size 29 (.string ⟨#[]⟩) (.int .i64 0) (.int .i64 0) (.slice none 0 0)) := Box4.madeAt rfl _ _ _ _ _
              have PB : Hid (bs ≤ v46.heap.size) := by have h1 := H.size; have h2 := HS.out; show _ ≤ _; omega
              replace H : Below bs v43 (v46.alloc (.cells #[.string ⟨#[]⟩, .int .i64 0, .int .i64 0, .slice none 0 0] 29)) := H.trans (hb.mono PB.out)
              refine hK.out _ _ H (fun _ => ?_)
              clear hK KK
              change wpAnyH _ _ _ _ _ _ _ { tmps := #[_, _, _, _, _, _, _, _, _, _, _, _, _, _, _, _, _, _, _, _, _, _, _, _, _, _, _, _, _, _, _, _, _, _, _, _, _, _, _, _, _, _, _, _, _, _, _, _, _, _, _, _, _, _, _, _, _, _, _, _, _, _, _, _, _, _, _, _, _, _, _, _, _, _, _, _, _, _, _, _, _, _, _, _, _, _, _, _, _, _, _, _, _, _, _, _, _, _, _, _, _, _, _, _, _, _, _, _, _], defers := _ } _
              generalize (v46.alloc (.cells #[.string ⟨#[]⟩, .int .i64 0, .int .i64 0, .slice none 0 0] 29)) = v50 at *
              replace X0 : Hid (Bools v50 (some ⟨g0, 0, none⟩) n f) := X0.out.below hb
              clear hb
              obtain ⟨pb, hpb⟩ : ∃ bx, bx = v46.heap.size := ⟨_, rfl⟩
              rw [← hpb] at PZ PB ⊢
              clear hpb
              refine wpAnyH_ready (rs := [4]) (by kernel_rfl) (by simp) ?_
              refine (AllReadyH.cons rfl (fun KK hK => ?_) AllReadyH.nil)
              go_simp
              have PL : Hid (pb < v50.heap.size) := PZ.out.lt
              have SB : Hid (bs ≤ v50.heap.size) := by have h1 := H.size; have h2 := HS.out; show _ ≤ _; omega
              refine (IS.out g0 n _ X0.out (HT.out.below (A1.out.trans (Below.mono H (by have h1 := A1.out.size; have h2 := HS.out; omega))))).mono ?_
              rintro e v51 ⟨⟨ax, cx, rfl, ow⟩, hb⟩
              replace X0 : Hid (Bools v51 (some ⟨g0, 0, none⟩) n f) := X0.out.below hb
              replace PZ : Hid (Box4 v51 pb 29 (.string ⟨#[]⟩) (.int .i64 0) (.int .i64 0) (.slice none 0 0)) := PZ.out.below hb
              have VW : Hid (OwnB v51 bs ax n' f') := ow.mono SB.out
              have NE : Hid (0 < n' → ∀ p, ax = some p → p.block ≠ pb) := fun h0 p hp e => by have h1 := ow.ge h0 p hp; have h2 := PL.out; omega
              replace H : Below bs v43 v51 := H.trans (hb.mono (by have h1 := H.size; have h2 := HS.out; omega))
              clear hb  SB ow PL
              refine hK.out _ _ H (fun _ => ?_)
              clear hK KK
              change wpAnyH _ _ _ _ _ _ _ { tmps := #[_, _, _, _, _, _, _, _, _, _, _, _, _, _, _, _, _, _, _, _, _, _, _, _, _, _, _, _, _, _, _, _, _, _, _, _, _, _, _, _, _, _, _, _, _, _, _, _, _, _, _, _, _, _, _, _, _, _, _, _, _, _, _, _, _, _, _, _, _, _, _, _, _, _, _, _, _, _, _, _, _, _, _, _, _, _, _, _, _, _, _, _, _, _, _, _, _, _, _, _, _, _, _, _, _, _, _, _, _], defers := _ } _
              refine wpAnyH_take (i := 5) (v := .tuple #[.agg #[.string K', .int .i64 se', .int .i64 tp', .slice ax n' cx], .int .i64 code]) rfl (by kernel_rfl) (by kernel_rfl) (by kernel_rfl) (fun _ _ _ h => h) (Or.inl ⟨by rfl, ?_⟩) H ?_
              · intro w' hSw; go_simp
              change wpAnyH _ _ _ _ _ _ _ { tmps := #[_, _, _, _, _, _, _, _, _, _, _, _, _, _, _, _, _, _, _, _, _, _, _, _, _, _, _, _, _, _, _, _, _, _, _, _, _, _, _, _, _, _, _, _, _, _, _, _, _, _, _, _, _, _, _, _, _, _, _, _, _, _, _, _, _, _, _, _, _, _, _, _, _, _, _, _, _, _, _, _, _, _, _, _, _, _, _, _, _, _, _, _, _, _, _, _, _, _, _, _, _, _, _, _, _, _, _, _, _], defers := _ } _
              refine wpAnyH_take (i := 6) (v := .agg #[.string K', .int .i64 se', .int .i64 tp', .slice ax n' cx]) rfl (by kernel_rfl) (by kernel_rfl) (by kernel_rfl) (fun _ _ _ h => h) (Or.inl ⟨by rfl, ?_⟩) H ?_
              · intro w' hSw; go_simp
              change wpAnyH _ _ _ _ _ _ _ { tmps := #[_, _, _, _, _, _, _, _, _, _, _, _, _, _, _, _, _, _, _, _, _, _, _, _, _, _, _, _, _, _, _, _, _, _, _, _, _, _, _, _, _, _, _, _, _, _, _, _, _, _, _, _, _, _, _, _, _, _, _, _, _, _, _, _, _, _, _, _, _, _, _, _, _, _, _, _, _, _, _, _, _, _, _, _, _, _, _, _, _, _, _, _, _, _, _, _, _, _, _, _, _, _, _, _, _, _, _, _, _], defers := _ } _
              refine wpAnyH_take (i := 7) (v := .int .i64 code) rfl (by kernel_rfl) (by kernel_rfl) (by kernel_rfl) (fun _ _ _ h => h) (Or.inl ⟨by rfl, ?_⟩) H ?_
              · intro w' hSw; go_simp
              change wpAnyH _ _ _ _ _ _ _ { tmps := #[_, _, _, _, _, _, _, _, _, _, _, _, _, _, _, _, _, _, _, _, _, _, _, _, _, _, _, _, _, _, _, _, _, _, _, _, _, _, _, _, _, _, _, _, _, _, _, _, _, _, _, _, _, _, _, _, _, _, _, _, _, _, _, _, _, _, _, _, _, _, _, _, _, _, _, _, _, _, _, _, _, _, _, _, _, _, _, _, _, _, _, _, _, _, _, _, _, _, _, _, _, _, _, _, _, _, _, _, _], defers := _ } _
              refine wpAnyH_ready (rs := [9]) (by kernel_rfl) (by simp) ?_
              refine AllReadyH.cons rfl (fun KK hK => ?_) AllReadyH.nil
              rw [if_pos (by rfl)]
              refine wp_store_mid 29 (.tmp 14) (.tmp 90) rfl pb 0 #[.string K', .int .i64 se', .int .i64 tp', .slice ax n' cx] rfl rfl PZ.out.there Tryd.sizeLk (one4L _ _ _ _ _ _) ?_
              have ho : OnlyB pb v51 (v51.setCells pb 0 [.string K', .int .i64 se', .int .i64 tp', .slice ax n' cx]) := OnlyB.stored4L _ _ _ _ _ _
              have XN : Hid (Box4 (v51.setCells pb 0 [.string K', .int .i64 se', .int .i64 tp', .slice ax n' cx]) pb 29 (.string K') (.int .i64 se') (.int .i64 tp') (.slice ax n' cx)) := PZ.out.stored _ _ _ _
              have V9 : Hid (OwnB (v51.setCells pb 0 [.string K', .int .i64 se', .int .i64 tp', .slice ax n' cx]) bs ax n' f') := by
                rcases Nat.eq_zero_or_pos n' with h | h
                · exact .inl h
                · exact VW.out.one ho (NE.out h)
              replace H : Below bs v43 (v51.setCells pb 0 [.string K', .int .i64 se', .int .i64 tp', .slice ax n' cx]) := H.trans (ho.toBelow PB.out (by have h1 := H.size; have h2 := HS.out; omega))
              refine hK.out _ _ H (fun _ => ?_)
              clear hK KK ho PZ VW
              generalize (v51.setCells pb 0 [.string K', .int .i64 se', .int .i64 tp', .slice ax n' cx]) = v52 at *
              change wpAnyH _ _ _ _ _ _ _ { tmps := #[_, _, _, _, _, _, _, _, _, _, _, _, _, _, _, _, _, _, _, _, _, _, _, _, _, _, _, _, _, _, _, _, _, _, _, _, _, _, _, _, _, _, _, _, _, _, _, _, _, _, _, _, _, _, _, _, _, _, _, _, _, _, _, _, _, _, _, _, _, _, _, _, _, _, _, _, _, _, _, _, _, _, _, _, _, _, _, _, _, _, _, _, _, _, _, _, _, _, _, _, _, _, _, _, _, _, _, _, _], defers := _ } _
              refine wpAnyH_take (i := 10) (v := .int .i64 code) rfl (by kernel_rfl) (by kernel_rfl) (by kernel_rfl) (fun _ _ _ h => h) (Or.inl ⟨by rfl, ?_⟩) H ?_
              · intro w' hSw; go_simp
              change wpAnyH _ _ _ _ _ _ _ { tmps := #[_, _, _, _, _, _, _, _, _, _, _, _, _, _, _, _, _, _, _, _, _, _, _, _, _, _, _, _, _, _, _, _, _, _, _, _, _, _, _, _, _, _, _, _, _, _, _, _, _, _, _, _, _, _, _, _, _, _, _, _, _, _, _, _, _, _, _, _, _, _, _, _, _, _, _, _, _, _, _, _, _, _, _, _, _, _, _, _, _, _, _, _, _, _, _, _, _, _, _, _, _, _, _, _, _, _, _, _, _], defers := _ } _
              refine wpAnyH_done (by kernel_rfl) ?_ _
              refine NoPanic.normal ?_
              change Exit.then _ _ Exit.normal { tmps := #[_, _, _, _, _, _, _, _, _, _, _, _, _, _, _, _, _, _, _, _, _, _, _, _, _, _, _, _, _, _, _, _, _, _, _, _, _, _, _, _, _, _, _, _, _, _, _, _, _, _, _, _, _, _, _, _, _, _, _, _, _, _, _, _, _, _, _, _, _, _, _, _, _, _, _, _, _, _, _, _, _, _, _, _, _, _, _, _, _, _, _, _, _, _, _, _, _, _, _, _, _, _, _, _, _, _, _, _, _], defers := _ } _
              go_wp2_with fail
              go_meet
              exact ⟨pb, ax, cx, rfl, rfl, XN.out, V9.out, PB.out, NE.out, H⟩
          · skip
            go_simp
            have hb : Below v45.heap.size v45 (v45.alloc (.cells #[.string ⟨#[]⟩, .int .i64 0, .int .i64 0, .slice none 0 0] 29)) := (Below.refl _ _).alloc (Nat.le_refl _) _
            have PZ : Hid (Box4 (v45.alloc (.cells #[.string ⟨#[]⟩, .int .i64 0, .int .i64 0, .slice none 0 0] 29)) v45.heap.size 29 (.string ⟨#[]⟩) (.int .i64 0) (.int .i64 0) (.slice none 0 0)) := Box4.madeAt rfl _ _ _ _ _
            have PB : Hid (bs ≤ v45.heap.size) := by have h1 := H.size; have h2 := HS.out; show _ ≤ _; omega
            replace H : Below bs v43 (v45.alloc (.cells #[.string ⟨#[]⟩, .int .i64 0, .int .i64 0, .slice none 0 0] 29)) := H.trans (hb.mono PB.out)
            refine hK.out _ _ H (fun _ => ?_)
            clear hK KK
            change wpAnyH _ _ _ _ _ _ _ { tmps := #[_, _, _, _, _, _, _, _, _, _, _, _, _, _, _, _, _, _, _, _, _, _, _, _, _, _, _, _, _, _, _, _, _, _, _, _, _, _, _, _, _, _, _, _, _, _, _, _, _, _, _, _, _, _, _, _, _, _, _, _, _, _, _, _, _, _, _, _, _, _, _, _, _, _, _, _, _, _, _, _, _, _, _, _, _, _, _, _, _, _, _, _, _, _, _, _, _, _, _, _, _, _, _, _, _, _, _, _, _], defers := _ } _
            generalize (v45.alloc (.cells #[.string ⟨#[]⟩, .int .i64 0, .int .i64 0, .slice none 0 0] 29)) = v53 at *
            replace X0 : Hid (Bools v53 (some ⟨g0, 0, none⟩) n f) := X0.out.below hb
            clear hb
            obtain ⟨pb, hpb⟩ : ∃ bx, bx = v45.heap.size := ⟨_, rfl⟩
            rw [← hpb] at PZ PB ⊢
            clear hpb
            refine wpAnyH_ready (rs := [3]) (by kernel_rfl) (by simp) ?_
            refine (AllReadyH.cons rfl (fun KK hK => ?_) AllReadyH.nil)
            go_simp
            refine (TP.out _).mono ?_
            rintro e v54 ⟨rfl, hb⟩
            replace X0 : Hid (Bools v54 (some ⟨g0, 0, none⟩) n f) := X0.out.below hb
            replace PZ : Hid (Box4 v54 pb 29 (.string ⟨#[]⟩) (.int .i64 0) (.int .i64 0) (.slice none 0 0)) := PZ.out.below hb
            replace H : Below bs v43 v54 := H.trans (hb.mono (by have h1 := H.size; have h2 := HS.out; omega))
            clear hb 
            refine hK.out _ _ H (fun _ => ?_)
            clear hK KK
            change wpAnyH _ _ _ _ _ _ _ { tmps := #[_, _, _, _, _, _, _, _, _, _, _, _, _, _, _, _, _, _, _, _, _, _, _, _, _, _, _, _, _, _, _, _, _, _, _, _, _, _, _, _, _, _, _, _, _, _, _, _, _, _, _, _, _, _, _, _, _, _, _, _, _, _, _, _, _, _, _, _, _, _, _, _, _, _, _, _, _, _, _, _, _, _, _, _, _, _, _, _, _, _, _, _, _, _, _, _, _, _, _, _, _, _, _, _, _, _, _, _, _], defers := _ } _
            refine wpAnyH_ready (rs := [4]) (by kernel_rfl) (by simp) ?_
            refine (AllReadyH.cons rfl (fun KK hK => ?_) AllReadyH.nil)
            go_simp
            have PL : Hid (pb < v54.heap.size) := PZ.out.lt
            have SB : Hid (bs ≤ v54.heap.size) := by have h1 := H.size; have h2 := HS.out; show _ ≤ _; omega
            refine (IS.out g0 n _ X0.out (HT.out.below (A1.out.trans (Below.mono H (by have h1 := A1.out.size; have h2 := HS.out; omega))))).mono ?_
            rintro e v55 ⟨⟨ax, cx, rfl, ow⟩, hb⟩
            replace X0 : Hid (Bools v55 (some ⟨g0, 0, none⟩) n f) := X0.out.below hb
            replace PZ : Hid (Box4 v55 pb 29 (.string ⟨#[]⟩) (.int .i64 0) (.int .i64 0) (.slice none 0 0)) := PZ.out.below hb
            have VW : Hid (OwnB v55 bs ax n' f') := ow.mono SB.out
            have NE : Hid (0 < n' → ∀ p, ax = some p → p.block ≠ pb) := fun h0 p hp e => by have h1 := ow.ge h0 p hp; have h2 := PL.out; omega
            replace H : Below bs v43 v55 := H.trans (hb.mono (by have h1 := H.size; have h2 := HS.out; omega))
            clear hb  SB ow PL
            refine hK.out _ _ H (fun _ => ?_)
            clear hK KK
            change wpAnyH _ _ _ _ _ _ _ { tmps := #[_, _, _, _, _, _, _, _, _, _, _, _, _, _, _, _, _, _, _, _, _, _, _, _, _, _, _, _, _, _, _, _, _, _, _, _, _, _, _, _, _, _, _, _, _, _, _, _, _, _, _, _, _, _, _, _, _, _, _, _, _, _, _, _, _, _, _, _, _, _, _, _, _, _, _, _, _, _, _, _, _, _, _, _, _, _, _, _, _, _, _, _, _, _, _, _, _, _, _, _, _, _, _, _, _, _, _, _, _], defers := _ } _
            refine wpAnyH_take (i := 5) (v := .tuple #[.agg #[.string K', .int .i64 se', .int .i64 tp', .slice ax n' cx], .int .i64 code]) rfl (by kernel_rfl) (by kernel_rfl) (by kernel_rfl) (fun _ _ _ h => h) (Or.inl ⟨by rfl, ?_⟩) H ?_
            · intro w' hSw; go_simp
            change wpAnyH _ _ _ _ _ _ _ { tmps := #[_, _, _, _, _, _, _, _, _, _, _, _, _, _, _, _, _, _, _, _, _, _, _, _, _, _, _, _, _, _, _, _, _, _, _, _, _, _, _, _, _, _, _, _, _, _, _, _, _, _, _, _, _, _, _, _, _, _, _, _, _, _, _, _, _, _, _, _, _, _, _, _, _, _, _, _, _, _, _, _, _, _, _, _, _, _, _, _, _, _, _, _, _, _, _, _, _, _, _, _, _, _, _, _, _, _, _, _, _], defers := _ } _
            refine wpAnyH_take (i := 6) (v := .agg #[.string K', .int .i64 se', .int .i64 tp', .slice ax n' cx]) rfl (by kernel_rfl) (by kernel_rfl) (by kernel_rfl) (fun _ _ _ h => h) (Or.inl ⟨by rfl, ?_⟩) H ?_
            · intro w' hSw; go_simp
            change wpAnyH _ _ _ _ _ _ _ { tmps := #[_, _, _, _, _, _, _, _, _, _, _, _, _, _, _, _, _, _, _, _, _, _, _, _, _, _, _, _, _, _, _, _, _, _, _, _, _, _, _, _, _, _, _, _, _, _, _, _, _, _, _, _, _, _, _, _, _, _, _, _, _, _, _, _, _, _, _, _, _, _, _, _, _, _, _, _, _, _, _, _, _, _, _, _, _, _, _, _, _, _, _, _, _, _, _, _, _, _, _, _, _, _, _, _, _, _, _, _, _], defers := _ } _
            refine wpAnyH_take (i := 7) (v := .int .i64 code) rfl (by kernel_rfl) (by kernel_rfl) (by kernel_rfl) (fun _ _ _ h => h) (Or.inl ⟨by rfl, ?_⟩) H ?_
            · intro w' hSw; go_simp
            change wpAnyH _ _ _ _ _ _ _ { tmps := #[_, _, _, _, _, _, _, _, _, _, _, _, _, _, _, _, _, _, _, _, _, _, _, _, _, _, _, _, _, _, _, _, _, _, _, _, _, _, _, _, _, _, _, _, _, _, _, _, _, _, _, _, _, _, _, _, _, _, _, _, _, _, _, _, _, _, _, _, _, _, _, _, _, _, _, _, _, _, _, _, _, _, _, _, _, _, _, _, _, _, _, _, _, _, _, _, _, _, _, _, _, _, _, _, _, _, _, _, _], defers := _ } _
            refine wpAnyH_ready (rs := [9]) (by kernel_rfl) (by simp) ?_
            refine AllReadyH.cons rfl (fun KK hK => ?_) AllReadyH.nil
            rw [if_pos (by rfl)]
            refine wp_store_mid 29 (.tmp 14) (.tmp 90) rfl pb 0 #[.string K', .int .i64 se', .int .i64 tp', .slice ax n' cx] rfl rfl PZ.out.there Tryd.sizeLk (one4L _ _ _ _ _ _) ?_
            have ho : OnlyB pb v55 (v55.setCells pb 0 [.string K', .int .i64 se', .int .i64 tp', .slice ax n' cx]) := OnlyB.stored4L _ _ _ _ _ _
            have XN : Hid (Box4 (v55.setCells pb 0 [.string K', .int .i64 se', .int .i64 tp', .slice ax n' cx]) pb 29 (.string K') (.int .i64 se') (.int .i64 tp') (.slice ax n' cx)) := PZ.out.stored _ _ _ _
            have V9 : Hid (OwnB (v55.setCells pb 0 [.string K', .int .i64 se', .int .i64 tp', .slice ax n' cx]) bs ax n' f') := by
              rcases Nat.eq_zero_or_pos n' with h | h
              · exact .inl h
              · exact VW.out.one ho (NE.out h)
            replace H : Below bs v43 (v55.setCells pb 0 [.string K', .int .i64 se', .int .i64 tp', .slice ax n' cx]) := H.trans (ho.toBelow PB.out (by have h1 := H.size; have h2 := HS.out; omega))
            refine hK.out _ _ H (fun _ => ?_)
            clear hK KK ho PZ VW
            generalize (v55.setCells pb 0 [.string K', .int .i64 se', .int .i64 tp', .slice ax n' cx]) = v56 at *
            change wpAnyH _ _ _ _ _ _ _ { tmps := #[_, _, _, _, _, _, _, _, _, _, _, _, _, _, _, _, _, _, _, _, _, _, _, _, _, _, _, _, _, _, _, _, _, _, _, _, _, _, _, _, _, _, _, _, _, _, _, _, _, _, _, _, _, _, _, _, _, _, _, _, _, _, _, _, _, _, _, _, _, _, _, _, _, _, _, _, _, _, _, _, _, _, _, _, _, _, _, _, _, _, _, _, _, _, _, _, _, _, _, _, _, _, _, _, _, _, _, _, _], defers := _ } _
            refine wpAnyH_take (i := 10) (v := .int .i64 code) rfl (by kernel_rfl) (by kernel_rfl) (by kernel_rfl) (fun _ _ _ h => h) (Or.inl ⟨by rfl, ?_⟩) H ?_
            · intro w' hSw; go_simp
            change wpAnyH _ _ _ _ _ _ _ { tmps := #[_, _, _, _, _, _, _, _, _, _, _, _, _, _, _, _, _, _, _, _, _, _, _, _, _, _, _, _, _, _, _, _, _, _, _, _, _, _, _, _, _, _, _, _, _, _, _, _, _, _, _, _, _, _, _, _, _, _, _, _, _, _, _, _, _, _, _, _, _, _, _, _, _, _, _, _, _, _, _, _, _, _, _, _, _, _, _, _, _, _, _, _, _, _, _, _, _, _, _, _, _, _, _, _, _, _, _, _, _], defers := _ } _
            refine wpAnyH_done (by kernel_rfl) ?_ _
            refine NoPanic.normal ?_
            change Exit.then _ _ Exit.normal { tmps := #[_, _, _, _, _, _, _, _, _, _, _, _, _, _, _, _, _, _, _, _, _, _, _, _, _, _, _, _, _, _, _, _, _, _, _, _, _, _, _, _, _, _, _, _, _, _, _, _, _, _, _, _, _, _, _, _, _, _, _, _, _, _, _, _, _, _, _, _, _, _, _, _, _, _, _, _, _, _, _, _, _, _, _, _, _, _, _, _, _, _, _, _, _, _, _, _, _, _, _, _, _, _, _, _, _, _, _, _, _], defers := _ } _
            go_wp2_with fail
            go_meet
            exact ⟨pb, ax, cx, rfl, rfl, XN.out, V9.out, PB.out, NE.out, H⟩
        · skip
          go_simp
          have hb : Below v44.heap.size v44 (v44.alloc (.cells #[.string ⟨#[]⟩, .int .i64 0, .int .i64 0, .slice none 0 0] 29)) := (Below.refl _ _).alloc (Nat.le_refl _) _
          have PZ : Hid (Box4 (v44.alloc (.cells #[.string ⟨#[]⟩, .int .i64 0, .int .i64 0, .slice none 0 0] 29)) v44.heap.size 29 (.string ⟨#[]⟩) (.int .i64 0) (.int .i64 0) (.slice none 0 0)) := Box4.madeAt rfl _ _ _ _ _
          have PB : Hid (bs ≤ v44.heap.size) := by have h1 := H.size; have h2 := HS.out; show _ ≤ _; omega
          replace H : Below bs v43 (v44.alloc (.cells #[.string ⟨#[]⟩, .int .i64 0, .int .i64 0, .slice none 0 0] 29)) := H.trans (hb.mono PB.out)
          refine hK.out _ _ H (fun _ => ?_)
          clear hK KK
          change wpAnyH _ _ _ _ _ _ _ { tmps := #[_, _, _, _, _, _, _, _, _, _, _, _, _, _, _, _, _, _, _, _, _, _, _, _, _, _, _, _, _, _, _, _, _, _, _, _, _, _, _, _, _, _, _, _, _, _, _, _, _, _, _, _, _, _, _, _, _, _, _, _, _, _, _, _, _, _, _, _, _, _, _, _, _, _, _, _, _, _, _, _, _, _, _, _, _, _, _, _, _, _, _, _, _, _, _, _, _, _, _, _, _, _, _, _, _, _, _, _, _], defers := _ } _
          generalize (v44.alloc (.cells #[.string ⟨#[]⟩, .int .i64 0, .int .i64 0, .slice none 0 0] 29)) = v57 at *
          clear hb
          obtain ⟨pb, hpb⟩ : ∃ bx, bx = v44.heap.size := ⟨_, rfl⟩
          rw [← hpb] at PZ PB ⊢
          clear hpb
          refine wpAnyH_ready (rs := [1]) (by kernel_rfl) (by simp) ?_
          refine (AllReadyH.cons rfl (fun KK hK => ?_) AllReadyH.nil)
          go_simp
          refine (TL.out _ (HB.out.below (by rw [HS.out] at H; exact H))).mono ?_
          rintro e v58 ⟨⟨g0, hg0, rfl, hr0⟩, hb⟩
          replace PZ : Hid (Box4 v58 pb 29 (.string ⟨#[]⟩) (.int .i64 0) (.int .i64 0) (.slice none 0 0)) := PZ.out.below hb
          have X0 : Hid (Bools v58 (some ⟨g0, 0, none⟩) n f) := Bools.ofRow hr0
          replace H : Below bs v43 v58 := H.trans (hb.mono (by have h1 := H.size; have h2 := HS.out; omega))
          clear hb hr0 hg0
          refine hK.out _ _ H (fun _ => ?_)
          clear hK KK
          change wpAnyH _ _ _ _ _ _ _ { tmps := #[_, _, _, _, _, _, _, _, _, _, _, _, _, _, _, _, _, _, _, _, _, _, _, _, _, _, _, _, _, _, _, _, _, _, _, _, _, _, _, _, _, _, _, _, _, _, _, _, _, _, _, _, _, _, _, _, _, _, _, _, _, _, _, _, _, _, _, _, _, _, _, _, _, _, _, _, _, _, _, _, _, _, _, _, _, _, _, _, _, _, _, _, _, _, _, _, _, _, _, _, _, _, _, _, _, _, _, _, _], defers := _ } _
          refine wpAnyH_ready (rs := [3]) (by kernel_rfl) (by simp) ?_
          refine (AllReadyH.cons rfl (fun KK hK => ?_) AllReadyH.nil)
          go_simp
          refine (TP.out _).mono ?_
          rintro e v59 ⟨rfl, hb⟩
          replace PZ : Hid (Box4 v59 pb 29 (.string ⟨#[]⟩) (.int .i64 0) (.int .i64 0) (.slice none 0 0)) := PZ.out.below hb
          replace X0 : Hid (Bools v59 (some ⟨g0, 0, none⟩) n f) := X0.out.below hb
          replace H : Below bs v43 v59 := H.trans (hb.mono (by have h1 := H.size; have h2 := HS.out; omega))
          clear hb 
          refine hK.out _ _ H (fun _ => ?_)
          clear hK KK
          change wpAnyH _ _ _ _ _ _ _ { tmps := #[_, _, _, _, _, _, _, _, _, _, _, _, _, _, _, _, _, _, _, _, _, _, _, _, _, _, _, _, _, _, _, _, _, _, _, _, _, _, _, _, _, _, _, _, _, _, _, _, _, _, _, _, _, _, _, _, _, _, _, _, _, _, _, _, _, _, _, _, _, _, _, _, _, _, _, _, _, _, _, _, _, _, _, _, _, _, _, _, _, _, _, _, _, _, _, _, _, _, _, _, _, _, _, _, _, _, _, _, _], defers := _ } _
          refine wpAnyH_ready (rs := [4]) (by kernel_rfl) (by simp) ?_
          refine (AllReadyH.cons rfl (fun KK hK => ?_) AllReadyH.nil)
          go_simp
          have PL : Hid (pb < v59.heap.size) := PZ.out.lt
          have SB : Hid (bs ≤ v59.heap.size) := by have h1 := H.size; have h2 := HS.out; show _ ≤ _; omega
          refine (IS.out g0 n _ X0.out (HT.out.below (A1.out.trans (Below.mono H (by have h1 := A1.out.size; have h2 := HS.out; omega))))).mono ?_
          rintro e v60 ⟨⟨ax, cx, rfl, ow⟩, hb⟩
          replace PZ : Hid (Box4 v60 pb 29 (.string ⟨#[]⟩) (.int .i64 0) (.int .i64 0) (.slice none 0 0)) := PZ.out.below hb
          replace X0 : Hid (Bools v60 (some ⟨g0, 0, none⟩) n f) := X0.out.below hb
          have VW : Hid (OwnB v60 bs ax n' f') := ow.mono SB.out
          have NE : Hid (0 < n' → ∀ p, ax = some p → p.block ≠ pb) := fun h0 p hp e => by have h1 := ow.ge h0 p hp; have h2 := PL.out; omega
          replace H : Below bs v43 v60 := H.trans (hb.mono (by have h1 := H.size; have h2 := HS.out; omega))
          clear hb  SB ow PL
          refine hK.out _ _ H (fun _ => ?_)
          clear hK KK
          change wpAnyH _ _ _ _ _ _ _ { tmps := #[_, _, _, _, _, _, _, _, _, _, _, _, _, _, _, _, _, _, _, _, _, _, _, _, _, _, _, _, _, _, _, _, _, _, _, _, _, _, _, _, _, _, _, _, _, _, _, _, _, _, _, _, _, _, _, _, _, _, _, _, _, _, _, _, _, _, _, _, _, _, _, _, _, _, _, _, _, _, _, _, _, _, _, _, _, _, _, _, _, _, _, _, _, _, _, _, _, _, _, _, _, _, _, _, _, _, _, _, _], defers := _ } _
          refine wpAnyH_take (i := 5) (v := .tuple #[.agg #[.string K', .int .i64 se', .int .i64 tp', .slice ax n' cx], .int .i64 code]) rfl (by kernel_rfl) (by kernel_rfl) (by kernel_rfl) (fun _ _ _ h => h) (Or.inl ⟨by rfl, ?_⟩) H ?_
          · intro w' hSw; go_simp
          change wpAnyH _ _ _ _ _ _ _ { tmps := #[_, _, _, _, _, _, _, _, _, _, _, _, _, _, _, _, _, _, _, _, _, _, _, _, _, _, _, _, _, _, _, _, _, _, _, _, _, _, _, _, _, _, _, _, _, _, _, _, _, _, _, _, _, _, _, _, _, _, _, _, _, _, _, _, _, _, _, _, _, _, _, _, _, _, _, _, _, _, _, _, _, _, _, _, _, _, _, _, _, _, _, _, _, _, _, _, _, _, _, _, _, _, _, _, _, _, _, _, _], defers := _ } _
          refine wpAnyH_take (i := 6) (v := .agg #[.string K', .int .i64 se', .int .i64 tp', .slice ax n' cx]) rfl (by kernel_rfl) (by kernel_rfl) (by kernel_rfl) (fun _ _ _ h => h) (Or.inl ⟨by rfl, ?_⟩) H ?_
          · intro w' hSw; go_simp
          change wpAnyH _ _ _ _ _ _ _ { tmps := #[_, _, _, _, _, _, _, _, _, _, _, _, _, _, _, _, _, _, _, _, _, _, _, _, _, _, _, _, _, _, _, _, _, _, _, _, _, _, _, _, _, _, _, _, _, _, _, _, _, _, _, _, _, _, _, _, _, _, _, _, _, _, _, _, _, _, _, _, _, _, _, _, _, _, _, _, _, _, _, _, _, _, _, _, _, _, _, _, _, _, _, _, _, _, _, _, _, _, _, _, _, _, _, _, _, _, _, _, _], defers := _ } _
          refine wpAnyH_take (i := 7) (v := .int .i64 code) rfl (by kernel_rfl) (by kernel_rfl) (by kernel_rfl) (fun _ _ _ h => h) (Or.inl ⟨by rfl, ?_⟩) H ?_
          · intro w' hSw; go_simp
          change wpAnyH _ _ _ _ _ _ _ { tmps := #[_, _, _, _, _, _, _, _, _, _, _, _, _, _, _, _, _, _, _, _, _, _, _, _, _, _, _, _, _, _, _, _, _, _, _, _, _, _, _, _, _, _, _, _, _, _, _, _, _, _, _, _, _, _, _, _, _, _, _, _, _, _, _, _, _, _, _, _, _, _, _, _, _, _, _, _, _, _, _, _, _, _, _, _, _, _, _, _, _, _, _, _, _, _, _, _, _, _, _, _, _, _, _, _, _, _, _, _, _], defers := _ } _
          refine wpAnyH_ready (rs := [9]) (by kernel_rfl) (by simp) ?_
          refine AllReadyH.cons rfl (fun KK hK => ?_) AllReadyH.nil
          rw [if_pos (by rfl)]
          refine wp_store_mid 29 (.tmp 14) (.tmp 90) rfl pb 0 #[.string K', .int .i64 se', .int .i64 tp', .slice ax n' cx] rfl rfl PZ.out.there Tryd.sizeLk (one4L _ _ _ _ _ _) ?_
          have ho : OnlyB pb v60 (v60.setCells pb 0 [.string K', .int .i64 se', .int .i64 tp', .slice ax n' cx]) := OnlyB.stored4L _ _ _ _ _ _
          have XN : Hid (Box4 (v60.setCells pb 0 [.string K', .int .i64 se', .int .i64 tp', .slice ax n' cx]) pb 29 (.string K') (.int .i64 se') (.int .i64 tp') (.slice ax n' cx)) := PZ.out.stored _ _ _ _
          have V9 : Hid (OwnB (v60.setCells pb 0 [.string K', .int .i64 se', .int .i64 tp', .slice ax n' cx]) bs ax n' f') := by
            rcases Nat.eq_zero_or_pos n' with h | h
            · exact .inl h
            · exact VW.out.one ho (NE.out h)
          replace H : Below bs v43 (v60.setCells pb 0 [.string K', .int .i64 se', .int .i64 tp', .slice ax n' cx]) := H.trans (ho.toBelow PB.out (by have h1 := H.size; have h2 := HS.out; omega))
          refine hK.out _ _ H (fun _ => ?_)
          clear hK KK ho PZ VW
          generalize (v60.setCells pb 0 [.string K', .int .i64 se', .int .i64 tp', .slice ax n' cx]) = v61 at *
          change wpAnyH _ _ _ _ _ _ _ { tmps := #[_, _, _, _, _, _, _, _, _, _, _, _, _, _, _, _, _, _, _, _, _, _, _, _, _, _, _, _, _, _, _, _, _, _, _, _, _, _, _, _, _, _, _, _, _, _, _, _, _, _, _, _, _, _, _, _, _, _, _, _, _, _, _, _, _, _, _, _, _, _, _, _, _, _, _, _, _, _, _, _, _, _, _, _, _, _, _, _, _, _, _, _, _, _, _, _, _, _, _, _, _, _, _, _, _, _, _, _, _], defers := _ } _
          refine wpAnyH_take (i := 10) (v := .int .i64 code) rfl (by kernel_rfl) (by kernel_rfl) (by kernel_rfl) (fun _ _ _ h => h) (Or.inl ⟨by rfl, ?_⟩) H ?_
          · intro w' hSw; go_simp
          change wpAnyH _ _ _ _ _ _ _ { tmps := #[_, _, _, _, _, _, _, _, _, _, _, _, _, _, _, _, _, _, _, _, _, _, _, _, _, _, _, _, _, _, _, _, _, _, _, _, _, _, _, _, _, _, _, _, _, _, _, _, _, _, _, _, _, _, _, _, _, _, _, _, _, _, _, _, _, _, _, _, _, _, _, _, _, _, _, _, _, _, _, _, _, _, _, _, _, _, _, _, _, _, _, _, _, _, _, _, _, _, _, _, _, _, _, _, _, _, _, _, _], defers := _ } _
          refine wpAnyH_done (by kernel_rfl) ?_ _
          refine NoPanic.normal ?_
          change Exit.then _ _ Exit.normal { tmps := #[_, _, _, _, _, _, _, _, _, _, _, _, _, _, _, _, _, _, _, _, _, _, _, _, _, _, _, _, _, _, _, _, _, _, _, _, _, _, _, _, _, _, _, _, _, _, _, _, _, _, _, _, _, _, _, _, _, _, _, _, _, _, _, _, _, _, _, _, _, _, _, _, _, _, _, _, _, _, _, _, _, _, _, _, _, _, _, _, _, _, _, _, _, _, _, _, _, _, _, _, _, _, _, _, _, _, _, _, _], defers := _ } _
          go_wp2_with fail
          go_meet
          exact ⟨pb, ax, cx, rfl, rfl, XN.out, V9.out, PB.out, NE.out, H⟩
      case rest =>
      obtain ⟨b14, ah, ch, rfl, rfl, xn, ow, bge, ne, hb⟩ := hcut
      rw [hbs] at hb
      replace A1 : Hid (Below w.heap.size w wc) := A1.out.trans (hb.mono A1.out.size)
      replace RP : Hid (BoxP wc (w.heap.size + 1) 39 (.int .i64 q) (.string B) (.string T)) := RP.out.below hb
      replace HB : Hid (Bools wc a n f) := HB.out.below hb
      replace XW : Hid (Bools wc aw n' f') := XW.out.below hb
      replace PW : Hid (Box4 wc b6 29 (.string K') (.int .i64 se') (.int .i64 tp') (.slice aw n' cw)) := PW.out.below hb
      replace S1 : Hid (bs1 ≤ (wc).heap.size) := Nat.le_trans S1.out hb.size
      replace PG : Hid (Box4 wc b9 29 (.string K') (.int .i64 se') (.int .i64 tp') (.slice agx n' cg)) := PG.out.below hb
      replace S2 : Hid (b20 ≤ (wc).heap.size) := Nat.le_trans S2.out hb.size
      replace RA : Hid (Box4 wc w.heap.size 27 (.string K) (.int .i64 se) (.int .i64 tp) (.slice a n c)) := RA.out.below hb
      replace OM : Hid (Bools wc agx n' (fun i => mb (1 + i))) := OM.out.below hb
      have bsz : bs ≤ wc.heap.size := by rw [hbs]; exact hb.size
      clear hb hbs
      have XH : Hid (Bools wc ah n' f') := ow.bools
      have PH : Hid (Box4 wc b14 29 (.string K') (.int .i64 se') (.int .i64 tp') (.slice ah n' ch)) := xn
      clear xn ow bge ne bsz bs IS
      have t0 := PH.out.c0
      have t1 := PH.out.c1
      have t2 := PH.out.c2
      have t3 := PH.out.c3
      have u0 := PW.out.c0
      have u1 := PW.out.c1
      have u2 := PW.out.c2
      have u3 := PW.out.c3
      go_wp2_with fail
      clear t0 t1 t2 t3 u0 u1 u2 u3
      refine (eqLink_yes K' se' tp' ah aw n' ch cw f' (by have := HN.out; omega) _ XH.out XW.out).mono ?_
      rintro e v62 ⟨rfl, hb⟩
      replace A1 : Hid (Below w.heap.size w v62) := A1.out.trans (hb.mono A1.out.size)
      replace RP : Hid (BoxP v62 (w.heap.size + 1) 39 (.int .i64 q) (.string B) (.string T)) := RP.out.below hb
      replace HB : Hid (Bools v62 a n f) := HB.out.below hb
      replace XW : Hid (Bools v62 aw n' f') := XW.out.below hb
      replace PW : Hid (Box4 v62 b6 29 (.string K') (.int .i64 se') (.int .i64 tp') (.slice aw n' cw)) := PW.out.below hb
      replace S1 : Hid (bs1 ≤ (v62).heap.size) := Nat.le_trans S1.out hb.size
      replace PG : Hid (Box4 v62 b9 29 (.string K') (.int .i64 se') (.int .i64 tp') (.slice agx n' cg)) := PG.out.below hb
      replace S2 : Hid (b20 ≤ (v62).heap.size) := Nat.le_trans S2.out hb.size
      replace RA : Hid (Box4 v62 w.heap.size 27 (.string K) (.int .i64 se) (.int .i64 tp) (.slice a n c)) := RA.out.below hb
      replace OM : Hid (Bools v62 agx n' (fun i => mb (1 + i))) := OM.out.below hb
      replace XH : Hid (Bools v62 ah n' f') := XH.out.below hb
      replace PH : Hid (Box4 v62 b14 29 (.string K') (.int .i64 se') (.int .i64 tp') (.slice ah n' ch)) := PH.out.below hb
      clear hb 
      have t0 := PG.out.c0
      have t1 := PG.out.c1
      have t2 := PG.out.c2
      have t3 := PG.out.c3
      go_wp2_with fail
      clear t0 t1 t2 t3
      refine (HE.out _ OM.out).mono ?_
      rintro e v63 ⟨rfl, hb⟩
      replace A1 : Hid (Below w.heap.size w v63) := A1.out.trans (hb.mono A1.out.size)
      replace RP : Hid (BoxP v63 (w.heap.size + 1) 39 (.int .i64 q) (.string B) (.string T)) := RP.out.below hb
      replace HB : Hid (Bools v63 a n f) := HB.out.below hb
      replace XW : Hid (Bools v63 aw n' f') := XW.out.below hb
      replace PW : Hid (Box4 v63 b6 29 (.string K') (.int .i64 se') (.int .i64 tp') (.slice aw n' cw)) := PW.out.below hb
      replace S1 : Hid (bs1 ≤ (v63).heap.size) := Nat.le_trans S1.out hb.size
      replace PG : Hid (Box4 v63 b9 29 (.string K') (.int .i64 se') (.int .i64 tp') (.slice agx n' cg)) := PG.out.below hb
      replace S2 : Hid (b20 ≤ (v63).heap.size) := Nat.le_trans S2.out hb.size
      replace RA : Hid (Box4 v63 w.heap.size 27 (.string K) (.int .i64 se) (.int .i64 tp) (.slice a n c)) := RA.out.below hb
      replace OM : Hid (Bools v63 agx n' (fun i => mb (1 + i))) := OM.out.below hb
      replace XH : Hid (Bools v63 ah n' f') := XH.out.below hb
      replace PH : Hid (Box4 v63 b14 29 (.string K') (.int .i64 se') (.int .i64 tp') (.slice ah n' ch)) := PH.out.below hb
      clear hb 
      clear RP HB XW PW S1 PG S2 RA OM XH PH
      go_wp2
      go_ret
      exact ⟨rfl, A1.out⟩
end Go.Proofs.YtkhglllicblbbabDoor
