/-
  Texts of the proof, joined: SvcF.
-/
import Derived.Test.YtedncfcmhaaobaaY17
import Derived.Test.YtedncfcmhaaobaaTkH
namespace Go.Proofs.Ytedncfcmhaaobaa
open Go.ChangeShapes Go.WideShapes Go.ChangeAt Go.RowKit
set_option linter.unusedVariables false
set_option maxRecDepth 100000 in
set_option maxHeartbeats 2000000 in
theorem eqWriteOp_yes (r : Wo) (a b : Option Addr) (c d : Nat) (hn : r.ne ≤ 1048576) (w : World) (h : Num w a r.ne r.E) (h' : Num w b r.ne r.E) : Calls Try.prog 82 #[.agg #[.int .i64 r.mc, .int .i64 r.mt, .slice a r.ne c, .int .i64 r.bg, .int .i64 r.en], .agg #[.int .i64 r.mc, .int .i64 r.mt, .slice b r.ne d, .int .i64 r.bg, .int .i64 r.en]] w fun e w' => e = .returned (.bool true) ∧ Below w.heap.size w w' := by
 have EM : Hid (∀ (x y : Int) (w : World), Calls Try.prog 103 #[.agg #[.int .i64 x, .int .i64 y], .agg #[.int .i64 x, .int .i64 y]] w fun e w' => e = .returned (.bool true) ∧ Below w.heap.size w w') := eqMark_yes
 have EI : Hid (∀ w : World, Num w a r.ne r.E → Num w b r.ne r.E → Calls Try.prog 20 #[.slice a r.ne c, .slice b r.ne d] w fun e w' => e = .returned (.bool true) ∧ Below w.heap.size w w') := fun w h h' => eqNum_yes a b r.ne c d r.E w h h' (by omega)
 have HA : Hid (Num w a r.ne r.E) := h
 have HB : Hid (Num w b r.ne r.E) := h'
 have A1 : Hid (Below w.heap.size w ((w.alloc (.cells #[.int .i64 r.mc, .int .i64 r.mt, .slice a r.ne c, .int .i64 r.bg, .int .i64 r.en] 37)).alloc (.cells #[.int .i64 r.mc, .int .i64 r.mt, .slice b r.ne d, .int .i64 r.bg, .int .i64 r.en] 37))) := ((Below.refl _ _).alloc (Nat.le_refl _) _).alloc (by simp) _
 have hx : ∀ (u : World) (p : Nat) (y : Value), u.heap.size = p → (u.alloc (.cells #[.int .i64 r.mc, .int .i64 r.mt, y, .int .i64 r.bg, .int .i64 r.en] 37)).rowIs p 37 5 (woV r y) := fun u p y hp => by
  subst hp
  exact World.rowIs_alloc u #[.int .i64 r.mc, .int .i64 r.mt, y, .int .i64 r.bg, .int .i64 r.en] 37 _ (fun i hi => by
   rcases (show i = 0 ∨ i = 1 ∨ i = 2 ∨ i = 3 ∨ i = 4 by simp at hi; omega) with rfl | rfl | rfl | rfl | rfl <;> rfl)
 have X : Hid (((w.alloc (.cells #[.int .i64 r.mc, .int .i64 r.mt, .slice a r.ne c, .int .i64 r.bg, .int .i64 r.en] 37)).alloc (.cells #[.int .i64 r.mc, .int .i64 r.mt, .slice b r.ne d, .int .i64 r.bg, .int .i64 r.en] 37)).rowIs w.heap.size 37 5 (woV r (.slice a r.ne c))) := World.rowIs.alloc (hx w _ _ rfl) _
 have Y : Hid (((w.alloc (.cells #[.int .i64 r.mc, .int .i64 r.mt, .slice a r.ne c, .int .i64 r.bg, .int .i64 r.en] 37)).alloc (.cells #[.int .i64 r.mc, .int .i64 r.mt, .slice b r.ne d, .int .i64 r.bg, .int .i64 r.en] 37)).rowIs (w.heap.size + 1) 37 5 (woV r (.slice b r.ne d))) := hx _ _ _ (by simp)
 have e1 : (r.bg != r.bg) = false := by simp
 have e2 : (r.en != r.en) = false := by simp
 clear h h' hx hn
 go_enter Try.func82, Try.ntmps82
 go_wp2_with fail
 generalize ((w.alloc (.cells #[.int .i64 r.mc, .int .i64 r.mt, .slice a r.ne c, .int .i64 r.bg, .int .i64 r.en] 37)).alloc (.cells #[.int .i64 r.mc, .int .i64 r.mt, .slice b r.ne d, .int .i64 r.bg, .int .i64 r.en] 37)) = v at *
 refine (EM.out _ _ _).mono ?_
 rintro e v1 ⟨rfl, hb⟩
 replace A1 : Hid (Below w.heap.size w v1) := A1.out.trans (hb.mono A1.out.size)
 replace X : Hid (v1.rowIs w.heap.size 37 5 (woV r (.slice a r.ne c))) := World.rowIs.of_block X.out (hb.block _ (World.rowIs.lt X.out))
 replace Y : Hid (v1.rowIs (w.heap.size + 1) 37 5 (woV r (.slice b r.ne d))) := World.rowIs.of_block Y.out (hb.block _ (World.rowIs.lt Y.out))
 clear hb
 have x0 := World.rowIs.cell X.out (i := 0) (by omega)
 have y0 := World.rowIs.cell Y.out (i := 0) (by omega)
 have x1 := World.rowIs.cell X.out (i := 1) (by omega)
 have y1 := World.rowIs.cell Y.out (i := 1) (by omega)
 have x2 := World.rowIs.cell X.out (i := 2) (by omega)
 have y2 := World.rowIs.cell Y.out (i := 2) (by omega)
 have x3 := World.rowIs.cell X.out (i := 3) (by omega)
 have y3 := World.rowIs.cell Y.out (i := 3) (by omega)
 have x4 := World.rowIs.cell X.out (i := 4) (by omega)
 have y4 := World.rowIs.cell Y.out (i := 4) (by omega)
 simp only [woV] at x0 y0 x1 y1 x2 y2 x3 y3 x4 y4
 go_wp2_with fail
 clear x0 y0 x1 y1 x2 y2 x3 y3 x4 y4
 refine (EI.out _ (HA.out.below A1.out) (HB.out.below A1.out)).mono ?_
 rintro e v2 ⟨rfl, hb⟩
 replace A1 : Hid (Below w.heap.size w v2) := A1.out.trans (hb.mono A1.out.size)
 replace X : Hid (v2.rowIs w.heap.size 37 5 (woV r (.slice a r.ne c))) := World.rowIs.of_block X.out (hb.block _ (World.rowIs.lt X.out))
 replace Y : Hid (v2.rowIs (w.heap.size + 1) 37 5 (woV r (.slice b r.ne d))) := World.rowIs.of_block Y.out (hb.block _ (World.rowIs.lt Y.out))
 clear hb
 have x0 := World.rowIs.cell X.out (i := 0) (by omega)
 have y0 := World.rowIs.cell Y.out (i := 0) (by omega)
 have x1 := World.rowIs.cell X.out (i := 1) (by omega)
 have y1 := World.rowIs.cell Y.out (i := 1) (by omega)
 have x2 := World.rowIs.cell X.out (i := 2) (by omega)
 have y2 := World.rowIs.cell Y.out (i := 2) (by omega)
 have x3 := World.rowIs.cell X.out (i := 3) (by omega)
 have y3 := World.rowIs.cell Y.out (i := 3) (by omega)
 have x4 := World.rowIs.cell X.out (i := 4) (by omega)
 have y4 := World.rowIs.cell Y.out (i := 4) (by omega)
 simp only [woV] at x0 y0 x1 y1 x2 y2 x3 y3 x4 y4
 clear X Y HA HB EM EI
 go_wp2
 go_ret
 exact ⟨rfl, A1.out⟩
set_option maxRecDepth 100000 in
set_option maxHeartbeats 4000000 in
theorem eqWriteOpS_yes (a b : Option Addr) (n c d : Nat) (R : Nat → Wo) (A B : Nat → Option Addr) (X Y : Nat → Nat) (hn : n ≤ 1048576) (he : ∀ i, i < n → (R i).ne ≤ 1048576) (w : World) (h : WoV w a n R A X) (h' : WoV w b n R B Y) : Calls Try.prog 41 #[.slice a n c, .slice b n d] w fun e w' => e = .returned (.bool true) ∧ Below w.heap.size w w' := by
 have HA : Hid (WoV w a n R A X) := h
 have HB : Hid (WoV w b n R B Y) := h'
 have hnn : ((n : Int) != (n : Int)) = false := by simp
 have HN : Hid (∀ i, i < n → (R i).ne ≤ 1048576) := he
 clear h h' he
 go_enter Try.func41, Try.ntmps41
 go_wp2_with fail
 go_loopw [5] (fun iv wr => ∃ k : Nat, k ≤ n ∧ iv = .int .i64 (k : Int) ∧ Below w.heap.size w wr) (fun iv _ => n - (intOf iv).toNat)
 case atStart => exact ⟨0, by omega, rfl, Below.refl _ _⟩
 case round =>
  obtain ⟨k, hk, rfl, hb⟩ := hrel
  have A1 : Hid (Below w.heap.size w wr) := hb
  clear hb
  by_cases hlt : k < n
  ·have hlt' : (k : Int) < (n : Int) := by omega
   have hk0 : (0 : Int) ≤ (k : Int) := by omega
   obtain ⟨ab, ao, ha, hac⟩ := (HA.out.below A1.out).at hlt
   obtain ⟨bb, bo, hb, hbc⟩ := (HB.out.below A1.out).at hlt
   subst ha
   subst hb
   have AC : Hid (∀ j, j < 5 → wr.cell? ⟨ab, ao + k * 5 + j, none⟩ = some (woV (R k) (.slice (A k) (R k).ne (X k)) j)) := hac
   have BC : Hid (∀ j, j < 5 → wr.cell? ⟨bb, bo + k * 5 + j, none⟩ = some (woV (R k) (.slice (B k) (R k).ne (Y k)) j)) := hbc
   have CA : Hid (∀ w' : World, Below wr.heap.size wr w' → ∀ j, j < 5 → w'.cell? ⟨ab, ao + k * 5 + j, none⟩ = some (woV (R k) (.slice (A k) (R k).ne (X k)) j)) := fun w' hb j hj => (hb.cell (strBlock (AC.out j hj))).trans (AC.out j hj)
   have CB : Hid (∀ w' : World, Below wr.heap.size wr w' → ∀ j, j < 5 → w'.cell? ⟨bb, bo + k * 5 + j, none⟩ = some (woV (R k) (.slice (B k) (R k).ne (Y k)) j)) := fun w' hb j hj => (hb.cell (strBlock (BC.out j hj))).trans (BC.out j hj)
   clear hac hbc AC BC
   go_wp2_with fail
   have H : Below wr.heap.size wr wr.drew := (Below.refl _ _).drew
   refine wp_region_noPanic ?_
   refine wp_region_held_drew (S := fun w' => Below wr.heap.size wr w') (by kernel_rfl) H (fun _ => ?_)
   generalize wr.drew = y0 at *
   refine tkH (i := 0) (v := .slice (some ⟨ab, ao, none⟩) n c) rfl (by kernel_rfl) (by rfl) ?_ H ?_
   ·intro w' hSw; go_simp
   change wpAnyH _ _ _ _ _ _ _ { tmps := #[_,_,_,_,_,_,_,_,_,_,_,_,_,_,_,_,_,_,_,_,_,_,_,_,_,_,_], defers := _ } _
   refine tkH (i := 1) (v := .int .i64 (k : Int)) rfl (by kernel_rfl) (by rfl) ?_ H ?_
   ·intro w' hSw; go_simp
   change wpAnyH _ _ _ _ _ _ _ { tmps := #[_,_,_,_,_,_,_,_,_,_,_,_,_,_,_,_,_,_,_,_,_,_,_,_,_,_,_], defers := _ } _
   refine tkH (i := 2) (v := .pointer (some ⟨ab, ao + k * 5, none⟩)) rfl (by kernel_rfl) (by rfl) ?_ H ?_
   ·intro w' hSw; go_simp
   change wpAnyH _ _ _ _ _ _ _ { tmps := #[_,_,_,_,_,_,_,_,_,_,_,_,_,_,_,_,_,_,_,_,_,_,_,_,_,_,_], defers := _ } _
   refine tkH (i := 3) (v := .agg #[.int .i64 (R k).mc, .int .i64 (R k).mt, .slice (A k) (R k).ne (X k), .int .i64 (R k).bg, .int .i64 (R k).en]) rfl (by kernel_rfl) (by rfl) ?_ H ?_
   ·intro w' hSw; have t0 := CA.out _ hSw 0 (by omega); have t1 := CA.out _ hSw 1 (by omega); have t2 := CA.out _ hSw 2 (by omega); have t3 := CA.out _ hSw 3 (by omega); have t4 := CA.out _ hSw 4 (by omega); simp only [woV, Nat.add_zero] at t0 t1 t2 t3 t4; clear hSw; go_simp
   change wpAnyH _ _ _ _ _ _ _ { tmps := #[_,_,_,_,_,_,_,_,_,_,_,_,_,_,_,_,_,_,_,_,_,_,_,_,_,_,_], defers := _ } _
   refine tkH (i := 4) (v := .slice (some ⟨bb, bo, none⟩) n d) rfl (by kernel_rfl) (by rfl) ?_ H ?_
   ·intro w' hSw; go_simp
   change wpAnyH _ _ _ _ _ _ _ { tmps := #[_,_,_,_,_,_,_,_,_,_,_,_,_,_,_,_,_,_,_,_,_,_,_,_,_,_,_], defers := _ } _
   refine tkH (i := 5) (v := .int .i64 (k : Int)) rfl (by kernel_rfl) (by rfl) ?_ H ?_
   ·intro w' hSw; go_simp
   change wpAnyH _ _ _ _ _ _ _ { tmps := #[_,_,_,_,_,_,_,_,_,_,_,_,_,_,_,_,_,_,_,_,_,_,_,_,_,_,_], defers := _ } _
   refine tkH (i := 6) (v := .pointer (some ⟨bb, bo + k * 5, none⟩)) rfl (by kernel_rfl) (by rfl) ?_ H ?_
   ·intro w' hSw; go_simp
   change wpAnyH _ _ _ _ _ _ _ { tmps := #[_,_,_,_,_,_,_,_,_,_,_,_,_,_,_,_,_,_,_,_,_,_,_,_,_,_,_], defers := _ } _
   refine tkH (i := 7) (v := .agg #[.int .i64 (R k).mc, .int .i64 (R k).mt, .slice (B k) (R k).ne (Y k), .int .i64 (R k).bg, .int .i64 (R k).en]) rfl (by kernel_rfl) (by rfl) ?_ H ?_
   ·intro w' hSw; have t0 := CB.out _ hSw 0 (by omega); have t1 := CB.out _ hSw 1 (by omega); have t2 := CB.out _ hSw 2 (by omega); have t3 := CB.out _ hSw 3 (by omega); have t4 := CB.out _ hSw 4 (by omega); simp only [woV, Nat.add_zero] at t0 t1 t2 t3 t4; clear hSw; go_simp
   change wpAnyH _ _ _ _ _ _ _ { tmps := #[_,_,_,_,_,_,_,_,_,_,_,_,_,_,_,_,_,_,_,_,_,_,_,_,_,_,_], defers := _ } _
   refine rdH (i := 8) (by kernel_rfl) rfl (fun KK hK => ?_)
   go_simp
   refine (eqWriteOp_yes (R k) (A k) (B k) (X k) (Y k) (HN.out k hlt) _ ((HA.out.below (A1.out.trans (H.mono A1.out.size))).2 k hlt) ((HB.out.below (A1.out.trans (H.mono A1.out.size))).2 k hlt)).mono ?_
   rintro e y1 ⟨rfl, hb⟩
   replace H : Below wr.heap.size wr y1 := H.trans (hb.mono H.size)
   clear hb
   refine hK.out _ _ H (fun _ => ?_)
   clear hK KK
   change wpAnyH _ _ _ _ _ _ _ { tmps := #[_,_,_,_,_,_,_,_,_,_,_,_,_,_,_,_,_,_,_,_,_,_,_,_,_,_,_], defers := _ } _
   refine tkH (i := 9) (v := .bool false) rfl (by kernel_rfl) (by rfl) ?_ H ?_
   ·intro w' hSw; go_simp
   change wpAnyH _ _ _ _ _ _ _ { tmps := #[_,_,_,_,_,_,_,_,_,_,_,_,_,_,_,_,_,_,_,_,_,_,_,_,_,_,_], defers := _ } _
   refine wpAnyH_done (by kernel_rfl) ?_ _
   refine NoPanic.normal ?_
   have A2 : Hid (Below w.heap.size w y1) := A1.out.trans (H.mono A1.out.size)
   clear H
   change Exit.then _ _ Exit.normal { tmps := #[_, _, _, _, _, _, _, _, _, _, _, _, _, _, _, _, _, _, _, _, _, _, _, _, _, _, _], defers := _ } _
   go_wp2
   go_roundw
   case rel => exact ⟨k + 1, by omega, by go_num, A2.out⟩
   case measure => simp [intOf]; omega
  ·have hlt' : ¬ (k : Int) < (n : Int) := by omega
   go_wp2
   go_ret
   exact ⟨rfl, A1.out⟩
set_option maxRecDepth 100000 in
set_option maxHeartbeats 2000000 in
theorem eqReadOp_yes (r : Ro) (a b : Option Addr) (c d : Nat) (hn : r.ne ≤ 1048576) (w : World) (h : Num w a r.ne r.E) (h' : Num w b r.ne r.E) : Calls Try.prog 83 #[.agg #[.slice a r.ne c, .int .i64 r.bc, .int .i64 r.bt, .int .i64 r.bg, .int .i64 r.en], .agg #[.slice b r.ne d, .int .i64 r.bc, .int .i64 r.bt, .int .i64 r.bg, .int .i64 r.en]] w fun e w' => e = .returned (.bool true) ∧ Below w.heap.size w w' := by
 have EM : Hid (∀ (x y : Int) (w : World), Calls Try.prog 103 #[.agg #[.int .i64 x, .int .i64 y], .agg #[.int .i64 x, .int .i64 y]] w fun e w' => e = .returned (.bool true) ∧ Below w.heap.size w w') := eqMark_yes
 have EI : Hid (∀ w : World, Num w a r.ne r.E → Num w b r.ne r.E → Calls Try.prog 20 #[.slice a r.ne c, .slice b r.ne d] w fun e w' => e = .returned (.bool true) ∧ Below w.heap.size w w') := fun w h h' => eqNum_yes a b r.ne c d r.E w h h' (by omega)
 have HA : Hid (Num w a r.ne r.E) := h
 have HB : Hid (Num w b r.ne r.E) := h'
 have A1 : Hid (Below w.heap.size w ((w.alloc (.cells #[.slice a r.ne c, .int .i64 r.bc, .int .i64 r.bt, .int .i64 r.bg, .int .i64 r.en] 90)).alloc (.cells #[.slice b r.ne d, .int .i64 r.bc, .int .i64 r.bt, .int .i64 r.bg, .int .i64 r.en] 90))) := ((Below.refl _ _).alloc (Nat.le_refl _) _).alloc (by simp) _
 have hx : ∀ (u : World) (p : Nat) (y : Value), u.heap.size = p → (u.alloc (.cells #[y, .int .i64 r.bc, .int .i64 r.bt, .int .i64 r.bg, .int .i64 r.en] 90)).rowIs p 90 5 (roV r y) := fun u p y hp => by
  subst hp
  exact World.rowIs_alloc u #[y, .int .i64 r.bc, .int .i64 r.bt, .int .i64 r.bg, .int .i64 r.en] 90 _ (fun i hi => by
   rcases (show i = 0 ∨ i = 1 ∨ i = 2 ∨ i = 3 ∨ i = 4 by simp at hi; omega) with rfl | rfl | rfl | rfl | rfl <;> rfl)
 have X : Hid (((w.alloc (.cells #[.slice a r.ne c, .int .i64 r.bc, .int .i64 r.bt, .int .i64 r.bg, .int .i64 r.en] 90)).alloc (.cells #[.slice b r.ne d, .int .i64 r.bc, .int .i64 r.bt, .int .i64 r.bg, .int .i64 r.en] 90)).rowIs w.heap.size 90 5 (roV r (.slice a r.ne c))) := World.rowIs.alloc (hx w _ _ rfl) _
 have Y : Hid (((w.alloc (.cells #[.slice a r.ne c, .int .i64 r.bc, .int .i64 r.bt, .int .i64 r.bg, .int .i64 r.en] 90)).alloc (.cells #[.slice b r.ne d, .int .i64 r.bc, .int .i64 r.bt, .int .i64 r.bg, .int .i64 r.en] 90)).rowIs (w.heap.size + 1) 90 5 (roV r (.slice b r.ne d))) := hx _ _ _ (by simp)
 have e1 : (r.bg != r.bg) = false := by simp
 have e2 : (r.en != r.en) = false := by simp
 clear h h' hx hn
 go_enter Try.func83, Try.ntmps83
 go_wp2_with fail
 generalize ((w.alloc (.cells #[.slice a r.ne c, .int .i64 r.bc, .int .i64 r.bt, .int .i64 r.bg, .int .i64 r.en] 90)).alloc (.cells #[.slice b r.ne d, .int .i64 r.bc, .int .i64 r.bt, .int .i64 r.bg, .int .i64 r.en] 90)) = v at *
 refine (EI.out _ (HA.out.below A1.out) (HB.out.below A1.out)).mono ?_
 rintro e v1 ⟨rfl, hb⟩
 replace A1 : Hid (Below w.heap.size w v1) := A1.out.trans (hb.mono A1.out.size)
 replace X : Hid (v1.rowIs w.heap.size 90 5 (roV r (.slice a r.ne c))) := World.rowIs.of_block X.out (hb.block _ (World.rowIs.lt X.out))
 replace Y : Hid (v1.rowIs (w.heap.size + 1) 90 5 (roV r (.slice b r.ne d))) := World.rowIs.of_block Y.out (hb.block _ (World.rowIs.lt Y.out))
 clear hb
 have x0 := World.rowIs.cell X.out (i := 0) (by omega)
 have y0 := World.rowIs.cell Y.out (i := 0) (by omega)
 have x1 := World.rowIs.cell X.out (i := 1) (by omega)
 have y1 := World.rowIs.cell Y.out (i := 1) (by omega)
 have x2 := World.rowIs.cell X.out (i := 2) (by omega)
 have y2 := World.rowIs.cell Y.out (i := 2) (by omega)
 have x3 := World.rowIs.cell X.out (i := 3) (by omega)
 have y3 := World.rowIs.cell Y.out (i := 3) (by omega)
 have x4 := World.rowIs.cell X.out (i := 4) (by omega)
 have y4 := World.rowIs.cell Y.out (i := 4) (by omega)
 simp only [roV] at x0 y0 x1 y1 x2 y2 x3 y3 x4 y4
 go_wp2_with fail
 clear x0 y0 x1 y1 x2 y2 x3 y3 x4 y4
 refine (EM.out _ _ _).mono ?_
 rintro e v2 ⟨rfl, hb⟩
 replace A1 : Hid (Below w.heap.size w v2) := A1.out.trans (hb.mono A1.out.size)
 replace X : Hid (v2.rowIs w.heap.size 90 5 (roV r (.slice a r.ne c))) := World.rowIs.of_block X.out (hb.block _ (World.rowIs.lt X.out))
 replace Y : Hid (v2.rowIs (w.heap.size + 1) 90 5 (roV r (.slice b r.ne d))) := World.rowIs.of_block Y.out (hb.block _ (World.rowIs.lt Y.out))
 clear hb
 have x0 := World.rowIs.cell X.out (i := 0) (by omega)
 have y0 := World.rowIs.cell Y.out (i := 0) (by omega)
 have x1 := World.rowIs.cell X.out (i := 1) (by omega)
 have y1 := World.rowIs.cell Y.out (i := 1) (by omega)
 have x2 := World.rowIs.cell X.out (i := 2) (by omega)
 have y2 := World.rowIs.cell Y.out (i := 2) (by omega)
 have x3 := World.rowIs.cell X.out (i := 3) (by omega)
 have y3 := World.rowIs.cell Y.out (i := 3) (by omega)
 have x4 := World.rowIs.cell X.out (i := 4) (by omega)
 have y4 := World.rowIs.cell Y.out (i := 4) (by omega)
 simp only [roV] at x0 y0 x1 y1 x2 y2 x3 y3 x4 y4
 clear X Y HA HB EM EI
 go_wp2
 go_ret
 exact ⟨rfl, A1.out⟩
set_option maxRecDepth 100000 in
set_option maxHeartbeats 4000000 in
theorem eqReadOpS_yes (a b : Option Addr) (n c d : Nat) (R : Nat → Ro) (A B : Nat → Option Addr) (X Y : Nat → Nat) (hn : n ≤ 1048576) (he : ∀ i, i < n → (R i).ne ≤ 1048576) (w : World) (h : RoV w a n R A X) (h' : RoV w b n R B Y) : Calls Try.prog 42 #[.slice a n c, .slice b n d] w fun e w' => e = .returned (.bool true) ∧ Below w.heap.size w w' := by
 have HA : Hid (RoV w a n R A X) := h
 have HB : Hid (RoV w b n R B Y) := h'
 have hnn : ((n : Int) != (n : Int)) = false := by simp
 have HN : Hid (∀ i, i < n → (R i).ne ≤ 1048576) := he
 clear h h' he
 go_enter Try.func42, Try.ntmps42
 go_wp2_with fail
 go_loopw [5] (fun iv wr => ∃ k : Nat, k ≤ n ∧ iv = .int .i64 (k : Int) ∧ Below w.heap.size w wr) (fun iv _ => n - (intOf iv).toNat)
 case atStart => exact ⟨0, by omega, rfl, Below.refl _ _⟩
 case round =>
  obtain ⟨k, hk, rfl, hb⟩ := hrel
  have A1 : Hid (Below w.heap.size w wr) := hb
  clear hb
  by_cases hlt : k < n
  ·have hlt' : (k : Int) < (n : Int) := by omega
   have hk0 : (0 : Int) ≤ (k : Int) := by omega
   obtain ⟨ab, ao, ha, hac⟩ := (HA.out.below A1.out).at hlt
   obtain ⟨bb, bo, hb, hbc⟩ := (HB.out.below A1.out).at hlt
   subst ha
   subst hb
   have AC : Hid (∀ j, j < 5 → wr.cell? ⟨ab, ao + k * 5 + j, none⟩ = some (roV (R k) (.slice (A k) (R k).ne (X k)) j)) := hac
   have BC : Hid (∀ j, j < 5 → wr.cell? ⟨bb, bo + k * 5 + j, none⟩ = some (roV (R k) (.slice (B k) (R k).ne (Y k)) j)) := hbc
   have CA : Hid (∀ w' : World, Below wr.heap.size wr w' → ∀ j, j < 5 → w'.cell? ⟨ab, ao + k * 5 + j, none⟩ = some (roV (R k) (.slice (A k) (R k).ne (X k)) j)) := fun w' hb j hj => (hb.cell (strBlock (AC.out j hj))).trans (AC.out j hj)
   have CB : Hid (∀ w' : World, Below wr.heap.size wr w' → ∀ j, j < 5 → w'.cell? ⟨bb, bo + k * 5 + j, none⟩ = some (roV (R k) (.slice (B k) (R k).ne (Y k)) j)) := fun w' hb j hj => (hb.cell (strBlock (BC.out j hj))).trans (BC.out j hj)
   clear hac hbc AC BC
   go_wp2_with fail
   have H : Below wr.heap.size wr wr.drew := (Below.refl _ _).drew
   refine wp_region_noPanic ?_
   refine wp_region_held_drew (S := fun w' => Below wr.heap.size wr w') (by kernel_rfl) H (fun _ => ?_)
   generalize wr.drew = y0 at *
   refine tkH (i := 0) (v := .slice (some ⟨ab, ao, none⟩) n c) rfl (by kernel_rfl) (by rfl) ?_ H ?_
   ·intro w' hSw; go_simp
   change wpAnyH _ _ _ _ _ _ _ { tmps := #[_,_,_,_,_,_,_,_,_,_,_,_,_,_,_,_,_,_,_,_,_,_,_,_,_,_,_], defers := _ } _
   refine tkH (i := 1) (v := .int .i64 (k : Int)) rfl (by kernel_rfl) (by rfl) ?_ H ?_
   ·intro w' hSw; go_simp
   change wpAnyH _ _ _ _ _ _ _ { tmps := #[_,_,_,_,_,_,_,_,_,_,_,_,_,_,_,_,_,_,_,_,_,_,_,_,_,_,_], defers := _ } _
   refine tkH (i := 2) (v := .pointer (some ⟨ab, ao + k * 5, none⟩)) rfl (by kernel_rfl) (by rfl) ?_ H ?_
   ·intro w' hSw; go_simp
   change wpAnyH _ _ _ _ _ _ _ { tmps := #[_,_,_,_,_,_,_,_,_,_,_,_,_,_,_,_,_,_,_,_,_,_,_,_,_,_,_], defers := _ } _
   refine tkH (i := 3) (v := .agg #[.slice (A k) (R k).ne (X k), .int .i64 (R k).bc, .int .i64 (R k).bt, .int .i64 (R k).bg, .int .i64 (R k).en]) rfl (by kernel_rfl) (by rfl) ?_ H ?_
   ·intro w' hSw; have t0 := CA.out _ hSw 0 (by omega); have t1 := CA.out _ hSw 1 (by omega); have t2 := CA.out _ hSw 2 (by omega); have t3 := CA.out _ hSw 3 (by omega); have t4 := CA.out _ hSw 4 (by omega); simp only [roV, Nat.add_zero] at t0 t1 t2 t3 t4; clear hSw; go_simp
   change wpAnyH _ _ _ _ _ _ _ { tmps := #[_,_,_,_,_,_,_,_,_,_,_,_,_,_,_,_,_,_,_,_,_,_,_,_,_,_,_], defers := _ } _
   refine tkH (i := 4) (v := .slice (some ⟨bb, bo, none⟩) n d) rfl (by kernel_rfl) (by rfl) ?_ H ?_
   ·intro w' hSw; go_simp
   change wpAnyH _ _ _ _ _ _ _ { tmps := #[_,_,_,_,_,_,_,_,_,_,_,_,_,_,_,_,_,_,_,_,_,_,_,_,_,_,_], defers := _ } _
   refine tkH (i := 5) (v := .int .i64 (k : Int)) rfl (by kernel_rfl) (by rfl) ?_ H ?_
   ·intro w' hSw; go_simp
   change wpAnyH _ _ _ _ _ _ _ { tmps := #[_,_,_,_,_,_,_,_,_,_,_,_,_,_,_,_,_,_,_,_,_,_,_,_,_,_,_], defers := _ } _
   refine tkH (i := 6) (v := .pointer (some ⟨bb, bo + k * 5, none⟩)) rfl (by kernel_rfl) (by rfl) ?_ H ?_
   ·intro w' hSw; go_simp
   change wpAnyH _ _ _ _ _ _ _ { tmps := #[_,_,_,_,_,_,_,_,_,_,_,_,_,_,_,_,_,_,_,_,_,_,_,_,_,_,_], defers := _ } _
   refine tkH (i := 7) (v := .agg #[.slice (B k) (R k).ne (Y k), .int .i64 (R k).bc, .int .i64 (R k).bt, .int .i64 (R k).bg, .int .i64 (R k).en]) rfl (by kernel_rfl) (by rfl) ?_ H ?_
   ·intro w' hSw; have t0 := CB.out _ hSw 0 (by omega); have t1 := CB.out _ hSw 1 (by omega); have t2 := CB.out _ hSw 2 (by omega); have t3 := CB.out _ hSw 3 (by omega); have t4 := CB.out _ hSw 4 (by omega); simp only [roV, Nat.add_zero] at t0 t1 t2 t3 t4; clear hSw; go_simp
   change wpAnyH _ _ _ _ _ _ _ { tmps := #[_,_,_,_,_,_,_,_,_,_,_,_,_,_,_,_,_,_,_,_,_,_,_,_,_,_,_], defers := _ } _
   refine rdH (i := 8) (by kernel_rfl) rfl (fun KK hK => ?_)
   go_simp
   refine (eqReadOp_yes (R k) (A k) (B k) (X k) (Y k) (HN.out k hlt) _ ((HA.out.below (A1.out.trans (H.mono A1.out.size))).2 k hlt) ((HB.out.below (A1.out.trans (H.mono A1.out.size))).2 k hlt)).mono ?_
   rintro e y1 ⟨rfl, hb⟩
   replace H : Below wr.heap.size wr y1 := H.trans (hb.mono H.size)
   clear hb
   refine hK.out _ _ H (fun _ => ?_)
   clear hK KK
   change wpAnyH _ _ _ _ _ _ _ { tmps := #[_,_,_,_,_,_,_,_,_,_,_,_,_,_,_,_,_,_,_,_,_,_,_,_,_,_,_], defers := _ } _
   refine tkH (i := 9) (v := .bool false) rfl (by kernel_rfl) (by rfl) ?_ H ?_
   ·intro w' hSw; go_simp
   change wpAnyH _ _ _ _ _ _ _ { tmps := #[_,_,_,_,_,_,_,_,_,_,_,_,_,_,_,_,_,_,_,_,_,_,_,_,_,_,_], defers := _ } _
   refine wpAnyH_done (by kernel_rfl) ?_ _
   refine NoPanic.normal ?_
   have A2 : Hid (Below w.heap.size w y1) := A1.out.trans (H.mono A1.out.size)
   clear H
   change Exit.then _ _ Exit.normal { tmps := #[_, _, _, _, _, _, _, _, _, _, _, _, _, _, _, _, _, _, _, _, _, _, _, _, _, _, _], defers := _ } _
   go_wp2
   go_roundw
   case rel => exact ⟨k + 1, by omega, by go_num, A2.out⟩
   case measure => simp [intOf]; omega
  ·have hlt' : ¬ (k : Int) < (n : Int) := by omega
   go_wp2
   go_ret
   exact ⟨rfl, A1.out⟩
end Go.Proofs.Ytedncfcmhaaobaa
