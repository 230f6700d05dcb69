/-
  Texts of the proof, joined: SvcE.
-/
import Derived.Test.YtedncfcmhaaobaaY12
import Derived.Test.YtedncfcmhaaobaaY14
import Derived.Test.YtedncfcmhaaobaaY15
import Derived.Test.YtedncfcmhaaobaaTkH
namespace Go.Proofs.Ytedncfcmhaaobaa
open Go.ChangeShapes Go.WideShapes Go.ChangeAt Go.RowKit
set_option linter.unusedVariables false
set_option maxRecDepth 100000 in
theorem eqMark_yes (x y : Int) (w : World) : Calls Try.prog 103 #[.agg #[.int .i64 x, .int .i64 y], .agg #[.int .i64 x, .int .i64 y]] w fun e w' => e = .returned (.bool true) ∧ Below w.heap.size w w' := by
 have A1 : Hid (Below w.heap.size w ((w.alloc (.cells #[.int .i64 x, .int .i64 y] 35)).alloc (.cells #[.int .i64 x, .int .i64 y] 35))) := ((Below.refl _ _).alloc (Nat.le_refl _) _).alloc (by simp) _
 have e1 : (x != x) = false := by simp
 have e2 : (y != y) = false := by simp
 go_enter Try.func103, Try.ntmps103
 go_wp2
 go_ret
 exact ⟨rfl, A1.out⟩
set_option maxRecDepth 100000 in
set_option maxHeartbeats 2000000 in
theorem eqReplica_yes (r : Rp) (a b : Option Addr) (c d : Nat) (hn : r.ne ≤ 1048576) (w : World) (h : Num w a r.ne r.E) (h' : Num w b r.ne r.E) : Calls Try.prog 81 #[.agg #[.bool r.mute, .int .i64 r.nc, .int .i64 r.nt, .int .i64 r.sc, .int .i64 r.st, .slice a r.ne c, .int .i64 r.bc, .int .i64 r.bt], .agg #[.bool r.mute, .int .i64 r.nc, .int .i64 r.nt, .int .i64 r.sc, .int .i64 r.st, .slice b r.ne d, .int .i64 r.bc, .int .i64 r.bt]] w fun e w' => e = .returned (.bool true) ∧ Below w.heap.size w w' := by
 have EM : Hid (∀ (x y : Int) (w : World), Calls Try.prog 103 #[.agg #[.int .i64 x, .int .i64 y], .agg #[.int .i64 x, .int .i64 y]] w fun e w' => e = .returned (.bool true) ∧ Below w.heap.size w w') := eqMark_yes
 have EI : Hid (∀ w : World, Num w a r.ne r.E → Num w b r.ne r.E → Calls Try.prog 20 #[.slice a r.ne c, .slice b r.ne d] w fun e w' => e = .returned (.bool true) ∧ Below w.heap.size w w') := fun w h h' => eqNum_yes a b r.ne c d r.E w h h' (by omega)
 have HA : Hid (Num w a r.ne r.E) := h
 have HB : Hid (Num w b r.ne r.E) := h'
 have A1 : Hid (Below w.heap.size w ((w.alloc (.cells #[.bool r.mute, .int .i64 r.nc, .int .i64 r.nt, .int .i64 r.sc, .int .i64 r.st, .slice a r.ne c, .int .i64 r.bc, .int .i64 r.bt] 43)).alloc (.cells #[.bool r.mute, .int .i64 r.nc, .int .i64 r.nt, .int .i64 r.sc, .int .i64 r.st, .slice b r.ne d, .int .i64 r.bc, .int .i64 r.bt] 43))) := ((Below.refl _ _).alloc (Nat.le_refl _) _).alloc (by simp) _
 have hx : ∀ (u : World) (p : Nat) (y : Value), u.heap.size = p → (u.alloc (.cells #[.bool r.mute, .int .i64 r.nc, .int .i64 r.nt, .int .i64 r.sc, .int .i64 r.st, y, .int .i64 r.bc, .int .i64 r.bt] 43)).rowIs p 43 8 (rpV r y) := fun u p y hp => by
  subst hp
  exact World.rowIs_alloc u #[.bool r.mute, .int .i64 r.nc, .int .i64 r.nt, .int .i64 r.sc, .int .i64 r.st, y, .int .i64 r.bc, .int .i64 r.bt] 43 _ (fun i hi => by
   rcases (show i = 0 ∨ i = 1 ∨ i = 2 ∨ i = 3 ∨ i = 4 ∨ i = 5 ∨ i = 6 ∨ i = 7 by simp at hi; omega) with rfl | rfl | rfl | rfl | rfl | rfl | rfl | rfl <;> rfl)
 have X : Hid (((w.alloc (.cells #[.bool r.mute, .int .i64 r.nc, .int .i64 r.nt, .int .i64 r.sc, .int .i64 r.st, .slice a r.ne c, .int .i64 r.bc, .int .i64 r.bt] 43)).alloc (.cells #[.bool r.mute, .int .i64 r.nc, .int .i64 r.nt, .int .i64 r.sc, .int .i64 r.st, .slice b r.ne d, .int .i64 r.bc, .int .i64 r.bt] 43)).rowIs w.heap.size 43 8 (rpV r (.slice a r.ne c))) := World.rowIs.alloc (hx w _ _ rfl) _
 have Y : Hid (((w.alloc (.cells #[.bool r.mute, .int .i64 r.nc, .int .i64 r.nt, .int .i64 r.sc, .int .i64 r.st, .slice a r.ne c, .int .i64 r.bc, .int .i64 r.bt] 43)).alloc (.cells #[.bool r.mute, .int .i64 r.nc, .int .i64 r.nt, .int .i64 r.sc, .int .i64 r.st, .slice b r.ne d, .int .i64 r.bc, .int .i64 r.bt] 43)).rowIs (w.heap.size + 1) 43 8 (rpV r (.slice b r.ne d))) := hx _ _ _ (by simp)
 have e1 : (r.mute != r.mute) = false := by simp
 clear h h' hx hn
 go_enter Try.func81, Try.ntmps81
 go_wp2_with fail
 generalize ((w.alloc (.cells #[.bool r.mute, .int .i64 r.nc, .int .i64 r.nt, .int .i64 r.sc, .int .i64 r.st, .slice a r.ne c, .int .i64 r.bc, .int .i64 r.bt] 43)).alloc (.cells #[.bool r.mute, .int .i64 r.nc, .int .i64 r.nt, .int .i64 r.sc, .int .i64 r.st, .slice b r.ne d, .int .i64 r.bc, .int .i64 r.bt] 43)) = v at *
 refine (EM.out _ _ _).mono ?_
 rintro e v1 ⟨rfl, hb⟩
 replace A1 : Hid (Below w.heap.size w v1) := A1.out.trans (hb.mono A1.out.size)
 replace X : Hid (v1.rowIs w.heap.size 43 8 (rpV r (.slice a r.ne c))) := World.rowIs.of_block X.out (hb.block _ (World.rowIs.lt X.out))
 replace Y : Hid (v1.rowIs (w.heap.size + 1) 43 8 (rpV r (.slice b r.ne d))) := World.rowIs.of_block Y.out (hb.block _ (World.rowIs.lt Y.out))
 clear hb
 have x0 := World.rowIs.cell X.out (i := 0) (by omega)
 have y0 := World.rowIs.cell Y.out (i := 0) (by omega)
 have x1 := World.rowIs.cell X.out (i := 1) (by omega)
 have y1 := World.rowIs.cell Y.out (i := 1) (by omega)
 have x2 := World.rowIs.cell X.out (i := 2) (by omega)
 have y2 := World.rowIs.cell Y.out (i := 2) (by omega)
 have x3 := World.rowIs.cell X.out (i := 3) (by omega)
 have y3 := World.rowIs.cell Y.out (i := 3) (by omega)
 have x4 := World.rowIs.cell X.out (i := 4) (by omega)
 have y4 := World.rowIs.cell Y.out (i := 4) (by omega)
 have x5 := World.rowIs.cell X.out (i := 5) (by omega)
 have y5 := World.rowIs.cell Y.out (i := 5) (by omega)
 have x6 := World.rowIs.cell X.out (i := 6) (by omega)
 have y6 := World.rowIs.cell Y.out (i := 6) (by omega)
 have x7 := World.rowIs.cell X.out (i := 7) (by omega)
 have y7 := World.rowIs.cell Y.out (i := 7) (by omega)
 simp only [rpV] at x0 y0 x1 y1 x2 y2 x3 y3 x4 y4 x5 y5 x6 y6 x7 y7
 go_wp2_with fail
 clear x0 y0 x1 y1 x2 y2 x3 y3 x4 y4 x5 y5 x6 y6 x7 y7
 refine (EM.out _ _ _).mono ?_
 rintro e v2 ⟨rfl, hb⟩
 replace A1 : Hid (Below w.heap.size w v2) := A1.out.trans (hb.mono A1.out.size)
 replace X : Hid (v2.rowIs w.heap.size 43 8 (rpV r (.slice a r.ne c))) := World.rowIs.of_block X.out (hb.block _ (World.rowIs.lt X.out))
 replace Y : Hid (v2.rowIs (w.heap.size + 1) 43 8 (rpV r (.slice b r.ne d))) := World.rowIs.of_block Y.out (hb.block _ (World.rowIs.lt Y.out))
 clear hb
 have x0 := World.rowIs.cell X.out (i := 0) (by omega)
 have y0 := World.rowIs.cell Y.out (i := 0) (by omega)
 have x1 := World.rowIs.cell X.out (i := 1) (by omega)
 have y1 := World.rowIs.cell Y.out (i := 1) (by omega)
 have x2 := World.rowIs.cell X.out (i := 2) (by omega)
 have y2 := World.rowIs.cell Y.out (i := 2) (by omega)
 have x3 := World.rowIs.cell X.out (i := 3) (by omega)
 have y3 := World.rowIs.cell Y.out (i := 3) (by omega)
 have x4 := World.rowIs.cell X.out (i := 4) (by omega)
 have y4 := World.rowIs.cell Y.out (i := 4) (by omega)
 have x5 := World.rowIs.cell X.out (i := 5) (by omega)
 have y5 := World.rowIs.cell Y.out (i := 5) (by omega)
 have x6 := World.rowIs.cell X.out (i := 6) (by omega)
 have y6 := World.rowIs.cell Y.out (i := 6) (by omega)
 have x7 := World.rowIs.cell X.out (i := 7) (by omega)
 have y7 := World.rowIs.cell Y.out (i := 7) (by omega)
 simp only [rpV] at x0 y0 x1 y1 x2 y2 x3 y3 x4 y4 x5 y5 x6 y6 x7 y7
 go_wp2_with fail
 clear x0 y0 x1 y1 x2 y2 x3 y3 x4 y4 x5 y5 x6 y6 x7 y7
 refine (EI.out _ (HA.out.below A1.out) (HB.out.below A1.out)).mono ?_
 rintro e v3 ⟨rfl, hb⟩
 replace A1 : Hid (Below w.heap.size w v3) := A1.out.trans (hb.mono A1.out.size)
 replace X : Hid (v3.rowIs w.heap.size 43 8 (rpV r (.slice a r.ne c))) := World.rowIs.of_block X.out (hb.block _ (World.rowIs.lt X.out))
 replace Y : Hid (v3.rowIs (w.heap.size + 1) 43 8 (rpV r (.slice b r.ne d))) := World.rowIs.of_block Y.out (hb.block _ (World.rowIs.lt Y.out))
 clear hb
 have x0 := World.rowIs.cell X.out (i := 0) (by omega)
 have y0 := World.rowIs.cell Y.out (i := 0) (by omega)
 have x1 := World.rowIs.cell X.out (i := 1) (by omega)
 have y1 := World.rowIs.cell Y.out (i := 1) (by omega)
 have x2 := World.rowIs.cell X.out (i := 2) (by omega)
 have y2 := World.rowIs.cell Y.out (i := 2) (by omega)
 have x3 := World.rowIs.cell X.out (i := 3) (by omega)
 have y3 := World.rowIs.cell Y.out (i := 3) (by omega)
 have x4 := World.rowIs.cell X.out (i := 4) (by omega)
 have y4 := World.rowIs.cell Y.out (i := 4) (by omega)
 have x5 := World.rowIs.cell X.out (i := 5) (by omega)
 have y5 := World.rowIs.cell Y.out (i := 5) (by omega)
 have x6 := World.rowIs.cell X.out (i := 6) (by omega)
 have y6 := World.rowIs.cell Y.out (i := 6) (by omega)
 have x7 := World.rowIs.cell X.out (i := 7) (by omega)
 have y7 := World.rowIs.cell Y.out (i := 7) (by omega)
 simp only [rpV] at x0 y0 x1 y1 x2 y2 x3 y3 x4 y4 x5 y5 x6 y6 x7 y7
 go_wp2_with fail
 clear x0 y0 x1 y1 x2 y2 x3 y3 x4 y4 x5 y5 x6 y6 x7 y7
 refine (EM.out _ _ _).mono ?_
 rintro e v4 ⟨rfl, hb⟩
 replace A1 : Hid (Below w.heap.size w v4) := A1.out.trans (hb.mono A1.out.size)
 replace X : Hid (v4.rowIs w.heap.size 43 8 (rpV r (.slice a r.ne c))) := World.rowIs.of_block X.out (hb.block _ (World.rowIs.lt X.out))
 replace Y : Hid (v4.rowIs (w.heap.size + 1) 43 8 (rpV r (.slice b r.ne d))) := World.rowIs.of_block Y.out (hb.block _ (World.rowIs.lt Y.out))
 clear hb
 clear X Y HA HB EM EI
 go_wp2
 go_ret
 exact ⟨rfl, A1.out⟩
def RpV (w : World) (a : Option Addr) (n : Nat) (R : Nat → Rp) (A : Nat → Option Addr) (X : Nat → Nat) : Prop := Els w 8 a n (rpF R (fun i => .slice (A i) (R i).ne (X i))) ∧ ∀ i, i < n → Num w (A i) (R i).ne (R i).E
theorem RpV.below {w w' : World} {a : Option Addr} {n : Nat} {R : Nat → Rp} {A : Nat → Option Addr} {X : Nat → Nat} (h : RpV w a n R A X) (hb : Below w.heap.size w w') : RpV w' a n R A X := ⟨h.1.below hb, fun i hi => (h.2 i hi).below hb⟩
theorem RpV.at {w : World} {a : Option Addr} {n : Nat} {R : Nat → Rp} {A : Nat → Option Addr} {X : Nat → Nat} (h : RpV w a n R A X) {k : Nat} (hk : k < n) : ∃ b off, a = some ⟨b, off, none⟩ ∧ ∀ j, j < 8 → w.cell? ⟨b, off + k * 8 + j, none⟩ = some (rpV (R k) (.slice (A k) (R k).ne (X k)) j) := by
 obtain ⟨b, off, ha, hc⟩ := h.1.opened (by omega)
 exact ⟨b, off, ha, hc k hk⟩
set_option maxRecDepth 100000 in
set_option maxHeartbeats 4000000 in
theorem eqReplicaS_yes (a b : Option Addr) (n c d : Nat) (R : Nat → Rp) (A B : Nat → Option Addr) (X Y : Nat → Nat) (hn : n ≤ 1048576) (he : ∀ i, i < n → (R i).ne ≤ 1048576) (w : World) (h : RpV w a n R A X) (h' : RpV w b n R B Y) : Calls Try.prog 40 #[.slice a n c, .slice b n d] w fun e w' => e = .returned (.bool true) ∧ Below w.heap.size w w' := by
 have HA : Hid (RpV w a n R A X) := h
 have HB : Hid (RpV w b n R B Y) := h'
 have hnn : ((n : Int) != (n : Int)) = false := by simp
 have HN : Hid (∀ i, i < n → (R i).ne ≤ 1048576) := he
 clear h h' he
 go_enter Try.func40, Try.ntmps40
 go_wp2_with fail
 go_loopw [5] (fun iv wr => ∃ k : Nat, k ≤ n ∧ iv = .int .i64 (k : Int) ∧ Below w.heap.size w wr) (fun iv _ => n - (intOf iv).toNat)
 case atStart => exact ⟨0, by omega, rfl, Below.refl _ _⟩
 case round =>
  obtain ⟨k, hk, rfl, hb⟩ := hrel
  have A1 : Hid (Below w.heap.size w wr) := hb
  clear hb
  by_cases hlt : k < n
  ·have hlt' : (k : Int) < (n : Int) := by omega
   have hk0 : (0 : Int) ≤ (k : Int) := by omega
   obtain ⟨ab, ao, ha, hac⟩ := (HA.out.below A1.out).at hlt
   obtain ⟨bb, bo, hb, hbc⟩ := (HB.out.below A1.out).at hlt
   subst ha
   subst hb
   have AC : Hid (∀ j, j < 8 → wr.cell? ⟨ab, ao + k * 8 + j, none⟩ = some (rpV (R k) (.slice (A k) (R k).ne (X k)) j)) := hac
   have BC : Hid (∀ j, j < 8 → wr.cell? ⟨bb, bo + k * 8 + j, none⟩ = some (rpV (R k) (.slice (B k) (R k).ne (Y k)) j)) := hbc
   have CA : Hid (∀ w' : World, Below wr.heap.size wr w' → ∀ j, j < 8 → w'.cell? ⟨ab, ao + k * 8 + j, none⟩ = some (rpV (R k) (.slice (A k) (R k).ne (X k)) j)) := fun w' hb j hj => (hb.cell (strBlock (AC.out j hj))).trans (AC.out j hj)
   have CB : Hid (∀ w' : World, Below wr.heap.size wr w' → ∀ j, j < 8 → w'.cell? ⟨bb, bo + k * 8 + j, none⟩ = some (rpV (R k) (.slice (B k) (R k).ne (Y k)) j)) := fun w' hb j hj => (hb.cell (strBlock (BC.out j hj))).trans (BC.out j hj)
   clear hac hbc AC BC
   go_wp2_with fail
   have H : Below wr.heap.size wr wr.drew := (Below.refl _ _).drew
   refine wp_region_noPanic ?_
   refine wp_region_held_drew (S := fun w' => Below wr.heap.size wr w') (by kernel_rfl) H (fun _ => ?_)
   generalize wr.drew = y0 at *
   refine tkH (i := 0) (v := .slice (some ⟨ab, ao, none⟩) n c) rfl (by kernel_rfl) (by rfl) ?_ H ?_
   ·intro w' hSw; go_simp
   change wpAnyH _ _ _ _ _ _ _ { tmps := #[_,_,_,_,_,_,_,_,_,_,_,_,_,_,_,_,_,_,_,_,_,_,_,_,_,_,_], defers := _ } _
   refine tkH (i := 1) (v := .int .i64 (k : Int)) rfl (by kernel_rfl) (by rfl) ?_ H ?_
   ·intro w' hSw; go_simp
   change wpAnyH _ _ _ _ _ _ _ { tmps := #[_,_,_,_,_,_,_,_,_,_,_,_,_,_,_,_,_,_,_,_,_,_,_,_,_,_,_], defers := _ } _
   refine tkH (i := 2) (v := .pointer (some ⟨ab, ao + k * 8, none⟩)) rfl (by kernel_rfl) (by rfl) ?_ H ?_
   ·intro w' hSw; go_simp
   change wpAnyH _ _ _ _ _ _ _ { tmps := #[_,_,_,_,_,_,_,_,_,_,_,_,_,_,_,_,_,_,_,_,_,_,_,_,_,_,_], defers := _ } _
   refine tkH (i := 3) (v := .agg #[.bool (R k).mute, .int .i64 (R k).nc, .int .i64 (R k).nt, .int .i64 (R k).sc, .int .i64 (R k).st, .slice (A k) (R k).ne (X k), .int .i64 (R k).bc, .int .i64 (R k).bt]) rfl (by kernel_rfl) (by rfl) ?_ H ?_
   ·intro w' hSw; have t0 := CA.out _ hSw 0 (by omega); have t1 := CA.out _ hSw 1 (by omega); have t2 := CA.out _ hSw 2 (by omega); have t3 := CA.out _ hSw 3 (by omega); have t4 := CA.out _ hSw 4 (by omega); have t5 := CA.out _ hSw 5 (by omega); have t6 := CA.out _ hSw 6 (by omega); have t7 := CA.out _ hSw 7 (by omega); simp only [rpV, Nat.add_zero] at t0 t1 t2 t3 t4 t5 t6 t7; clear hSw; go_simp
   change wpAnyH _ _ _ _ _ _ _ { tmps := #[_,_,_,_,_,_,_,_,_,_,_,_,_,_,_,_,_,_,_,_,_,_,_,_,_,_,_], defers := _ } _
   refine tkH (i := 4) (v := .slice (some ⟨bb, bo, none⟩) n d) rfl (by kernel_rfl) (by rfl) ?_ H ?_
   ·intro w' hSw; go_simp
   change wpAnyH _ _ _ _ _ _ _ { tmps := #[_,_,_,_,_,_,_,_,_,_,_,_,_,_,_,_,_,_,_,_,_,_,_,_,_,_,_], defers := _ } _
   refine tkH (i := 5) (v := .int .i64 (k : Int)) rfl (by kernel_rfl) (by rfl) ?_ H ?_
   ·intro w' hSw; go_simp
   change wpAnyH _ _ _ _ _ _ _ { tmps := #[_,_,_,_,_,_,_,_,_,_,_,_,_,_,_,_,_,_,_,_,_,_,_,_,_,_,_], defers := _ } _
   refine tkH (i := 6) (v := .pointer (some ⟨bb, bo + k * 8, none⟩)) rfl (by kernel_rfl) (by rfl) ?_ H ?_
   ·intro w' hSw; go_simp
   change wpAnyH _ _ _ _ _ _ _ { tmps := #[_,_,_,_,_,_,_,_,_,_,_,_,_,_,_,_,_,_,_,_,_,_,_,_,_,_,_], defers := _ } _
   refine tkH (i := 7) (v := .agg #[.bool (R k).mute, .int .i64 (R k).nc, .int .i64 (R k).nt, .int .i64 (R k).sc, .int .i64 (R k).st, .slice (B k) (R k).ne (Y k), .int .i64 (R k).bc, .int .i64 (R k).bt]) rfl (by kernel_rfl) (by rfl) ?_ H ?_
   ·intro w' hSw; have t0 := CB.out _ hSw 0 (by omega); have t1 := CB.out _ hSw 1 (by omega); have t2 := CB.out _ hSw 2 (by omega); have t3 := CB.out _ hSw 3 (by omega); have t4 := CB.out _ hSw 4 (by omega); have t5 := CB.out _ hSw 5 (by omega); have t6 := CB.out _ hSw 6 (by omega); have t7 := CB.out _ hSw 7 (by omega); simp only [rpV, Nat.add_zero] at t0 t1 t2 t3 t4 t5 t6 t7; clear hSw; go_simp
   change wpAnyH _ _ _ _ _ _ _ { tmps := #[_,_,_,_,_,_,_,_,_,_,_,_,_,_,_,_,_,_,_,_,_,_,_,_,_,_,_], defers := _ } _
   refine rdH (i := 8) (by kernel_rfl) rfl (fun KK hK => ?_)
   go_simp
   refine (eqReplica_yes (R k) (A k) (B k) (X k) (Y k) (HN.out k hlt) _ ((HA.out.below (A1.out.trans (H.mono A1.out.size))).2 k hlt) ((HB.out.below (A1.out.trans (H.mono A1.out.size))).2 k hlt)).mono ?_
   rintro e y1 ⟨rfl, hb⟩
   replace H : Below wr.heap.size wr y1 := H.trans (hb.mono H.size)
   clear hb
   refine hK.out _ _ H (fun _ => ?_)
   clear hK KK
   change wpAnyH _ _ _ _ _ _ _ { tmps := #[_,_,_,_,_,_,_,_,_,_,_,_,_,_,_,_,_,_,_,_,_,_,_,_,_,_,_], defers := _ } _
   refine tkH (i := 9) (v := .bool false) rfl (by kernel_rfl) (by rfl) ?_ H ?_
   ·intro w' hSw; go_simp
   change wpAnyH _ _ _ _ _ _ _ { tmps := #[_,_,_,_,_,_,_,_,_,_,_,_,_,_,_,_,_,_,_,_,_,_,_,_,_,_,_], defers := _ } _
   refine wpAnyH_done (by kernel_rfl) ?_ _
   refine NoPanic.normal ?_
   have A2 : Hid (Below w.heap.size w y1) := A1.out.trans (H.mono A1.out.size)
   clear H
   change Exit.then _ _ Exit.normal { tmps := #[_, _, _, _, _, _, _, _, _, _, _, _, _, _, _, _, _, _, _, _, _, _, _, _, _, _, _], defers := _ } _
   go_wp2
   go_roundw
   case rel => exact ⟨k + 1, by omega, by go_num, A2.out⟩
   case measure => simp [intOf]; omega
  ·have hlt' : ¬ (k : Int) < (n : Int) := by omega
   go_wp2
   go_ret
   exact ⟨rfl, A1.out⟩
end Go.Proofs.Ytedncfcmhaaobaa
