/-
  Texts of the proof, joined: SvcX.
-/
import Derived.Test.YtedncfcmhaaobaaZ19
import Derived.Test.YtedncfcmhaaobaaZ05
import Derived.Test.YtedncfcmhaaobaaTkH
namespace Go.Proofs.Ytedncfcmhaaobaa
open Go.ChangeShapes Go.WideShapes Go.ChangeAt Go.RowKit
set_option linter.unusedVariables false
theorem in_v (x a b : Int) (z : Bool) (hz : z = sB (a ≤ x ∧ x ≤ b)) (w : World) :
  Calls Try.prog 71 #[.int .i64 x, .int .i64 a, .int .i64 b] w fun e w' => e = .returned (.bool z) ∧ Below w.heap.size w w' := by
 refine (in_any x a b z (by rw [hz]; unfold sB; by_cases h : a ≤ x ∧ x ≤ b <;> simp [h]) w).mono ?_
 rintro e _ ⟨rfl, rfl⟩
 exact ⟨rfl, Below.refl _ _⟩
set_option maxRecDepth 100000 in
set_option maxHeartbeats 1000000 in
theorem l09Mark_v (c t : Int) (z : Bool) (hz : z = sB (mkOk c t)) (w : World) :
  Calls Try.prog 72 #[.agg #[.int .i64 c, .int .i64 t]] w fun e w' => e = .returned (.bool z) ∧ Below w.heap.size w w' := by
 have BB : Hid (Below w.heap.size w (w.alloc (.cells #[.int .i64 c, .int .i64 t] 35))) := (Below.refl w.heap.size w).alloc (Nat.le_refl _) _
 have X : Hid (Box2 (w.alloc (.cells #[.int .i64 c, .int .i64 t] 35)) w.heap.size 35 (.int .i64 c) (.int .i64 t)) := Box2.made _ _ _ _
 have IC : Hid (∀ (z : Bool) (w : World), z = sB (inS c) → Calls Try.prog 71 #[.int .i64 c, .int .i64 0, .int .i64 200] w fun e w' => e = .returned (.bool z) ∧ Below w.heap.size w w') := fun z w h => in_v c 0 200 z h w
 have IT : Hid (∀ (z : Bool) (w : World), z = sB (0 ≤ t ∧ t ≤ 1000000) → Calls Try.prog 71 #[.int .i64 t, .int .i64 0, .int .i64 1000000] w fun e w' => e = .returned (.bool z) ∧ Below w.heap.size w w') := fun z w h => in_v t 0 1000000 z h w
 by_cases h1 : inS c
 ·have I1 : Hid (true = sB (inS c)) := (sB_yes h1).symm
  have HZ : Hid (z = sB (0 ≤ t ∧ t ≤ 1000000)) := by
   show z = _
   rw [hz]
   by_cases h2 : 0 ≤ t ∧ t ≤ 1000000
   ·rw [sB_yes h2]; exact sB_yes ⟨h1, h2⟩
   ·rw [sB_no h2]; exact sB_no (fun y => h2 y.2)
  clear hz h1
  go_enter Try.func72, Try.ntmps72
  go_wp2_with fail
  generalize (w.alloc (.cells #[.int .i64 c, .int .i64 t] 35)) = v0 at *
  refine (IC.out true _ I1.out).mono ?_
  rintro e v1 ⟨rfl, hb⟩
  have B1 : Hid (Below w.heap.size w v1) := BB.out.trans (hb.mono BB.out.size)
  have k0 := (X.out.below hb).c0
  have k1 := (X.out.below hb).c1
  clear hb X BB IC I1
  go_wp2_with fail
  clear k0 k1
  refine (IT.out z _ HZ.out).mono ?_
  rintro e v2 ⟨rfl, hb⟩
  replace B1 : Hid (Below w.heap.size w v2) := B1.out.trans (hb.mono B1.out.size)
  clear hb IT HZ
  go_wp2
  go_ret
  exact ⟨rfl, B1.out⟩
 ·have I1 : Hid (false = sB (inS c)) := (sB_no h1).symm
  obtain rfl : z = false := hz.trans (sB_no (fun q => h1 q.1))
  clear hz h1 IT
  go_enter Try.func72, Try.ntmps72
  go_wp2_with fail
  generalize (w.alloc (.cells #[.int .i64 c, .int .i64 t] 35)) = v0 at *
  refine (IC.out false _ I1.out).mono ?_
  rintro e v1 ⟨rfl, hb⟩
  have B1 : Hid (Below w.heap.size w v1) := BB.out.trans (hb.mono BB.out.size)
  clear hb X BB IC I1
  go_wp2
  go_ret
  exact ⟨rfl, B1.out⟩
set_option maxRecDepth 100000 in
set_option maxHeartbeats 2000000 in
theorem l09Ids_v (n : Nat) (hn : n ≤ 1048576) (A : Option Addr) (m X : Nat) (E : Nat → Int) (hm : m ≤ 1048576) (z : Bool) (hz : z = sB (idsOk n m E)) (w : World) (h : Num w A m E) :
  Calls Try.prog 73 #[.slice A m X, .int .i64 (n : Int)] w fun e w' => e = .returned (.bool z) ∧ Below w.heap.size w w' := by
 have HN : Hid (Num w A m E) := h
 have HZ : Hid (z = sB (idsOk n m E)) := hz
 have wn : IntKind.i64.wrap ((n : Int) - 1) = (n : Int) - 1 := IntWalk.i64_in _ (by omega)
 have HI : Hid (∀ (x : Int) (z : Bool) (w : World), z = sB (0 ≤ x ∧ x < (n : Int)) → Calls Try.prog 71 #[.int .i64 x, .int .i64 0, .int .i64 ((n : Int) - 1)] w fun e w' => e = .returned (.bool z) ∧ Below w.heap.size w w') := fun x z w hz => in_v x 0 ((n : Int) - 1) z (by
  rw [hz]
  by_cases h : 0 ≤ x ∧ x < (n : Int)
  ·rw [sB_yes h, sB_yes (by omega)]
  ·rw [sB_no h, sB_no (by omega)]) w
 clear h hz
 go_enter Try.func73, Try.ntmps73
 go_wp2
 go_loopw [5] (fun i wr => ∃ q : Nat, q ≤ m ∧ i = .int .i64 q ∧ (∀ j, j < q → (0 ≤ E j ∧ E j < (n : Int)) ∧ (0 < j → E (j - 1) < E j)) ∧ Below w.heap.size w wr) (fun i _ => m - (intOf i).toNat)
 case atStart => exact ⟨0, by omega, rfl, fun j hj => absurd hj (by omega), Below.refl _ _⟩
 case round =>
  obtain ⟨q, hq, rfl, hok, hb⟩ := hrel
  have HK : Hid (∀ j, j < q → (0 ≤ E j ∧ E j < (n : Int)) ∧ (0 < j → E (j - 1) < E j)) := hok
  have B1 : Hid (Below w.heap.size w wr) := hb
  clear hok
  by_cases hlt : q < m
  ·have hlt' : (q : Int) < (m : Int) := by omega
   obtain ⟨b, off, rfl, hc⟩ := (Els.below HN.out hb).opened (by omega)
   have cq : wr.cell? ⟨b, off + q, none⟩ = some (.int .i64 (E q)) := by have := hc q hlt 0 (by omega); simpa [inF] using this
   have CP : Hid (0 < q → wr.cell? ⟨b, off + (q - 1), none⟩ = some (.int .i64 (E (q - 1)))) := fun h0 => by
    have := hc (q - 1) (by omega) 0 (by omega)
    rw [Nat.mul_one, Nat.add_zero] at this
    simpa [inF] using this
   clear hc hb
   by_cases hx : 0 ≤ E q ∧ E q < (n : Int)
   ·have HX : Hid (∀ w : World, Calls Try.prog 71 #[.int .i64 (E q), .int .i64 0, .int .i64 ((n : Int) - 1)] w fun e w' => e = .returned (.bool true) ∧ w = w') := fun w => in_any _ _ _ _ (by simp; omega) w
    have HO : Hid (0 ≤ E q ∧ E q < (n : Int)) := hx
    clear hx
    generalize hEq : E q = eq at *
    have HE : Hid (E q = eq) := hEq
    clear hEq
    rcases Nat.eq_zero_or_pos q with hq0 | hq0
    ·have e0 : ¬ (0 : Int) < (q : Int) := by omega
     have N : Hid (∀ j, j < q + 1 → (0 ≤ E j ∧ E j < (n : Int)) ∧ (0 < j → E (j - 1) < E j)) := fun j hj => by
      obtain rfl : j = q := by omega
      exact ⟨by rw [HE.out]; exact HO.out, fun h => by omega⟩
     clear hq0 CP HO HE
     go_wp2_with fail
     have H : Below wr.heap.size wr wr.drew := (Below.refl _ _).drew
     refine wp_region_noPanic ?_
     refine wp_region_held_drew (S := fun w' => Below wr.heap.size wr w') (by kernel_rfl) H (fun _ => ?_)
     generalize wr.drew = x0 at *
     refine tkH (i := 0) (v := .slice (some ⟨b, off, none⟩) m X) rfl (by kernel_rfl) (by rfl) ?_ H ?_
     ·intro w' hSw; go_simp
     change wpAnyH _ _ _ _ _ _ _ { tmps := #[_,_,_,_,_,_,_,_,_,_,_,_,_,_,_,_,_,_,_,_,_,_,_,_,_,_,_,_,_,_,_,_,_,_,_,_], defers := _ } _
     refine tkH (i := 1) (v := .int .i64 (q : Int)) rfl (by kernel_rfl) (by rfl) ?_ H ?_
     ·intro w' hSw; go_simp
     change wpAnyH _ _ _ _ _ _ _ { tmps := #[_,_,_,_,_,_,_,_,_,_,_,_,_,_,_,_,_,_,_,_,_,_,_,_,_,_,_,_,_,_,_,_,_,_,_,_], defers := _ } _
     refine tkH (i := 2) (v := .pointer (some ⟨b, off + q, none⟩)) rfl (by kernel_rfl) (by rfl) ?_ H ?_
     ·intro w' hSw; go_simp
     change wpAnyH _ _ _ _ _ _ _ { tmps := #[_,_,_,_,_,_,_,_,_,_,_,_,_,_,_,_,_,_,_,_,_,_,_,_,_,_,_,_,_,_,_,_,_,_,_,_], defers := _ } _
     refine tkH (i := 3) (v := .int .i64 eq) rfl (by kernel_rfl) (by rfl) ?_ H ?_
     ·intro w' hSw; have g : w'.cell? ⟨b, off + q, none⟩ = some (.int .i64 eq) := (hSw.cell (strBlock cq)).trans cq; go_simp
     change wpAnyH _ _ _ _ _ _ _ { tmps := #[_,_,_,_,_,_,_,_,_,_,_,_,_,_,_,_,_,_,_,_,_,_,_,_,_,_,_,_,_,_,_,_,_,_,_,_], defers := _ } _
     refine tkH (i := 4) (v := .int .i64 (n : Int)) rfl (by kernel_rfl) (by rfl) ?_ H ?_
     ·intro w' hSw; go_simp
     change wpAnyH _ _ _ _ _ _ _ { tmps := #[_,_,_,_,_,_,_,_,_,_,_,_,_,_,_,_,_,_,_,_,_,_,_,_,_,_,_,_,_,_,_,_,_,_,_,_], defers := _ } _
     refine tkH (i := 5) (v := .int .i64 ((n : Int) - 1)) rfl (by kernel_rfl) (by rfl) ?_ H ?_
     ·intro w' hSw; go_simp
     change wpAnyH _ _ _ _ _ _ _ { tmps := #[_,_,_,_,_,_,_,_,_,_,_,_,_,_,_,_,_,_,_,_,_,_,_,_,_,_,_,_,_,_,_,_,_,_,_,_], defers := _ } _
     refine wpAnyH_ready (rs := [6]) (by kernel_rfl) (by simp) ?_
     refine AllReadyH.cons rfl (fun KK hK => ?_) AllReadyH.nil
     go_simp
     refine (HX.out _).mono ?_
     rintro e _ ⟨rfl, rfl⟩
     refine hK.out _ _ H (fun _ => ?_)
     clear hK KK
     change wpAnyH _ _ _ _ _ _ _ { tmps := #[_,_,_,_,_,_,_,_,_,_,_,_,_,_,_,_,_,_,_,_,_,_,_,_,_,_,_,_,_,_,_,_,_,_,_,_], defers := _ } _
     refine tkH (i := 7) (v := .bool false) rfl (by kernel_rfl) (by rfl) ?_ H ?_
     ·intro w' hSw; go_simp
     change wpAnyH _ _ _ _ _ _ _ { tmps := #[_,_,_,_,_,_,_,_,_,_,_,_,_,_,_,_,_,_,_,_,_,_,_,_,_,_,_,_,_,_,_,_,_,_,_,_], defers := _ } _
     refine tkH (i := 8) (v := .bool false) rfl (by kernel_rfl) (by rfl) ?_ H ?_
     ·intro w' hSw; go_simp
     change wpAnyH _ _ _ _ _ _ _ { tmps := #[_,_,_,_,_,_,_,_,_,_,_,_,_,_,_,_,_,_,_,_,_,_,_,_,_,_,_,_,_,_,_,_,_,_,_,_], defers := _ } _
     refine tkH (i := 9) (v := .int .i64 (q : Int)) rfl (by kernel_rfl) (by rfl) ?_ H ?_
     ·intro w' hSw; go_simp
     change wpAnyH _ _ _ _ _ _ _ { tmps := #[_,_,_,_,_,_,_,_,_,_,_,_,_,_,_,_,_,_,_,_,_,_,_,_,_,_,_,_,_,_,_,_,_,_,_,_], defers := _ } _
     refine tkH (i := 10) (v := .bool false) rfl (by kernel_rfl) (by rfl) ?_ H ?_
     ·intro w' hSw; go_simp; omega
     change wpAnyH _ _ _ _ _ _ _ { tmps := #[_,_,_,_,_,_,_,_,_,_,_,_,_,_,_,_,_,_,_,_,_,_,_,_,_,_,_,_,_,_,_,_,_,_,_,_], defers := _ } _
     refine tkH (i := 11) (v := .bool false) rfl (by kernel_rfl) (by rfl) ?_ H ?_
     ·intro w' hSw; go_simp
     change wpAnyH _ _ _ _ _ _ _ { tmps := #[_,_,_,_,_,_,_,_,_,_,_,_,_,_,_,_,_,_,_,_,_,_,_,_,_,_,_,_,_,_,_,_,_,_,_,_], defers := _ } _
     refine wpAnyH_take (i := 12) (v := undef) rfl (by kernel_rfl) (by kernel_rfl) (by kernel_rfl) (fun _ _ _ h => h) (Or.inr ⟨by rfl, rfl⟩) H ?_
     change wpAnyH _ _ _ _ _ _ _ { tmps := #[_,_,_,_,_,_,_,_,_,_,_,_,_,_,_,_,_,_,_,_,_,_,_,_,_,_,_,_,_,_,_,_,_,_,_,_], defers := _ } _
     refine wpAnyH_take (i := 13) (v := undef) rfl (by kernel_rfl) (by kernel_rfl) (by kernel_rfl) (fun _ _ _ h => h) (Or.inr ⟨by rfl, rfl⟩) H ?_
     change wpAnyH _ _ _ _ _ _ _ { tmps := #[_,_,_,_,_,_,_,_,_,_,_,_,_,_,_,_,_,_,_,_,_,_,_,_,_,_,_,_,_,_,_,_,_,_,_,_], defers := _ } _
     refine wpAnyH_take (i := 14) (v := undef) rfl (by kernel_rfl) (by kernel_rfl) (by kernel_rfl) (fun _ _ _ h => h) (Or.inr ⟨by rfl, rfl⟩) H ?_
     change wpAnyH _ _ _ _ _ _ _ { tmps := #[_,_,_,_,_,_,_,_,_,_,_,_,_,_,_,_,_,_,_,_,_,_,_,_,_,_,_,_,_,_,_,_,_,_,_,_], defers := _ } _
     refine wpAnyH_take (i := 15) (v := undef) rfl (by kernel_rfl) (by kernel_rfl) (by kernel_rfl) (fun _ _ _ h => h) (Or.inr ⟨by rfl, rfl⟩) H ?_
     change wpAnyH _ _ _ _ _ _ _ { tmps := #[_,_,_,_,_,_,_,_,_,_,_,_,_,_,_,_,_,_,_,_,_,_,_,_,_,_,_,_,_,_,_,_,_,_,_,_], defers := _ } _
     refine wpAnyH_take (i := 16) (v := undef) rfl (by kernel_rfl) (by kernel_rfl) (by kernel_rfl) (fun _ _ _ h => h) (Or.inr ⟨by rfl, rfl⟩) H ?_
     change wpAnyH _ _ _ _ _ _ _ { tmps := #[_,_,_,_,_,_,_,_,_,_,_,_,_,_,_,_,_,_,_,_,_,_,_,_,_,_,_,_,_,_,_,_,_,_,_,_], defers := _ } _
     refine wpAnyH_take (i := 17) (v := undef) rfl (by kernel_rfl) (by kernel_rfl) (by kernel_rfl) (fun _ _ _ h => h) (Or.inr ⟨by rfl, rfl⟩) H ?_
     change wpAnyH _ _ _ _ _ _ _ { tmps := #[_,_,_,_,_,_,_,_,_,_,_,_,_,_,_,_,_,_,_,_,_,_,_,_,_,_,_,_,_,_,_,_,_,_,_,_], defers := _ } _
     refine wpAnyH_take (i := 18) (v := undef) rfl (by kernel_rfl) (by kernel_rfl) (by kernel_rfl) (fun _ _ _ h => h) (Or.inr ⟨by rfl, rfl⟩) H ?_
     change wpAnyH _ _ _ _ _ _ _ { tmps := #[_,_,_,_,_,_,_,_,_,_,_,_,_,_,_,_,_,_,_,_,_,_,_,_,_,_,_,_,_,_,_,_,_,_,_,_], defers := _ } _
     refine wpAnyH_take (i := 19) (v := undef) rfl (by kernel_rfl) (by kernel_rfl) (by kernel_rfl) (fun _ _ _ h => h) (Or.inr ⟨by rfl, rfl⟩) H ?_
     change wpAnyH _ _ _ _ _ _ _ { tmps := #[_,_,_,_,_,_,_,_,_,_,_,_,_,_,_,_,_,_,_,_,_,_,_,_,_,_,_,_,_,_,_,_,_,_,_,_], defers := _ } _
     refine wpAnyH_take (i := 20) (v := undef) rfl (by kernel_rfl) (by kernel_rfl) (by kernel_rfl) (fun _ _ _ h => h) (Or.inr ⟨by rfl, rfl⟩) H ?_
     change wpAnyH _ _ _ _ _ _ _ { tmps := #[_,_,_,_,_,_,_,_,_,_,_,_,_,_,_,_,_,_,_,_,_,_,_,_,_,_,_,_,_,_,_,_,_,_,_,_], defers := _ } _
     refine wpAnyH_take (i := 21) (v := undef) rfl (by kernel_rfl) (by kernel_rfl) (by kernel_rfl) (fun _ _ _ h => h) (Or.inr ⟨by rfl, rfl⟩) H ?_
     change wpAnyH _ _ _ _ _ _ _ { tmps := #[_,_,_,_,_,_,_,_,_,_,_,_,_,_,_,_,_,_,_,_,_,_,_,_,_,_,_,_,_,_,_,_,_,_,_,_], defers := _ } _
     refine tkH (i := 22) (v := .bool false) rfl (by kernel_rfl) (by rfl) ?_ H ?_
     ·intro w' hSw; go_simp
     change wpAnyH _ _ _ _ _ _ _ { tmps := #[_,_,_,_,_,_,_,_,_,_,_,_,_,_,_,_,_,_,_,_,_,_,_,_,_,_,_,_,_,_,_,_,_,_,_,_], defers := _ } _
     refine tkH (i := 23) (v := .bool false) rfl (by kernel_rfl) (by rfl) ?_ H ?_
     ·intro w' hSw; go_simp
     change wpAnyH _ _ _ _ _ _ _ { tmps := #[_,_,_,_,_,_,_,_,_,_,_,_,_,_,_,_,_,_,_,_,_,_,_,_,_,_,_,_,_,_,_,_,_,_,_,_], defers := _ } _
     refine wpAnyH_done (by kernel_rfl) ?_ _
     refine NoPanic.normal ?_
     replace B1 : Hid (Below w.heap.size w x0) := B1.out.trans (H.mono B1.out.size)
     clear HX H
     go_wp2
     go_roundw
     case rel => exact ⟨q + 1, by omega, by go_num, N.out, B1.out⟩
     case measure => simp [intOf]; omega
    ·have e0 : (0 : Int) < (q : Int) := by omega
     have cp := CP.out hq0
     have eq0 : IntKind.i64.wrap ((q : Int) - 1) = ((q - 1 : Nat) : Int) := by rw [IntWalk.i64_in _ (by omega)]; omega
     have lt1 : ((q - 1 : Nat) : Int) < (m : Int) := by omega
     by_cases hr : E (q - 1) < eq
     ·have e5 : ¬ eq ≤ E (q - 1) := by omega
      have N : Hid (∀ j, j < q + 1 → (0 ≤ E j ∧ E j < (n : Int)) ∧ (0 < j → E (j - 1) < E j)) := fun j hj => by
       rcases Nat.lt_or_ge j q with g | g
       ·exact HK.out j g
       ·obtain rfl : j = q := by omega
        exact ⟨by rw [HE.out]; exact HO.out, fun _ => by rw [HE.out]; exact hr⟩
      clear HO hr HE CP
      generalize E (q - 1) = ep at *
      generalize q - 1 = qp at *
      go_wp2_with fail
      have H : Below wr.heap.size wr wr.drew := (Below.refl _ _).drew
      refine wp_region_noPanic ?_
      refine wp_region_held_drew (S := fun w' => Below wr.heap.size wr w') (by kernel_rfl) H (fun _ => ?_)
      generalize wr.drew = x0 at *
      refine tkH (i := 0) (v := .slice (some ⟨b, off, none⟩) m X) rfl (by kernel_rfl) (by rfl) ?_ H ?_
      ·intro w' hSw; go_simp
      change wpAnyH _ _ _ _ _ _ _ { tmps := #[_,_,_,_,_,_,_,_,_,_,_,_,_,_,_,_,_,_,_,_,_,_,_,_,_,_,_,_,_,_,_,_,_,_,_,_], defers := _ } _
      refine tkH (i := 1) (v := .int .i64 (q : Int)) rfl (by kernel_rfl) (by rfl) ?_ H ?_
      ·intro w' hSw; go_simp
      change wpAnyH _ _ _ _ _ _ _ { tmps := #[_,_,_,_,_,_,_,_,_,_,_,_,_,_,_,_,_,_,_,_,_,_,_,_,_,_,_,_,_,_,_,_,_,_,_,_], defers := _ } _
      refine tkH (i := 2) (v := .pointer (some ⟨b, off + q, none⟩)) rfl (by kernel_rfl) (by rfl) ?_ H ?_
      ·intro w' hSw; go_simp
      change wpAnyH _ _ _ _ _ _ _ { tmps := #[_,_,_,_,_,_,_,_,_,_,_,_,_,_,_,_,_,_,_,_,_,_,_,_,_,_,_,_,_,_,_,_,_,_,_,_], defers := _ } _
      refine tkH (i := 3) (v := .int .i64 eq) rfl (by kernel_rfl) (by rfl) ?_ H ?_
      ·intro w' hSw; have g : w'.cell? ⟨b, off + q, none⟩ = some (.int .i64 eq) := (hSw.cell (strBlock cq)).trans cq; go_simp
      change wpAnyH _ _ _ _ _ _ _ { tmps := #[_,_,_,_,_,_,_,_,_,_,_,_,_,_,_,_,_,_,_,_,_,_,_,_,_,_,_,_,_,_,_,_,_,_,_,_], defers := _ } _
      refine tkH (i := 4) (v := .int .i64 (n : Int)) rfl (by kernel_rfl) (by rfl) ?_ H ?_
      ·intro w' hSw; go_simp
      change wpAnyH _ _ _ _ _ _ _ { tmps := #[_,_,_,_,_,_,_,_,_,_,_,_,_,_,_,_,_,_,_,_,_,_,_,_,_,_,_,_,_,_,_,_,_,_,_,_], defers := _ } _
      refine tkH (i := 5) (v := .int .i64 ((n : Int) - 1)) rfl (by kernel_rfl) (by rfl) ?_ H ?_
      ·intro w' hSw; go_simp
      change wpAnyH _ _ _ _ _ _ _ { tmps := #[_,_,_,_,_,_,_,_,_,_,_,_,_,_,_,_,_,_,_,_,_,_,_,_,_,_,_,_,_,_,_,_,_,_,_,_], defers := _ } _
      refine wpAnyH_ready (rs := [6]) (by kernel_rfl) (by simp) ?_
      refine AllReadyH.cons rfl (fun KK hK => ?_) AllReadyH.nil
      go_simp
      refine (HX.out _).mono ?_
      rintro e _ ⟨rfl, rfl⟩
      refine hK.out _ _ H (fun _ => ?_)
      clear hK KK
      change wpAnyH _ _ _ _ _ _ _ { tmps := #[_,_,_,_,_,_,_,_,_,_,_,_,_,_,_,_,_,_,_,_,_,_,_,_,_,_,_,_,_,_,_,_,_,_,_,_], defers := _ } _
      refine tkH (i := 7) (v := .bool false) rfl (by kernel_rfl) (by rfl) ?_ H ?_
      ·intro w' hSw; go_simp
      change wpAnyH _ _ _ _ _ _ _ { tmps := #[_,_,_,_,_,_,_,_,_,_,_,_,_,_,_,_,_,_,_,_,_,_,_,_,_,_,_,_,_,_,_,_,_,_,_,_], defers := _ } _
      refine tkH (i := 8) (v := .bool false) rfl (by kernel_rfl) (by rfl) ?_ H ?_
      ·intro w' hSw; go_simp
      change wpAnyH _ _ _ _ _ _ _ { tmps := #[_,_,_,_,_,_,_,_,_,_,_,_,_,_,_,_,_,_,_,_,_,_,_,_,_,_,_,_,_,_,_,_,_,_,_,_], defers := _ } _
      refine tkH (i := 9) (v := .int .i64 (q : Int)) rfl (by kernel_rfl) (by rfl) ?_ H ?_
      ·intro w' hSw; go_simp
      change wpAnyH _ _ _ _ _ _ _ { tmps := #[_,_,_,_,_,_,_,_,_,_,_,_,_,_,_,_,_,_,_,_,_,_,_,_,_,_,_,_,_,_,_,_,_,_,_,_], defers := _ } _
      refine tkH (i := 10) (v := .bool true) rfl (by kernel_rfl) (by rfl) ?_ H ?_
      ·intro w' hSw; go_simp
      change wpAnyH _ _ _ _ _ _ _ { tmps := #[_,_,_,_,_,_,_,_,_,_,_,_,_,_,_,_,_,_,_,_,_,_,_,_,_,_,_,_,_,_,_,_,_,_,_,_], defers := _ } _
      refine tkH (i := 11) (v := .bool true) rfl (by kernel_rfl) (by rfl) ?_ H ?_
      ·intro w' hSw; go_simp
      change wpAnyH _ _ _ _ _ _ _ { tmps := #[_,_,_,_,_,_,_,_,_,_,_,_,_,_,_,_,_,_,_,_,_,_,_,_,_,_,_,_,_,_,_,_,_,_,_,_], defers := _ } _
      refine tkH (i := 12) (v := .slice (some ⟨b, off, none⟩) m X) rfl (by kernel_rfl) (by rfl) ?_ H ?_
      ·intro w' hSw; go_simp
      change wpAnyH _ _ _ _ _ _ _ { tmps := #[_,_,_,_,_,_,_,_,_,_,_,_,_,_,_,_,_,_,_,_,_,_,_,_,_,_,_,_,_,_,_,_,_,_,_,_], defers := _ } _
      refine tkH (i := 13) (v := .int .i64 (q : Int)) rfl (by kernel_rfl) (by rfl) ?_ H ?_
      ·intro w' hSw; go_simp
      change wpAnyH _ _ _ _ _ _ _ { tmps := #[_,_,_,_,_,_,_,_,_,_,_,_,_,_,_,_,_,_,_,_,_,_,_,_,_,_,_,_,_,_,_,_,_,_,_,_], defers := _ } _
      refine tkH (i := 14) (v := .int .i64 (qp : Int)) rfl (by kernel_rfl) (by rfl) ?_ H ?_
      ·intro w' hSw; go_simp
      change wpAnyH _ _ _ _ _ _ _ { tmps := #[_,_,_,_,_,_,_,_,_,_,_,_,_,_,_,_,_,_,_,_,_,_,_,_,_,_,_,_,_,_,_,_,_,_,_,_], defers := _ } _
      refine tkH (i := 15) (v := .pointer (some ⟨b, off + qp, none⟩)) rfl (by kernel_rfl) (by rfl) ?_ H ?_
      ·intro w' hSw; go_simp
      change wpAnyH _ _ _ _ _ _ _ { tmps := #[_,_,_,_,_,_,_,_,_,_,_,_,_,_,_,_,_,_,_,_,_,_,_,_,_,_,_,_,_,_,_,_,_,_,_,_], defers := _ } _
      refine tkH (i := 16) (v := .int .i64 ep) rfl (by kernel_rfl) (by rfl) ?_ H ?_
      ·intro w' hSw; have g : w'.cell? ⟨b, off + qp, none⟩ = some (.int .i64 ep) := (hSw.cell (strBlock cp)).trans cp; go_simp
      change wpAnyH _ _ _ _ _ _ _ { tmps := #[_,_,_,_,_,_,_,_,_,_,_,_,_,_,_,_,_,_,_,_,_,_,_,_,_,_,_,_,_,_,_,_,_,_,_,_], defers := _ } _
      refine tkH (i := 17) (v := .slice (some ⟨b, off, none⟩) m X) rfl (by kernel_rfl) (by rfl) ?_ H ?_
      ·intro w' hSw; go_simp
      change wpAnyH _ _ _ _ _ _ _ { tmps := #[_,_,_,_,_,_,_,_,_,_,_,_,_,_,_,_,_,_,_,_,_,_,_,_,_,_,_,_,_,_,_,_,_,_,_,_], defers := _ } _
      refine tkH (i := 18) (v := .int .i64 (q : Int)) rfl (by kernel_rfl) (by rfl) ?_ H ?_
      ·intro w' hSw; go_simp
      change wpAnyH _ _ _ _ _ _ _ { tmps := #[_,_,_,_,_,_,_,_,_,_,_,_,_,_,_,_,_,_,_,_,_,_,_,_,_,_,_,_,_,_,_,_,_,_,_,_], defers := _ } _
      refine tkH (i := 19) (v := .pointer (some ⟨b, off + q, none⟩)) rfl (by kernel_rfl) (by rfl) ?_ H ?_
      ·intro w' hSw; go_simp
      change wpAnyH _ _ _ _ _ _ _ { tmps := #[_,_,_,_,_,_,_,_,_,_,_,_,_,_,_,_,_,_,_,_,_,_,_,_,_,_,_,_,_,_,_,_,_,_,_,_], defers := _ } _
      refine tkH (i := 20) (v := .int .i64 eq) rfl (by kernel_rfl) (by rfl) ?_ H ?_
      ·intro w' hSw; have g : w'.cell? ⟨b, off + q, none⟩ = some (.int .i64 eq) := (hSw.cell (strBlock cq)).trans cq; go_simp
      change wpAnyH _ _ _ _ _ _ _ { tmps := #[_,_,_,_,_,_,_,_,_,_,_,_,_,_,_,_,_,_,_,_,_,_,_,_,_,_,_,_,_,_,_,_,_,_,_,_], defers := _ } _
      refine tkH (i := 21) (v := .bool false) rfl (by kernel_rfl) (by rfl) ?_ H ?_
      ·intro w' hSw; go_simp
      change wpAnyH _ _ _ _ _ _ _ { tmps := #[_,_,_,_,_,_,_,_,_,_,_,_,_,_,_,_,_,_,_,_,_,_,_,_,_,_,_,_,_,_,_,_,_,_,_,_], defers := _ } _
      refine tkH (i := 22) (v := .bool false) rfl (by kernel_rfl) (by rfl) ?_ H ?_
      ·intro w' hSw; go_simp
      change wpAnyH _ _ _ _ _ _ _ { tmps := #[_,_,_,_,_,_,_,_,_,_,_,_,_,_,_,_,_,_,_,_,_,_,_,_,_,_,_,_,_,_,_,_,_,_,_,_], defers := _ } _
      refine tkH (i := 23) (v := .bool false) rfl (by kernel_rfl) (by rfl) ?_ H ?_
      ·intro w' hSw; go_simp
      change wpAnyH _ _ _ _ _ _ _ { tmps := #[_,_,_,_,_,_,_,_,_,_,_,_,_,_,_,_,_,_,_,_,_,_,_,_,_,_,_,_,_,_,_,_,_,_,_,_], defers := _ } _
      refine wpAnyH_done (by kernel_rfl) ?_ _
      refine NoPanic.normal ?_
      replace B1 : Hid (Below w.heap.size w x0) := B1.out.trans (H.mono B1.out.size)
      clear HX H
      go_wp2
      go_roundw
      case rel => exact ⟨q + 1, by omega, by go_num, N.out, B1.out⟩
      case measure => simp [intOf]; omega
     ·have e5 : eq ≤ E (q - 1) := by omega
      have HZ2 : Hid (z = false) := HZ.out.trans (sB_no (fun g => by
       have := (g q hlt).2 hq0
       rw [HE.out] at this
       omega))
      clear HO hr HE CP
      generalize E (q - 1) = ep at *
      generalize q - 1 = qp at *
      go_wp2_with fail
      have H : Below wr.heap.size wr wr.drew := (Below.refl _ _).drew
      refine wp_region_noPanic ?_
      refine wp_region_held_drew (S := fun w' => Below wr.heap.size wr w') (by kernel_rfl) H (fun _ => ?_)
      generalize wr.drew = x0 at *
      refine tkH (i := 0) (v := .slice (some ⟨b, off, none⟩) m X) rfl (by kernel_rfl) (by rfl) ?_ H ?_
      ·intro w' hSw; go_simp
      change wpAnyH _ _ _ _ _ _ _ { tmps := #[_,_,_,_,_,_,_,_,_,_,_,_,_,_,_,_,_,_,_,_,_,_,_,_,_,_,_,_,_,_,_,_,_,_,_,_], defers := _ } _
      refine tkH (i := 1) (v := .int .i64 (q : Int)) rfl (by kernel_rfl) (by rfl) ?_ H ?_
      ·intro w' hSw; go_simp
      change wpAnyH _ _ _ _ _ _ _ { tmps := #[_,_,_,_,_,_,_,_,_,_,_,_,_,_,_,_,_,_,_,_,_,_,_,_,_,_,_,_,_,_,_,_,_,_,_,_], defers := _ } _
      refine tkH (i := 2) (v := .pointer (some ⟨b, off + q, none⟩)) rfl (by kernel_rfl) (by rfl) ?_ H ?_
      ·intro w' hSw; go_simp
      change wpAnyH _ _ _ _ _ _ _ { tmps := #[_,_,_,_,_,_,_,_,_,_,_,_,_,_,_,_,_,_,_,_,_,_,_,_,_,_,_,_,_,_,_,_,_,_,_,_], defers := _ } _
      refine tkH (i := 3) (v := .int .i64 eq) rfl (by kernel_rfl) (by rfl) ?_ H ?_
      ·intro w' hSw; have g : w'.cell? ⟨b, off + q, none⟩ = some (.int .i64 eq) := (hSw.cell (strBlock cq)).trans cq; go_simp
      change wpAnyH _ _ _ _ _ _ _ { tmps := #[_,_,_,_,_,_,_,_,_,_,_,_,_,_,_,_,_,_,_,_,_,_,_,_,_,_,_,_,_,_,_,_,_,_,_,_], defers := _ } _
      refine tkH (i := 4) (v := .int .i64 (n : Int)) rfl (by kernel_rfl) (by rfl) ?_ H ?_
      ·intro w' hSw; go_simp
      change wpAnyH _ _ _ _ _ _ _ { tmps := #[_,_,_,_,_,_,_,_,_,_,_,_,_,_,_,_,_,_,_,_,_,_,_,_,_,_,_,_,_,_,_,_,_,_,_,_], defers := _ } _
      refine tkH (i := 5) (v := .int .i64 ((n : Int) - 1)) rfl (by kernel_rfl) (by rfl) ?_ H ?_
      ·intro w' hSw; go_simp
      change wpAnyH _ _ _ _ _ _ _ { tmps := #[_,_,_,_,_,_,_,_,_,_,_,_,_,_,_,_,_,_,_,_,_,_,_,_,_,_,_,_,_,_,_,_,_,_,_,_], defers := _ } _
      refine wpAnyH_ready (rs := [6]) (by kernel_rfl) (by simp) ?_
      refine AllReadyH.cons rfl (fun KK hK => ?_) AllReadyH.nil
      go_simp
      refine (HX.out _).mono ?_
      rintro e _ ⟨rfl, rfl⟩
      refine hK.out _ _ H (fun _ => ?_)
      clear hK KK
      change wpAnyH _ _ _ _ _ _ _ { tmps := #[_,_,_,_,_,_,_,_,_,_,_,_,_,_,_,_,_,_,_,_,_,_,_,_,_,_,_,_,_,_,_,_,_,_,_,_], defers := _ } _
      refine tkH (i := 7) (v := .bool false) rfl (by kernel_rfl) (by rfl) ?_ H ?_
      ·intro w' hSw; go_simp
      change wpAnyH _ _ _ _ _ _ _ { tmps := #[_,_,_,_,_,_,_,_,_,_,_,_,_,_,_,_,_,_,_,_,_,_,_,_,_,_,_,_,_,_,_,_,_,_,_,_], defers := _ } _
      refine tkH (i := 8) (v := .bool false) rfl (by kernel_rfl) (by rfl) ?_ H ?_
      ·intro w' hSw; go_simp
      change wpAnyH _ _ _ _ _ _ _ { tmps := #[_,_,_,_,_,_,_,_,_,_,_,_,_,_,_,_,_,_,_,_,_,_,_,_,_,_,_,_,_,_,_,_,_,_,_,_], defers := _ } _
      refine tkH (i := 9) (v := .int .i64 (q : Int)) rfl (by kernel_rfl) (by rfl) ?_ H ?_
      ·intro w' hSw; go_simp
      change wpAnyH _ _ _ _ _ _ _ { tmps := #[_,_,_,_,_,_,_,_,_,_,_,_,_,_,_,_,_,_,_,_,_,_,_,_,_,_,_,_,_,_,_,_,_,_,_,_], defers := _ } _
      refine tkH (i := 10) (v := .bool true) rfl (by kernel_rfl) (by rfl) ?_ H ?_
      ·intro w' hSw; go_simp
      change wpAnyH _ _ _ _ _ _ _ { tmps := #[_,_,_,_,_,_,_,_,_,_,_,_,_,_,_,_,_,_,_,_,_,_,_,_,_,_,_,_,_,_,_,_,_,_,_,_], defers := _ } _
      refine tkH (i := 11) (v := .bool true) rfl (by kernel_rfl) (by rfl) ?_ H ?_
      ·intro w' hSw; go_simp
      change wpAnyH _ _ _ _ _ _ _ { tmps := #[_,_,_,_,_,_,_,_,_,_,_,_,_,_,_,_,_,_,_,_,_,_,_,_,_,_,_,_,_,_,_,_,_,_,_,_], defers := _ } _
      refine tkH (i := 12) (v := .slice (some ⟨b, off, none⟩) m X) rfl (by kernel_rfl) (by rfl) ?_ H ?_
      ·intro w' hSw; go_simp
      change wpAnyH _ _ _ _ _ _ _ { tmps := #[_,_,_,_,_,_,_,_,_,_,_,_,_,_,_,_,_,_,_,_,_,_,_,_,_,_,_,_,_,_,_,_,_,_,_,_], defers := _ } _
      refine tkH (i := 13) (v := .int .i64 (q : Int)) rfl (by kernel_rfl) (by rfl) ?_ H ?_
      ·intro w' hSw; go_simp
      change wpAnyH _ _ _ _ _ _ _ { tmps := #[_,_,_,_,_,_,_,_,_,_,_,_,_,_,_,_,_,_,_,_,_,_,_,_,_,_,_,_,_,_,_,_,_,_,_,_], defers := _ } _
      refine tkH (i := 14) (v := .int .i64 (qp : Int)) rfl (by kernel_rfl) (by rfl) ?_ H ?_
      ·intro w' hSw; go_simp
      change wpAnyH _ _ _ _ _ _ _ { tmps := #[_,_,_,_,_,_,_,_,_,_,_,_,_,_,_,_,_,_,_,_,_,_,_,_,_,_,_,_,_,_,_,_,_,_,_,_], defers := _ } _
      refine tkH (i := 15) (v := .pointer (some ⟨b, off + qp, none⟩)) rfl (by kernel_rfl) (by rfl) ?_ H ?_
      ·intro w' hSw; go_simp
      change wpAnyH _ _ _ _ _ _ _ { tmps := #[_,_,_,_,_,_,_,_,_,_,_,_,_,_,_,_,_,_,_,_,_,_,_,_,_,_,_,_,_,_,_,_,_,_,_,_], defers := _ } _
      refine tkH (i := 16) (v := .int .i64 ep) rfl (by kernel_rfl) (by rfl) ?_ H ?_
      ·intro w' hSw; have g : w'.cell? ⟨b, off + qp, none⟩ = some (.int .i64 ep) := (hSw.cell (strBlock cp)).trans cp; go_simp
      change wpAnyH _ _ _ _ _ _ _ { tmps := #[_,_,_,_,_,_,_,_,_,_,_,_,_,_,_,_,_,_,_,_,_,_,_,_,_,_,_,_,_,_,_,_,_,_,_,_], defers := _ } _
      refine tkH (i := 17) (v := .slice (some ⟨b, off, none⟩) m X) rfl (by kernel_rfl) (by rfl) ?_ H ?_
      ·intro w' hSw; go_simp
      change wpAnyH _ _ _ _ _ _ _ { tmps := #[_,_,_,_,_,_,_,_,_,_,_,_,_,_,_,_,_,_,_,_,_,_,_,_,_,_,_,_,_,_,_,_,_,_,_,_], defers := _ } _
      refine tkH (i := 18) (v := .int .i64 (q : Int)) rfl (by kernel_rfl) (by rfl) ?_ H ?_
      ·intro w' hSw; go_simp
      change wpAnyH _ _ _ _ _ _ _ { tmps := #[_,_,_,_,_,_,_,_,_,_,_,_,_,_,_,_,_,_,_,_,_,_,_,_,_,_,_,_,_,_,_,_,_,_,_,_], defers := _ } _
      refine tkH (i := 19) (v := .pointer (some ⟨b, off + q, none⟩)) rfl (by kernel_rfl) (by rfl) ?_ H ?_
      ·intro w' hSw; go_simp
      change wpAnyH _ _ _ _ _ _ _ { tmps := #[_,_,_,_,_,_,_,_,_,_,_,_,_,_,_,_,_,_,_,_,_,_,_,_,_,_,_,_,_,_,_,_,_,_,_,_], defers := _ } _
      refine tkH (i := 20) (v := .int .i64 eq) rfl (by kernel_rfl) (by rfl) ?_ H ?_
      ·intro w' hSw; have g : w'.cell? ⟨b, off + q, none⟩ = some (.int .i64 eq) := (hSw.cell (strBlock cq)).trans cq; go_simp
      change wpAnyH _ _ _ _ _ _ _ { tmps := #[_,_,_,_,_,_,_,_,_,_,_,_,_,_,_,_,_,_,_,_,_,_,_,_,_,_,_,_,_,_,_,_,_,_,_,_], defers := _ } _
      refine tkH (i := 21) (v := .bool true) rfl (by kernel_rfl) (by rfl) ?_ H ?_
      ·intro w' hSw; go_simp
      change wpAnyH _ _ _ _ _ _ _ { tmps := #[_,_,_,_,_,_,_,_,_,_,_,_,_,_,_,_,_,_,_,_,_,_,_,_,_,_,_,_,_,_,_,_,_,_,_,_], defers := _ } _
      refine tkH (i := 22) (v := .bool true) rfl (by kernel_rfl) (by rfl) ?_ H ?_
      ·intro w' hSw; go_simp
      change wpAnyH _ _ _ _ _ _ _ { tmps := #[_,_,_,_,_,_,_,_,_,_,_,_,_,_,_,_,_,_,_,_,_,_,_,_,_,_,_,_,_,_,_,_,_,_,_,_], defers := _ } _
      refine tkH (i := 23) (v := .bool true) rfl (by kernel_rfl) (by rfl) ?_ H ?_
      ·intro w' hSw; go_simp
      change wpAnyH _ _ _ _ _ _ _ { tmps := #[_,_,_,_,_,_,_,_,_,_,_,_,_,_,_,_,_,_,_,_,_,_,_,_,_,_,_,_,_,_,_,_,_,_,_,_], defers := _ } _
      refine wpAnyH_done (by kernel_rfl) ?_ _
      refine NoPanic.normal ?_
      replace B1 : Hid (Below w.heap.size w x0) := B1.out.trans (H.mono B1.out.size)
      clear HX H
      go_wp2
      go_ret
      exact ⟨by rw [HZ2.out]; rfl, B1.out⟩
   ·have HX : Hid (∀ w : World, Calls Try.prog 71 #[.int .i64 (E q), .int .i64 0, .int .i64 ((n : Int) - 1)] w fun e w' => e = .returned (.bool false) ∧ w = w') := fun w => in_any _ _ _ _ (by simp; omega) w
    have HZ2 : Hid (z = false) := HZ.out.trans (sB_no (fun g => hx (g q hlt).1))
    clear hx CP
    generalize E q = eq at *
    go_wp2_with fail
    have H : Below wr.heap.size wr wr.drew := (Below.refl _ _).drew
    refine wp_region_noPanic ?_
    refine wp_region_held_drew (S := fun w' => Below wr.heap.size wr w') (by kernel_rfl) H (fun _ => ?_)
    generalize wr.drew = x0 at *
    refine tkH (i := 0) (v := .slice (some ⟨b, off, none⟩) m X) rfl (by kernel_rfl) (by rfl) ?_ H ?_
    ·intro w' hSw; go_simp
    change wpAnyH _ _ _ _ _ _ _ { tmps := #[_,_,_,_,_,_,_,_,_,_,_,_,_,_,_,_,_,_,_,_,_,_,_,_,_,_,_,_,_,_,_,_,_,_,_,_], defers := _ } _
    refine tkH (i := 1) (v := .int .i64 (q : Int)) rfl (by kernel_rfl) (by rfl) ?_ H ?_
    ·intro w' hSw; go_simp
    change wpAnyH _ _ _ _ _ _ _ { tmps := #[_,_,_,_,_,_,_,_,_,_,_,_,_,_,_,_,_,_,_,_,_,_,_,_,_,_,_,_,_,_,_,_,_,_,_,_], defers := _ } _
    refine tkH (i := 2) (v := .pointer (some ⟨b, off + q, none⟩)) rfl (by kernel_rfl) (by rfl) ?_ H ?_
    ·intro w' hSw; go_simp
    change wpAnyH _ _ _ _ _ _ _ { tmps := #[_,_,_,_,_,_,_,_,_,_,_,_,_,_,_,_,_,_,_,_,_,_,_,_,_,_,_,_,_,_,_,_,_,_,_,_], defers := _ } _
    refine tkH (i := 3) (v := .int .i64 eq) rfl (by kernel_rfl) (by rfl) ?_ H ?_
    ·intro w' hSw; have g : w'.cell? ⟨b, off + q, none⟩ = some (.int .i64 eq) := (hSw.cell (strBlock cq)).trans cq; go_simp
    change wpAnyH _ _ _ _ _ _ _ { tmps := #[_,_,_,_,_,_,_,_,_,_,_,_,_,_,_,_,_,_,_,_,_,_,_,_,_,_,_,_,_,_,_,_,_,_,_,_], defers := _ } _
    refine tkH (i := 4) (v := .int .i64 (n : Int)) rfl (by kernel_rfl) (by rfl) ?_ H ?_
    ·intro w' hSw; go_simp
    change wpAnyH _ _ _ _ _ _ _ { tmps := #[_,_,_,_,_,_,_,_,_,_,_,_,_,_,_,_,_,_,_,_,_,_,_,_,_,_,_,_,_,_,_,_,_,_,_,_], defers := _ } _
    refine tkH (i := 5) (v := .int .i64 ((n : Int) - 1)) rfl (by kernel_rfl) (by rfl) ?_ H ?_
    ·intro w' hSw; go_simp
    change wpAnyH _ _ _ _ _ _ _ { tmps := #[_,_,_,_,_,_,_,_,_,_,_,_,_,_,_,_,_,_,_,_,_,_,_,_,_,_,_,_,_,_,_,_,_,_,_,_], defers := _ } _
    refine wpAnyH_ready (rs := [6]) (by kernel_rfl) (by simp) ?_
    refine AllReadyH.cons rfl (fun KK hK => ?_) AllReadyH.nil
    go_simp
    refine (HX.out _).mono ?_
    rintro e _ ⟨rfl, rfl⟩
    refine hK.out _ _ H (fun _ => ?_)
    clear hK KK
    change wpAnyH _ _ _ _ _ _ _ { tmps := #[_,_,_,_,_,_,_,_,_,_,_,_,_,_,_,_,_,_,_,_,_,_,_,_,_,_,_,_,_,_,_,_,_,_,_,_], defers := _ } _
    refine tkH (i := 7) (v := .bool true) rfl (by kernel_rfl) (by rfl) ?_ H ?_
    ·intro w' hSw; go_simp
    change wpAnyH _ _ _ _ _ _ _ { tmps := #[_,_,_,_,_,_,_,_,_,_,_,_,_,_,_,_,_,_,_,_,_,_,_,_,_,_,_,_,_,_,_,_,_,_,_,_], defers := _ } _
    refine tkH (i := 8) (v := .bool true) rfl (by kernel_rfl) (by rfl) ?_ H ?_
    ·intro w' hSw; go_simp
    change wpAnyH _ _ _ _ _ _ _ { tmps := #[_,_,_,_,_,_,_,_,_,_,_,_,_,_,_,_,_,_,_,_,_,_,_,_,_,_,_,_,_,_,_,_,_,_,_,_], defers := _ } _
    refine wpAnyH_take (i := 9) (v := undef) rfl (by kernel_rfl) (by kernel_rfl) (by kernel_rfl) (fun _ _ _ h => h) (Or.inr ⟨by rfl, rfl⟩) H ?_
    change wpAnyH _ _ _ _ _ _ _ { tmps := #[_,_,_,_,_,_,_,_,_,_,_,_,_,_,_,_,_,_,_,_,_,_,_,_,_,_,_,_,_,_,_,_,_,_,_,_], defers := _ } _
    refine wpAnyH_take (i := 10) (v := undef) rfl (by kernel_rfl) (by kernel_rfl) (by kernel_rfl) (fun _ _ _ h => h) (Or.inr ⟨by rfl, rfl⟩) H ?_
    change wpAnyH _ _ _ _ _ _ _ { tmps := #[_,_,_,_,_,_,_,_,_,_,_,_,_,_,_,_,_,_,_,_,_,_,_,_,_,_,_,_,_,_,_,_,_,_,_,_], defers := _ } _
    refine wpAnyH_take (i := 11) (v := undef) rfl (by kernel_rfl) (by kernel_rfl) (by kernel_rfl) (fun _ _ _ h => h) (Or.inr ⟨by rfl, rfl⟩) H ?_
    change wpAnyH _ _ _ _ _ _ _ { tmps := #[_,_,_,_,_,_,_,_,_,_,_,_,_,_,_,_,_,_,_,_,_,_,_,_,_,_,_,_,_,_,_,_,_,_,_,_], defers := _ } _
    refine wpAnyH_take (i := 12) (v := undef) rfl (by kernel_rfl) (by kernel_rfl) (by kernel_rfl) (fun _ _ _ h => h) (Or.inr ⟨by rfl, rfl⟩) H ?_
    change wpAnyH _ _ _ _ _ _ _ { tmps := #[_,_,_,_,_,_,_,_,_,_,_,_,_,_,_,_,_,_,_,_,_,_,_,_,_,_,_,_,_,_,_,_,_,_,_,_], defers := _ } _
    refine wpAnyH_take (i := 13) (v := undef) rfl (by kernel_rfl) (by kernel_rfl) (by kernel_rfl) (fun _ _ _ h => h) (Or.inr ⟨by rfl, rfl⟩) H ?_
    change wpAnyH _ _ _ _ _ _ _ { tmps := #[_,_,_,_,_,_,_,_,_,_,_,_,_,_,_,_,_,_,_,_,_,_,_,_,_,_,_,_,_,_,_,_,_,_,_,_], defers := _ } _
    refine wpAnyH_take (i := 14) (v := undef) rfl (by kernel_rfl) (by kernel_rfl) (by kernel_rfl) (fun _ _ _ h => h) (Or.inr ⟨by rfl, rfl⟩) H ?_
    change wpAnyH _ _ _ _ _ _ _ { tmps := #[_,_,_,_,_,_,_,_,_,_,_,_,_,_,_,_,_,_,_,_,_,_,_,_,_,_,_,_,_,_,_,_,_,_,_,_], defers := _ } _
    refine wpAnyH_take (i := 15) (v := undef) rfl (by kernel_rfl) (by kernel_rfl) (by kernel_rfl) (fun _ _ _ h => h) (Or.inr ⟨by rfl, rfl⟩) H ?_
    change wpAnyH _ _ _ _ _ _ _ { tmps := #[_,_,_,_,_,_,_,_,_,_,_,_,_,_,_,_,_,_,_,_,_,_,_,_,_,_,_,_,_,_,_,_,_,_,_,_], defers := _ } _
    refine wpAnyH_take (i := 16) (v := undef) rfl (by kernel_rfl) (by kernel_rfl) (by kernel_rfl) (fun _ _ _ h => h) (Or.inr ⟨by rfl, rfl⟩) H ?_
    change wpAnyH _ _ _ _ _ _ _ { tmps := #[_,_,_,_,_,_,_,_,_,_,_,_,_,_,_,_,_,_,_,_,_,_,_,_,_,_,_,_,_,_,_,_,_,_,_,_], defers := _ } _
    refine wpAnyH_take (i := 17) (v := undef) rfl (by kernel_rfl) (by kernel_rfl) (by kernel_rfl) (fun _ _ _ h => h) (Or.inr ⟨by rfl, rfl⟩) H ?_
    change wpAnyH _ _ _ _ _ _ _ { tmps := #[_,_,_,_,_,_,_,_,_,_,_,_,_,_,_,_,_,_,_,_,_,_,_,_,_,_,_,_,_,_,_,_,_,_,_,_], defers := _ } _
    refine wpAnyH_take (i := 18) (v := undef) rfl (by kernel_rfl) (by kernel_rfl) (by kernel_rfl) (fun _ _ _ h => h) (Or.inr ⟨by rfl, rfl⟩) H ?_
    change wpAnyH _ _ _ _ _ _ _ { tmps := #[_,_,_,_,_,_,_,_,_,_,_,_,_,_,_,_,_,_,_,_,_,_,_,_,_,_,_,_,_,_,_,_,_,_,_,_], defers := _ } _
    refine wpAnyH_take (i := 19) (v := undef) rfl (by kernel_rfl) (by kernel_rfl) (by kernel_rfl) (fun _ _ _ h => h) (Or.inr ⟨by rfl, rfl⟩) H ?_
    change wpAnyH _ _ _ _ _ _ _ { tmps := #[_,_,_,_,_,_,_,_,_,_,_,_,_,_,_,_,_,_,_,_,_,_,_,_,_,_,_,_,_,_,_,_,_,_,_,_], defers := _ } _
    refine wpAnyH_take (i := 20) (v := undef) rfl (by kernel_rfl) (by kernel_rfl) (by kernel_rfl) (fun _ _ _ h => h) (Or.inr ⟨by rfl, rfl⟩) H ?_
    change wpAnyH _ _ _ _ _ _ _ { tmps := #[_,_,_,_,_,_,_,_,_,_,_,_,_,_,_,_,_,_,_,_,_,_,_,_,_,_,_,_,_,_,_,_,_,_,_,_], defers := _ } _
    refine wpAnyH_take (i := 21) (v := undef) rfl (by kernel_rfl) (by kernel_rfl) (by kernel_rfl) (fun _ _ _ h => h) (Or.inr ⟨by rfl, rfl⟩) H ?_
    change wpAnyH _ _ _ _ _ _ _ { tmps := #[_,_,_,_,_,_,_,_,_,_,_,_,_,_,_,_,_,_,_,_,_,_,_,_,_,_,_,_,_,_,_,_,_,_,_,_], defers := _ } _
    refine wpAnyH_take (i := 22) (v := undef) rfl (by kernel_rfl) (by kernel_rfl) (by kernel_rfl) (fun _ _ _ h => h) (Or.inr ⟨by rfl, rfl⟩) H ?_
    change wpAnyH _ _ _ _ _ _ _ { tmps := #[_,_,_,_,_,_,_,_,_,_,_,_,_,_,_,_,_,_,_,_,_,_,_,_,_,_,_,_,_,_,_,_,_,_,_,_], defers := _ } _
    refine tkH (i := 23) (v := .bool true) rfl (by kernel_rfl) (by rfl) ?_ H ?_
    ·intro w' hSw; go_simp
    change wpAnyH _ _ _ _ _ _ _ { tmps := #[_,_,_,_,_,_,_,_,_,_,_,_,_,_,_,_,_,_,_,_,_,_,_,_,_,_,_,_,_,_,_,_,_,_,_,_], defers := _ } _
    refine wpAnyH_done (by kernel_rfl) ?_ _
    refine NoPanic.normal ?_
    replace B1 : Hid (Below w.heap.size w x0) := B1.out.trans (H.mono B1.out.size)
    clear HX H
    go_wp2
    go_ret
    exact ⟨by rw [HZ2.out]; rfl, B1.out⟩
  ·have hlt' : ¬ (q : Int) < (m : Int) := by omega
   have HZ2 : Hid (z = true) := HZ.out.trans (sB_yes (fun j hj => HK.out j (by omega)))
   clear hb
   go_wp2
   go_ret
   exact ⟨by rw [HZ2.out]; rfl, B1.out⟩
end Go.Proofs.Ytedncfcmhaaobaa
