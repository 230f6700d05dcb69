/-
  Texts of the proof, joined: PutT.
-/
import Derived.Test.YtpngjkhncfbnpaaDoorV34
namespace Go.Proofs.YtpngjkhncfbnpaaDoor
open Go.ChangeShapes Go.WideShapes Go.ChangeAt Go.RowKit
set_option linter.unusedVariables false
set_option maxRecDepth 100000 in
set_option maxHeartbeats 1000000 in
theorem putRg_there (B g n c : Nat) (R : Nat → Rg) (x : Rg) (k : Nat) (hP : Pos (fun i => (R i).v) n x.v k) (hk : k < n) (he : (R k).v = x.v) (hn : n ≤ 1048576) (w : World) (h : EO w B 54 3 (.slice (some ⟨g, 0, none⟩) n c) n (rgF R)) :
    Calls Tryd.prog 111 #[.slice (some ⟨g, 0, none⟩) n c, .int .i64 x.v, .agg #[.int .i64 x.v, .int .i64 x.c, .string x.r], .func (.func 58) #[] #[]] w fun e w' => e = .returned (.slice (some ⟨g, 0, none⟩) n c) ∧ EO w' B 54 3 (.slice (some ⟨g, 0, none⟩) n c) n (rgF (updE R k x)) ∧ OnlyB g w w' := by
  have QE : Hid (∀ (w : World), Els w 3 (some ⟨g, 0, none⟩) n (rgF R) → Calls Tryd.prog 95 #[.slice (some ⟨g, 0, none⟩) n c, .int .i64 x.v, .func (.func 58) #[] #[]] w fun e w' => e = .returned (.tuple #[.int .i64 k, .bool true]) ∧ Below w.heap.size w w') := fun w hw => searchRegister_any _ n c R x.v k hP hn w hw true (okB_yes ⟨hk, he⟩).symm
  have E : Hid (EO w B 54 3 (.slice (some ⟨g, 0, none⟩) n c) n (rgF R)) := h
  have A1 : Hid (Below w.heap.size w (w.alloc (.cells #[.int .i64 x.v, .int .i64 x.c, .string x.r] 54))) := (Below.refl _ _).alloc (Nat.le_refl _) _
  have X : Hid (Box3 (w.alloc (.cells #[.int .i64 x.v, .int .i64 x.c, .string x.r] 54)) w.heap.size 54 (.int .i64 x.v) (.int .i64 x.c) (.string x.r)) := Box3.madeAt rfl _ _ _ _
  have hk' : (k : Int) < (n : Int) := by omega
  have hk0 : ¬ (k : Int) < 0 := by omega
  clear h hP he
  go_enter Tryd.func111, Tryd.ntmps111
  go_wp2_with fail
  generalize (w.alloc (.cells #[.int .i64 x.v, .int .i64 x.c, .string x.r] 54)) = v1 at *
  refine (QE.out _ (E.out.els.below A1.out)).mono ?_
  rintro e v2 ⟨rfl, hb⟩
  have A2 : Hid (Below w.heap.size w v2) := A1.out.trans (hb.mono A1.out.size)
  have E2 : Hid (EO v2 B 54 3 (.slice (some ⟨g, 0, none⟩) n c) n (rgF R)) := E.out.below A2.out
  replace X : Hid (Box3 v2 w.heap.size 54 (.int .i64 x.v) (.int .i64 x.c) (.string x.r)) := X.out.below hb
  have gw : g < w.heap.size := (E.out.ge g rfl).2
  obtain ⟨G, r0, -⟩ := E2.out.rowE
  cases r0.a (by omega)
  have x0 := X.out.c0
  have t0 := r0.c k hk 0 (by omega)
  have u0 := r0.z (k * 3) (by have := ltE hk (show 0 < 3 by omega); omega)
  have x1 := X.out.c1
  have t1 := r0.c k hk 1 (by omega)
  have u1 := r0.z (k * 3 + 1) (by have := ltE hk (show 1 < 3 by omega); omega)
  have x2 := X.out.c2
  have t2 := r0.c k hk 2 (by omega)
  have u2 := r0.z (k * 3 + 2) (by have := ltE hk (show 2 < 3 by omega); omega)
  rw [Nat.add_zero] at t0
  have E3 : Hid (EO (((v2.setCell ⟨g, k * 3, none⟩ (.int .i64 x.v)).setCell ⟨g, k * 3 + 1, none⟩ (.int .i64 x.c)).setCell ⟨g, k * 3 + 2, none⟩ (.string x.r)) B 54 3 (.slice (some ⟨g, 0, none⟩) n c) n (rgF (updE R k x))) := (((E2.out.set (k := k) (l := 0) hk (by omega) (.int .i64 x.v)).set (k := k) (l := 1) hk (by omega) (.int .i64 x.c)).set (k := k) (l := 2) hk (by omega) (.string x.r)).congr (fun i hi j hj => by
    unfold setF rgF updE
    by_cases ei : i = k
    · subst ei
      rcases (show j = 0 ∨ j = 1 ∨ j = 2 by omega) with rfl | rfl | rfl <;> simp [rgV]
    · simp [ei])
  have O3 : Hid (OnlyB g w (((v2.setCell ⟨g, k * 3, none⟩ (.int .i64 x.v)).setCell ⟨g, k * 3 + 1, none⟩ (.int .i64 x.c)).setCell ⟨g, k * 3 + 2, none⟩ (.string x.r))) := (((((OnlyB.refl g w).below A2.out).setCell (k * 3) _).setCell (k * 3 + 1) _).setCell (k * 3 + 2) _)
  clear r0 E E2 A1 A2 QE hb X
  go_wp2
  go_ret
  exact ⟨rfl, E3.out, O3.out⟩
set_option maxRecDepth 100000 in
set_option maxHeartbeats 1000000 in
theorem putSe_there (B g n c : Nat) (R : Nat → Se) (x : Se) (k : Nat) (hP : Pos (fun i => (R i).id) n x.id k) (hk : k < n) (he : (R k).id = x.id) (hn : n ≤ 1048576) (w : World) (h : EO w B 100 4 (.slice (some ⟨g, 0, none⟩) n c) n (seF R)) :
    Calls Tryd.prog 92 #[.slice (some ⟨g, 0, none⟩) n c, .int .i64 x.id, .agg #[.int .i64 x.id, .int .i64 x.sq, .int .i64 x.cd, .int .i64 x.ma], .func (.func 90) #[] #[]] w fun e w' => e = .returned (.slice (some ⟨g, 0, none⟩) n c) ∧ EO w' B 100 4 (.slice (some ⟨g, 0, none⟩) n c) n (seF (updE R k x)) ∧ OnlyB g w w' := by
  have QE : Hid (∀ (w : World), Els w 4 (some ⟨g, 0, none⟩) n (seF R) → Calls Tryd.prog 109 #[.slice (some ⟨g, 0, none⟩) n c, .int .i64 x.id, .func (.func 90) #[] #[]] w fun e w' => e = .returned (.tuple #[.int .i64 k, .bool true]) ∧ Below w.heap.size w w') := fun w hw => searchSession_any _ n c R x.id k hP hn w hw true (okB_yes ⟨hk, he⟩).symm
  have E : Hid (EO w B 100 4 (.slice (some ⟨g, 0, none⟩) n c) n (seF R)) := h
  have A1 : Hid (Below w.heap.size w (w.alloc (.cells #[.int .i64 x.id, .int .i64 x.sq, .int .i64 x.cd, .int .i64 x.ma] 100))) := (Below.refl _ _).alloc (Nat.le_refl _) _
  have X : Hid (Box4 (w.alloc (.cells #[.int .i64 x.id, .int .i64 x.sq, .int .i64 x.cd, .int .i64 x.ma] 100)) w.heap.size 100 (.int .i64 x.id) (.int .i64 x.sq) (.int .i64 x.cd) (.int .i64 x.ma)) := Box4.madeAt rfl _ _ _ _ _
  have hk' : (k : Int) < (n : Int) := by omega
  have hk0 : ¬ (k : Int) < 0 := by omega
  clear h hP he
  go_enter Tryd.func92, Tryd.ntmps92
  go_wp2_with fail
  generalize (w.alloc (.cells #[.int .i64 x.id, .int .i64 x.sq, .int .i64 x.cd, .int .i64 x.ma] 100)) = v1 at *
  refine (QE.out _ (E.out.els.below A1.out)).mono ?_
  rintro e v2 ⟨rfl, hb⟩
  have A2 : Hid (Below w.heap.size w v2) := A1.out.trans (hb.mono A1.out.size)
  have E2 : Hid (EO v2 B 100 4 (.slice (some ⟨g, 0, none⟩) n c) n (seF R)) := E.out.below A2.out
  replace X : Hid (Box4 v2 w.heap.size 100 (.int .i64 x.id) (.int .i64 x.sq) (.int .i64 x.cd) (.int .i64 x.ma)) := X.out.below hb
  have gw : g < w.heap.size := (E.out.ge g rfl).2
  obtain ⟨G, r0, -⟩ := E2.out.rowE
  cases r0.a (by omega)
  have x0 := X.out.c0
  have t0 := r0.c k hk 0 (by omega)
  have u0 := r0.z (k * 4) (by have := ltE hk (show 0 < 4 by omega); omega)
  have x1 := X.out.c1
  have t1 := r0.c k hk 1 (by omega)
  have u1 := r0.z (k * 4 + 1) (by have := ltE hk (show 1 < 4 by omega); omega)
  have x2 := X.out.c2
  have t2 := r0.c k hk 2 (by omega)
  have u2 := r0.z (k * 4 + 2) (by have := ltE hk (show 2 < 4 by omega); omega)
  have x3 := X.out.c3
  have t3 := r0.c k hk 3 (by omega)
  have u3 := r0.z (k * 4 + 3) (by have := ltE hk (show 3 < 4 by omega); omega)
  rw [Nat.add_zero] at t0
  have E3 : Hid (EO ((((v2.setCell ⟨g, k * 4, none⟩ (.int .i64 x.id)).setCell ⟨g, k * 4 + 1, none⟩ (.int .i64 x.sq)).setCell ⟨g, k * 4 + 2, none⟩ (.int .i64 x.cd)).setCell ⟨g, k * 4 + 3, none⟩ (.int .i64 x.ma)) B 100 4 (.slice (some ⟨g, 0, none⟩) n c) n (seF (updE R k x))) := ((((E2.out.set (k := k) (l := 0) hk (by omega) (.int .i64 x.id)).set (k := k) (l := 1) hk (by omega) (.int .i64 x.sq)).set (k := k) (l := 2) hk (by omega) (.int .i64 x.cd)).set (k := k) (l := 3) hk (by omega) (.int .i64 x.ma)).congr (fun i hi j hj => by
    unfold setF seF updE
    by_cases ei : i = k
    · subst ei
      rcases (show j = 0 ∨ j = 1 ∨ j = 2 ∨ j = 3 by omega) with rfl | rfl | rfl | rfl <;> simp [seV]
    · simp [ei])
  have O3 : Hid (OnlyB g w ((((v2.setCell ⟨g, k * 4, none⟩ (.int .i64 x.id)).setCell ⟨g, k * 4 + 1, none⟩ (.int .i64 x.sq)).setCell ⟨g, k * 4 + 2, none⟩ (.int .i64 x.cd)).setCell ⟨g, k * 4 + 3, none⟩ (.int .i64 x.ma))) := ((((((OnlyB.refl g w).below A2.out).setCell (k * 4) _).setCell (k * 4 + 1) _).setCell (k * 4 + 2) _).setCell (k * 4 + 3) _)
  clear r0 E E2 A1 A2 QE hb X
  go_wp2
  go_ret
  exact ⟨rfl, E3.out, O3.out⟩
end Go.Proofs.YtpngjkhncfbnpaaDoor
