/-
  ChangeLeaf of the program and of the model (written by tools/mkchange.py).
-/
import Derived.Test.YtpljdlgjeeikkaaDoorLfOk
import Derived.Test.YtpljdlgjeeikkaaDoorRowLf
import Derived.Test.YtpljdlgjeeikkaaDoorAnyH
import Derived.Deep.Cut
namespace Go.Proofs.YtpljdlgjeeikkaaDoor
open Go.ChangeShapes Go.WideShapes Go.ChangeAt Go.RowKit
set_option linter.unusedVariables false
/-- What ChangeLeaf answers. -/
def ClA (n : Nat) (LF : Nat → Lf) (k : Int) (x : Lf) (m : Nat) (G : Nat → Lf) (cd : Int) : Prop :=
  (¬ LsOk n LF ∧ m = 0 ∧ cd = lsCode n LF) ∨ (LsOk n LF ∧ ¬ x.Ok ∧ m = 0 ∧ cd = 1) ∨ (LsOk n LF ∧ x.Ok ∧ ¬ (0 ≤ k ∧ k ≤ (n : Int)) ∧ m = 0 ∧ cd = 4) ∨ (LsOk n LF ∧ x.Ok ∧ k = (n : Int) ∧ n = 32 ∧ m = 0 ∧ cd = 7) ∨ (LsOk n LF ∧ x.Ok ∧ k = (n : Int) ∧ n < 32 ∧ m = n + 1 ∧ G = updE LF n x ∧ cd = 0) ∨ (LsOk n LF ∧ x.Ok ∧ (0 ≤ k ∧ k < (n : Int)) ∧ x.v < (LF k.toNat).v ∧ m = 0 ∧ cd = 11) ∨ (LsOk n LF ∧ x.Ok ∧ (0 ≤ k ∧ k < (n : Int)) ∧ ¬ x.v < (LF k.toNat).v ∧ m = n ∧ G = updE LF k.toNat x ∧ cd = 0)
theorem clA_ex (n : Nat) (LF : Nat → Lf) (k : Int) (x : Lf) : ∃ m G cd, ClA n LF k x m G cd ∧ m ≤ 33 := by
  by_cases h : LsOk n LF
  · have := h.1
    by_cases h2 : x.Ok
    · by_cases h3 : 0 ≤ k ∧ k ≤ (n : Int)
      · by_cases h4 : k = (n : Int)
        · by_cases h5 : n = 32
          · exact ⟨0, LF, 7, .inr (.inr (.inr (.inl ⟨h, h2, h4, h5, rfl, rfl⟩))), by omega⟩
          · exact ⟨n + 1, updE LF n x, 0, .inr (.inr (.inr (.inr (.inl ⟨h, h2, h4, by omega, rfl, rfl, rfl⟩)))), by omega⟩
        · by_cases h5 : x.v < (LF k.toNat).v
          · exact ⟨0, LF, 11, .inr (.inr (.inr (.inr (.inr (.inl ⟨h, h2, by omega, h5, rfl, rfl⟩))))), by omega⟩
          · exact ⟨n, updE LF k.toNat x, 0, .inr (.inr (.inr (.inr (.inr (.inr ⟨h, h2, by omega, h5, rfl, rfl, rfl⟩))))), by omega⟩
      · exact ⟨0, LF, 4, .inr (.inr (.inl ⟨h, h2, h3, rfl, rfl⟩)), by omega⟩
    · exact ⟨0, LF, 1, .inr (.inl ⟨h, h2, rfl, rfl⟩), by omega⟩
  · exact ⟨0, LF, lsCode n LF, .inl ⟨h, rfl, rfl⟩, by omega⟩
theorem lsC0 {n : Nat} {LF : Nat → Lf} (h : LsOk n LF) : lsCode n LF = 0 := by
  unfold lsCode
  rw [if_neg (by have := h.1; omega), tB_yes h]
  rfl
theorem lsC1 {n : Nat} {LF : Nat → Lf} (h : ¬ LsOk n LF) : (lsCode n LF != 0) = true := by
  unfold lsCode
  rw [tB_no h]
  by_cases q : 4096 < n
  · rw [if_pos q]; rfl
  · rw [if_neg q]; rfl
/-- Leaves of one's own and a code are handed back. -/
def RetLs (m : Nat) (G : Nat → Lf) (cd : Int) (B : Nat) (e : Ending) (w : World) : Prop := ∃ a c, e = .returned (.tuple #[.slice a m c, .int .i64 cd]) ∧ EO w B 26 2 (.slice a m c) m (lfF G)
theorem RetLs.nothing (G : Nat → Lf) (cd : Int) (B : Nat) (w : World) : RetLs 0 G cd B (.returned (.tuple #[.slice none 0 0, .int .i64 cd])) w := ⟨none, 0, rfl, EO.nil _ _ _ _ _⟩
theorem RetLs.lit (G : Nat → Lf) (cd : Int) (w : World) (B : Nat) (hB : B ≤ w.heap.size) : RetLs 0 G cd B (.returned (.tuple #[.slice (some ⟨w.heap.size, 0, none⟩) 0 0, .int .i64 cd])) (w.alloc (.cells #[] 26)) := ⟨_, _, rfl, EO.lit w _ _ _ hB _⟩
theorem EO.setLf {w : World} {B g n c : Nat} {LF : Nat → Lf} (h : EO w B 26 2 (.slice (some ⟨g, 0, none⟩) n c) n (lfF LF)) (K : Nat) (hK : K < n) (x : Lf) : EO ((w.setCell ⟨g, K * 2, none⟩ (.int .i64 x.v)).setCell ⟨g, K * 2 + 1, none⟩ (.string x.h)) B 26 2 (.slice (some ⟨g, 0, none⟩) n c) n (lfF (updE LF K x)) := by
  have h1 := (EO.set h (k := K) (l := 0) hK (by omega) (.int .i64 x.v))
  rw [Nat.add_zero] at h1
  have h2 := (EO.set h1 (k := K) (l := 1) hK (by omega) (.string x.h))
  refine EO.congr h2 (fun i hi j hj => ?_)
  unfold setF lfF updE
  by_cases e : i = K
  · subst e
    rcases (show j = 0 ∨ j = 1 by omega) with rfl | rfl <;> simp [lfV]
  · simp [e]
theorem within_c (x n : Int) (r : Bool) (hr : r = decide (0 ≤ x ∧ x < n)) (w : World) :
    Calls Tryd.prog 25 #[.int .i64 x, .int .i64 n] w fun e w' => e = .returned (.bool r) ∧ w = w' := by
  by_cases h1 : 0 ≤ x
  · by_cases h2 : x < n
    · obtain rfl : r = true := by rw [hr]; simp; omega
      clear hr
      go_enter Tryd.func25, Tryd.ntmps25
      go_wp2
      go_ret
      exact ⟨rfl, rfl⟩
    · obtain rfl : r = false := by rw [hr]; simp; omega
      clear hr
      go_enter Tryd.func25, Tryd.ntmps25
      go_wp2
      go_ret
      exact ⟨rfl, rfl⟩
  · obtain rfl : r = false := by rw [hr]; simp; omega
    clear hr
    go_enter Tryd.func25, Tryd.ntmps25
    go_wp2
    go_ret
    exact ⟨rfl, rfl⟩
set_option maxRecDepth 100000 in
set_option maxHeartbeats 4000000 in
theorem implCl_any (a : Option Addr) (n c : Nat) (LF : Nat → Lf) (k : Int) (x : Lf) (m : Nat) (G : Nat → Lf) (cd : Int) (hA : ClA n LF k x m G cd) (hn : n ≤ 1048576) (ha : a = none → n = 0 ∧ c = 0) (w : World) (h : Els w 2 a n (lfF LF)) :
    Calls Tryd.prog 15 #[.slice a n c, .int .i64 k, .agg #[.int .i64 x.v, .string x.h]] w fun e w' => RetLs m G cd w.heap.size e w' ∧ Below w.heap.size w w' := by
  have W1 : Hid (Below w.heap.size w (w.alloc (.cells #[.int .i64 x.v, .string x.h] 26))) := (Below.refl _ _).alloc (Nat.le_refl _) _
  have X1 : Hid (Box2 (w.alloc (.cells #[.int .i64 x.v, .string x.h] 26)) w.heap.size 26 (.int .i64 x.v) (.string x.h)) := Box2.made _ _ _ _
  have HE : Hid (Els (w.alloc (.cells #[.int .i64 x.v, .string x.h] 26)) 2 a n (lfF LF)) := h.below W1.out
  clear h
  have LT : Hid (∀ w : World, Els w 2 a n (lfF LF) → Calls Tryd.prog 21 #[.slice a n c] w fun e w' => e = .returned (.int .i64 (lsCode n LF)) ∧ Below w.heap.size w w') := fun w h => leavesFault_any a n c LF hn w h
  by_cases hok : LsOk n LF
  · rw [lsC0 hok] at LT
    have h32 := hok.1
    have WL : Hid (∀ w : World, Calls Tryd.prog 29 #[.agg #[.int .i64 x.v, .string x.h]] w fun e w' => e = .returned (.bool (tB (¬ x.Ok))) ∧ Below w.heap.size w w') := fun w => wrongLeaf_any x _ rfl w
    by_cases hx : x.Ok
    · rw [tB_no (fun q => q hx)] at WL
      by_cases hk : 0 ≤ k ∧ k ≤ (n : Int)
      · have IN : Hid (∀ w : World, Calls Tryd.prog 25 #[.int .i64 k, .int .i64 ((n : Int) + 1)] w fun e w' => e = .returned (.bool true) ∧ w = w') := fun w => within_c k ((n : Int) + 1) true (by simp; omega) w
        obtain ⟨K, rfl⟩ : ∃ K : Nat, k = (K : Int) := ⟨k.toNat, by omega⟩
        by_cases hf : K = 32
        · obtain ⟨rfl, rfl⟩ : m = 0 ∧ cd = 7 := by
            rcases hA with ⟨q, _⟩ | ⟨_, q, _⟩ | ⟨_, _, q, _⟩ | ⟨_, _, _, _, h1, h2⟩ | ⟨_, _, q1, q2, _⟩ | ⟨_, _, q, _⟩ | ⟨_, _, q, _⟩
            · exact absurd hok q
            · exact absurd hx q
            · exact absurd hk q
            · exact ⟨h1, h2⟩
            all_goals omega
          have HR : Hid (∀ w', RetLs 0 G 7 w.heap.size (.returned (.tuple #[.slice none 0 0, .int .i64 7])) w') := fun w' => RetLs.nothing _ _ _ _
          generalize RetLs 0 G 7 w.heap.size = RP at *
          have e32 : (32 : Int) ≤ (K : Int) := by omega
          clear hA hok hx hk ha hf
          go_enter Tryd.func15, Tryd.ntmps15
          go_wp2_with fail
          generalize (w.alloc (.cells #[.int .i64 x.v, .string x.h] 26)) = v0 at *
          obtain ⟨pb, hpb⟩ : ∃ z, z = w.heap.size := ⟨_, rfl⟩
          rw [← hpb] at X1 ⊢
          clear hpb
          refine (LT.out _ HE.out).mono ?_
          rintro e v1 ⟨rfl, hb⟩
          replace W1 : Hid (Below w.heap.size w v1) := W1.out.trans (hb.mono W1.out.size)
          replace HE : Hid (Els v1 2 a n (lfF LF)) := HE.out.below hb
          replace X1 : Hid (Box2 v1 pb 26 (.int .i64 x.v) (.string x.h)) := X1.out.below hb
          clear hb
          clear LT
          have t0 := X1.out.c0
          have t1 := X1.out.c1
          go_wp2_with fail
          clear t0 t1
          refine (WL.out _).mono ?_
          rintro e v2 ⟨rfl, hb⟩
          replace W1 : Hid (Below w.heap.size w v2) := W1.out.trans (hb.mono W1.out.size)
          replace HE : Hid (Els v2 2 a n (lfF LF)) := HE.out.below hb
          replace X1 : Hid (Box2 v2 pb 26 (.int .i64 x.v) (.string x.h)) := X1.out.below hb
          clear hb WL
          go_wp2_with fail
          refine (IN.out _).mono ?_
          rintro e _ ⟨rfl, rfl⟩
          clear IN
          clear X1 HE
          go_wp2
          go_ret2
          exact ⟨HR.out _, W1.out⟩
        have hK : K < 32 := by omega
        have e32 : ¬ (32 : Int) ≤ (K : Int) := by omega
        have CL : Hid (∀ w : World, Els w 2 a n (lfF LF) → Calls Tryd.prog 36 #[.slice a n c] w fun e w' => RetLf n LF w.heap.size e w' ∧ Below w.heap.size w w') := fun w h => cloneLf_any a n c LF w (by omega) h ha
        by_cases he : K = n
        · obtain ⟨rfl, rfl, rfl⟩ : m = n + 1 ∧ G = updE LF n x ∧ cd = 0 := by
            rcases hA with ⟨q, _⟩ | ⟨_, q, _⟩ | ⟨_, _, q, _⟩ | ⟨_, _, q, _⟩ | ⟨_, _, _, _, h1, h2, h3⟩ | ⟨_, _, q, _⟩ | ⟨_, _, q, _⟩
            · exact absurd hok q
            · exact absurd hx q
            · exact absurd hk q
            · omega
            · exact ⟨h1, h2, h3⟩
            all_goals omega
          subst he
          have ee : ((K : Int) == (K : Int)) = true := by simp
          clear hA hok hx hk ha
          go_enter Tryd.func15, Tryd.ntmps15
          go_wp2_with fail
          generalize (w.alloc (.cells #[.int .i64 x.v, .string x.h] 26)) = v0 at *
          obtain ⟨pb, hpb⟩ : ∃ z, z = w.heap.size := ⟨_, rfl⟩
          rw [← hpb] at X1 ⊢
          clear hpb
          refine (LT.out _ HE.out).mono ?_
          rintro e v1 ⟨rfl, hb⟩
          replace W1 : Hid (Below w.heap.size w v1) := W1.out.trans (hb.mono W1.out.size)
          replace HE : Hid (Els v1 2 a K (lfF LF)) := HE.out.below hb
          replace X1 : Hid (Box2 v1 pb 26 (.int .i64 x.v) (.string x.h)) := X1.out.below hb
          clear hb
          clear LT
          have t0 := X1.out.c0
          have t1 := X1.out.c1
          go_wp2_with fail
          clear t0 t1
          refine (WL.out _).mono ?_
          rintro e v2 ⟨rfl, hb⟩
          replace W1 : Hid (Below w.heap.size w v2) := W1.out.trans (hb.mono W1.out.size)
          replace HE : Hid (Els v2 2 a K (lfF LF)) := HE.out.below hb
          replace X1 : Hid (Box2 v2 pb 26 (.int .i64 x.v) (.string x.h)) := X1.out.below hb
          clear hb WL
          go_wp2_with fail
          refine (IN.out _).mono ?_
          rintro e _ ⟨rfl, rfl⟩
          clear IN
          go_wp2_with fail
          have BS : Hid (w.heap.size ≤ v2.heap.size) := W1.out.size
          refine (CL.out _ HE.out).mono ?_
          rintro e v3 ⟨⟨ca, cc, rfl, ho⟩, hb⟩
          have RO : Hid (EO v3 w.heap.size 26 2 (.slice ca K cc) K (lfF LF)) := ho.mono BS.out
          replace W1 : Hid (Below w.heap.size w v3) := W1.out.trans (hb.mono W1.out.size)
          replace HE : Hid (Els v3 2 a K (lfF LF)) := HE.out.below hb
          replace X1 : Hid (Box2 v3 pb 26 (.int .i64 x.v) (.string x.h)) := X1.out.below hb
          clear hb ho BS CL
          have hA4 : Below v3.heap.size v3 (v3.alloc (.cells #[.int .i64 x.v, .string x.h] 26)) := (Below.refl _ _).alloc (Nat.le_refl _) _
          have BL := Box2.made v3 26 (.int .i64 x.v) (.string x.h)
          obtain ⟨v9, v5, hr, ho5, hg, -⟩ := appLf (v3.alloc (.cells #[.int .i64 x.v, .string x.h] 26)) w.heap.size (.slice ca K cc) K v3.heap.size LF x (Nat.le_trans W1.out.size hA4.size) (by omega) (RO.out.below hA4) (fun j hj => by
            rcases (show j = 0 ∨ j = 1 by omega) with rfl | rfl
            · exact BL.c0
            · exact BL.c1)
          have B5 : Hid (Below w.heap.size w v5) := (W1.out.trans (hA4.mono W1.out.size)).grown hg (Nat.le_trans W1.out.size hA4.size) (fun z hz => (RO.out.ge z hz).1)
          obtain ⟨a9, c9, hv9⟩ := ho5.form
          subst hv9
          have HR : Hid (RetLs (K + 1) (updE LF K x) 0 w.heap.size (.returned (.tuple #[.slice a9 (K + 1) c9, .int .i64 0])) v5) := ⟨a9, c9, rfl, ho5⟩
          have HAP : Hid _ := hr
          have t0 := X1.out.c0
          have t1 := X1.out.c1
          clear hA4 BL hr ho5 hg RO W1
          go_wp2_with (at_builtin; refine Lib.wpList_append_run _ rfl (.tmp 31) (.tmp 33) _ _ rfl _ _ rfl rfl _ _ (HAP.out _) ?_)
          go_ret2
          exact ⟨HR.out, B5.out⟩
        have hlt : K < n := by omega
        have hlt' : (K : Int) < (n : Int) := by omega
        have hne : ((K : Int) == (n : Int)) = false := by simp; omega
        obtain ⟨b, off, rfl, _⟩ := HE.out.opened (by omega)
        unfold ClA at hA
        rw [Int.toNat_natCast] at hA
        by_cases hv : x.v < (LF K).v
        · obtain ⟨rfl, rfl⟩ : m = 0 ∧ cd = 11 := by
            rcases hA with ⟨q, _⟩ | ⟨_, q, _⟩ | ⟨_, _, q, _⟩ | ⟨_, _, q, _⟩ | ⟨_, _, q, _⟩ | ⟨_, _, _, _, h1, h2⟩ | ⟨_, _, _, q, _⟩
            · exact absurd hok q
            · exact absurd hx q
            · exact absurd hk q
            · omega
            · omega
            · exact ⟨h1, h2⟩
            · exact absurd hv q
          have HR : Hid (∀ w', RetLs 0 G 11 w.heap.size (.returned (.tuple #[.slice none 0 0, .int .i64 11])) w') := fun w' => RetLs.nothing _ _ _ _
          generalize RetLs 0 G 11 w.heap.size = RP at *
          have dv : decide (x.v < (LF K).v) = true := by simp [hv]
          clear hA hok hx hk ha
          go_enter Tryd.func15, Tryd.ntmps15
          go_wp2_with fail
          generalize (w.alloc (.cells #[.int .i64 x.v, .string x.h] 26)) = v0 at *
          obtain ⟨pb, hpb⟩ : ∃ z, z = w.heap.size := ⟨_, rfl⟩
          rw [← hpb] at X1 ⊢
          clear hpb
          refine (LT.out _ HE.out).mono ?_
          rintro e v1 ⟨rfl, hb⟩
          replace W1 : Hid (Below w.heap.size w v1) := W1.out.trans (hb.mono W1.out.size)
          replace HE : Hid (Els v1 2 (some ⟨b, off, none⟩) n (lfF LF)) := HE.out.below hb
          replace X1 : Hid (Box2 v1 pb 26 (.int .i64 x.v) (.string x.h)) := X1.out.below hb
          clear hb
          clear LT
          have t0 := X1.out.c0
          have t1 := X1.out.c1
          go_wp2_with fail
          clear t0 t1
          refine (WL.out _).mono ?_
          rintro e v2 ⟨rfl, hb⟩
          replace W1 : Hid (Below w.heap.size w v2) := W1.out.trans (hb.mono W1.out.size)
          replace HE : Hid (Els v2 2 (some ⟨b, off, none⟩) n (lfF LF)) := HE.out.below hb
          replace X1 : Hid (Box2 v2 pb 26 (.int .i64 x.v) (.string x.h)) := X1.out.below hb
          clear hb WL
          go_wp2_with fail
          refine (IN.out _).mono ?_
          rintro e _ ⟨rfl, rfl⟩
          clear IN
          go_wp2_with fail
          have BS : Hid (w.heap.size ≤ v2.heap.size) := W1.out.size
          refine (CL.out _ HE.out).mono ?_
          rintro e v3 ⟨⟨ca, cc, rfl, ho⟩, hb⟩
          have RO : Hid (EO v3 w.heap.size 26 2 (.slice ca n cc) n (lfF LF)) := ho.mono BS.out
          replace W1 : Hid (Below w.heap.size w v3) := W1.out.trans (hb.mono W1.out.size)
          replace HE : Hid (Els v3 2 (some ⟨b, off, none⟩) n (lfF LF)) := HE.out.below hb
          replace X1 : Hid (Box2 v3 pb 26 (.int .i64 x.v) (.string x.h)) := X1.out.below hb
          clear hb ho BS CL
          obtain ⟨b', off', eb, hcc⟩ := HE.out K hlt
          cases eb
          have LC : Hid (v3.cell? ⟨b, off + K * 2, none⟩ = some (.int .i64 (LF K).v)) := hcc 0 (by omega)
          clear hcc
          go_upto_region 13 with fail
          have H : Below v3.heap.size v3 v3.drew := (Below.refl _ _).drew
          refine wp_region_noPanic ?_
          refine wp_region_held_drew (S := fun w' => (Below v3.heap.size v3 w')) (by kernel_rfl) H (fun _ => ?_)
          generalize v3.drew = y0 at *
          refine wpAnyH_take (i := 0) (v := .pointer (some ⟨pb, 0, none⟩)) rfl (by kernel_rfl) (by kernel_rfl) (by kernel_rfl) (fun _ _ _ h => h) (Or.inl ⟨by rfl, ?_⟩) H ?_
          · intro w' hSw; go_simp
          change wpAnyH _ _ _ _ _ _ _ { tmps := #[_, _, _, _, _, _, _, _, _, _, _, _, _, _, _, _, _, _, _, _, _, _, _, _, _, _, _, _, _, _, _, _, _, _, _, _, _, _, _, _, _, _, _, _, _, _, _, _], defers := _ } _
          refine wpAnyH_take (i := 1) (v := .int .i64 x.v) rfl (by kernel_rfl) (by kernel_rfl) (by kernel_rfl) (fun _ _ _ h => h) (Or.inl ⟨by rfl, ?_⟩) H ?_
          · intro w' hSw; have t0 := (X1.out.below hSw).c0; have t1 := (X1.out.below hSw).c1; clear hSw; go_simp
          change wpAnyH _ _ _ _ _ _ _ { tmps := #[_, _, _, _, _, _, _, _, _, _, _, _, _, _, _, _, _, _, _, _, _, _, _, _, _, _, _, _, _, _, _, _, _, _, _, _, _, _, _, _, _, _, _, _, _, _, _, _], defers := _ } _
          refine wpAnyH_take (i := 2) (v := .slice (some ⟨b, off, none⟩) n c) rfl (by kernel_rfl) (by kernel_rfl) (by kernel_rfl) (fun _ _ _ h => h) (Or.inl ⟨by rfl, ?_⟩) H ?_
          · intro w' hSw; go_simp
          change wpAnyH _ _ _ _ _ _ _ { tmps := #[_, _, _, _, _, _, _, _, _, _, _, _, _, _, _, _, _, _, _, _, _, _, _, _, _, _, _, _, _, _, _, _, _, _, _, _, _, _, _, _, _, _, _, _, _, _, _, _], defers := _ } _
          refine wpAnyH_take (i := 3) (v := .int .i64 (K : Int)) rfl (by kernel_rfl) (by kernel_rfl) (by kernel_rfl) (fun _ _ _ h => h) (Or.inl ⟨by rfl, ?_⟩) H ?_
          · intro w' hSw; go_simp
          change wpAnyH _ _ _ _ _ _ _ { tmps := #[_, _, _, _, _, _, _, _, _, _, _, _, _, _, _, _, _, _, _, _, _, _, _, _, _, _, _, _, _, _, _, _, _, _, _, _, _, _, _, _, _, _, _, _, _, _, _, _], defers := _ } _
          refine wpAnyH_take (i := 4) (v := .pointer (some ⟨b, off + K * 2, none⟩)) rfl (by kernel_rfl) (by kernel_rfl) (by kernel_rfl) (fun _ _ _ h => h) (Or.inl ⟨by rfl, ?_⟩) H ?_
          · intro w' hSw; go_simp
          change wpAnyH _ _ _ _ _ _ _ { tmps := #[_, _, _, _, _, _, _, _, _, _, _, _, _, _, _, _, _, _, _, _, _, _, _, _, _, _, _, _, _, _, _, _, _, _, _, _, _, _, _, _, _, _, _, _, _, _, _, _], defers := _ } _
          refine wpAnyH_take (i := 5) (v := .pointer (some ⟨b, off + K * 2, none⟩)) rfl (by kernel_rfl) (by kernel_rfl) (by kernel_rfl) (fun _ _ _ h => h) (Or.inl ⟨by rfl, ?_⟩) H ?_
          · intro w' hSw; go_simp
          change wpAnyH _ _ _ _ _ _ _ { tmps := #[_, _, _, _, _, _, _, _, _, _, _, _, _, _, _, _, _, _, _, _, _, _, _, _, _, _, _, _, _, _, _, _, _, _, _, _, _, _, _, _, _, _, _, _, _, _, _, _], defers := _ } _
          refine wpAnyH_take (i := 6) (v := .int .i64 (LF K).v) rfl (by kernel_rfl) (by kernel_rfl) (by kernel_rfl) (fun _ _ _ h => h) (Or.inl ⟨by rfl, ?_⟩) H ?_
          · intro w' hSw; have q0 : w'.cell? ⟨b, off + K * 2, none⟩ = some (.int .i64 (LF K).v) := by rw [hSw.cell (strBlock LC.out)]; exact LC.out
            clear hSw; go_simp
          change wpAnyH _ _ _ _ _ _ _ { tmps := #[_, _, _, _, _, _, _, _, _, _, _, _, _, _, _, _, _, _, _, _, _, _, _, _, _, _, _, _, _, _, _, _, _, _, _, _, _, _, _, _, _, _, _, _, _, _, _, _], defers := _ } _
          refine wpAnyH_take (i := 7) (v := .bool (decide (x.v < (LF K).v))) rfl (by kernel_rfl) (by kernel_rfl) (by kernel_rfl) (fun _ _ _ h => h) (Or.inl ⟨by rfl, ?_⟩) H ?_
          · intro w' hSw; go_simp
          change wpAnyH _ _ _ _ _ _ _ { tmps := #[_, _, _, _, _, _, _, _, _, _, _, _, _, _, _, _, _, _, _, _, _, _, _, _, _, _, _, _, _, _, _, _, _, _, _, _, _, _, _, _, _, _, _, _, _, _, _, _], defers := _ } _
          refine wpAnyH_done (by kernel_rfl) ?_ _
          refine NoPanic.normal ?_
          replace W1 : Hid (Below w.heap.size w y0) := W1.out.trans (H.mono W1.out.size)
          clear H RO LC X1 HE
          rw [dv]
          clear dv hv
          go_wp2
          go_ret2
          exact ⟨HR.out _, W1.out⟩
        · obtain ⟨rfl, rfl, rfl⟩ : n = m ∧ G = updE LF K x ∧ cd = 0 := by
            rcases hA with ⟨q, _⟩ | ⟨_, q, _⟩ | ⟨_, _, q, _⟩ | ⟨_, _, q, _⟩ | ⟨_, _, q, _⟩ | ⟨_, _, _, q, _⟩ | ⟨_, _, _, _, h1, h2, h3⟩
            · exact absurd hok q
            · exact absurd hx q
            · exact absurd hk q
            · omega
            · omega
            · exact absurd q hv
            · exact ⟨h1.symm, h2, h3⟩
          have dv : decide (x.v < (LF K).v) = false := by simp [hv]
          clear hA hok hx hk ha
          go_enter Tryd.func15, Tryd.ntmps15
          go_wp2_with fail
          generalize (w.alloc (.cells #[.int .i64 x.v, .string x.h] 26)) = v0 at *
          obtain ⟨pb, hpb⟩ : ∃ z, z = w.heap.size := ⟨_, rfl⟩
          rw [← hpb] at X1 ⊢
          clear hpb
          refine (LT.out _ HE.out).mono ?_
          rintro e v1 ⟨rfl, hb⟩
          replace W1 : Hid (Below w.heap.size w v1) := W1.out.trans (hb.mono W1.out.size)
          replace HE : Hid (Els v1 2 (some ⟨b, off, none⟩) n (lfF LF)) := HE.out.below hb
          replace X1 : Hid (Box2 v1 pb 26 (.int .i64 x.v) (.string x.h)) := X1.out.below hb
          clear hb
          clear LT
          have t0 := X1.out.c0
          have t1 := X1.out.c1
          go_wp2_with fail
          clear t0 t1
          refine (WL.out _).mono ?_
          rintro e v2 ⟨rfl, hb⟩
          replace W1 : Hid (Below w.heap.size w v2) := W1.out.trans (hb.mono W1.out.size)
          replace HE : Hid (Els v2 2 (some ⟨b, off, none⟩) n (lfF LF)) := HE.out.below hb
          replace X1 : Hid (Box2 v2 pb 26 (.int .i64 x.v) (.string x.h)) := X1.out.below hb
          clear hb WL
          go_wp2_with fail
          refine (IN.out _).mono ?_
          rintro e _ ⟨rfl, rfl⟩
          clear IN
          go_wp2_with fail
          have BS : Hid (w.heap.size ≤ v2.heap.size) := W1.out.size
          refine (CL.out _ HE.out).mono ?_
          rintro e v3 ⟨⟨ca, cc, rfl, ho⟩, hb⟩
          have RO : Hid (EO v3 w.heap.size 26 2 (.slice ca n cc) n (lfF LF)) := ho.mono BS.out
          replace W1 : Hid (Below w.heap.size w v3) := W1.out.trans (hb.mono W1.out.size)
          replace HE : Hid (Els v3 2 (some ⟨b, off, none⟩) n (lfF LF)) := HE.out.below hb
          replace X1 : Hid (Box2 v3 pb 26 (.int .i64 x.v) (.string x.h)) := X1.out.below hb
          clear hb ho BS CL
          obtain ⟨b', off', eb, hcc⟩ := HE.out K hlt
          cases eb
          have LC : Hid (v3.cell? ⟨b, off + K * 2, none⟩ = some (.int .i64 (LF K).v)) := hcc 0 (by omega)
          clear hcc
          go_upto_region 13 with fail
          have H : Below v3.heap.size v3 v3.drew := (Below.refl _ _).drew
          refine wp_region_noPanic ?_
          refine wp_region_held_drew (S := fun w' => (Below v3.heap.size v3 w')) (by kernel_rfl) H (fun _ => ?_)
          generalize v3.drew = y0 at *
          refine wpAnyH_take (i := 0) (v := .pointer (some ⟨pb, 0, none⟩)) rfl (by kernel_rfl) (by kernel_rfl) (by kernel_rfl) (fun _ _ _ h => h) (Or.inl ⟨by rfl, ?_⟩) H ?_
          · intro w' hSw; go_simp
          change wpAnyH _ _ _ _ _ _ _ { tmps := #[_, _, _, _, _, _, _, _, _, _, _, _, _, _, _, _, _, _, _, _, _, _, _, _, _, _, _, _, _, _, _, _, _, _, _, _, _, _, _, _, _, _, _, _, _, _, _, _], defers := _ } _
          refine wpAnyH_take (i := 1) (v := .int .i64 x.v) rfl (by kernel_rfl) (by kernel_rfl) (by kernel_rfl) (fun _ _ _ h => h) (Or.inl ⟨by rfl, ?_⟩) H ?_
          · intro w' hSw; have t0 := (X1.out.below hSw).c0; have t1 := (X1.out.below hSw).c1; clear hSw; go_simp
          change wpAnyH _ _ _ _ _ _ _ { tmps := #[_, _, _, _, _, _, _, _, _, _, _, _, _, _, _, _, _, _, _, _, _, _, _, _, _, _, _, _, _, _, _, _, _, _, _, _, _, _, _, _, _, _, _, _, _, _, _, _], defers := _ } _
          refine wpAnyH_take (i := 2) (v := .slice (some ⟨b, off, none⟩) n c) rfl (by kernel_rfl) (by kernel_rfl) (by kernel_rfl) (fun _ _ _ h => h) (Or.inl ⟨by rfl, ?_⟩) H ?_
          · intro w' hSw; go_simp
          change wpAnyH _ _ _ _ _ _ _ { tmps := #[_, _, _, _, _, _, _, _, _, _, _, _, _, _, _, _, _, _, _, _, _, _, _, _, _, _, _, _, _, _, _, _, _, _, _, _, _, _, _, _, _, _, _, _, _, _, _, _], defers := _ } _
          refine wpAnyH_take (i := 3) (v := .int .i64 (K : Int)) rfl (by kernel_rfl) (by kernel_rfl) (by kernel_rfl) (fun _ _ _ h => h) (Or.inl ⟨by rfl, ?_⟩) H ?_
          · intro w' hSw; go_simp
          change wpAnyH _ _ _ _ _ _ _ { tmps := #[_, _, _, _, _, _, _, _, _, _, _, _, _, _, _, _, _, _, _, _, _, _, _, _, _, _, _, _, _, _, _, _, _, _, _, _, _, _, _, _, _, _, _, _, _, _, _, _], defers := _ } _
          refine wpAnyH_take (i := 4) (v := .pointer (some ⟨b, off + K * 2, none⟩)) rfl (by kernel_rfl) (by kernel_rfl) (by kernel_rfl) (fun _ _ _ h => h) (Or.inl ⟨by rfl, ?_⟩) H ?_
          · intro w' hSw; go_simp
          change wpAnyH _ _ _ _ _ _ _ { tmps := #[_, _, _, _, _, _, _, _, _, _, _, _, _, _, _, _, _, _, _, _, _, _, _, _, _, _, _, _, _, _, _, _, _, _, _, _, _, _, _, _, _, _, _, _, _, _, _, _], defers := _ } _
          refine wpAnyH_take (i := 5) (v := .pointer (some ⟨b, off + K * 2, none⟩)) rfl (by kernel_rfl) (by kernel_rfl) (by kernel_rfl) (fun _ _ _ h => h) (Or.inl ⟨by rfl, ?_⟩) H ?_
          · intro w' hSw; go_simp
          change wpAnyH _ _ _ _ _ _ _ { tmps := #[_, _, _, _, _, _, _, _, _, _, _, _, _, _, _, _, _, _, _, _, _, _, _, _, _, _, _, _, _, _, _, _, _, _, _, _, _, _, _, _, _, _, _, _, _, _, _, _], defers := _ } _
          refine wpAnyH_take (i := 6) (v := .int .i64 (LF K).v) rfl (by kernel_rfl) (by kernel_rfl) (by kernel_rfl) (fun _ _ _ h => h) (Or.inl ⟨by rfl, ?_⟩) H ?_
          · intro w' hSw; have q0 : w'.cell? ⟨b, off + K * 2, none⟩ = some (.int .i64 (LF K).v) := by rw [hSw.cell (strBlock LC.out)]; exact LC.out
            clear hSw; go_simp
          change wpAnyH _ _ _ _ _ _ _ { tmps := #[_, _, _, _, _, _, _, _, _, _, _, _, _, _, _, _, _, _, _, _, _, _, _, _, _, _, _, _, _, _, _, _, _, _, _, _, _, _, _, _, _, _, _, _, _, _, _, _], defers := _ } _
          refine wpAnyH_take (i := 7) (v := .bool (decide (x.v < (LF K).v))) rfl (by kernel_rfl) (by kernel_rfl) (by kernel_rfl) (fun _ _ _ h => h) (Or.inl ⟨by rfl, ?_⟩) H ?_
          · intro w' hSw; go_simp
          change wpAnyH _ _ _ _ _ _ _ { tmps := #[_, _, _, _, _, _, _, _, _, _, _, _, _, _, _, _, _, _, _, _, _, _, _, _, _, _, _, _, _, _, _, _, _, _, _, _, _, _, _, _, _, _, _, _, _, _, _, _], defers := _ } _
          refine wpAnyH_done (by kernel_rfl) ?_ _
          refine NoPanic.normal ?_
          replace W1 : Hid (Below w.heap.size w y0) := W1.out.trans (H.mono W1.out.size)
          replace RO : Hid (EO y0 w.heap.size 26 2 (.slice ca n cc) n (lfF LF)) := RO.out.below H
          replace X1 : Hid (Box2 y0 pb 26 (.int .i64 x.v) (.string x.h)) := X1.out.below H
          clear H LC HE
          rw [dv]
          clear dv hv
          obtain ⟨g, hr, hgB⟩ := RO.out.rowE
          obtain rfl := hr.a (by omega)
          have hgB' := hgB (by omega)
          obtain ⟨d0, d1⟩ := hr.lfC K hlt
          obtain ⟨f0, f1⟩ := hr.lfFr K hlt
          have HO : Hid (EO ((y0.setCell ⟨g, K * 2, none⟩ (.int .i64 x.v)).setCell ⟨g, K * 2 + 1, none⟩ (.string x.h)) w.heap.size 26 2 (.slice (some ⟨g, 0, none⟩) n cc) n (lfF (updE LF K x))) := EO.setLf RO.out K hlt x
          have HR : Hid (RetLs n (updE LF K x) 0 w.heap.size (.returned (.tuple #[.slice (some ⟨g, 0, none⟩) n cc, .int .i64 0])) ((y0.setCell ⟨g, K * 2, none⟩ (.int .i64 x.v)).setCell ⟨g, K * 2 + 1, none⟩ (.string x.h))) := ⟨_, _, rfl, HO.out⟩
          have WZ : Hid (Below w.heap.size w ((y0.setCell ⟨g, K * 2, none⟩ (.int .i64 x.v)).setCell ⟨g, K * 2 + 1, none⟩ (.string x.h))) := (W1.out.setCell hgB' _).setCell hgB' _
          have t0 := X1.out.c0
          have t1 := X1.out.c1
          generalize LF K = LK at *
          clear RO hr hgB hgB' HO W1 X1
          go_wp2
          go_ret2
          exact ⟨HR.out, WZ.out⟩
      · have IN : Hid (∀ w : World, Calls Tryd.prog 25 #[.int .i64 k, .int .i64 ((n : Int) + 1)] w fun e w' => e = .returned (.bool false) ∧ w = w') := fun w => within_c k ((n : Int) + 1) false (by simp; omega) w
        obtain ⟨rfl, rfl⟩ : m = 0 ∧ cd = 4 := by
          rcases hA with ⟨q, _⟩ | ⟨_, q, _⟩ | ⟨_, _, _, h1, h2⟩ | ⟨_, _, q, _⟩ | ⟨_, _, q, _⟩ | ⟨_, _, q, _⟩ | ⟨_, _, q, _⟩
          · exact absurd hok q
          · exact absurd hx q
          · exact ⟨h1, h2⟩
          all_goals omega
        have HR : Hid (∀ w', RetLs 0 G 4 w.heap.size (.returned (.tuple #[.slice none 0 0, .int .i64 4])) w') := fun w' => RetLs.nothing _ _ _ _
        generalize RetLs 0 G 4 w.heap.size = RP at *
        clear hA hok hx hk ha
        go_enter Tryd.func15, Tryd.ntmps15
        go_wp2_with fail
        generalize (w.alloc (.cells #[.int .i64 x.v, .string x.h] 26)) = v0 at *
        obtain ⟨pb, hpb⟩ : ∃ z, z = w.heap.size := ⟨_, rfl⟩
        rw [← hpb] at X1 ⊢
        clear hpb
        refine (LT.out _ HE.out).mono ?_
        rintro e v1 ⟨rfl, hb⟩
        replace W1 : Hid (Below w.heap.size w v1) := W1.out.trans (hb.mono W1.out.size)
        replace HE : Hid (Els v1 2 a n (lfF LF)) := HE.out.below hb
        replace X1 : Hid (Box2 v1 pb 26 (.int .i64 x.v) (.string x.h)) := X1.out.below hb
        clear hb
        clear LT
        have t0 := X1.out.c0
        have t1 := X1.out.c1
        go_wp2_with fail
        clear t0 t1
        refine (WL.out _).mono ?_
        rintro e v2 ⟨rfl, hb⟩
        replace W1 : Hid (Below w.heap.size w v2) := W1.out.trans (hb.mono W1.out.size)
        replace HE : Hid (Els v2 2 a n (lfF LF)) := HE.out.below hb
        replace X1 : Hid (Box2 v2 pb 26 (.int .i64 x.v) (.string x.h)) := X1.out.below hb
        clear hb WL
        go_wp2_with fail
        refine (IN.out _).mono ?_
        rintro e _ ⟨rfl, rfl⟩
        clear IN
        clear X1 HE
        go_wp2
        go_ret2
        exact ⟨HR.out _, W1.out⟩
    · rw [tB_yes hx] at WL
      obtain ⟨rfl, rfl⟩ : m = 0 ∧ cd = 1 := by
        rcases hA with ⟨q, _⟩ | ⟨_, _, h1, h2⟩ | ⟨_, q, _⟩ | ⟨_, q, _⟩ | ⟨_, q, _⟩ | ⟨_, q, _⟩ | ⟨_, q, _⟩
        · exact absurd hok q
        · exact ⟨h1, h2⟩
        all_goals exact absurd q hx
      have HR : Hid (∀ w', RetLs 0 G 1 w.heap.size (.returned (.tuple #[.slice none 0 0, .int .i64 1])) w') := fun w' => RetLs.nothing _ _ _ _
      generalize RetLs 0 G 1 w.heap.size = RP at *
      clear hA hok hx ha
      go_enter Tryd.func15, Tryd.ntmps15
      go_wp2_with fail
      generalize (w.alloc (.cells #[.int .i64 x.v, .string x.h] 26)) = v0 at *
      obtain ⟨pb, hpb⟩ : ∃ z, z = w.heap.size := ⟨_, rfl⟩
      rw [← hpb] at X1 ⊢
      clear hpb
      refine (LT.out _ HE.out).mono ?_
      rintro e v1 ⟨rfl, hb⟩
      replace W1 : Hid (Below w.heap.size w v1) := W1.out.trans (hb.mono W1.out.size)
      replace HE : Hid (Els v1 2 a n (lfF LF)) := HE.out.below hb
      replace X1 : Hid (Box2 v1 pb 26 (.int .i64 x.v) (.string x.h)) := X1.out.below hb
      clear hb
      clear LT
      have t0 := X1.out.c0
      have t1 := X1.out.c1
      go_wp2_with fail
      clear t0 t1
      refine (WL.out _).mono ?_
      rintro e v2 ⟨rfl, hb⟩
      replace W1 : Hid (Below w.heap.size w v2) := W1.out.trans (hb.mono W1.out.size)
      replace HE : Hid (Els v2 2 a n (lfF LF)) := HE.out.below hb
      replace X1 : Hid (Box2 v2 pb 26 (.int .i64 x.v) (.string x.h)) := X1.out.below hb
      clear hb WL
      clear X1 HE
      go_wp2
      go_ret2
      exact ⟨HR.out _, W1.out⟩
  · have ne := lsC1 hok
    obtain ⟨rfl, rfl⟩ : m = 0 ∧ cd = lsCode n LF := by
      rcases hA with ⟨_, h1, h2⟩ | ⟨q, _⟩ | ⟨q, _⟩ | ⟨q, _⟩ | ⟨q, _⟩ | ⟨q, _⟩ | ⟨q, _⟩
      · exact ⟨h1, h2⟩
      all_goals exact absurd q hok
    have HR : Hid (∀ w', RetLs 0 G (lsCode n LF) w.heap.size (.returned (.tuple #[.slice none 0 0, .int .i64 (lsCode n LF)])) w') := fun w' => RetLs.nothing _ _ _ _
    generalize RetLs 0 G (lsCode n LF) w.heap.size = RP at *
    generalize lsCode n LF = cd at *
    clear hA hok ha
    go_enter Tryd.func15, Tryd.ntmps15
    go_wp2_with fail
    generalize (w.alloc (.cells #[.int .i64 x.v, .string x.h] 26)) = v0 at *
    obtain ⟨pb, hpb⟩ : ∃ z, z = w.heap.size := ⟨_, rfl⟩
    rw [← hpb] at X1 ⊢
    clear hpb
    refine (LT.out _ HE.out).mono ?_
    rintro e v1 ⟨rfl, hb⟩
    replace W1 : Hid (Below w.heap.size w v1) := W1.out.trans (hb.mono W1.out.size)
    replace HE : Hid (Els v1 2 a n (lfF LF)) := HE.out.below hb
    replace X1 : Hid (Box2 v1 pb 26 (.int .i64 x.v) (.string x.h)) := X1.out.below hb
    clear hb
    clear LT
    clear X1 HE
    go_wp2
    go_ret2
    exact ⟨HR.out _, W1.out⟩
end Go.Proofs.YtpljdlgjeeikkaaDoor
