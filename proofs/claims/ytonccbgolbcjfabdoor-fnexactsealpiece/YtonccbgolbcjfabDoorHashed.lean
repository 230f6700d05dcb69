/-
  The contract of impl.hashed.
-/
import Derived.Test.YtonccbgolbcjfabDoorFilled
import Derived.Deep.RegionHeld3
import Derived.Deep.RegionHeldLaw
import Derived.Deep.Cut
import Derived.Deep.CutRange
import Derived.Deep.DeepCutAuto
namespace Go.Proofs.YtonccbgolbcjfabDoor
open Go.ChangeShapes Go.WideShapes Go.ChangeAt Go.RowKit
/-- The hash of n bytes, as a text. -/
def hashS (n : Nat) (f : Nat → Nat) : ByteArray := kstr (Sha.hash n f) 0 32
theorem hashS_size (n : Nat) (f : Nat → Nat) : (hashS n f).size = 32 := kstr_size _ _ _
def lenH : Value → Nat
  | .slice _ n _ => n
  | _ => 0
/-- What a step of hashed keeps. -/
def HSt (w0 w' : World) (sb g L : Nat) (F v : Nat → Nat) : Prop := RowW w' sb 99 8 v ∧ Own8 w' g L F ∧ Below w0.heap.size w0 w'
theorem HSt.below {w0 w' w'' : World} {sb g L : Nat} {F v : Nat → Nat} (h : HSt w0 w' sb g L F v) (hb : Below w'.heap.size w' w'') : HSt w0 w'' sb g L F v := ⟨h.1.below hb, h.2.1.below hb, h.2.2.trans (hb.mono h.2.2.size)⟩
theorem HSt.drew {w0 w' : World} {sb g L : Nat} {F v : Nat → Nat} (h : HSt w0 w' sb g L F v) : HSt w0 w'.drew sb g L F v := ⟨h.1, h.2.1, h.2.2.drew⟩
theorem onlyB_setCellsH {b : Nat} {a : World} (vs : List Value) : ∀ (o : Nat) (w : World), OnlyB b a w → OnlyB b a (w.setCells b o vs) := by
  induction vs with
  | nil => intro o w h; exact h
  | cons v vs ih => intro o w h; exact ih (o + 1) _ (h.setCell o v)
theorem HSt.store {w0 w' : World} {sb g L : Nat} {F v : Nat → Nat} (h : HSt w0 w' sb g L F v) (h1 : g ≠ sb) (h2 : w0.heap.size ≤ sb) (v' : Nat → Nat) : HSt w0 (w'.setCells sb 0 (wv 8 v')) sb g L F v' := by
  have X1 : OnlyB sb w' (w'.setCells sb 0 (wv 8 v')) := onlyB_setCellsH _ _ _ (OnlyB.refl _ _)
  exact ⟨h.1.stored v', h.2.1.onlyB X1 h1, below_setCells h2 _ _ _ h.2.2⟩
set_option maxRecDepth 100000 in
set_option maxHeartbeats 4000000 in
theorem hashed_any (b o n c : Nat) (f : Nat → Nat) (hf : ∀ i, f i < 256) (hn : n ≤ 1200000) (w : World) (h : Code8 w (some ⟨b, o, none⟩) n f) (ht : Tabs w) :
    Calls Tryd.prog 46 #[.slice (some ⟨b, o, none⟩) n c] w fun e w' => e = .returned (.string (hashS n f)) ∧ Below w.heap.size w w' := by
  obtain ⟨L, hL⟩ : ∃ L, L = Sha.fullN n := ⟨_, rfl⟩
  obtain ⟨F, hF⟩ : ∃ F, F = Sha.fullF n f := ⟨_, rfl⟩
  obtain ⟨m, hm⟩ : ∃ m, m = Sha.fullN n / 64 := ⟨_, rfl⟩
  have hLm : L = 64 * m := by rw [hL, hm]; unfold Sha.fullN; omega
  have HLm : Hid (L = 64 * m) := hLm
  have lF : ∀ j, F j < 256 := fun j => by rw [hF]; exact Sha.fullF_lt hf j
  have HH : Hid (hashS n f = kstr (Sha.outB (Sha.hashTo F m)) 0 32) := by show _ = _; rw [hF, hm]; rfl
  have FU : Hid (∀ w : World, Code8 w (some ⟨b, o, none⟩) n f → Calls Tryd.prog 65 #[.slice (some ⟨b, o, none⟩) n c] w fun e w' => RetO w.heap.size w' e L F ∧ Below w.heap.size w w') := fun w h => by rw [hL, hF]; exact filledUp_any b o n c f hn w h
  have AF : Hid (∀ (i g cr : Nat) (w : World), 64 ≤ cr → Code8 w (some ⟨g, 64 * i, none⟩) 64 (fun j => F (64 * i + j)) → Tabs w → Calls Tryd.prog 66 #[.agg (wA 8 (Sha.hashTo F i)), .slice (some ⟨g, 64 * i, none⟩) 64 cr] w fun e w' => e = .returned (.agg (wA 8 (Sha.hashTo F (i + 1)))) ∧ Below w.heap.size w w') := fun i g cr w hc h ht => after_any (Sha.hashTo F i) g (64 * i) 64 cr _ (fun j => lF _) (Nat.le_refl _) hc w h ht
  have TX : Hid (∀ w : World, Calls Tryd.prog 67 #[.agg (wA 8 (Sha.hashTo F m))] w fun e w' => e = .returned (.string (hashS n f)) ∧ Below w.heap.size w w') := fun w => by rw [HH.out]; exact text_any _ (Sha.hashTo_lt F m) w
  have HC : Hid (Code8 w (some ⟨b, o, none⟩) n f) := h
  have HT : Hid (Tabs w) := ht
  have TR : Hid (w.rangeAt 0 0 (wv 8 Sha.h0)) := fun j v hv => by
    have hj : j < 8 := by have := (List.getElem?_eq_some_iff.1 hv).1; rwa [wv_length] at this
    rw [wv_at hj] at hv
    cases hv
    rw [Nat.zero_add]
    exact ht.1 j hj
  obtain ⟨D0, hD0⟩ : ∃ D, D = Sha.h0 := ⟨_, rfl⟩
  have HD : Hid (Sha.hashTo F 0 = D0) := by rw [hD0]; rfl
  rw [← hD0] at TR
  have z1 := Tryd.zero8w
  have Z0 : Hid (RowW (w.alloc (.cells (Array.replicate 8 (.int .u32 0)) 99)) w.heap.size 99 8 (fun _ => 0)) := RowW.zerosAt rfl _ _
  have EA : Hid ((wv 8 D0).toArray = wA 8 D0) := rfl
  have R1 : Hid (RowW ((w.alloc (.cells (Array.replicate 8 (.int .u32 0)) 99)).setCells w.heap.size 0 (wv 8 D0)) w.heap.size 99 8 D0) := Z0.out.stored D0
  have B1 : Hid (Below w.heap.size w ((w.alloc (.cells (Array.replicate 8 (.int .u32 0)) 99)).setCells w.heap.size 0 (wv 8 D0))) := below_setCells (Nat.le_refl _) _ _ _ ((Below.refl _ _).alloc (Nat.le_refl _) _)
  have S1 : Hid (w.heap.size < ((w.alloc (.cells (Array.replicate 8 (.int .u32 0)) 99)).setCells w.heap.size 0 (wv 8 D0)).heap.size) := R1.out.lt
  generalize hashS n f = HS at *
  have hm' : m ≤ 40000 := by rw [hm]; unfold Sha.fullN; omega
  clear h hf ht hL hF hm HH hD0 hLm
  go_enter Tryd.func46, Tryd.ntmps46
  go_wp2_with (first
    | (refine wpList_load_mid rfl 99 (.global 0) rfl 0 0 rfl (wv 8 D0) _ TR.out Tryd.underlying99 rfl (by rw [wv_length]; exact Tryd.size8w) ?_)
    | (refine wpList_store_mid rfl 99 (.tmp 3) (.tmp 5) rfl w.heap.size 0 (wA 8 D0) rfl rfl (by rw [wA_size]; exact Z0.out.there) (by rw [wA_size]; exact Tryd.size8w) (wA_one _ _) ?_; rw [wA_toList]; generalize (w.alloc (.cells (Array.replicate 8 (.int .u32 0)) 99)).setCells w.heap.size 0 (wv 8 D0) = wf at *))
  generalize (wv 8 D0).toArray = junk at *
  refine (FU.out _ (HC.out.below B1.out)).mono ?_
  rintro e w1 ⟨⟨g, c1, rfl, hown⟩, hb1⟩
  obtain ⟨g', c', ⟨hg, hmc⟩, e', ho⟩ := own8_of_own hown (by intro e; cases e)
  cases e'
  have hne : g ≠ w.heap.size := by have := S1.out; omega
  have HI : Hid (HSt w w1 w.heap.size g L F (Sha.hashTo F 0)) := ⟨by rw [HD.out]; exact R1.out.below hb1, ho, B1.out.trans (hb1.mono B1.out.size)⟩
  clear hown ho hb1 R1 B1 S1 FU HC TR Z0 EA z1 HD
  go_wp2_with fail
  go_loopw [4] (fun s wr => ∃ (i cr : Nat) (ad : Option Addr), i ≤ m ∧ s = .slice ad (L - 64 * i) cr ∧ (i < m → ad = some ⟨g, 64 * i, none⟩ ∧ L - 64 * i ≤ cr) ∧ HSt w wr w.heap.size g L F (Sha.hashTo F i)) (fun s _ => lenH s)
  case atStart => exact ⟨0, c1, _, by omega, rfl, fun _ => ⟨rfl, by omega⟩, HI.out⟩
  case round =>
    clear HI
    obtain ⟨i, cr, ad, hi, rfl, had, hst⟩ := hrel
    by_cases hlt : i < m
    · obtain ⟨rfl, hcr⟩ := had hlt
      clear had
      obtain ⟨R, hR⟩ : ∃ R, R = L - 64 * i := ⟨_, rfl⟩
      rw [← hR] at hcr
      have hLm := HLm.out
      have HRe : Hid (R - 64 = L - 64 * (i + 1)) := by show _ = _; omega
      have HR0 : Hid (R = L - 64 * i) := hR
      rw [← hR]
      have hR64 : 64 ≤ R := by omega
      have hRL : 64 * i + 64 ≤ L := by omega
      clear hLm
      have x0 : (0 : Int) < (R : Int) := by omega
      have x1 : (64 : Int) ≤ (cr : Int) := by omega
      have x2 : (64 : Int) ≤ (R : Int) := by omega
      have AFi : Hid (∀ w' : World, HSt w w' w.heap.size g L F (Sha.hashTo F i) → Calls Tryd.prog 66 #[.agg (wA 8 (Sha.hashTo F i)), .slice (some ⟨g, 64 * i, none⟩) 64 cr] w' fun e w'' => e = .returned (.agg (wA 8 (Sha.hashTo F (i + 1)))) ∧ Below w'.heap.size w' w'') := fun w' h => AF.out i g cr w' (by omega) (code8_of (fun j hj => by
        have := h.2.1.cell (i := 64 * i + j) (by omega)
        exact this)) (HT.out.below h.2.2)
      have HST : Hid (HSt w wr w.heap.size g L F (Sha.hashTo F i)) := hst
      have EV : Hid ((wv 8 (Sha.hashTo F i)).toArray = wA 8 (Sha.hashTo F i)) := rfl
      generalize hV1 : Sha.hashTo F (i + 1) = V1 at *
      have HV1 : Hid (Sha.hashTo F (i + 1) = V1) := hV1
      clear hV1
      generalize Sha.hashTo F i = V0 at *
      clear hst hR AF
      go_upto_region 4 with fail
      have H : HSt w wr.drew w.heap.size g L F V0 := HST.out.drew
      clear HST
      refine wp_region_noPanic ?_
      refine wp_region_held_drew (S := fun w' => Own8 w' g L F ∧ Below w.heap.size w w') (by kernel_rfl) H.2 (fun _ => ?_)
      refine wpAnyH_take (i := 1) (v := .slice (some ⟨g, 64 * i, none⟩) R cr) rfl (by kernel_rfl) (by kernel_rfl) (by kernel_rfl) (fun _ _ _ h => h) (Or.inl ⟨by rfl, ?_⟩) H.2 ?_
      · intro w hSw; go_simp
      change wpAnyH _ _ _ _ _ _ _ { tmps := #[_, _, _, _, _, _, _, _, _, _, _, _, _, _, _, _, _, _, _], defers := [] } _
      refine wpAnyH_take (i := 2) (v := .slice (some ⟨g, 64 * i, none⟩) 64 cr) rfl (by kernel_rfl) (by kernel_rfl) (by kernel_rfl) (fun _ _ _ h => h) (Or.inl ⟨by rfl, ?_⟩) H.2 ?_
      · intro w hSw; go_simp
      change wpAnyH _ _ _ _ _ _ _ { tmps := #[_, _, _, _, _, _, _, _, _, _, _, _, _, _, _, _, _, _, _], defers := [] } _
      refine wpAnyH_ready (rs := [0]) (by kernel_rfl) (by simp) ?_
      refine AllReadyH.cons rfl (fun KK hK => ?_) AllReadyH.nil
      rw [if_pos (by rfl)]
      refine wp_load_mid 99 (.tmp 3) rfl w.heap.size 0 rfl (wv 8 V0) _ H.1.range Tryd.underlying99 rfl (by rw [wv_length]; exact Tryd.size8w) ?_
      refine hK.out _ _ H.2 (fun _ => ?_)
      clear hK KK
      rw [EV.out]
      change wpAnyH _ _ _ _ _ _ _ { tmps := #[_, _, _, _, _, _, _, _, _, _, _, _, _, _, _, _, _, _, _], defers := [] } _
      refine wpAnyH_ready (rs := [3]) (by kernel_rfl) (by simp) ?_
      refine AllReadyH.cons rfl (fun KK hK => ?_) AllReadyH.nil
      go_simp
      refine (AFi.out _ H).mono ?_
      rintro e w2 ⟨rfl, hb2⟩
      replace H := HSt.below H hb2
      refine hK.out _ _ H.2 (fun _ => ?_)
      clear hK KK hb2
      change wpAnyH _ _ _ _ _ _ _ { tmps := #[_, _, _, _, _, _, _, _, _, _, _, _, _, _, _, _, _, _, _], defers := [] } _
      refine wpAnyH_ready (rs := [4]) (by kernel_rfl) (by simp) ?_
      refine AllReadyH.cons rfl (fun KK hK => ?_) AllReadyH.nil
      rw [if_pos (by rfl)]
      refine wp_store_mid 99 (.tmp 3) (.tmp 14) rfl w.heap.size 0 (wA 8 V1) rfl rfl (by rw [wA_size]; exact H.1.there) (by rw [wA_size]; exact Tryd.size8w) (wA_one _ _) ?_
      rw [wA_toList]
      replace H := HSt.store H hne (Nat.le_refl _) V1
      refine hK.out _ _ H.2 (fun _ => ?_)
      clear hK KK
      refine wpAnyH_done (by kernel_rfl) ?_ _
      refine NoPanic.normal ?_
      change Exit.then _ _ Exit.normal { tmps := #[_, _, _, _, _, _, _, _, _, _, _, _, _, _, _, _, _, _, _], defers := [] } _
      have HS9 : Hid (HSt w (w2.setCells w.heap.size 0 (wv 8 V1)) w.heap.size g L F V1) := H
      clear H AFi EV
      generalize (w2.setCells w.heap.size 0 (wv 8 V1)) = w9 at *
      generalize wA 8 V1 = q1
      generalize wA 8 V0 = q0
      by_cases hc64 : cr = 64
      · subst hc64
        go_wp2
        go_roundw
        case rel =>
          refine ⟨i + 1, 0, some ⟨g, 64 * i, none⟩, by omega, ?_, fun h => ?_, by rw [HV1.out]; exact HS9.out⟩
          · rw [← HRe.out, show R - 64 = 0 from by omega]
          · exfalso; have := HRe.out; have := HLm.out; omega
        case measure => simp [lenH]; omega
      · go_wp2
        go_roundw
        case rel =>
          refine ⟨i + 1, cr - 64, some ⟨g, 64 * i + 64, none⟩, by omega, ?_, fun h => ?_, by rw [HV1.out]; exact HS9.out⟩
          · rw [← HRe.out]
          · exact ⟨rfl, by have := HRe.out; omega⟩
        case measure => simp [lenH]; omega
    · obtain rfl : i = m := by omega
      have eL : L - 64 * i = 0 := by have := HLm.out; omega
      rw [eL]
      have HST : Hid (HSt w wr w.heap.size g L F (Sha.hashTo F i)) := hst
      have EV : Hid ((wv 8 (Sha.hashTo F i)).toArray = wA 8 (Sha.hashTo F i)) := rfl
      generalize Sha.hashTo F i = V0 at *
      clear hst had eL AF
      go_wp2_with (refine wpList_load_mid rfl 99 (.tmp 3) rfl w.heap.size 0 rfl (wv 8 V0) _ HST.out.1.range Tryd.underlying99 rfl (by rw [wv_length]; exact Tryd.size8w) ?_; rw [EV.out])
      refine (TX.out _).mono ?_
      rintro e w2 ⟨rfl, hb2⟩
      have HB2 : Hid (Below w.heap.size w w2) := HST.out.2.2.trans (hb2.mono HST.out.2.2.size)
      clear hb2 HST EV TX
      generalize wA 8 V0 = q0
      go_wp2
      go_ret
      exact ⟨rfl, HB2.out⟩
end Go.Proofs.YtonccbgolbcjfabDoor
