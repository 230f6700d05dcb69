/-
  The contract of impl's decrypt: a block under a key made ready.
-/
import Derived.Test.YtbhlgcenfanicaaUnturn
import Derived.Test.YtbhlgcenfanicaaEncrypt
namespace Go.Proofs.Ytbhlgcenfanicaa
open Go.ChangeShapes Go.WideShapes Go.ChangeAt Go.RowKit
set_option maxRecDepth 100000 in
set_option maxHeartbeats 4000000 in
theorem decrypt_any (C m : Nat) (K f : Nat → Nat) (hf : ∀ i, i < 16 → f i < 256) (hK : ∀ j, K j < 256) (hm : 1 ≤ m) (hm' : m ≤ 14) (w : World) (hC : CiphAt w C m K) :
    Calls Try.prog 60 #[.pointer (some ⟨C, 0, none⟩), .agg (bA 16 f)] w fun e w' => e = .returned (.agg (bA 16 (Gf.dec K m f))) ∧ Below w.heap.size w w' := by
  have HF : Hid (∀ i, i < 16 → f i < 256) := hf
  have HK : Hid (∀ j, K j < 256) := hK
  have hCl := hC.lt
  have E0 : Hid (ENC w C m K f ((w.alloc (.cells (bA 16 f) 39)).alloc (.cells z16 39))) :=
    ⟨(Row8.boxedAt rfl _ _ _).alloc _, Row8.z16At (by simp) _, hC.belowOf (((Below.refl _ _).alloc (Nat.le_refl _) _).alloc (by simp) _) hCl, ((Below.refl _ _).alloc (Nat.le_refl _) _).alloc (by simp) _⟩
  clear hf hC hK
  unfold z16 at E0
  go_enter Try.func60, Try.ntmps60
  go_upto_region 1 with fail
  generalize (w.alloc (.cells (bA 16 f) 39)).alloc (.cells #[.int .u8 0, .int .u8 0, .int .u8 0, .int .u8 0, .int .u8 0, .int .u8 0, .int .u8 0, .int .u8 0, .int .u8 0, .int .u8 0, .int .u8 0, .int .u8 0, .int .u8 0, .int .u8 0, .int .u8 0, .int .u8 0] 39) = wz at *
  have H : ENC w C m K f wz.drew := E0.out.drew
  have x1 : (m : Int) < 15 := by omega
  have x2 : (0 : Int) ≤ (m : Int) := by omega
  have AD : Hid (∀ w : World, Calls Try.prog 37 #[.agg (bv 16 f).toArray, .agg (bv 16 (Gf.keyAt K m)).toArray] w fun e w' => e = .returned (.agg (bA 16 (Gf.addK f (Gf.keyAt K m)))) ∧ Below w.heap.size w w') := added_any f (Gf.keyAt K m) HF.out (fun i _ => HK.out _)
  have UN : Hid (∀ w : World, CiphAt w C m K → Calls Try.prog 83 #[.pointer (some ⟨C, 0, none⟩), .agg (bA 16 (Gf.addK f (Gf.keyAt K m)))] w fun e w' => e = .returned (.agg (bA 16 (Gf.decTo K m f 0))) ∧ Below w.heap.size w w') := fun w h => by
    rw [show Gf.decTo K m f 0 = Gf.unTurn (Gf.addK f (Gf.keyAt K m)) from rfl]
    exact unTurn_any C m K (Gf.addK f (Gf.keyAt K m)) (fun j hj => Gf.addK_lt (s := f) (k := Gf.keyAt K m) (HF.out j hj) (HK.out _)) w h
  generalize bA 16 (Gf.addK f (Gf.keyAt K m)) = A1 at *
  refine wp_region_noPanic ?_
  refine wp_region_held_drew (S := fun w' => CiphAt w' C m K) (by kernel_rfl) H.2.2.1 (fun _ => ?_)
  refine wpAnyH_take (i := 0) (v := .pointer (some ⟨C, 0, none⟩)) rfl (by kernel_rfl) (by kernel_rfl) (by kernel_rfl) (fun _ _ _ h => h) (Or.inl ⟨by rfl, ?_⟩) H.2.2.1 ?_
  · intro w hSw; go_simp
  change wpAnyH _ _ _ _ _ _ _ { tmps := #[_, _, _, _, _, _, _, _, _, _, _, _, _, _, _, _, _, _, _, _, _, _, _, _, _, _, _, _, _, _, _, _, _, _, _, _, _, _, _, _, _, _, _, _, _, _], defers := [] } _
  refine wpAnyH_take (i := 2) (v := .pointer (some ⟨C, 0, none⟩)) rfl (by kernel_rfl) (by kernel_rfl) (by kernel_rfl) (fun _ _ _ h => h) (Or.inl ⟨by rfl, ?_⟩) H.2.2.1 ?_
  · intro w hSw; go_simp
  change wpAnyH _ _ _ _ _ _ _ { tmps := #[_, _, _, _, _, _, _, _, _, _, _, _, _, _, _, _, _, _, _, _, _, _, _, _, _, _, _, _, _, _, _, _, _, _, _, _, _, _, _, _, _, _, _, _, _, _], defers := [] } _
  refine wpAnyH_take (i := 3) (v := .pointer (some ⟨C, 0, none⟩)) rfl (by kernel_rfl) (by kernel_rfl) (by kernel_rfl) (fun _ _ _ h => h) (Or.inl ⟨by rfl, ?_⟩) H.2.2.1 ?_
  · intro w hSw; go_simp
  change wpAnyH _ _ _ _ _ _ _ { tmps := #[_, _, _, _, _, _, _, _, _, _, _, _, _, _, _, _, _, _, _, _, _, _, _, _, _, _, _, _, _, _, _, _, _, _, _, _, _, _, _, _, _, _, _, _, _, _], defers := [] } _
  refine wpAnyH_take (i := 4) (v := .pointer (some ⟨C, 0, none⟩)) rfl (by kernel_rfl) (by kernel_rfl) (by kernel_rfl) (fun _ _ _ h => h) (Or.inl ⟨by rfl, ?_⟩) H.2.2.1 ?_
  · intro w hSw; go_simp
  change wpAnyH _ _ _ _ _ _ _ { tmps := #[_, _, _, _, _, _, _, _, _, _, _, _, _, _, _, _, _, _, _, _, _, _, _, _, _, _, _, _, _, _, _, _, _, _, _, _, _, _, _, _, _, _, _, _, _, _], defers := [] } _
  refine wpAnyH_take (i := 5) (v := .pointer (some ⟨C, 0, none⟩)) rfl (by kernel_rfl) (by kernel_rfl) (by kernel_rfl) (fun _ _ _ h => h) (Or.inl ⟨by rfl, ?_⟩) H.2.2.1 ?_
  · intro w hSw; go_simp
  change wpAnyH _ _ _ _ _ _ _ { tmps := #[_, _, _, _, _, _, _, _, _, _, _, _, _, _, _, _, _, _, _, _, _, _, _, _, _, _, _, _, _, _, _, _, _, _, _, _, _, _, _, _, _, _, _, _, _, _], defers := [] } _
  refine wpAnyH_take (i := 6) (v := .int .i64 (m : Int)) rfl (by kernel_rfl) (by kernel_rfl) (by kernel_rfl) (fun _ _ _ h => h) (Or.inl ⟨by rfl, ?_⟩) H.2.2.1 ?_
  · intro w hSw; have hfact := CiphAt.rounds hSw; go_simp
  change wpAnyH _ _ _ _ _ _ _ { tmps := #[_, _, _, _, _, _, _, _, _, _, _, _, _, _, _, _, _, _, _, _, _, _, _, _, _, _, _, _, _, _, _, _, _, _, _, _, _, _, _, _, _, _, _, _, _, _], defers := [] } _
  refine wpAnyH_take (i := 7) (v := .pointer (some ⟨C, 0, none⟩)) rfl (by kernel_rfl) (by kernel_rfl) (by kernel_rfl) (fun _ _ _ h => h) (Or.inl ⟨by rfl, ?_⟩) H.2.2.1 ?_
  · intro w hSw; go_simp
  change wpAnyH _ _ _ _ _ _ _ { tmps := #[_, _, _, _, _, _, _, _, _, _, _, _, _, _, _, _, _, _, _, _, _, _, _, _, _, _, _, _, _, _, _, _, _, _, _, _, _, _, _, _, _, _, _, _, _, _], defers := [] } _
  refine wpAnyH_take (i := 8) (v := .pointer (some ⟨C, 1, none⟩)) rfl (by kernel_rfl) (by kernel_rfl) (by kernel_rfl) (fun _ _ _ h => h) (Or.inl ⟨by rfl, ?_⟩) H.2.2.1 ?_
  · intro w hSw; go_simp
  change wpAnyH _ _ _ _ _ _ _ { tmps := #[_, _, _, _, _, _, _, _, _, _, _, _, _, _, _, _, _, _, _, _, _, _, _, _, _, _, _, _, _, _, _, _, _, _, _, _, _, _, _, _, _, _, _, _, _, _], defers := [] } _
  refine wpAnyH_take (i := 9) (v := .pointer (some ⟨C, 1 + m * 16, none⟩)) rfl (by kernel_rfl) (by kernel_rfl) (by kernel_rfl) (fun _ _ _ h => h) (Or.inl ⟨by rfl, ?_⟩) H.2.2.1 ?_
  · intro w hSw; go_simp
  change wpAnyH _ _ _ _ _ _ _ { tmps := #[_, _, _, _, _, _, _, _, _, _, _, _, _, _, _, _, _, _, _, _, _, _, _, _, _, _, _, _, _, _, _, _, _, _, _, _, _, _, _, _, _, _, _, _, _, _], defers := [] } _
  refine wpAnyH_take (i := 10) (v := .agg (bv 16 (Gf.keyAt K m)).toArray) rfl (by kernel_rfl) (by kernel_rfl) (by kernel_rfl) (fun _ _ _ h => h) (yieldsIf_load_mid (by rfl) 39 (.tmp 15) rfl C (1 + m * 16) rfl (bv 16 (Gf.keyAt K m)) _ (fun w h => CiphAt.key h m (by omega)) Try.underlying39 rfl (by rw [bv_length]; exact Try.sizeSt)) H.2.2.1 ?_
  change wpAnyH _ _ _ _ _ _ _ { tmps := #[_, _, _, _, _, _, _, _, _, _, _, _, _, _, _, _, _, _, _, _, _, _, _, _, _, _, _, _, _, _, _, _, _, _, _, _, _, _, _, _, _, _, _, _, _, _], defers := [] } _
  refine wpAnyH_ready (rs := [1]) (by kernel_rfl) (by simp) ?_
  refine AllReadyH.cons rfl (fun KK hK => ?_) AllReadyH.nil
  rw [if_pos (by rfl)]
  refine wp_load_mid 39 (.tmp 3) rfl w.heap.size 0 rfl (bv 16 f) _ H.1.range Try.underlying39 rfl (by rw [bv_length]; exact Try.sizeSt) ?_
  refine hK.out _ _ H.2.2.1 (fun _ => ?_)
  clear hK KK
  change wpAnyH _ _ _ _ _ _ _ { tmps := #[_, _, _, _, _, _, _, _, _, _, _, _, _, _, _, _, _, _, _, _, _, _, _, _, _, _, _, _, _, _, _, _, _, _, _, _, _, _, _, _, _, _, _, _, _, _], defers := [] } _
  refine wpAnyH_ready (rs := [11]) (by kernel_rfl) (by simp) ?_
  refine AllReadyH.cons rfl (fun KK hK => ?_) AllReadyH.nil
  go_simp
  refine (AD.out _).mono ?_
  rintro e w1 ⟨rfl, hb⟩
  replace H := ENC.below H hb
  refine hK.out _ _ H.2.2.1 (fun _ => ?_)
  clear hK KK hb
  change wpAnyH _ _ _ _ _ _ _ { tmps := #[_, _, _, _, _, _, _, _, _, _, _, _, _, _, _, _, _, _, _, _, _, _, _, _, _, _, _, _, _, _, _, _, _, _, _, _, _, _, _, _, _, _, _, _, _, _], defers := [] } _
  refine wpAnyH_ready (rs := [12]) (by kernel_rfl) (by simp) ?_
  refine AllReadyH.cons rfl (fun KK hK => ?_) AllReadyH.nil
  go_simp
  refine (UN.out _ H.2.2.1).mono ?_
  rintro e w1 ⟨rfl, hb⟩
  replace H := ENC.below H hb
  refine hK.out _ _ H.2.2.1 (fun _ => ?_)
  clear hK KK hb
  change wpAnyH _ _ _ _ _ _ _ { tmps := #[_, _, _, _, _, _, _, _, _, _, _, _, _, _, _, _, _, _, _, _, _, _, _, _, _, _, _, _, _, _, _, _, _, _, _, _, _, _, _, _, _, _, _, _, _, _], defers := [] } _
  refine wpAnyH_ready (rs := [13]) (by kernel_rfl) (by simp) ?_
  refine AllReadyH.cons rfl (fun KK hK => ?_) AllReadyH.nil
  rw [if_pos (by rfl)]
  refine wp_store_mid 39 (.tmp 3) (.tmp 18) rfl w.heap.size 0 (bA 16 (Gf.decTo K m f 0)) rfl rfl (by rw [bA_size]; exact H.1.there) (by rw [bA_size]; exact Try.sizeSt) (bA_one _ _) ?_
  rw [bA_toList]
  replace H := ENC.store H hCl (Gf.decTo K m f 0)
  refine hK.out _ _ H.2.2.1 (fun _ => ?_)
  clear hK KK
  refine wpAnyH_done (by kernel_rfl) ?_ _
  refine NoPanic.normal ?_
  change Exit.then _ _ Exit.normal { tmps := #[_, _, _, _, _, _, _, _, _, _, _, _, _, _, _, _, _, _, _, _, _, _, _, _, _, _, _, _, _, _, _, _, _, _, _, _, _, _, _, _, _, _, _, _, _, _], defers := [] } _
  have H2 : Hid (ENC w C m K (Gf.decTo K m f 0) (w1.setCells w.heap.size 0 (bv 16 (Gf.decTo K m f 0)))) := H
  clear H E0 AD UN
  generalize w1.setCells w.heap.size 0 (bv 16 (Gf.decTo K m f 0)) = wy at *
  have cr := H2.out.2.2.1.rounds
  generalize (bv 16 f).toArray = Y1 at *
  generalize (bv 16 (Gf.keyAt K m)).toArray = Y2 at *
  generalize bA 16 (Gf.decTo K m f 0) = Y3 at *
  generalize bA 16 f = FA at *
  have em : (m : Int) - 1 = ((m - 1 : Nat) : Int) := by omega
  go_wp2_with fail
  go_loopw [5] (fun i wr => ∃ k : Nat, k ≤ m - 1 ∧ i = .int .i64 k ∧ ENC w C m K (Gf.decTo K m f (m - 1 - k)) wr) (fun i _ => (intOf i).toNat)
  case atStart => exact ⟨m - 1, Nat.le_refl _, numEq (by omega), by rw [Nat.sub_self]; exact H2.out⟩
  case round =>
    clear H2 cr em
    obtain ⟨k, hk, rfl, hE⟩ := hrel
    have HE : Hid (ENC w C m K (Gf.decTo K m f (m - 1 - k)) wr) := hE
    clear hE
    have LE : Hid (∀ j, j < 16 → Gf.decTo K m f (m - 1 - k) j < 256) := Gf.decTo_lt HK.out HF.out _
    by_cases hlt : 0 < k
    · have x0 : (0 : Int) < (k : Int) := by omega
      have x3 : (k : Int) < 15 := by omega
      have x4 : (0 : Int) ≤ (k : Int) := by omega
      have EK : Hid (Gf.decTo K m f (m - 1 - (k - 1)) = Gf.unTurn (Gf.mix3 (Gf.addK (Gf.decTo K m f (m - 1 - k)) (Gf.keyAt K k)))) := by
        rw [show m - 1 - (k - 1) = (m - 1 - k) + 1 from by omega]
        show Gf.unTurn (Gf.mix3 (Gf.addK (Gf.decTo K m f (m - 1 - k)) (Gf.keyAt K (m - 1 - (m - 1 - k))))) = _
        rw [show m - 1 - (m - 1 - k) = k from by omega]
      have LA : ∀ j, j < 16 → Gf.addK (Gf.decTo K m f (m - 1 - k)) (Gf.keyAt K k) j < 256 := fun j hj => Gf.addK_lt (s := Gf.decTo K m f (m - 1 - k)) (k := Gf.keyAt K k) (LE.out j hj) (HK.out _)
      have AD : Hid (∀ w : World, Calls Try.prog 37 #[.agg (bv 16 (Gf.decTo K m f (m - 1 - k))).toArray, .agg (bv 16 (Gf.keyAt K k)).toArray] w fun e w' => e = .returned (.agg (bA 16 (Gf.addK (Gf.decTo K m f (m - 1 - k)) (Gf.keyAt K k)))) ∧ Below w.heap.size w w') := added_any _ (Gf.keyAt K k) LE.out (fun i _ => HK.out _)
      have UM : Hid (∀ w : World, Calls Try.prog 84 #[.agg (bA 16 (Gf.addK (Gf.decTo K m f (m - 1 - k)) (Gf.keyAt K k)))] w fun e w' => e = .returned (.agg (bA 16 (Gf.mix3 (Gf.addK (Gf.decTo K m f (m - 1 - k)) (Gf.keyAt K k))))) ∧ Below w.heap.size w w') := unmixed_any _ LA
      have UN : Hid (∀ w : World, CiphAt w C m K → Calls Try.prog 83 #[.pointer (some ⟨C, 0, none⟩), .agg (bA 16 (Gf.mix3 (Gf.addK (Gf.decTo K m f (m - 1 - k)) (Gf.keyAt K k))))] w fun e w' => e = .returned (.agg (bA 16 (Gf.decTo K m f (m - 1 - (k - 1))))) ∧ Below w.heap.size w w') := fun w h => by
        rw [EK.out]; exact unTurn_any C m K (Gf.mix3 (Gf.addK (Gf.decTo K m f (m - 1 - k)) (Gf.keyAt K k))) (Gf.mix3_lt LA) w h
      clear LA
      go_upto_region 5 with fail
      have H : ENC w C m K (Gf.decTo K m f (m - 1 - k)) wr.drew := HE.out.drew
      clear HE EK
      generalize bA 16 (Gf.addK (Gf.decTo K m f (m - 1 - k)) (Gf.keyAt K k)) = A2 at *
      generalize bA 16 (Gf.mix3 (Gf.addK (Gf.decTo K m f (m - 1 - k)) (Gf.keyAt K k))) = A3 at *
      generalize hD1 : Gf.decTo K m f (m - 1 - (k - 1)) = D1 at *
      have HD1 : Hid (D1 = Gf.decTo K m f (m - 1 - (k - 1))) := hD1.symm
      clear hD1
      refine wp_region_noPanic ?_
      refine wp_region_held_drew (S := fun w' => CiphAt w' C m K) (by kernel_rfl) H.2.2.1 (fun _ => ?_)
      refine wpAnyH_take (i := 0) (v := .pointer (some ⟨C, 0, none⟩)) rfl (by kernel_rfl) (by kernel_rfl) (by kernel_rfl) (fun _ _ _ h => h) (Or.inl ⟨by rfl, ?_⟩) H.2.2.1 ?_
      · intro w hSw; go_simp
      change wpAnyH _ _ _ _ _ _ _ { tmps := #[_, _, _, _, _, _, _, _, _, _, _, _, _, _, _, _, _, _, _, _, _, _, _, _, _, _, _, _, _, _, _, _, _, _, _, _, _, _, _, _, _, _, _, _, _, _], defers := [] } _
      refine wpAnyH_take (i := 2) (v := .pointer (some ⟨C, 0, none⟩)) rfl (by kernel_rfl) (by kernel_rfl) (by kernel_rfl) (fun _ _ _ h => h) (Or.inl ⟨by rfl, ?_⟩) H.2.2.1 ?_
      · intro w hSw; go_simp
      change wpAnyH _ _ _ _ _ _ _ { tmps := #[_, _, _, _, _, _, _, _, _, _, _, _, _, _, _, _, _, _, _, _, _, _, _, _, _, _, _, _, _, _, _, _, _, _, _, _, _, _, _, _, _, _, _, _, _, _], defers := [] } _
      refine wpAnyH_take (i := 3) (v := .int .i64 (k : Int)) rfl (by kernel_rfl) (by kernel_rfl) (by kernel_rfl) (fun _ _ _ h => h) (Or.inl ⟨by rfl, ?_⟩) H.2.2.1 ?_
      · intro w hSw; go_simp
      change wpAnyH _ _ _ _ _ _ _ { tmps := #[_, _, _, _, _, _, _, _, _, _, _, _, _, _, _, _, _, _, _, _, _, _, _, _, _, _, _, _, _, _, _, _, _, _, _, _, _, _, _, _, _, _, _, _, _, _], defers := [] } _
      refine wpAnyH_take (i := 4) (v := .pointer (some ⟨C, 0, none⟩)) rfl (by kernel_rfl) (by kernel_rfl) (by kernel_rfl) (fun _ _ _ h => h) (Or.inl ⟨by rfl, ?_⟩) H.2.2.1 ?_
      · intro w hSw; go_simp
      change wpAnyH _ _ _ _ _ _ _ { tmps := #[_, _, _, _, _, _, _, _, _, _, _, _, _, _, _, _, _, _, _, _, _, _, _, _, _, _, _, _, _, _, _, _, _, _, _, _, _, _, _, _, _, _, _, _, _, _], defers := [] } _
      refine wpAnyH_take (i := 5) (v := .pointer (some ⟨C, 1, none⟩)) rfl (by kernel_rfl) (by kernel_rfl) (by kernel_rfl) (fun _ _ _ h => h) (Or.inl ⟨by rfl, ?_⟩) H.2.2.1 ?_
      · intro w hSw; go_simp
      change wpAnyH _ _ _ _ _ _ _ { tmps := #[_, _, _, _, _, _, _, _, _, _, _, _, _, _, _, _, _, _, _, _, _, _, _, _, _, _, _, _, _, _, _, _, _, _, _, _, _, _, _, _, _, _, _, _, _, _], defers := [] } _
      refine wpAnyH_take (i := 6) (v := .pointer (some ⟨C, 1 + k * 16, none⟩)) rfl (by kernel_rfl) (by kernel_rfl) (by kernel_rfl) (fun _ _ _ h => h) (Or.inl ⟨by rfl, ?_⟩) H.2.2.1 ?_
      · intro w hSw; go_simp
      change wpAnyH _ _ _ _ _ _ _ { tmps := #[_, _, _, _, _, _, _, _, _, _, _, _, _, _, _, _, _, _, _, _, _, _, _, _, _, _, _, _, _, _, _, _, _, _, _, _, _, _, _, _, _, _, _, _, _, _], defers := [] } _
      refine wpAnyH_take (i := 7) (v := .agg (bv 16 (Gf.keyAt K k)).toArray) rfl (by kernel_rfl) (by kernel_rfl) (by kernel_rfl) (fun _ _ _ h => h) (yieldsIf_load_mid (by rfl) 39 (.tmp 34) rfl C (1 + k * 16) rfl (bv 16 (Gf.keyAt K k)) _ (fun w h => CiphAt.key h k (by omega)) Try.underlying39 rfl (by rw [bv_length]; exact Try.sizeSt)) H.2.2.1 ?_
      change wpAnyH _ _ _ _ _ _ _ { tmps := #[_, _, _, _, _, _, _, _, _, _, _, _, _, _, _, _, _, _, _, _, _, _, _, _, _, _, _, _, _, _, _, _, _, _, _, _, _, _, _, _, _, _, _, _, _, _], defers := [] } _
      refine wpAnyH_ready (rs := [1]) (by kernel_rfl) (by simp) ?_
      refine AllReadyH.cons rfl (fun KK hK => ?_) AllReadyH.nil
      rw [if_pos (by rfl)]
      refine wp_load_mid 39 (.tmp 3) rfl w.heap.size 0 rfl (bv 16 (Gf.decTo K m f (m - 1 - k))) _ H.1.range Try.underlying39 rfl (by rw [bv_length]; exact Try.sizeSt) ?_
      refine hK.out _ _ H.2.2.1 (fun _ => ?_)
      clear hK KK
      change wpAnyH _ _ _ _ _ _ _ { tmps := #[_, _, _, _, _, _, _, _, _, _, _, _, _, _, _, _, _, _, _, _, _, _, _, _, _, _, _, _, _, _, _, _, _, _, _, _, _, _, _, _, _, _, _, _, _, _], defers := [] } _
      refine wpAnyH_ready (rs := [8]) (by kernel_rfl) (by simp) ?_
      refine AllReadyH.cons rfl (fun KK hK => ?_) AllReadyH.nil
      go_simp
      refine (AD.out _).mono ?_
      rintro e w1 ⟨rfl, hb⟩
      replace H := ENC.below H hb
      refine hK.out _ _ H.2.2.1 (fun _ => ?_)
      clear hK KK hb
      change wpAnyH _ _ _ _ _ _ _ { tmps := #[_, _, _, _, _, _, _, _, _, _, _, _, _, _, _, _, _, _, _, _, _, _, _, _, _, _, _, _, _, _, _, _, _, _, _, _, _, _, _, _, _, _, _, _, _, _], defers := [] } _
      refine wpAnyH_ready (rs := [9]) (by kernel_rfl) (by simp) ?_
      refine AllReadyH.cons rfl (fun KK hK => ?_) AllReadyH.nil
      go_simp
      refine (UM.out _).mono ?_
      rintro e w1 ⟨rfl, hb⟩
      replace H := ENC.below H hb
      refine hK.out _ _ H.2.2.1 (fun _ => ?_)
      clear hK KK hb
      change wpAnyH _ _ _ _ _ _ _ { tmps := #[_, _, _, _, _, _, _, _, _, _, _, _, _, _, _, _, _, _, _, _, _, _, _, _, _, _, _, _, _, _, _, _, _, _, _, _, _, _, _, _, _, _, _, _, _, _], defers := [] } _
      refine wpAnyH_ready (rs := [10]) (by kernel_rfl) (by simp) ?_
      refine AllReadyH.cons rfl (fun KK hK => ?_) AllReadyH.nil
      go_simp
      refine (UN.out _ H.2.2.1).mono ?_
      rintro e w1 ⟨rfl, hb⟩
      replace H := ENC.below H hb
      refine hK.out _ _ H.2.2.1 (fun _ => ?_)
      clear hK KK hb
      change wpAnyH _ _ _ _ _ _ _ { tmps := #[_, _, _, _, _, _, _, _, _, _, _, _, _, _, _, _, _, _, _, _, _, _, _, _, _, _, _, _, _, _, _, _, _, _, _, _, _, _, _, _, _, _, _, _, _, _], defers := [] } _
      refine wpAnyH_ready (rs := [11]) (by kernel_rfl) (by simp) ?_
      refine AllReadyH.cons rfl (fun KK hK => ?_) AllReadyH.nil
      rw [if_pos (by rfl)]
      refine wp_store_mid 39 (.tmp 3) (.tmp 38) rfl w.heap.size 0 (bA 16 (D1)) rfl rfl (by rw [bA_size]; exact H.1.there) (by rw [bA_size]; exact Try.sizeSt) (bA_one _ _) ?_
      rw [bA_toList]
      replace H := ENC.store H hCl (D1)
      refine hK.out _ _ H.2.2.1 (fun _ => ?_)
      clear hK KK
      refine wpAnyH_done (by kernel_rfl) ?_ _
      refine NoPanic.normal ?_
      change Exit.inBlock _ _ Exit.normal { tmps := #[_, _, _, _, _, _, _, _, _, _, _, _, _, _, _, _, _, _, _, _, _, _, _, _, _, _, _, _, _, _, _, _, _, _, _, _, _, _, _, _, _, _, _, _, _, _], defers := [] } _
      have H2 : Hid (ENC w C m K D1 (w1.setCells w.heap.size 0 (bv 16 D1))) := H
      clear H AD UM UN LE
      generalize w1.setCells w.heap.size 0 (bv 16 D1) = wy at *
      generalize (bv 16 (Gf.decTo K m f (m - 1 - k))).toArray = Y4 at *
      generalize (bv 16 (Gf.keyAt K k)).toArray = Y5 at *
      generalize bA 16 D1 = Y6 at *
      have em : (k : Int) - 1 = ((k - 1 : Nat) : Int) := by omega
      go_wp2
      go_roundw
      case rel => exact ⟨k - 1, by omega, numEq (by omega), HD1.out ▸ H2.out⟩
      case measure => simp [intOf]; omega
    · obtain rfl : k = 0 := by omega
      have hkk : ¬ (0 : Int) < ((0 : Nat) : Int) := by omega
      have AD : Hid (∀ w : World, Calls Try.prog 37 #[.agg (bv 16 (Gf.decTo K m f (m - 1 - 0))).toArray, .agg (bv 16 (Gf.keyAt K 0)).toArray] w fun e w' => e = .returned (.agg (bA 16 (Gf.dec K m f))) ∧ Below w.heap.size w w') := added_any _ (Gf.keyAt K 0) LE.out (fun i _ => HK.out _)
      have H : ENC w C m K (Gf.decTo K m f (m - 1 - 0)) wr.drew := HE.out.drew
      clear HE LE
      generalize Gf.decTo K m f (m - 1 - 0) = D0 at *
      go_upto_region 6 with fail
      generalize hDE : Gf.dec K m f = DE at *
      have HDE : Hid (Gf.dec K m f = DE) := hDE
      clear hDE
      refine wp_region_noPanic ?_
      refine wp_region_held_drew (S := fun w' => CiphAt w' C m K) (by kernel_rfl) H.2.2.1 (fun _ => ?_)
      refine wpAnyH_take (i := 1) (v := .pointer (some ⟨C, 0, none⟩)) rfl (by kernel_rfl) (by kernel_rfl) (by kernel_rfl) (fun _ _ _ h => h) (Or.inl ⟨by rfl, ?_⟩) H.2.2.1 ?_
      · intro w hSw; go_simp
      change wpAnyH _ _ _ _ _ _ _ { tmps := #[_, _, _, _, _, _, _, _, _, _, _, _, _, _, _, _, _, _, _, _, _, _, _, _, _, _, _, _, _, _, _, _, _, _, _, _, _, _, _, _, _, _, _, _, _, _], defers := [] } _
      refine wpAnyH_take (i := 2) (v := .pointer (some ⟨C, 0, none⟩)) rfl (by kernel_rfl) (by kernel_rfl) (by kernel_rfl) (fun _ _ _ h => h) (Or.inl ⟨by rfl, ?_⟩) H.2.2.1 ?_
      · intro w hSw; go_simp
      change wpAnyH _ _ _ _ _ _ _ { tmps := #[_, _, _, _, _, _, _, _, _, _, _, _, _, _, _, _, _, _, _, _, _, _, _, _, _, _, _, _, _, _, _, _, _, _, _, _, _, _, _, _, _, _, _, _, _, _], defers := [] } _
      refine wpAnyH_take (i := 3) (v := .pointer (some ⟨C, 1, none⟩)) rfl (by kernel_rfl) (by kernel_rfl) (by kernel_rfl) (fun _ _ _ h => h) (Or.inl ⟨by rfl, ?_⟩) H.2.2.1 ?_
      · intro w hSw; go_simp
      change wpAnyH _ _ _ _ _ _ _ { tmps := #[_, _, _, _, _, _, _, _, _, _, _, _, _, _, _, _, _, _, _, _, _, _, _, _, _, _, _, _, _, _, _, _, _, _, _, _, _, _, _, _, _, _, _, _, _, _], defers := [] } _
      refine wpAnyH_take (i := 4) (v := .pointer (some ⟨C, 1, none⟩)) rfl (by kernel_rfl) (by kernel_rfl) (by kernel_rfl) (fun _ _ _ h => h) (Or.inl ⟨by rfl, ?_⟩) H.2.2.1 ?_
      · intro w hSw; go_simp
      change wpAnyH _ _ _ _ _ _ _ { tmps := #[_, _, _, _, _, _, _, _, _, _, _, _, _, _, _, _, _, _, _, _, _, _, _, _, _, _, _, _, _, _, _, _, _, _, _, _, _, _, _, _, _, _, _, _, _, _], defers := [] } _
      refine wpAnyH_take (i := 5) (v := .agg (bv 16 (Gf.keyAt K 0)).toArray) rfl (by kernel_rfl) (by kernel_rfl) (by kernel_rfl) (fun _ _ _ h => h) (yieldsIf_load_mid (by rfl) 39 (.tmp 43) rfl C 1 rfl (bv 16 (Gf.keyAt K 0)) _ (fun w h => CiphAt.key h 0 (by omega)) Try.underlying39 rfl (by rw [bv_length]; exact Try.sizeSt)) H.2.2.1 ?_
      change wpAnyH _ _ _ _ _ _ _ { tmps := #[_, _, _, _, _, _, _, _, _, _, _, _, _, _, _, _, _, _, _, _, _, _, _, _, _, _, _, _, _, _, _, _, _, _, _, _, _, _, _, _, _, _, _, _, _, _], defers := [] } _
      refine wpAnyH_ready (rs := [0]) (by kernel_rfl) (by simp) ?_
      refine AllReadyH.cons rfl (fun KK hK => ?_) AllReadyH.nil
      rw [if_pos (by rfl)]
      refine wp_load_mid 39 (.tmp 3) rfl w.heap.size 0 rfl (bv 16 D0) _ H.1.range Try.underlying39 rfl (by rw [bv_length]; exact Try.sizeSt) ?_
      refine hK.out _ _ H.2.2.1 (fun _ => ?_)
      clear hK KK
      change wpAnyH _ _ _ _ _ _ _ { tmps := #[_, _, _, _, _, _, _, _, _, _, _, _, _, _, _, _, _, _, _, _, _, _, _, _, _, _, _, _, _, _, _, _, _, _, _, _, _, _, _, _, _, _, _, _, _, _], defers := [] } _
      refine wpAnyH_ready (rs := [6]) (by kernel_rfl) (by simp) ?_
      refine AllReadyH.cons rfl (fun KK hK => ?_) AllReadyH.nil
      go_simp
      refine (AD.out _).mono ?_
      rintro e w1 ⟨rfl, hb⟩
      replace H := ENC.below H hb
      refine hK.out _ _ H.2.2.1 (fun _ => ?_)
      clear hK KK hb
      change wpAnyH _ _ _ _ _ _ _ { tmps := #[_, _, _, _, _, _, _, _, _, _, _, _, _, _, _, _, _, _, _, _, _, _, _, _, _, _, _, _, _, _, _, _, _, _, _, _, _, _, _, _, _, _, _, _, _, _], defers := [] } _
      refine wpAnyH_ready (rs := [7]) (by kernel_rfl) (by simp) ?_
      refine AllReadyH.cons rfl (fun KK hK => ?_) AllReadyH.nil
      rw [if_pos (by rfl)]
      refine wp_store_mid 39 (.tmp 4) (.tmp 45) rfl (w.heap.size + 1) 0 (bA 16 (DE)) rfl rfl (by rw [bA_size]; exact H.2.1.there) (by rw [bA_size]; exact Try.sizeSt) (bA_one _ _) ?_
      rw [bA_toList]
      have H3 : Hid ((loadVar 39 ⟨w.heap.size + 1, 0, none⟩).run Try.prog (w1.setCells (w.heap.size + 1) 0 (bv 16 DE)) = .ok (.agg (bA 16 DE)) (w1.setCells (w.heap.size + 1) 0 (bv 16 DE))) := (H.2.1.stored _).load Try.underlying39 rfl Try.sizeSt
      have H4 : Hid (Below w.heap.size w (w1.setCells (w.heap.size + 1) 0 (bv 16 DE))) := below_setCells (by omega) _ _ _ H.2.2.2
      refine hK.out _ _ (fun q hq => by rw [World.cell?_setCells_out _ _ _ _ _ (by intro e; simp at e; omega)]; exact H.2.2.1 q hq) (fun _ => ?_)
      clear hK KK H AD
      refine wpAnyH_done (by kernel_rfl) ?_ _
      refine NoPanic.normal ?_
      change Exit.then _ _ Exit.normal { tmps := #[_, _, _, _, _, _, _, _, _, _, _, _, _, _, _, _, _, _, _, _, _, _, _, _, _, _, _, _, _, _, _, _, _, _, _, _, _, _, _, _, _, _, _, _, _, _], defers := [] } _
      generalize w1.setCells (w.heap.size + 1) 0 (bv 16 DE) = wf at *
      generalize (bv 16 D0).toArray = Y4 at *
      generalize (bv 16 (Gf.keyAt K 0)).toArray = Y5 at *
      generalize hA : bA 16 DE = AA at *
      have HA : Hid (bA 16 DE = AA) := hA
      clear hA
      go_wp2
      rw [HDE.out, HA.out]
      exact bodyPost_ret (v := .agg AA) (results_cell_one (b := w.heap.size + 1) (o := 0) Try.results60 _ _ _ rfl H3.out) rfl ⟨rfl, H4.out⟩
end Go.Proofs.Ytbhlgcenfanicaa
