/-
  The contract of impl's encrypt: a block under a key made ready.
-/
import Derived.Test.YtbhlgcenfanicaaSubTurn
import Derived.Test.YtbhlgcenfanicaaMixed
namespace Go.Proofs.Ytbhlgcenfanicaa
open Go.ChangeShapes Go.WideShapes Go.ChangeAt Go.RowKit
/-- What encrypt's steps keep: the state in block S, the result's place behind it, the cipher, all that was there. -/
def ENC (w0 : World) (C m : Nat) (K F : Nat → Nat) (w' : World) : Prop := Row8 w' w0.heap.size 39 16 F ∧ Row8 w' (w0.heap.size + 1) 39 16 (fun _ => 0) ∧ CiphAt w' C m K ∧ Below w0.heap.size w0 w'
theorem ENC.below {w0 w' w'' : World} {C m : Nat} {K F : Nat → Nat} (h : ENC w0 C m K F w') (hb : Below w'.heap.size w' w'') : ENC w0 C m K F w'' :=
  ⟨h.1.below hb, h.2.1.below hb, h.2.2.1.below hb, h.2.2.2.trans (hb.mono h.2.2.2.size)⟩
theorem ENC.drew {w0 w' : World} {C m : Nat} {K F : Nat → Nat} (h : ENC w0 C m K F w') : ENC w0 C m K F w'.drew := ⟨h.1, h.2.1, h.2.2.1, h.2.2.2.drew⟩
theorem ENC.store {w0 w' : World} {C m : Nat} {K F : Nat → Nat} (h : ENC w0 C m K F w') (hC : C < w0.heap.size) (G : Nat → Nat) : ENC w0 C m K G (w'.setCells w0.heap.size 0 (bv 16 G)) :=
  ⟨h.1.stored G, h.2.1.storedOther (by omega) _ _, fun k hk => by rw [World.cell?_setCells_out _ _ _ _ _ (by intro e; simp at e; omega)]; exact h.2.2.1 k hk, below_setCells (Nat.le_refl _) _ _ _ h.2.2.2⟩
set_option maxRecDepth 100000 in
set_option maxHeartbeats 4000000 in
theorem encrypt_any (C m : Nat) (K f : Nat → Nat) (hf : ∀ i, i < 16 → f i < 256) (hK : ∀ j, K j < 256) (hm : 1 ≤ m) (hm' : m ≤ 14) (w : World) (hC : CiphAt w C m K) :
    Calls Try.prog 28 #[.pointer (some ⟨C, 0, none⟩), .agg (bA 16 f)] w fun e w' => e = .returned (.agg (bA 16 (Gf.enc K m f))) ∧ Below w.heap.size w w' := by
  have HF : Hid (∀ i, i < 16 → f i < 256) := hf
  have HK : Hid (∀ j, K j < 256) := hK
  have hCl := hC.lt
  have E0 : Hid (ENC w C m K f ((w.alloc (.cells (bA 16 f) 39)).alloc (.cells z16 39))) :=
    ⟨(Row8.boxedAt rfl _ _ _).alloc _, Row8.z16At (by simp) _, hC.belowOf (((Below.refl _ _).alloc (Nat.le_refl _) _).alloc (by simp) _) hCl, ((Below.refl _ _).alloc (Nat.le_refl _) _).alloc (by simp) _⟩
  clear hf hC hK
  unfold z16 at E0
  go_enter Try.func28, Try.ntmps28
  go_upto_region 1 with fail
  generalize (w.alloc (.cells (bA 16 f) 39)).alloc (.cells #[.int .u8 0, .int .u8 0, .int .u8 0, .int .u8 0, .int .u8 0, .int .u8 0, .int .u8 0, .int .u8 0, .int .u8 0, .int .u8 0, .int .u8 0, .int .u8 0, .int .u8 0, .int .u8 0, .int .u8 0, .int .u8 0] 39) = wz at *
  have H : ENC w C m K f wz.drew := E0.out.drew
  have AD : Hid (∀ w : World, Calls Try.prog 37 #[.agg (bv 16 f).toArray, .agg (bv 16 (Gf.keyAt K 0)).toArray] w fun e w' => e = .returned (.agg (bA 16 (Gf.encTo K f 0))) ∧ Below w.heap.size w w') := added_any f (Gf.keyAt K 0) HF.out (fun i _ => HK.out _)
  refine wp_region_noPanic ?_
  refine wp_region_held_drew (S := fun w' => CiphAt w' C m K) (by kernel_rfl) H.2.2.1 (fun _ => ?_)
  refine wpAnyH_take (i := 1) (v := .pointer (some ⟨C, 0, none⟩)) rfl (by kernel_rfl) (by kernel_rfl) (by kernel_rfl) (fun _ _ _ h => h) (Or.inl ⟨by rfl, ?_⟩) H.2.2.1 ?_
  · intro w hSw; go_simp
  change wpAnyH _ _ _ _ _ _ _ { tmps := #[_, _, _, _, _, _, _, _, _, _, _, _, _, _, _, _, _, _, _, _, _, _, _, _, _, _, _, _, _, _, _, _, _, _, _, _, _, _, _, _, _, _, _, _, _], defers := [] } _
  refine wpAnyH_take (i := 2) (v := .pointer (some ⟨C, 0, none⟩)) rfl (by kernel_rfl) (by kernel_rfl) (by kernel_rfl) (fun _ _ _ h => h) (Or.inl ⟨by rfl, ?_⟩) H.2.2.1 ?_
  · intro w hSw; go_simp
  change wpAnyH _ _ _ _ _ _ _ { tmps := #[_, _, _, _, _, _, _, _, _, _, _, _, _, _, _, _, _, _, _, _, _, _, _, _, _, _, _, _, _, _, _, _, _, _, _, _, _, _, _, _, _, _, _, _, _], defers := [] } _
  refine wpAnyH_take (i := 3) (v := .pointer (some ⟨C, 1, none⟩)) rfl (by kernel_rfl) (by kernel_rfl) (by kernel_rfl) (fun _ _ _ h => h) (Or.inl ⟨by rfl, ?_⟩) H.2.2.1 ?_
  · intro w hSw; go_simp
  change wpAnyH _ _ _ _ _ _ _ { tmps := #[_, _, _, _, _, _, _, _, _, _, _, _, _, _, _, _, _, _, _, _, _, _, _, _, _, _, _, _, _, _, _, _, _, _, _, _, _, _, _, _, _, _, _, _, _], defers := [] } _
  refine wpAnyH_take (i := 4) (v := .pointer (some ⟨C, 1, none⟩)) rfl (by kernel_rfl) (by kernel_rfl) (by kernel_rfl) (fun _ _ _ h => h) (Or.inl ⟨by rfl, ?_⟩) H.2.2.1 ?_
  · intro w hSw; go_simp
  change wpAnyH _ _ _ _ _ _ _ { tmps := #[_, _, _, _, _, _, _, _, _, _, _, _, _, _, _, _, _, _, _, _, _, _, _, _, _, _, _, _, _, _, _, _, _, _, _, _, _, _, _, _, _, _, _, _, _], defers := [] } _
  refine wpAnyH_take (i := 5) (v := .agg (bv 16 (Gf.keyAt K 0)).toArray) rfl (by kernel_rfl) (by kernel_rfl) (by kernel_rfl) (fun _ _ _ h => h) (yieldsIf_load_mid (by rfl) 39 (.tmp 10) rfl C 1 rfl (bv 16 (Gf.keyAt K 0)) _ (fun w h => CiphAt.key h 0 (by omega)) Try.underlying39 rfl (by rw [bv_length]; exact Try.sizeSt)) H.2.2.1 ?_
  change wpAnyH _ _ _ _ _ _ _ { tmps := #[_, _, _, _, _, _, _, _, _, _, _, _, _, _, _, _, _, _, _, _, _, _, _, _, _, _, _, _, _, _, _, _, _, _, _, _, _, _, _, _, _, _, _, _, _], defers := [] } _
  refine wpAnyH_ready (rs := [0]) (by kernel_rfl) (by simp) ?_
  refine AllReadyH.cons rfl (fun KK hK => ?_) AllReadyH.nil
  rw [if_pos (by rfl)]
  refine wp_load_mid 39 (.tmp 3) rfl w.heap.size 0 rfl (bv 16 f) _ H.1.range Try.underlying39 rfl (by rw [bv_length]; exact Try.sizeSt) ?_
  refine hK.out _ _ H.2.2.1 (fun _ => ?_)
  clear hK KK
  change wpAnyH _ _ _ _ _ _ _ { tmps := #[_, _, _, _, _, _, _, _, _, _, _, _, _, _, _, _, _, _, _, _, _, _, _, _, _, _, _, _, _, _, _, _, _, _, _, _, _, _, _, _, _, _, _, _, _], defers := [] } _
  refine wpAnyH_ready (rs := [6]) (by kernel_rfl) (by simp) ?_
  refine AllReadyH.cons rfl (fun KK hK => ?_) AllReadyH.nil
  go_simp
  refine (AD.out _).mono ?_
  rintro e w1 ⟨rfl, hb⟩
  replace H := ENC.below H hb
  refine hK.out _ _ H.2.2.1 (fun _ => ?_)
  clear hK KK hb
  change wpAnyH _ _ _ _ _ _ _ { tmps := #[_, _, _, _, _, _, _, _, _, _, _, _, _, _, _, _, _, _, _, _, _, _, _, _, _, _, _, _, _, _, _, _, _, _, _, _, _, _, _, _, _, _, _, _, _], defers := [] } _
  refine wpAnyH_ready (rs := [7]) (by kernel_rfl) (by simp) ?_
  refine AllReadyH.cons rfl (fun KK hK => ?_) AllReadyH.nil
  rw [if_pos (by rfl)]
  refine wp_store_mid 39 (.tmp 3) (.tmp 12) rfl w.heap.size 0 (bA 16 (Gf.encTo K f 0)) rfl rfl (by rw [bA_size]; exact H.1.there) (by rw [bA_size]; exact Try.sizeSt) (bA_one _ _) ?_
  rw [bA_toList]
  replace H := ENC.store H hCl (Gf.encTo K f 0)
  refine hK.out _ _ H.2.2.1 (fun _ => ?_)
  clear hK KK
  refine wpAnyH_done (by kernel_rfl) ?_ _
  refine NoPanic.normal ?_
  change Exit.then _ _ Exit.normal { tmps := #[_, _, _, _, _, _, _, _, _, _, _, _, _, _, _, _, _, _, _, _, _, _, _, _, _, _, _, _, _, _, _, _, _, _, _, _, _, _, _, _, _, _, _, _, _], defers := [] } _
  have H2 : Hid (ENC w C m K (Gf.encTo K f 0) (w1.setCells w.heap.size 0 (bv 16 (Gf.encTo K f 0)))) := H
  clear H E0 AD
  generalize w1.setCells w.heap.size 0 (bv 16 (Gf.encTo K f 0)) = wy at *
  have eA1 : ∀ g, (bv 16 g).toArray = bA 16 g := fun _ => rfl
  rw [eA1, eA1]
  clear eA1
  generalize hE0 : bA 16 (Gf.encTo K f 0) = EE0 at *
  generalize bA 16 (Gf.keyAt K 0) = KA0 at *
  generalize bA 16 f = FA at *
  go_wp2_with fail
  go_loopw [5] (fun i wr => ∃ k : Nat, 1 ≤ k ∧ k ≤ m ∧ i = .int .i64 k ∧ ENC w C m K (Gf.encTo K f (k - 1)) wr) (fun i _ => m - (intOf i).toNat)
  case atStart => exact ⟨1, Nat.le_refl _, hm, rfl, H2.out⟩
  case round =>
    clear H2
    obtain ⟨k, hk1, hk2, rfl, hE⟩ := hrel
    have HE : Hid (ENC w C m K (Gf.encTo K f (k - 1)) wr) := hE
    have cr := hE.2.2.1.rounds
    clear hE
    by_cases hlt : k < m
    · have LE : Hid (∀ j, j < 16 → Gf.encTo K f (k - 1) j < 256) := Gf.encTo_lt HK.out HF.out _
      have x0 : (k : Int) < (m : Int) := by omega
      have x1 : (k : Int) < 15 := by omega
      have x2 : (0 : Int) ≤ (k : Int) := by omega
      have EK : Hid (Gf.encTo K f k = Gf.addK (Gf.mixS (Gf.subTurn (Gf.encTo K f (k - 1)))) (Gf.keyAt K k)) := by
        obtain ⟨q, rfl⟩ : ∃ q, k = q + 1 := ⟨k - 1, by omega⟩
        rfl
      have ST : Hid (∀ w : World, CiphAt w C m K → Calls Try.prog 54 #[.pointer (some ⟨C, 0, none⟩), .agg (bv 16 (Gf.encTo K f (k - 1))).toArray] w fun e w' => e = .returned (.agg (bA 16 (Gf.subTurn (Gf.encTo K f (k - 1))))) ∧ Below w.heap.size w w') := fun w h => subTurn_any C m K _ LE.out w h
      have LS : ∀ j, j < 16 → Gf.subTurn (Gf.encTo K f (k - 1)) j < 256 := fun j _ => Gf.subTurn_lt LE.out j
      have MX : Hid (∀ w : World, Calls Try.prog 53 #[.agg (bA 16 (Gf.subTurn (Gf.encTo K f (k - 1))))] w fun e w' => e = .returned (.agg (bA 16 (Gf.mixS (Gf.subTurn (Gf.encTo K f (k - 1)))))) ∧ Below w.heap.size w w') := mixed_any _ LS
      have AD : Hid (∀ w : World, Calls Try.prog 37 #[.agg (bA 16 (Gf.mixS (Gf.subTurn (Gf.encTo K f (k - 1))))), .agg (bv 16 (Gf.keyAt K k)).toArray] w fun e w' => e = .returned (.agg (bA 16 (Gf.encTo K f k))) ∧ Below w.heap.size w w') := by
        rw [EK.out]; exact added_any _ (Gf.keyAt K k) (Gf.mixS_lt LS) (fun i _ => HK.out _)
      clear LS
      go_upto_region 5 with fail
      have H : ENC w C m K (Gf.encTo K f (k - 1)) wr.drew := HE.out.drew
      clear HE cr
      generalize bA 16 (Gf.subTurn (Gf.encTo K f (k - 1))) = A1 at *
      generalize bA 16 (Gf.mixS (Gf.subTurn (Gf.encTo K f (k - 1)))) = A2 at *
      refine wp_region_noPanic ?_
      refine wp_region_held_drew (S := fun w' => CiphAt w' C m K) (by kernel_rfl) H.2.2.1 (fun _ => ?_)
      refine wpAnyH_take (i := 0) (v := .pointer (some ⟨C, 0, none⟩)) rfl (by kernel_rfl) (by kernel_rfl) (by kernel_rfl) (fun _ _ _ h => h) (Or.inl ⟨by rfl, ?_⟩) H.2.2.1 ?_
      · intro w hSw; go_simp
      change wpAnyH _ _ _ _ _ _ _ { tmps := #[_, _, _, _, _, _, _, _, _, _, _, _, _, _, _, _, _, _, _, _, _, _, _, _, _, _, _, _, _, _, _, _, _, _, _, _, _, _, _, _, _, _, _, _, _], defers := [] } _
      refine wpAnyH_take (i := 4) (v := .pointer (some ⟨C, 0, none⟩)) rfl (by kernel_rfl) (by kernel_rfl) (by kernel_rfl) (fun _ _ _ h => h) (Or.inl ⟨by rfl, ?_⟩) H.2.2.1 ?_
      · intro w hSw; go_simp
      change wpAnyH _ _ _ _ _ _ _ { tmps := #[_, _, _, _, _, _, _, _, _, _, _, _, _, _, _, _, _, _, _, _, _, _, _, _, _, _, _, _, _, _, _, _, _, _, _, _, _, _, _, _, _, _, _, _, _], defers := [] } _
      refine wpAnyH_take (i := 5) (v := .int .i64 (k : Int)) rfl (by kernel_rfl) (by kernel_rfl) (by kernel_rfl) (fun _ _ _ h => h) (Or.inl ⟨by rfl, ?_⟩) H.2.2.1 ?_
      · intro w hSw; go_simp
      change wpAnyH _ _ _ _ _ _ _ { tmps := #[_, _, _, _, _, _, _, _, _, _, _, _, _, _, _, _, _, _, _, _, _, _, _, _, _, _, _, _, _, _, _, _, _, _, _, _, _, _, _, _, _, _, _, _, _], defers := [] } _
      refine wpAnyH_take (i := 6) (v := .pointer (some ⟨C, 0, none⟩)) rfl (by kernel_rfl) (by kernel_rfl) (by kernel_rfl) (fun _ _ _ h => h) (Or.inl ⟨by rfl, ?_⟩) H.2.2.1 ?_
      · intro w hSw; go_simp
      change wpAnyH _ _ _ _ _ _ _ { tmps := #[_, _, _, _, _, _, _, _, _, _, _, _, _, _, _, _, _, _, _, _, _, _, _, _, _, _, _, _, _, _, _, _, _, _, _, _, _, _, _, _, _, _, _, _, _], defers := [] } _
      refine wpAnyH_take (i := 7) (v := .pointer (some ⟨C, 1, none⟩)) rfl (by kernel_rfl) (by kernel_rfl) (by kernel_rfl) (fun _ _ _ h => h) (Or.inl ⟨by rfl, ?_⟩) H.2.2.1 ?_
      · intro w hSw; go_simp
      change wpAnyH _ _ _ _ _ _ _ { tmps := #[_, _, _, _, _, _, _, _, _, _, _, _, _, _, _, _, _, _, _, _, _, _, _, _, _, _, _, _, _, _, _, _, _, _, _, _, _, _, _, _, _, _, _, _, _], defers := [] } _
      refine wpAnyH_take (i := 8) (v := .pointer (some ⟨C, 1 + k * 16, none⟩)) rfl (by kernel_rfl) (by kernel_rfl) (by kernel_rfl) (fun _ _ _ h => h) (Or.inl ⟨by rfl, ?_⟩) H.2.2.1 ?_
      · intro w hSw; go_simp
      change wpAnyH _ _ _ _ _ _ _ { tmps := #[_, _, _, _, _, _, _, _, _, _, _, _, _, _, _, _, _, _, _, _, _, _, _, _, _, _, _, _, _, _, _, _, _, _, _, _, _, _, _, _, _, _, _, _, _], defers := [] } _
      refine wpAnyH_take (i := 9) (v := .agg (bv 16 (Gf.keyAt K k)).toArray) rfl (by kernel_rfl) (by kernel_rfl) (by kernel_rfl) (fun _ _ _ h => h) (yieldsIf_load_mid (by rfl) 39 (.tmp 29) rfl C (1 + k * 16) rfl (bv 16 (Gf.keyAt K k)) _ (fun w h => CiphAt.key h k (by omega)) Try.underlying39 rfl (by rw [bv_length]; exact Try.sizeSt)) H.2.2.1 ?_
      change wpAnyH _ _ _ _ _ _ _ { tmps := #[_, _, _, _, _, _, _, _, _, _, _, _, _, _, _, _, _, _, _, _, _, _, _, _, _, _, _, _, _, _, _, _, _, _, _, _, _, _, _, _, _, _, _, _, _], defers := [] } _
      refine wpAnyH_ready (rs := [1]) (by kernel_rfl) (by simp) ?_
      refine AllReadyH.cons rfl (fun KK hK => ?_) AllReadyH.nil
      rw [if_pos (by rfl)]
      refine wp_load_mid 39 (.tmp 3) rfl w.heap.size 0 rfl (bv 16 (Gf.encTo K f (k - 1))) _ H.1.range Try.underlying39 rfl (by rw [bv_length]; exact Try.sizeSt) ?_
      refine hK.out _ _ H.2.2.1 (fun _ => ?_)
      clear hK KK
      change wpAnyH _ _ _ _ _ _ _ { tmps := #[_, _, _, _, _, _, _, _, _, _, _, _, _, _, _, _, _, _, _, _, _, _, _, _, _, _, _, _, _, _, _, _, _, _, _, _, _, _, _, _, _, _, _, _, _], defers := [] } _
      refine wpAnyH_ready (rs := [2]) (by kernel_rfl) (by simp) ?_
      refine AllReadyH.cons rfl (fun KK hK => ?_) AllReadyH.nil
      go_simp
      refine (ST.out _ H.2.2.1).mono ?_
      rintro e w1 ⟨rfl, hb⟩
      replace H := ENC.below H hb
      refine hK.out _ _ H.2.2.1 (fun _ => ?_)
      clear hK KK hb
      change wpAnyH _ _ _ _ _ _ _ { tmps := #[_, _, _, _, _, _, _, _, _, _, _, _, _, _, _, _, _, _, _, _, _, _, _, _, _, _, _, _, _, _, _, _, _, _, _, _, _, _, _, _, _, _, _, _, _], defers := [] } _
      refine wpAnyH_ready (rs := [3]) (by kernel_rfl) (by simp) ?_
      refine AllReadyH.cons rfl (fun KK hK => ?_) AllReadyH.nil
      go_simp
      refine (MX.out _).mono ?_
      rintro e w1 ⟨rfl, hb⟩
      replace H := ENC.below H hb
      refine hK.out _ _ H.2.2.1 (fun _ => ?_)
      clear hK KK hb
      change wpAnyH _ _ _ _ _ _ _ { tmps := #[_, _, _, _, _, _, _, _, _, _, _, _, _, _, _, _, _, _, _, _, _, _, _, _, _, _, _, _, _, _, _, _, _, _, _, _, _, _, _, _, _, _, _, _, _], defers := [] } _
      refine wpAnyH_ready (rs := [10]) (by kernel_rfl) (by simp) ?_
      refine AllReadyH.cons rfl (fun KK hK => ?_) AllReadyH.nil
      go_simp
      refine (AD.out _).mono ?_
      rintro e w1 ⟨rfl, hb⟩
      replace H := ENC.below H hb
      refine hK.out _ _ H.2.2.1 (fun _ => ?_)
      clear hK KK hb
      change wpAnyH _ _ _ _ _ _ _ { tmps := #[_, _, _, _, _, _, _, _, _, _, _, _, _, _, _, _, _, _, _, _, _, _, _, _, _, _, _, _, _, _, _, _, _, _, _, _, _, _, _, _, _, _, _, _, _], defers := [] } _
      refine wpAnyH_ready (rs := [11]) (by kernel_rfl) (by simp) ?_
      refine AllReadyH.cons rfl (fun KK hK => ?_) AllReadyH.nil
      rw [if_pos (by rfl)]
      refine wp_store_mid 39 (.tmp 3) (.tmp 31) rfl w.heap.size 0 (bA 16 (Gf.encTo K f k)) rfl rfl (by rw [bA_size]; exact H.1.there) (by rw [bA_size]; exact Try.sizeSt) (bA_one _ _) ?_
      rw [bA_toList]
      replace H := ENC.store H hCl (Gf.encTo K f k)
      refine hK.out _ _ H.2.2.1 (fun _ => ?_)
      clear hK KK
      refine wpAnyH_done (by kernel_rfl) ?_ _
      refine NoPanic.normal ?_
      change Exit.inBlock _ _ Exit.normal { tmps := #[_, _, _, _, _, _, _, _, _, _, _, _, _, _, _, _, _, _, _, _, _, _, _, _, _, _, _, _, _, _, _, _, _, _, _, _, _, _, _, _, _, _, _, _, _], defers := [] } _
      have H2 : Hid (ENC w C m K (Gf.encTo K f k) (w1.setCells w.heap.size 0 (bv 16 (Gf.encTo K f k)))) := H
      clear H ST MX AD EK LE
      generalize w1.setCells w.heap.size 0 (bv 16 (Gf.encTo K f k)) = wy at *
      generalize (bv 16 (Gf.encTo K f (k - 1))).toArray = Y1 at *
      generalize (bv 16 (Gf.keyAt K k)).toArray = Y2 at *
      generalize bA 16 (Gf.encTo K f k) = Y3 at *
      go_wp2
      go_roundw
      case rel => exact ⟨k + 1, by omega, by omega, by go_num, H2.out⟩
      case measure => simp [intOf]; omega
    · obtain rfl : k = m := by omega
      have hkk : ¬ (k : Int) < (k : Int) := by omega
      have LE : Hid (∀ j, j < 16 → Gf.encTo K f (k - 1) j < 256) := Gf.encTo_lt HK.out HF.out _
      have x1 : (k : Int) < 15 := by omega
      have x2 : (0 : Int) ≤ (k : Int) := by omega
      have ST : Hid (∀ w : World, CiphAt w C k K → Calls Try.prog 54 #[.pointer (some ⟨C, 0, none⟩), .agg (bv 16 (Gf.encTo K f (k - 1))).toArray] w fun e w' => e = .returned (.agg (bA 16 (Gf.subTurn (Gf.encTo K f (k - 1))))) ∧ Below w.heap.size w w') := fun w h => subTurn_any C k K _ LE.out w h
      have AD : Hid (∀ w : World, Calls Try.prog 37 #[.agg (bA 16 (Gf.subTurn (Gf.encTo K f (k - 1)))), .agg (bv 16 (Gf.keyAt K k)).toArray] w fun e w' => e = .returned (.agg (bA 16 (Gf.enc K k f))) ∧ Below w.heap.size w w') := added_any _ (Gf.keyAt K k) (fun j _ => Gf.subTurn_lt LE.out j) (fun i _ => HK.out _)
      go_upto_region 6 with fail
      have H : ENC w C k K (Gf.encTo K f (k - 1)) wr.drew := HE.out.drew
      clear HE cr
      generalize bA 16 (Gf.subTurn (Gf.encTo K f (k - 1))) = A1 at *
      refine wp_region_noPanic ?_
      refine wp_region_held_drew (S := fun w' => CiphAt w' C k K) (by kernel_rfl) H.2.2.1 (fun _ => ?_)
      refine wpAnyH_take (i := 0) (v := .pointer (some ⟨C, 0, none⟩)) rfl (by kernel_rfl) (by kernel_rfl) (by kernel_rfl) (fun _ _ _ h => h) (Or.inl ⟨by rfl, ?_⟩) H.2.2.1 ?_
      · intro w hSw; go_simp
      change wpAnyH _ _ _ _ _ _ _ { tmps := #[_, _, _, _, _, _, _, _, _, _, _, _, _, _, _, _, _, _, _, _, _, _, _, _, _, _, _, _, _, _, _, _, _, _, _, _, _, _, _, _, _, _, _, _, _], defers := [] } _
      refine wpAnyH_take (i := 3) (v := .pointer (some ⟨C, 0, none⟩)) rfl (by kernel_rfl) (by kernel_rfl) (by kernel_rfl) (fun _ _ _ h => h) (Or.inl ⟨by rfl, ?_⟩) H.2.2.1 ?_
      · intro w hSw; go_simp
      change wpAnyH _ _ _ _ _ _ _ { tmps := #[_, _, _, _, _, _, _, _, _, _, _, _, _, _, _, _, _, _, _, _, _, _, _, _, _, _, _, _, _, _, _, _, _, _, _, _, _, _, _, _, _, _, _, _, _], defers := [] } _
      refine wpAnyH_take (i := 4) (v := .pointer (some ⟨C, 0, none⟩)) rfl (by kernel_rfl) (by kernel_rfl) (by kernel_rfl) (fun _ _ _ h => h) (Or.inl ⟨by rfl, ?_⟩) H.2.2.1 ?_
      · intro w hSw; go_simp
      change wpAnyH _ _ _ _ _ _ _ { tmps := #[_, _, _, _, _, _, _, _, _, _, _, _, _, _, _, _, _, _, _, _, _, _, _, _, _, _, _, _, _, _, _, _, _, _, _, _, _, _, _, _, _, _, _, _, _], defers := [] } _
      refine wpAnyH_take (i := 5) (v := .pointer (some ⟨C, 0, none⟩)) rfl (by kernel_rfl) (by kernel_rfl) (by kernel_rfl) (fun _ _ _ h => h) (Or.inl ⟨by rfl, ?_⟩) H.2.2.1 ?_
      · intro w hSw; go_simp
      change wpAnyH _ _ _ _ _ _ _ { tmps := #[_, _, _, _, _, _, _, _, _, _, _, _, _, _, _, _, _, _, _, _, _, _, _, _, _, _, _, _, _, _, _, _, _, _, _, _, _, _, _, _, _, _, _, _, _], defers := [] } _
      refine wpAnyH_take (i := 6) (v := .pointer (some ⟨C, 0, none⟩)) rfl (by kernel_rfl) (by kernel_rfl) (by kernel_rfl) (fun _ _ _ h => h) (Or.inl ⟨by rfl, ?_⟩) H.2.2.1 ?_
      · intro w hSw; go_simp
      change wpAnyH _ _ _ _ _ _ _ { tmps := #[_, _, _, _, _, _, _, _, _, _, _, _, _, _, _, _, _, _, _, _, _, _, _, _, _, _, _, _, _, _, _, _, _, _, _, _, _, _, _, _, _, _, _, _, _], defers := [] } _
      refine wpAnyH_take (i := 7) (v := .int .i64 (k : Int)) rfl (by kernel_rfl) (by kernel_rfl) (by kernel_rfl) (fun _ _ _ h => h) (Or.inl ⟨by rfl, ?_⟩) H.2.2.1 ?_
      · intro w hSw; have hfact := CiphAt.rounds hSw; go_simp
      change wpAnyH _ _ _ _ _ _ _ { tmps := #[_, _, _, _, _, _, _, _, _, _, _, _, _, _, _, _, _, _, _, _, _, _, _, _, _, _, _, _, _, _, _, _, _, _, _, _, _, _, _, _, _, _, _, _, _], defers := [] } _
      refine wpAnyH_take (i := 8) (v := .pointer (some ⟨C, 0, none⟩)) rfl (by kernel_rfl) (by kernel_rfl) (by kernel_rfl) (fun _ _ _ h => h) (Or.inl ⟨by rfl, ?_⟩) H.2.2.1 ?_
      · intro w hSw; go_simp
      change wpAnyH _ _ _ _ _ _ _ { tmps := #[_, _, _, _, _, _, _, _, _, _, _, _, _, _, _, _, _, _, _, _, _, _, _, _, _, _, _, _, _, _, _, _, _, _, _, _, _, _, _, _, _, _, _, _, _], defers := [] } _
      refine wpAnyH_take (i := 9) (v := .pointer (some ⟨C, 1, none⟩)) rfl (by kernel_rfl) (by kernel_rfl) (by kernel_rfl) (fun _ _ _ h => h) (Or.inl ⟨by rfl, ?_⟩) H.2.2.1 ?_
      · intro w hSw; go_simp
      change wpAnyH _ _ _ _ _ _ _ { tmps := #[_, _, _, _, _, _, _, _, _, _, _, _, _, _, _, _, _, _, _, _, _, _, _, _, _, _, _, _, _, _, _, _, _, _, _, _, _, _, _, _, _, _, _, _, _], defers := [] } _
      refine wpAnyH_take (i := 10) (v := .pointer (some ⟨C, 1 + k * 16, none⟩)) rfl (by kernel_rfl) (by kernel_rfl) (by kernel_rfl) (fun _ _ _ h => h) (Or.inl ⟨by rfl, ?_⟩) H.2.2.1 ?_
      · intro w hSw; go_simp
      change wpAnyH _ _ _ _ _ _ _ { tmps := #[_, _, _, _, _, _, _, _, _, _, _, _, _, _, _, _, _, _, _, _, _, _, _, _, _, _, _, _, _, _, _, _, _, _, _, _, _, _, _, _, _, _, _, _, _], defers := [] } _
      refine wpAnyH_take (i := 11) (v := .agg (bv 16 (Gf.keyAt K k)).toArray) rfl (by kernel_rfl) (by kernel_rfl) (by kernel_rfl) (fun _ _ _ h => h) (yieldsIf_load_mid (by rfl) 39 (.tmp 42) rfl C (1 + k * 16) rfl (bv 16 (Gf.keyAt K k)) _ (fun w h => CiphAt.key h k (by omega)) Try.underlying39 rfl (by rw [bv_length]; exact Try.sizeSt)) H.2.2.1 ?_
      change wpAnyH _ _ _ _ _ _ _ { tmps := #[_, _, _, _, _, _, _, _, _, _, _, _, _, _, _, _, _, _, _, _, _, _, _, _, _, _, _, _, _, _, _, _, _, _, _, _, _, _, _, _, _, _, _, _, _], defers := [] } _
      refine wpAnyH_ready (rs := [1]) (by kernel_rfl) (by simp) ?_
      refine AllReadyH.cons rfl (fun KK hK => ?_) AllReadyH.nil
      rw [if_pos (by rfl)]
      refine wp_load_mid 39 (.tmp 3) rfl w.heap.size 0 rfl (bv 16 (Gf.encTo K f (k - 1))) _ H.1.range Try.underlying39 rfl (by rw [bv_length]; exact Try.sizeSt) ?_
      refine hK.out _ _ H.2.2.1 (fun _ => ?_)
      clear hK KK
      change wpAnyH _ _ _ _ _ _ _ { tmps := #[_, _, _, _, _, _, _, _, _, _, _, _, _, _, _, _, _, _, _, _, _, _, _, _, _, _, _, _, _, _, _, _, _, _, _, _, _, _, _, _, _, _, _, _, _], defers := [] } _
      refine wpAnyH_ready (rs := [2]) (by kernel_rfl) (by simp) ?_
      refine AllReadyH.cons rfl (fun KK hK => ?_) AllReadyH.nil
      go_simp
      refine (ST.out _ H.2.2.1).mono ?_
      rintro e w1 ⟨rfl, hb⟩
      replace H := ENC.below H hb
      refine hK.out _ _ H.2.2.1 (fun _ => ?_)
      clear hK KK hb
      change wpAnyH _ _ _ _ _ _ _ { tmps := #[_, _, _, _, _, _, _, _, _, _, _, _, _, _, _, _, _, _, _, _, _, _, _, _, _, _, _, _, _, _, _, _, _, _, _, _, _, _, _, _, _, _, _, _, _], defers := [] } _
      refine wpAnyH_ready (rs := [12]) (by kernel_rfl) (by simp) ?_
      refine AllReadyH.cons rfl (fun KK hK => ?_) AllReadyH.nil
      go_simp
      refine (AD.out _).mono ?_
      rintro e w1 ⟨rfl, hb⟩
      replace H := ENC.below H hb
      refine hK.out _ _ H.2.2.1 (fun _ => ?_)
      clear hK KK hb
      change wpAnyH _ _ _ _ _ _ _ { tmps := #[_, _, _, _, _, _, _, _, _, _, _, _, _, _, _, _, _, _, _, _, _, _, _, _, _, _, _, _, _, _, _, _, _, _, _, _, _, _, _, _, _, _, _, _, _], defers := [] } _
      refine wpAnyH_ready (rs := [13]) (by kernel_rfl) (by simp) ?_
      refine AllReadyH.cons rfl (fun KK hK => ?_) AllReadyH.nil
      rw [if_pos (by rfl)]
      refine wp_store_mid 39 (.tmp 4) (.tmp 44) rfl (w.heap.size + 1) 0 (bA 16 (Gf.enc K k f)) rfl rfl (by rw [bA_size]; exact H.2.1.there) (by rw [bA_size]; exact Try.sizeSt) (bA_one _ _) ?_
      rw [bA_toList]
      have H3 : Hid ((loadVar 39 ⟨w.heap.size + 1, 0, none⟩).run Try.prog (w1.setCells (w.heap.size + 1) 0 (bv 16 (Gf.enc K k f))) = .ok (.agg (bA 16 (Gf.enc K k f))) (w1.setCells (w.heap.size + 1) 0 (bv 16 (Gf.enc K k f)))) := (H.2.1.stored _).load Try.underlying39 rfl Try.sizeSt
      have H4 : Hid (Below w.heap.size w (w1.setCells (w.heap.size + 1) 0 (bv 16 (Gf.enc K k f)))) := below_setCells (by omega) _ _ _ H.2.2.2
      refine hK.out _ _ (fun q hq => by rw [World.cell?_setCells_out _ _ _ _ _ (by intro e; simp at e; omega)]; exact H.2.2.1 q hq) (fun _ => ?_)
      clear hK KK H ST AD LE
      refine wpAnyH_done (by kernel_rfl) ?_ _
      refine NoPanic.normal ?_
      change Exit.then _ _ Exit.normal { tmps := #[_, _, _, _, _, _, _, _, _, _, _, _, _, _, _, _, _, _, _, _, _, _, _, _, _, _, _, _, _, _, _, _, _, _, _, _, _, _, _, _, _, _, _, _, _], defers := [] } _
      generalize w1.setCells (w.heap.size + 1) 0 (bv 16 (Gf.enc K k f)) = wf at *
      generalize (bv 16 (Gf.encTo K f (k - 1))).toArray = Y1 at *
      generalize (bv 16 (Gf.keyAt K k)).toArray = Y2 at *
      generalize hA : bA 16 (Gf.enc K k f) = AA at *
      have HA : Hid (bA 16 (Gf.enc K k f) = AA) := hA
      clear hA
      go_wp2
      rw [HA.out]
      exact bodyPost_ret (v := .agg AA) (results_cell_one (b := w.heap.size + 1) (o := 0) Try.results28 _ _ _ rfl H3.out) rfl ⟨rfl, H4.out⟩
end Go.Proofs.Ytbhlgcenfanicaa
