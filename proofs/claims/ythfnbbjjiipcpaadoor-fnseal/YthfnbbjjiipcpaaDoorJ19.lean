/-
  The exact law of SealKeys; its contracts.
-/
import Derived.Test.YthfnbbjjiipcpaaDoorJ02
import Derived.Test.YthfnbbjjiipcpaaDoorJ17
import Derived.Test.YthfnbbjjiipcpaaDoorJ18
import Derived.Test.YthfnbbjjiipcpaaDoorJ13
import Derived.Test.YthfnbbjjiipcpaaDoorJ01
namespace Go.Proofs.YthfnbbjjiipcpaaDoor
open Go.ChangeShapes Go.WideShapes Go.ChangeAt Go.RowKit
theorem Row8.part {w : World} {b n : Nat} {t : TypeId} {f : Nat → Nat} (h : Row8 w b t n f) (o m : Nat) (hm : o + m ≤ n) : Code8 w (some ⟨b, o, none⟩) m (fun i => f (o + i)) := code8_of (fun _ hi => h.cell (by omega))
theorem implKeysS_no (k : ByteArray) (code : Int) (h : (65536 < k.size ∧ code = 2) ∨ (k.size ≤ 65536 ∧ k.size ≠ 32 ∧ code = 1)) (w : World) :
    Calls Tryd.prog 17 #[.string k] w fun e w' => e = .returned (.tuple #[.string ⟨#[]⟩, .string ⟨#[]⟩, .int .i64 code]) ∧ w = w' := by
  rcases h with ⟨h, rfl⟩ | ⟨h, h2, rfl⟩
  · have e1 : (65536 : Int) < k.size := by omega
    go_enter_defers Tryd.func17, Tryd.ntmps17
    go_wp2
    exact ⟨_, results_tmp3 rfl _ _ _, rfl, rfl⟩
  · have e1 : ¬ (65536 : Int) < k.size := by omega
    have e2 : ((k.size : Int) != 32) = true := by rw [bne_iff_ne]; omega
    go_enter_defers Tryd.func17, Tryd.ntmps17
    go_wp2
    exact ⟨_, results_tmp3 rfl _ _ _, rfl, rfl⟩
set_option maxRecDepth 100000 in
set_option maxHeartbeats 2000000 in
theorem implKeysS_yes (k : ByteArray) (hk : k.size = 32) (w : World) (ht : Tabs w) :
    Calls Tryd.prog 17 #[.string k] w fun e w' => e = .returned (.tuple #[.string (encS k), .string (tagS k), .int .i64 0]) ∧ Below w.heap.size w w' := by
  have z1 := Tryd.zeroKp
  have e1 : ¬ (65536 : Int) < k.size := by omega
  have e2 : ((k.size : Int) != 32) = false := by rw [hk]; rfl
  have KO : Hid (∀ w : World, Tabs w → Calls Tryd.prog 45 #[.string k] w fun e w' => e = .returned (.agg (bA 64 (pairF k))) ∧ Below w.heap.size w w') := fun w ht => keysOf_any k hk w ht
  have HT : Hid (Tabs w) := ht
  have hE : encS k = kstr (fun i => pairF k (0 + i)) 0 32 := kstr_congr (fun i _ => by rw [Nat.zero_add, Nat.zero_add])
  have hT : tagS k = kstr (fun i => pairF k (32 + i)) 0 32 := kstr_congr (fun i _ => by rw [Nat.zero_add])
  rw [hE, hT]
  clear hE hT ht hk
  generalize pairF k = G at *
  generalize hS1 : kstr (fun i => G (0 + i)) 0 32 = S1
  generalize hS2 : kstr (fun i => G (32 + i)) 0 32 = S2
  have HS1 : Hid (kstr (fun i => G (0 + i)) 0 32 = S1) := hS1
  have HS2 : Hid (kstr (fun i => G (32 + i)) 0 32 = S2) := hS2
  clear hS1 hS2
  go_enter_defers Tryd.func17, Tryd.ntmps17
  go_wp2_with fail
  refine (KO.out _ HT.out).mono ?_
  rintro e w1 ⟨rfl, hb1⟩
  have B1 : Hid (Below w.heap.size w w1) := hb1
  have Z1 : Hid (Row8 (w1.alloc (.cells (Array.replicate 64 (.int .u8 0)) 77)) w1.heap.size 77 64 (fun _ => 0)) := Row8.zerosAt rfl _ _
  have B2 : Hid (Below w.heap.size w (w1.alloc (.cells (Array.replicate 64 (.int .u8 0)) 77))) := B1.out.alloc B1.out.size _
  have R2 : Hid (Row8 ((w1.alloc (.cells (Array.replicate 64 (.int .u8 0)) 77)).setCells w1.heap.size 0 (bv 64 G)) w1.heap.size 77 64 G) := Z1.out.stored G
  have B3 : Hid (Below w.heap.size w ((w1.alloc (.cells (Array.replicate 64 (.int .u8 0)) 77)).setCells w1.heap.size 0 (bv 64 G))) := below_setCells B1.out.size _ _ _ B2.out
  have hq : w.heap.size ≤ w1.heap.size := B1.out.size
  clear hb1 KO HT
  go_wp2_with (refine wpList_store_mid rfl 77 (.tmp 5) (.tmp 13) rfl w1.heap.size 0 (bA 64 G) rfl rfl (by rw [bA_size]; exact Z1.out.there) (by rw [bA_size]; exact Tryd.sizeKp) (bA_one _ _) ?_; rw [bA_toList]; generalize (w1.alloc (.cells (Array.replicate 64 (.int .u8 0)) 77)).setCells w1.heap.size 0 (bv 64 G) = w2 at *)
  have R3 : Row8 w2.drew w1.heap.size 77 64 G := R2.out.drewK
  have B4 : Hid (Below w.heap.size w w2.drew) := B3.out.drew
  clear B3 B2 Z1 R2
  generalize w1.heap.size = q at *
  generalize bA 64 G = AG at *
  refine wp_region_noPanic ?_
  refine wp_region_held_drew (S := fun w' => Row8 w' q 77 64 G) (by kernel_rfl) R3 (fun _ => ?_)
  refine wpAnyH_take (i := 0) (v := .pointer (some ⟨q, 0, none⟩)) rfl (by kernel_rfl) (by kernel_rfl) (by kernel_rfl) (fun _ _ _ h => h) (Or.inl ⟨by rfl, ?_⟩) R3 ?_
  · intro w' hSw; go_simp
  change wpAnyH _ _ _ _ _ _ _ { tmps := #[_, _, _, _, _, _, _, _, _, _, _, _, _, _, _, _, _, _, _, _], defers := _ } _
  refine wpAnyH_take (i := 1) (v := .slice (some ⟨q, 0, none⟩) 32 32) rfl (by kernel_rfl) (by kernel_rfl) (by kernel_rfl) (fun _ _ _ h => h) (Or.inl ⟨by rfl, ?_⟩) R3 ?_
  · intro w' hSw; go_simp
  change wpAnyH _ _ _ _ _ _ _ { tmps := #[_, _, _, _, _, _, _, _, _, _, _, _, _, _, _, _, _, _, _, _], defers := _ } _
  refine wpAnyH_take (i := 2) (v := .string S1) rfl (by kernel_rfl) (by kernel_rfl) (by kernel_rfl) (fun _ _ _ h => h) (Or.inl ⟨by rfl, ?_⟩) R3 ?_
  · intro w' hSw; have := kstr_of_code (c := 32) (hSw.part 0 32 (by omega)); rw [HS1.out] at this; clear hSw; go_simp
  change wpAnyH _ _ _ _ _ _ _ { tmps := #[_, _, _, _, _, _, _, _, _, _, _, _, _, _, _, _, _, _, _, _], defers := _ } _
  refine wpAnyH_take (i := 3) (v := .pointer (some ⟨q, 32, none⟩)) rfl (by kernel_rfl) (by kernel_rfl) (by kernel_rfl) (fun _ _ _ h => h) (Or.inl ⟨by rfl, ?_⟩) R3 ?_
  · intro w' hSw; go_simp
  change wpAnyH _ _ _ _ _ _ _ { tmps := #[_, _, _, _, _, _, _, _, _, _, _, _, _, _, _, _, _, _, _, _], defers := _ } _
  refine wpAnyH_take (i := 4) (v := .slice (some ⟨q, 32, none⟩) 32 32) rfl (by kernel_rfl) (by kernel_rfl) (by kernel_rfl) (fun _ _ _ h => h) (Or.inl ⟨by rfl, ?_⟩) R3 ?_
  · intro w' hSw; go_simp
  change wpAnyH _ _ _ _ _ _ _ { tmps := #[_, _, _, _, _, _, _, _, _, _, _, _, _, _, _, _, _, _, _, _], defers := _ } _
  refine wpAnyH_take (i := 5) (v := .string S2) rfl (by kernel_rfl) (by kernel_rfl) (by kernel_rfl) (fun _ _ _ h => h) (Or.inl ⟨by rfl, ?_⟩) R3 ?_
  · intro w' hSw; have := kstr_of_code (c := 32) (hSw.part 32 32 (by omega)); rw [HS2.out] at this; clear hSw; go_simp
  change wpAnyH _ _ _ _ _ _ _ { tmps := #[_, _, _, _, _, _, _, _, _, _, _, _, _, _, _, _, _, _, _, _], defers := _ } _
  refine wpAnyH_take (i := 6) (v := .string S1) rfl (by kernel_rfl) (by kernel_rfl) (by kernel_rfl) (fun _ _ _ h => h) (Or.inl ⟨by rfl, ?_⟩) R3 ?_
  · intro w' hSw; go_simp
  change wpAnyH _ _ _ _ _ _ _ { tmps := #[_, _, _, _, _, _, _, _, _, _, _, _, _, _, _, _, _, _, _, _], defers := _ } _
  refine wpAnyH_take (i := 7) (v := .string S2) rfl (by kernel_rfl) (by kernel_rfl) (by kernel_rfl) (fun _ _ _ h => h) (Or.inl ⟨by rfl, ?_⟩) R3 ?_
  · intro w' hSw; go_simp
  change wpAnyH _ _ _ _ _ _ _ { tmps := #[_, _, _, _, _, _, _, _, _, _, _, _, _, _, _, _, _, _, _, _], defers := _ } _
  refine wpAnyH_take (i := 8) (v := .int .i64 0) rfl (by kernel_rfl) (by kernel_rfl) (by kernel_rfl) (fun _ _ _ h => h) (Or.inl ⟨by rfl, ?_⟩) R3 ?_
  · intro w' hSw; go_simp
  change wpAnyH _ _ _ _ _ _ _ { tmps := #[_, _, _, _, _, _, _, _, _, _, _, _, _, _, _, _, _, _, _, _], defers := _ } _
  have TH : Hid (w2.drew.there q 0 64) := R3.there
  clear R3 HS1 HS2
  generalize w2.drew = w3 at *
  refine wpAnyH_done (by kernel_rfl) ?_ _
  refine NoPanic.normal ?_
  go_wp2
  refine leaves_cons (f := 46) (args := #[.pointer (some ⟨q, 0, none⟩)]) (by simp) (by simp [go_sem]) ?_
  refine (forget_deferred q .returning _ TH.out).mono ?_
  rintro e u' w4 ⟨rfl, rfl, ho⟩
  exact ⟨_, results_tmp3 rfl _ _ _, rfl, B4.out.trans (ho.toBelow hq B4.out.size)⟩
theorem specKeysS_no (k : ByteArray) (code : Int) (h : (65536 < k.size ∧ code = 2) ∨ (k.size ≤ 65536 ∧ k.size ≠ 32 ∧ code = 1)) (w : World) :
    Calls Tryd.prog 18 #[.string k] w fun e w' => e = .returned (.tuple #[.string ⟨#[]⟩, .string ⟨#[]⟩, .int .i64 code]) ∧ w = w' := by
  rcases h with ⟨h, rfl⟩ | ⟨h, h2, rfl⟩
  · have e1 : (65536 : Int) < k.size := by omega
    go_enter Tryd.func18, Tryd.ntmps18
    go_wp2
    go_ret3
    exact ⟨rfl, rfl⟩
  · have e1 : ¬ (65536 : Int) < k.size := by omega
    have e2 : ((k.size : Int) != 32) = true := by rw [bne_iff_ne]; omega
    go_enter Tryd.func18, Tryd.ntmps18
    go_wp2
    go_ret3
    exact ⟨rfl, rfl⟩
theorem specKeysS_yes (k : ByteArray) (hk : k.size = 32) (w : World) :
    Calls Tryd.prog 18 #[.string k] w fun e w' => e = .returned (.tuple #[.string (encS k), .string (tagS k), .int .i64 0]) ∧ Below w.heap.size w w' := by
  have e1 : ¬ (65536 : Int) < k.size := by omega
  have e2 : ((k.size : Int) != 32) = false := by rw [hk]; rfl
  have KO : Hid (∀ w : World, Calls Tryd.prog 52 #[.string k] w fun e w' => e = .returned (.tuple #[.string (encS k), .string (tagS k)]) ∧ Below w.heap.size w w') := fun w => l04Keys_any k hk w
  generalize encS k = S1 at *
  generalize tagS k = S2 at *
  clear hk
  go_enter Tryd.func18, Tryd.ntmps18
  go_wp2_with fail
  refine (KO.out _).mono ?_
  rintro e w1 ⟨rfl, hb⟩
  have B1 : Hid (Below w.heap.size w w1) := hb
  clear hb
  go_wp2
  go_ret3
  exact ⟨rfl, B1.out⟩
end Go.Proofs.YthfnbbjjiipcpaaDoor

/-
  The law FnSeal: what is sealed opens as what it was; with a byte changed both sides answer alike.
-/
namespace Go.Proofs.YthfnbbjjiipcpaaDoor
open Go.ChangeShapes Go.WideShapes Go.ChangeAt Go.RowKit
theorem isRow_belowS {w w' : World} {a : Option Addr} {len cap : Nat} {zs : List Int} (h : IsRow .u8 w a len cap zs) (hb : Below w.heap.size w w') : IsRow .u8 w' a len cap zs := by
  rcases h with h | ⟨x, rfl, hl, hm, hz, hcell, hwz⟩
  · exact .inl h
  · exact .inr ⟨x, rfl, hl, hm, hz, fun i hi => by
      have := hcell i hi
      rw [hb.cell (strBlock this)]; exact this, hwz⟩
theorem catS_congr {n m : Nat} {f g h : Nat → Nat} (e : ∀ j, j < m → g j = h j) : ∀ j, j < n + m → Sha.cat n f g j = Sha.cat n f h j := fun j hj => by
  unfold Sha.cat
  by_cases q : j < n
  · rw [if_pos q, if_pos q]
  · rw [if_neg q, if_neg q]; exact e _ (by omega)
theorem fullF_congr {n : Nat} {f g : Nat → Nat} (e : ∀ j, j < n → f j = g j) : Sha.fullF n f = Sha.fullF n g := by
  funext j
  unfold Sha.fullF
  by_cases h : j < n
  · rw [if_pos h, if_pos h, e j h]
  · rw [if_neg h, if_neg h]
theorem mac_congrS (k : Nat → Nat) {n : Nat} {f g : Nat → Nat} (e : ∀ j, j < n → f j = g j) : Sha.mac k n f = Sha.mac k n g := by
  unfold Sha.mac Sha.hash
  rw [fullF_congr (n := 64 + n) (catS_congr e)]
theorem tagT_congr (k s : ByteArray) (m : Nat) (fx : Nat → Nat) (n : Nat) {f g : Nat → Nat} (e : ∀ j, j < n → f j = g j) : tagT k s m fx n f = tagT k s m fx n g := by
  unfold tagT macT
  rw [mac_congrS _ (n := 16 + m + n) (show ∀ j, j < 16 + m + n → Sha.cat 16 (numF 12 4 m (strB s)) (Sha.cat m fx f) j = Sha.cat 16 (numF 12 4 m (strB s)) (Sha.cat m fx g) j from fun j hj => catS_congr (m := m + n) (catS_congr e) j (by omega))]
theorem okT_sealed (k s : ByteArray) (m : Nat) (fx : Nat → Nat) (n : Nat) {f : Nat → Nat} (hf : ∀ i, f i < 256) : okT k s m fx n (sealedF k s m fx n f) = true := by
  have hl : ∀ i, sealedF k s m fx n f i < 256 := Sha.cat_lt (streamF_lt k s hf) (strB_lt _)
  rw [okT_iff _ _ _ _ _ _ hl, tagT_congr k s m fx n (f := sealedF k s m fx n f) (g := streamF k s f) (fun j hj => by unfold sealedF Sha.cat; rw [if_pos hj])]
  have h0 := kstr_self (tagT k s m fx n (streamF k s f))
  rw [tagT_size] at h0
  conv => lhs; rw [← h0]
  exact kstr_congr (fun i hi => by
    unfold sealedF Sha.cat
    rw [Nat.zero_add, if_neg (by omega), show n + i - n = i from by omega])
theorem stream_sealed (k s : ByteArray) (m : Nat) (fx : Nat → Nat) (n : Nat) (f : Nat → Nat) (i : Nat) (hi : i < n) : streamF k s (sealedF k s m fx n f) i = f i := by
  have : streamF k s (sealedF k s m fx n f) i = streamF k s (streamF k s f) i := by
    unfold streamF ctrF
    unfold sealedF Sha.cat
    rw [if_pos hi]
    rfl
  rw [this]
  exact ctrF_twice _ _ _ _ _
theorem conv_none {w : World} {a : Option Addr} {c : Nat} : (convert 22 9 (.slice a 0 c)).run Tryd.prog w = .ok (.string (kstr (fun _ => 0) 0 0)) w := by
  have e0 : kstr (fun _ => 0) 0 0 = ⟨#[]⟩ := rfl
  rw [e0]
  cases a with
  | none => simp [convert, run_underlying Tryd.underlying22, run_underlying Tryd.underlying5, run_underlying Tryd.underlying9, Conv.bytesToString, Result.andThen]; rfl
  | some x => simp [convert, run_underlying Tryd.underlying22, run_underlying Tryd.underlying5, run_underlying Tryd.underlying9, Conv.bytesToString, Result.andThen]; rfl
theorem kstr_of_ownS {w : World} {B : Nat} {a : Option Addr} {n c : Nat} {f : Nat → Nat} (h : OwnS w B a n f) : (convert 22 9 (.slice a n c)).run Tryd.prog w = .ok (.string (kstr f 0 n)) w := by
  rcases h with rfl | ⟨b, _, rfl, hr⟩
  · rw [conv_none]; rfl
  · exact kstr_of_code hr.code
theorem openRetI {w w' : World} {e : Ending} {n : Nat} {F : Nat → Nat} {r : Bool} (h : RetOpen w w' e n F r) : RetI w w' e (if r then n else 0) F (if r then 0 else 10) := by
  cases r with
  | false =>
    unfold RetOpen at h
    rw [if_neg (by decide)] at h
    rw [if_neg (by decide), if_neg (by decide), h]
    exact RetI.nil
  | true =>
    unfold RetOpen at h
    rw [if_pos rfl] at h
    rw [if_pos rfl, if_pos rfl]
    exact h.retI
set_option maxRecDepth 100000 in
set_option maxHeartbeats 8000000 in
theorem law_fnSeal (a1 a2 : Option Addr) (N1 C1 N2 C2 : Nat) (zs1 zs2 : List Int) (w : World) (h1 : IsRow .u8 w a1 N1 C1 zs1) (h2 : IsRow .u8 w a2 N2 C2 zs2) (ht : Tabs w) :
    Calls Tryd.prog 3 #[.slice a1 N1 C1, .slice a2 N2 C2] w fun e w' => e = .returned (.bool true) ∧ Below w.heap.size w w' := by
  by_cases h0 : N1 ≤ 1048576 ∧ N2 ≤ 1048576
  · obtain ⟨h01, h02⟩ := h0
    have e01 : ¬ (1048576 : Int) < (N1 : Int) := by omega
    have e02 : ¬ (1048576 : Int) < (N2 : Int) := by omega
    obtain ⟨z1, hz1, hc1⟩ := code8_of_row h1
    obtain ⟨z2, hz2, hc2⟩ := code8_of_row h2
    obtain ⟨KEY, hKEY⟩ : ∃ K, K = kstr (byteK N1 z1 0 (N1 % 1000)) 0 32 := ⟨_, rfl⟩
    have hKs : KEY.size = 32 := by rw [hKEY, kstr_size]
    have BO : Hid (∀ w : World, Code8 w a1 N1 z1 → Calls Tryd.prog 8 #[.slice a1 N1 C1, .int .i64 32] w fun e w' => e = .returned (.string KEY) ∧ Below w.heap.size w w') := fun w h => by rw [hKEY]; exact blobOf_any 32 (by omega) (by omega) a1 N1 C1 z1 hz1 (IsRow.lenLe h1) w h
    have BY : Hid (∀ w : World, Code8 w a1 N1 z1 → Calls Tryd.prog 12 #[.slice a1 N1 C1, .int .i64 9] w fun e w' => SomeOwn w.heap.size w' e 9 ∧ Below w.heap.size w w') := fun w h => bytesOf_ex 9 (by omega) (by omega) a1 N1 C1 z1 hz1 (IsRow.lenLe h1) w h
    have PL : Hid (∀ w : World, Code8 w a2 N2 z2 → Calls Tryd.prog 13 #[.slice a2 N2 C2] w fun e w' => SomeOwn w.heap.size w' e 80 ∧ Below w.heap.size w w') := fun w h => plainOf_ex a2 N2 C2 z2 hz2 (IsRow.lenLe h2) w h
    have A1 : Hid (∀ w : World, IsRow .u8 w a1 N1 C1 zs1 → Calls Tryd.prog 10 #[.slice a1 N1 C1, .int .i64 0, .int .i64 1000] w fun e w' => e = .returned (.int .i64 ((atN N1 zs1 0 1000 : Nat) : Int)) ∧ ∃ q, w' = w.drewN q) := fun w h => at_is a1 N1 C1 zs1 w h 0 1000 (by omega) (by omega) (by omega)
    have A2 : Hid (∀ w : World, IsRow .u8 w a2 N2 C2 zs2 → Calls Tryd.prog 10 #[.slice a2 N2 C2, .int .i64 0, .int .i64 1000] w fun e w' => e = .returned (.int .i64 ((atN N2 zs2 0 1000 : Nat) : Int)) ∧ ∃ q, w' = w.drewN q) := fun w h => at_is a2 N2 C2 zs2 w h 0 1000 (by omega) (by omega) (by omega)
    have lP := atN_lt N1 zs1 0 1000 (by omega)
    have lV := atN_lt N2 zs2 0 1000 (by omega)
    generalize atN N1 zs1 0 1000 = P at *
    generalize atN N2 zs2 0 1000 = V at *
    obtain ⟨NON, hNON⟩ : ∃ K, K = kstr (nonceF P V) 0 12 := ⟨_, rfl⟩
    have hNs : NON.size = 12 := by rw [hNON, kstr_size]
    have IN : Hid (∀ w : World, Calls Tryd.prog 9 #[.int .i64 (P : Int), .int .i64 (V : Int)] w fun e w' => e = .returned (.tuple #[.string NON, .int .i64 0]) ∧ Below w.heap.size w w') := fun w => by rw [hNON]; exact implNonce_yes P V (by omega) (by omega) w
    have SN : Hid (∀ w : World, Calls Tryd.prog 11 #[.int .i64 (P : Int), .int .i64 (V : Int)] w fun e w' => e = .returned (.tuple #[.string NON, .int .i64 0]) ∧ Below w.heap.size w w') := fun w => by rw [hNON]; exact specNonce_yes P V (by omega) (by omega) w
    have IK : Hid (∀ w : World, Tabs w → Calls Tryd.prog 17 #[.string KEY] w fun e w' => e = .returned (.tuple #[.string (encS KEY), .string (tagS KEY), .int .i64 0]) ∧ Below w.heap.size w w') := fun w h => implKeysS_yes KEY hKs w h
    have SK : Hid (∀ w : World, Calls Tryd.prog 18 #[.string KEY] w fun e w' => e = .returned (.tuple #[.string (encS KEY), .string (tagS KEY), .int .i64 0]) ∧ Below w.heap.size w w') := fun w => specKeysS_yes KEY hKs w
    generalize encS KEY = ENC at *
    generalize tagS KEY = TAG at *
    have Z1 : Hid (Code8 w a1 N1 z1) := hc1
    have Z2 : Hid (Code8 w a2 N2 z2) := hc2
    have ROW1 : Hid (IsRow .u8 w a1 N1 C1 zs1) := h1
    have ROW2 : Hid (IsRow .u8 w a2 N2 C2 zs2) := h2
    have HT : Hid (Tabs w) := ht
    have HBx : Hid (Below w.heap.size w w) := Below.refl _ _
    clear h1 h2 hc1 hc2 hz1 hz2 ht hKEY hNON
    go_enter Tryd.func3, Tryd.ntmps3
    go_wp2_with fail
    refine (BO.out _ Z1.out).mono ?_
    rintro e w1 ⟨rfl, hb⟩
    replace HBx : Hid (Below w.heap.size w w1) := HBx.out.trans (hb.mono HBx.out.size)
    clear hb
    go_wp2_with fail
    refine (A1.out _ (isRow_belowS ROW1.out HBx.out)).mono ?_
    rintro e wq ⟨rfl, q, rfl⟩
    have hb : Below w1.heap.size w1 (w1.drewN q) := below_drewN8 (Below.refl _ _) q
    generalize w1.drewN q = w2 at *
    replace HBx : Hid (Below w.heap.size w w2) := HBx.out.trans (hb.mono HBx.out.size)
    clear hb
    go_wp2_with fail
    refine (A2.out _ (isRow_belowS ROW2.out HBx.out)).mono ?_
    rintro e wq ⟨rfl, q, rfl⟩
    have hb : Below w2.heap.size w2 (w2.drewN q) := below_drewN8 (Below.refl _ _) q
    generalize w2.drewN q = w3 at *
    replace HBx : Hid (Below w.heap.size w w3) := HBx.out.trans (hb.mono HBx.out.size)
    clear hb
    go_wp2_with fail
    refine (IN.out _).mono ?_
    rintro e w4 ⟨rfl, hb⟩
    replace HBx : Hid (Below w.heap.size w w4) := HBx.out.trans (hb.mono HBx.out.size)
    clear hb
    go_wp2_with fail
    refine (A1.out _ (isRow_belowS ROW1.out HBx.out)).mono ?_
    rintro e wq ⟨rfl, q, rfl⟩
    have hb : Below w4.heap.size w4 (w4.drewN q) := below_drewN8 (Below.refl _ _) q
    generalize w4.drewN q = w5 at *
    replace HBx : Hid (Below w.heap.size w w5) := HBx.out.trans (hb.mono HBx.out.size)
    clear hb
    go_wp2_with fail
    refine (A2.out _ (isRow_belowS ROW2.out HBx.out)).mono ?_
    rintro e wq ⟨rfl, q, rfl⟩
    have hb : Below w5.heap.size w5 (w5.drewN q) := below_drewN8 (Below.refl _ _) q
    generalize w5.drewN q = w6 at *
    replace HBx : Hid (Below w.heap.size w w6) := HBx.out.trans (hb.mono HBx.out.size)
    clear hb
    go_wp2_with fail
    refine (SN.out _).mono ?_
    rintro e w7 ⟨rfl, hb⟩
    replace HBx : Hid (Below w.heap.size w w7) := HBx.out.trans (hb.mono HBx.out.size)
    clear hb
    clear BO A1 A2 IN SN ROW1
    go_wp2_with fail
    refine (BY.out _ (Z1.out.below HBx.out)).mono ?_
    rintro e w8 ⟨⟨en, ef, eg, ec, hen, hef, rfl, hown⟩, hb⟩
    obtain ⟨g', c', ⟨heg, hec⟩, e', ho⟩ := own8_of_own hown (by intro e; cases e)
    cases e'
    replace HBx : Hid (Below w.heap.size w w8) := HBx.out.trans (hb.mono HBx.out.size)
    have Re : Hid (Own8 w8 eg en ef) := ho
    clear hb hown ho
    go_wp2_with fail
    refine (PL.out _ (Z2.out.below HBx.out)).mono ?_
    rintro e w9 ⟨⟨pn, pf, pg, pc, hpn, hpf, rfl, hown⟩, hb⟩
    obtain ⟨g', c', ⟨hpg, hpc⟩, e', ho⟩ := own8_of_own hown (by intro e; cases e)
    cases e'
    replace HBx : Hid (Below w.heap.size w w9) := HBx.out.trans (hb.mono HBx.out.size)
    replace Re : Hid (Own8 w9 eg en ef) := Re.out.below hb
    have Rp : Hid (Own8 w9 pg pn pf) := ho
    clear hb hown ho
    clear BY PL Z1 Z2
    obtain ⟨M, hM⟩ : ∃ M, M = pn + 16 := ⟨_, rfl⟩
    obtain ⟨SF, hSF⟩ : ∃ F, F = sealedF KEY NON en ef pn pf := ⟨_, rfl⟩
    have lSF : ∀ i, SF i < 256 := by rw [hSF]; exact Sha.cat_lt (streamF_lt KEY NON hpf) (strB_lt _)
    have SE : Hid (∀ w : World, Own8 w eg en ef → Own8 w pg pn pf → Tabs w → Calls Tryd.prog 14 #[.string KEY, .string NON, .slice (some ⟨eg, 0, none⟩) en ec, .slice (some ⟨pg, 0, none⟩) pn pc] w fun e w' => RetB2 w w' e M SF (.int .i64 0) ∧ Below w.heap.size w w') := fun w h h' k => by rw [hSF, hM]; exact implSeal_yes KEY NON eg 0 en ec pg 0 pn pc ef pf hKs hNs (by omega) (by omega) hef hpf w h.code h'.code k
    have SS : Hid (∀ w : World, Own8 w eg en ef → Own8 w pg pn pf → Calls Tryd.prog 15 #[.string KEY, .string NON, .slice (some ⟨eg, 0, none⟩) en ec, .slice (some ⟨pg, 0, none⟩) pn pc] w fun e w' => RetB2 w w' e M SF (.int .i64 0) ∧ Below w.heap.size w w') := fun w h h' => by rw [hSF, hM]; exact specSeal_yes KEY NON eg 0 en ec pg 0 pn pc ef pf hKs hNs (by omega) (by omega) hef hpf w h.code h'.code
    have OP : Hid (∀ (b c : Nat) (w : World), M ≤ c → Own8 w eg en ef → Own8 w b M SF → Tabs w → Calls Tryd.prog 16 #[.string KEY, .string NON, .slice (some ⟨eg, 0, none⟩) en ec, .slice (some ⟨b, 0, none⟩) M c] w fun e w' => RetB2 w w' e pn pf (.int .i64 0) ∧ Below w.heap.size w w') := fun b c w hc h h' k => by
      subst hM
      refine (implOpen_yes KEY NON eg 0 en ec b pn c ef SF hKs hNs (by omega) (by omega) hc hef lSF w h.code h'.code k).mono ?_
      rintro e w' ⟨hr, hb⟩
      rw [hSF, okT_sealed KEY NON en ef pn hpf] at hr
      unfold RetOpen at hr
      rw [if_pos rfl] at hr
      obtain ⟨b2, c2, hbc, he, ho⟩ := hr
      exact ⟨⟨b2, c2, hbc, he, ho.congr (fun i hi => stream_sealed KEY NON en ef pn pf i hi)⟩, hb⟩
    have OI : Hid (∀ (G : Nat → Nat) (b c : Nat) (w : World), (∀ i, G i < 256) → M ≤ c → Own8 w eg en ef → Own8 w b M G → Tabs w → Calls Tryd.prog 16 #[.string KEY, .string NON, .slice (some ⟨eg, 0, none⟩) en ec, .slice (some ⟨b, 0, none⟩) M c] w fun e w' => RetI w w' e (if okT KEY NON en ef pn G then pn else 0) (streamF KEY NON G) (if okT KEY NON en ef pn G then 0 else 10) ∧ Below w.heap.size w w') := fun G b c w lG hc h h' k => by
      subst hM
      exact (implOpen_yes KEY NON eg 0 en ec b pn c ef G hKs hNs (by omega) (by omega) hc hef lG w h.code h'.code k).mono fun e w' hr => ⟨openRetI hr.1, hr.2⟩
    have OS : Hid (∀ (G : Nat → Nat) (b c : Nat) (w : World), (∀ i, G i < 256) → M ≤ c → Own8 w eg en ef → Own8 w b M G → Calls Tryd.prog 19 #[.string KEY, .string NON, .slice (some ⟨eg, 0, none⟩) en ec, .slice (some ⟨b, 0, none⟩) M c] w fun e w' => RetI w w' e (if okT KEY NON en ef pn G then pn else 0) (streamF KEY NON G) (if okT KEY NON en ef pn G then 0 else 10) ∧ Below w.heap.size w w') := fun G b c w lG hc h h' => by
      subst hM
      exact specOpen_yes KEY NON eg 0 en ec b pn c ef G hKs hNs (by omega) (by omega) hc hef lG w h.code h'.code
    have LSF : Hid (∀ i, SF i < 256) := lSF
    have HM : Hid (M = pn + 16) := hM
    clear hSF lSF hef hpf hM
    go_wp2_with fail
    refine (SE.out _ Re.out Rp.out (HT.out.below HBx.out)).mono ?_
    rintro e w10 ⟨⟨xg, xc, ⟨hxg, hxc⟩, rfl, ho⟩, hb⟩
    have hne : xg ≠ eg := by have := Re.out.lt; omega
    have hxw : w.heap.size ≤ xg := by have := HBx.out.size; omega
    replace HBx : Hid (Below w.heap.size w w10) := HBx.out.trans (hb.mono HBx.out.size)
    replace Re : Hid (Own8 w10 eg en ef) := Re.out.below hb
    replace Rp : Hid (Own8 w10 pg pn pf) := Rp.out.below hb
    have Rx : Hid (Own8 w10 xg M SF) := ho
    clear hb ho
    go_wp2_with fail
    refine (SS.out _ Re.out Rp.out).mono ?_
    rintro e w11 ⟨⟨tg, tc, ⟨htg, htc⟩, rfl, ho⟩, hb⟩
    replace HBx : Hid (Below w.heap.size w w11) := HBx.out.trans (hb.mono HBx.out.size)
    replace Re : Hid (Own8 w11 eg en ef) := Re.out.below hb
    replace Rp : Hid (Own8 w11 pg pn pf) := Rp.out.below hb
    replace Rx : Hid (Own8 w11 xg M SF) := Rx.out.below hb
    have Rt : Hid (Own8 w11 tg M SF) := ho
    clear hb ho
    go_wp2_with fail
    refine (OP.out _ _ _ hxc Re.out Rx.out (HT.out.below HBx.out)).mono ?_
    rintro e w12 ⟨⟨yg, yc, ⟨hyg, hyc⟩, rfl, ho⟩, hb⟩
    replace HBx : Hid (Below w.heap.size w w12) := HBx.out.trans (hb.mono HBx.out.size)
    replace Re : Hid (Own8 w12 eg en ef) := Re.out.below hb
    replace Rp : Hid (Own8 w12 pg pn pf) := Rp.out.below hb
    replace Rx : Hid (Own8 w12 xg M SF) := Rx.out.below hb
    replace Rt : Hid (Own8 w12 tg M SF) := Rt.out.below hb
    have Ry : Hid (Own8 w12 yg pn pf) := ho
    clear hb ho
    clear SE SS OP
    go_wp2_with fail
    refine (IK.out _ (HT.out.below HBx.out)).mono ?_
    rintro e w13 ⟨rfl, hb⟩
    replace HBx : Hid (Below w.heap.size w w13) := HBx.out.trans (hb.mono HBx.out.size)
    replace Re : Hid (Own8 w13 eg en ef) := Re.out.below hb
    replace Rp : Hid (Own8 w13 pg pn pf) := Rp.out.below hb
    replace Rx : Hid (Own8 w13 xg M SF) := Rx.out.below hb
    replace Rt : Hid (Own8 w13 tg M SF) := Rt.out.below hb
    replace Ry : Hid (Own8 w13 yg pn pf) := Ry.out.below hb
    clear hb
    go_wp2_with fail
    refine (SK.out _).mono ?_
    rintro e w14 ⟨rfl, hb⟩
    replace HBx : Hid (Below w.heap.size w w14) := HBx.out.trans (hb.mono HBx.out.size)
    replace Re : Hid (Own8 w14 eg en ef) := Re.out.below hb
    replace Rp : Hid (Own8 w14 pg pn pf) := Rp.out.below hb
    replace Rx : Hid (Own8 w14 xg M SF) := Rx.out.below hb
    replace Rt : Hid (Own8 w14 tg M SF) := Rt.out.below hb
    replace Ry : Hid (Own8 w14 yg pn pf) := Ry.out.below hb
    clear hb
    clear IK SK
    have cv1 := kstr_of_code (c := xc) Rx.out.code
    have cv2 := kstr_of_code (c := tc) Rt.out.code
    have cv3 := kstr_of_code (c := yc) Ry.out.code
    have cv4 := kstr_of_code (c := pc) Rp.out.code
    generalize kstr SF 0 M = T1 at *
    generalize kstr pf 0 pn = T2 at *
    have x4 : (pn : Int) + 16 = (M : Int) := by have := HM.out; omega
    have x5 : ((M : Int) != (M : Int)) = false := by simp
    clear Rt Ry Rp

    go_wp2_with fail
    clear cv1 cv2 cv3 cv4 x4 x5
    have HBy : Hid (Below w.heap.size w w14.drew) := HBx.out.drew
    have Ry : Hid (Own8 w14.drew xg M SF) := Rx.out.below (Below.refl _ _).drew
    have Rz : Hid (Own8 w14.drew eg en ef) := Re.out.below (Below.refl _ _).drew
    clear HBx Rx Re
    have H : ∃ F, Own8 w14.drew xg M F := ⟨SF, Ry.out⟩
    have xc1 : (M : Int) ≤ (xc : Int) := by omega
    refine wp_region_noPanic ?_
    refine wp_region_held_drew (S := fun w' => ∃ F, Own8 w' xg M F) (by kernel_rfl) H (fun _ => ?_)
    generalize w14.drew = u0 at *
    refine wpAnyH_take (i := 0) (v := .slice (some ⟨xg, 0, none⟩) M xc) rfl (by kernel_rfl) (by kernel_rfl) (by kernel_rfl) (fun _ _ _ h => h) (Or.inl ⟨by rfl, ?_⟩) H ?_
    · intro w' hSw; go_simp
    change wpAnyH _ _ _ _ _ _ _ { tmps := #[_, _, _, _, _, _, _, _, _, _, _, _, _, _, _, _, _, _, _, _, _, _, _, _, _, _, _, _, _, _, _, _, _, _, _, _, _, _, _, _, _, _, _, _, _, _, _, _, _, _, _, _, _, _, _, _, _, _, _, _, _, _, _, _, _, _, _, _, _, _, _, _, _, _, _, _, _, _, _, _, _, _, _, _, _, _, _, _, _, _, _, _, _, _, _, _, _, _, _, _, _, _, _, _, _, _, _, _, _, _, _, _, _, _, _, _, _, _, _, _, _, _, _, _, _, _, _, _, _, _, _, _, _, _, _, _, _, _, _, _, _, _, _, _, _, _, _, _, _, _, _, _, _, _, _, _, _, _, _, _, _, _, _, _, _, _, _, _, _, _, _, _, _, _, _, _, _, _, _, _, _, _, _, _], defers := _ } _
    refine wpAnyH_take (i := 1) (v := .slice a2 N2 C2) rfl (by kernel_rfl) (by kernel_rfl) (by kernel_rfl) (fun _ _ _ h => h) (Or.inl ⟨by rfl, ?_⟩) H ?_
    · intro w' hSw; go_simp
    change wpAnyH _ _ _ _ _ _ _ { tmps := #[_, _, _, _, _, _, _, _, _, _, _, _, _, _, _, _, _, _, _, _, _, _, _, _, _, _, _, _, _, _, _, _, _, _, _, _, _, _, _, _, _, _, _, _, _, _, _, _, _, _, _, _, _, _, _, _, _, _, _, _, _, _, _, _, _, _, _, _, _, _, _, _, _, _, _, _, _, _, _, _, _, _, _, _, _, _, _, _, _, _, _, _, _, _, _, _, _, _, _, _, _, _, _, _, _, _, _, _, _, _, _, _, _, _, _, _, _, _, _, _, _, _, _, _, _, _, _, _, _, _, _, _, _, _, _, _, _, _, _, _, _, _, _, _, _, _, _, _, _, _, _, _, _, _, _, _, _, _, _, _, _, _, _, _, _, _, _, _, _, _, _, _, _, _, _, _, _, _, _, _, _, _, _, _], defers := _ } _
    refine wpAnyH_take (i := 2) (v := .slice (some ⟨xg, 0, none⟩) M xc) rfl (by kernel_rfl) (by kernel_rfl) (by kernel_rfl) (fun _ _ _ h => h) (Or.inl ⟨by rfl, ?_⟩) H ?_
    · intro w' hSw; go_simp
    change wpAnyH _ _ _ _ _ _ _ { tmps := #[_, _, _, _, _, _, _, _, _, _, _, _, _, _, _, _, _, _, _, _, _, _, _, _, _, _, _, _, _, _, _, _, _, _, _, _, _, _, _, _, _, _, _, _, _, _, _, _, _, _, _, _, _, _, _, _, _, _, _, _, _, _, _, _, _, _, _, _, _, _, _, _, _, _, _, _, _, _, _, _, _, _, _, _, _, _, _, _, _, _, _, _, _, _, _, _, _, _, _, _, _, _, _, _, _, _, _, _, _, _, _, _, _, _, _, _, _, _, _, _, _, _, _, _, _, _, _, _, _, _, _, _, _, _, _, _, _, _, _, _, _, _, _, _, _, _, _, _, _, _, _, _, _, _, _, _, _, _, _, _, _, _, _, _, _, _, _, _, _, _, _, _, _, _, _, _, _, _, _, _, _, _, _, _], defers := _ } _
    refine wpAnyH_take (i := 3) (v := .int .i64 (M : Int)) rfl (by kernel_rfl) (by kernel_rfl) (by kernel_rfl) (fun _ _ _ h => h) (Or.inl ⟨by rfl, ?_⟩) H ?_
    · intro w' hSw; go_simp
    change wpAnyH _ _ _ _ _ _ _ { tmps := #[_, _, _, _, _, _, _, _, _, _, _, _, _, _, _, _, _, _, _, _, _, _, _, _, _, _, _, _, _, _, _, _, _, _, _, _, _, _, _, _, _, _, _, _, _, _, _, _, _, _, _, _, _, _, _, _, _, _, _, _, _, _, _, _, _, _, _, _, _, _, _, _, _, _, _, _, _, _, _, _, _, _, _, _, _, _, _, _, _, _, _, _, _, _, _, _, _, _, _, _, _, _, _, _, _, _, _, _, _, _, _, _, _, _, _, _, _, _, _, _, _, _, _, _, _, _, _, _, _, _, _, _, _, _, _, _, _, _, _, _, _, _, _, _, _, _, _, _, _, _, _, _, _, _, _, _, _, _, _, _, _, _, _, _, _, _, _, _, _, _, _, _, _, _, _, _, _, _, _, _, _, _, _, _], defers := _ } _
    refine wpAnyH_take (i := 7) (v := .slice a2 N2 C2) rfl (by kernel_rfl) (by kernel_rfl) (by kernel_rfl) (fun _ _ _ h => h) (Or.inl ⟨by rfl, ?_⟩) H ?_
    · intro w' hSw; go_simp
    change wpAnyH _ _ _ _ _ _ _ { tmps := #[_, _, _, _, _, _, _, _, _, _, _, _, _, _, _, _, _, _, _, _, _, _, _, _, _, _, _, _, _, _, _, _, _, _, _, _, _, _, _, _, _, _, _, _, _, _, _, _, _, _, _, _, _, _, _, _, _, _, _, _, _, _, _, _, _, _, _, _, _, _, _, _, _, _, _, _, _, _, _, _, _, _, _, _, _, _, _, _, _, _, _, _, _, _, _, _, _, _, _, _, _, _, _, _, _, _, _, _, _, _, _, _, _, _, _, _, _, _, _, _, _, _, _, _, _, _, _, _, _, _, _, _, _, _, _, _, _, _, _, _, _, _, _, _, _, _, _, _, _, _, _, _, _, _, _, _, _, _, _, _, _, _, _, _, _, _, _, _, _, _, _, _, _, _, _, _, _, _, _, _, _, _, _, _], defers := _ } _
    refine wpAnyH_ready (rs := [4]) (by kernel_rfl) (by simp) ?_
    refine AllReadyH.cons rfl (fun KK hK => ?_) AllReadyH.nil
    go_simp
    refine (at_any a2 N2 C2 zs2 _ (isRow_belowS ROW2.out HBy.out) 1 (M : Int) (by omega) (by omega) (by have := HM.out; omega) (by have := HM.out; omega)).mono ?_
    rintro e wq ⟨⟨r1, hr1, rfl⟩, q, rfl⟩
    have hb : Below u0.heap.size u0 (u0.drewN q) := below_drewN8 (Below.refl _ _) q
    generalize u0.drewN q = u1 at *
    replace HBy : Hid (Below w.heap.size w u1) := HBy.out.trans (hb.mono HBy.out.size)
    replace Ry : Hid (Own8 u1 xg M SF) := Ry.out.below hb
    replace Rz : Hid (Own8 u1 eg en ef) := Rz.out.below hb
    replace H : ∃ F, Own8 u1 xg M F := ⟨SF, Ry.out⟩
    clear hb
    refine hK.out _ _ H (fun _ => ?_)
    clear hK KK
    have hr1' : r1 < M := by omega
    change wpAnyH _ _ _ _ _ _ _ { tmps := #[_, _, _, _, _, _, _, _, _, _, _, _, _, _, _, _, _, _, _, _, _, _, _, _, _, _, _, _, _, _, _, _, _, _, _, _, _, _, _, _, _, _, _, _, _, _, _, _, _, _, _, _, _, _, _, _, _, _, _, _, _, _, _, _, _, _, _, _, _, _, _, _, _, _, _, _, _, _, _, _, _, _, _, _, _, _, _, _, _, _, _, _, _, _, _, _, _, _, _, _, _, _, _, _, _, _, _, _, _, _, _, _, _, _, _, _, _, _, _, _, _, _, _, _, _, _, _, _, _, _, _, _, _, _, _, _, _, _, _, _, _, _, _, _, _, _, _, _, _, _, _, _, _, _, _, _, _, _, _, _, _, _, _, _, _, _, _, _, _, _, _, _, _, _, _, _, _, _, _, _, _, _, _, _], defers := _ } _
    refine wpAnyH_take (i := 5) (v := .pointer (some ⟨xg, r1, none⟩)) rfl (by kernel_rfl) (by kernel_rfl) (by kernel_rfl) (fun _ _ _ h => h) (Or.inl ⟨by rfl, ?_⟩) H ?_
    · intro w' hSw; go_simp
    change wpAnyH _ _ _ _ _ _ _ { tmps := #[_, _, _, _, _, _, _, _, _, _, _, _, _, _, _, _, _, _, _, _, _, _, _, _, _, _, _, _, _, _, _, _, _, _, _, _, _, _, _, _, _, _, _, _, _, _, _, _, _, _, _, _, _, _, _, _, _, _, _, _, _, _, _, _, _, _, _, _, _, _, _, _, _, _, _, _, _, _, _, _, _, _, _, _, _, _, _, _, _, _, _, _, _, _, _, _, _, _, _, _, _, _, _, _, _, _, _, _, _, _, _, _, _, _, _, _, _, _, _, _, _, _, _, _, _, _, _, _, _, _, _, _, _, _, _, _, _, _, _, _, _, _, _, _, _, _, _, _, _, _, _, _, _, _, _, _, _, _, _, _, _, _, _, _, _, _, _, _, _, _, _, _, _, _, _, _, _, _, _, _, _, _, _, _], defers := _ } _
    have lx := LSF.out r1
    have A3 : Hid (∀ w' : World, Below w.heap.size w w' → Calls Tryd.prog 10 #[.slice a2 N2 C2, .int .i64 2, .int .i64 255] w' fun e w'' => (∃ r : Nat, (r : Int) < 255 ∧ e = .returned (.int .i64 r)) ∧ ∃ q, w'' = w'.drewN q) := fun w' hw => at_any a2 N2 C2 zs2 _ (isRow_belowS ROW2.out hw) 2 255 (by omega) (by omega) (by omega) (by omega)
    refine wpAnyH_ready (rs := [6, 8]) (by kernel_rfl) (by simp) ?_
    refine AllReadyH.cons rfl (fun KK hK => ?_) (AllReadyH.cons rfl (fun KK hK => ?_) AllReadyH.nil)
    · have cx := Ry.out.cell hr1'
      go_simp
      refine hK.out _ _ H (fun _ => ?_)
      clear hK KK cx
      change wpAnyH _ _ _ _ _ _ _ { tmps := #[_, _, _, _, _, _, _, _, _, _, _, _, _, _, _, _, _, _, _, _, _, _, _, _, _, _, _, _, _, _, _, _, _, _, _, _, _, _, _, _, _, _, _, _, _, _, _, _, _, _, _, _, _, _, _, _, _, _, _, _, _, _, _, _, _, _, _, _, _, _, _, _, _, _, _, _, _, _, _, _, _, _, _, _, _, _, _, _, _, _, _, _, _, _, _, _, _, _, _, _, _, _, _, _, _, _, _, _, _, _, _, _, _, _, _, _, _, _, _, _, _, _, _, _, _, _, _, _, _, _, _, _, _, _, _, _, _, _, _, _, _, _, _, _, _, _, _, _, _, _, _, _, _, _, _, _, _, _, _, _, _, _, _, _, _, _, _, _, _, _, _, _, _, _, _, _, _, _, _, _, _, _, _, _], defers := _ } _
      refine wpAnyH_ready (rs := [8]) (by kernel_rfl) (by simp) ?_
      refine AllReadyH.cons rfl (fun KK hK => ?_) AllReadyH.nil
      go_simp
      refine (A3.out _ HBy.out).mono ?_
      rintro e wq ⟨⟨r2, hr2, rfl⟩, q, rfl⟩
      have hb : Below u1.heap.size u1 (u1.drewN q) := below_drewN8 (Below.refl _ _) q
      generalize u1.drewN q = u2 at *
      replace HBy : Hid (Below w.heap.size w u2) := HBy.out.trans (hb.mono HBy.out.size)
      replace Ry : Hid (Own8 u2 xg M SF) := Ry.out.below hb
      replace Rz : Hid (Own8 u2 eg en ef) := Rz.out.below hb
      replace H : ∃ F, Own8 u2 xg M F := ⟨SF, Ry.out⟩
      clear hb
      refine hK.out _ _ H (fun _ => ?_)
      clear hK KK
      obtain ⟨K2, hK2⟩ : ∃ K2, K2 = 1 + r2 := ⟨_, rfl⟩
      have eK : (1 : Int) + (r2 : Int) = (K2 : Int) := by omega
      have lK : K2 < 256 := by omega
      have eW : IntKind.u8.wrap (K2 : Int) = (K2 : Int) := IntWalk.u8_in _ (by omega)
      have eW2 : IntKind.i64.wrap (K2 : Int) = (K2 : Int) := IntWalk.i64_in _ (by omega)
      clear hK2
      change wpAnyH _ _ _ _ _ _ _ { tmps := #[_, _, _, _, _, _, _, _, _, _, _, _, _, _, _, _, _, _, _, _, _, _, _, _, _, _, _, _, _, _, _, _, _, _, _, _, _, _, _, _, _, _, _, _, _, _, _, _, _, _, _, _, _, _, _, _, _, _, _, _, _, _, _, _, _, _, _, _, _, _, _, _, _, _, _, _, _, _, _, _, _, _, _, _, _, _, _, _, _, _, _, _, _, _, _, _, _, _, _, _, _, _, _, _, _, _, _, _, _, _, _, _, _, _, _, _, _, _, _, _, _, _, _, _, _, _, _, _, _, _, _, _, _, _, _, _, _, _, _, _, _, _, _, _, _, _, _, _, _, _, _, _, _, _, _, _, _, _, _, _, _, _, _, _, _, _, _, _, _, _, _, _, _, _, _, _, _, _, _, _, _, _, _, _], defers := _ } _
      refine wpAnyH_take (i := 9) (v := .int .i64 (K2 : Int)) rfl (by kernel_rfl) (by kernel_rfl) (by kernel_rfl) (fun _ _ _ h => h) (Or.inl ⟨by rfl, ?_⟩) H ?_
      · intro w' hSw; go_simp
      change wpAnyH _ _ _ _ _ _ _ { tmps := #[_, _, _, _, _, _, _, _, _, _, _, _, _, _, _, _, _, _, _, _, _, _, _, _, _, _, _, _, _, _, _, _, _, _, _, _, _, _, _, _, _, _, _, _, _, _, _, _, _, _, _, _, _, _, _, _, _, _, _, _, _, _, _, _, _, _, _, _, _, _, _, _, _, _, _, _, _, _, _, _, _, _, _, _, _, _, _, _, _, _, _, _, _, _, _, _, _, _, _, _, _, _, _, _, _, _, _, _, _, _, _, _, _, _, _, _, _, _, _, _, _, _, _, _, _, _, _, _, _, _, _, _, _, _, _, _, _, _, _, _, _, _, _, _, _, _, _, _, _, _, _, _, _, _, _, _, _, _, _, _, _, _, _, _, _, _, _, _, _, _, _, _, _, _, _, _, _, _, _, _, _, _, _, _], defers := _ } _
      refine wpAnyH_take (i := 10) (v := .int .u8 (K2 : Int)) rfl (by kernel_rfl) (by kernel_rfl) (by kernel_rfl) (fun _ _ _ h => h) (Or.inl ⟨by rfl, ?_⟩) H ?_
      · intro w' hSw; go_simp
      change wpAnyH _ _ _ _ _ _ _ { tmps := #[_, _, _, _, _, _, _, _, _, _, _, _, _, _, _, _, _, _, _, _, _, _, _, _, _, _, _, _, _, _, _, _, _, _, _, _, _, _, _, _, _, _, _, _, _, _, _, _, _, _, _, _, _, _, _, _, _, _, _, _, _, _, _, _, _, _, _, _, _, _, _, _, _, _, _, _, _, _, _, _, _, _, _, _, _, _, _, _, _, _, _, _, _, _, _, _, _, _, _, _, _, _, _, _, _, _, _, _, _, _, _, _, _, _, _, _, _, _, _, _, _, _, _, _, _, _, _, _, _, _, _, _, _, _, _, _, _, _, _, _, _, _, _, _, _, _, _, _, _, _, _, _, _, _, _, _, _, _, _, _, _, _, _, _, _, _, _, _, _, _, _, _, _, _, _, _, _, _, _, _, _, _, _, _], defers := _ } _
      obtain ⟨Y, hY⟩ : ∃ Y, Y = SF r1 ^^^ K2 := ⟨_, rfl⟩
      have eY : bits .xor .u8 ((SF r1 : Nat) : Int) (K2 : Int) = (Y : Int) := by rw [hY]; exact e8_xor _ _ lx lK
      have lY : Y < 256 := by rw [hY]; exact Nat.xor_lt_two_pow (n := 8) lx lK
      clear hY
      refine wpAnyH_take (i := 11) (v := .int .u8 (Y : Int)) rfl (by kernel_rfl) (by kernel_rfl) (by kernel_rfl) (fun _ _ _ h => h) (Or.inl ⟨by rfl, ?_⟩) H ?_
      · intro w' hSw; go_simp
      change wpAnyH _ _ _ _ _ _ _ { tmps := #[_, _, _, _, _, _, _, _, _, _, _, _, _, _, _, _, _, _, _, _, _, _, _, _, _, _, _, _, _, _, _, _, _, _, _, _, _, _, _, _, _, _, _, _, _, _, _, _, _, _, _, _, _, _, _, _, _, _, _, _, _, _, _, _, _, _, _, _, _, _, _, _, _, _, _, _, _, _, _, _, _, _, _, _, _, _, _, _, _, _, _, _, _, _, _, _, _, _, _, _, _, _, _, _, _, _, _, _, _, _, _, _, _, _, _, _, _, _, _, _, _, _, _, _, _, _, _, _, _, _, _, _, _, _, _, _, _, _, _, _, _, _, _, _, _, _, _, _, _, _, _, _, _, _, _, _, _, _, _, _, _, _, _, _, _, _, _, _, _, _, _, _, _, _, _, _, _, _, _, _, _, _, _, _], defers := _ } _
      refine wpAnyH_take (i := 12) (v := .pointer (some ⟨xg, r1, none⟩)) rfl (by kernel_rfl) (by kernel_rfl) (by kernel_rfl) (fun _ _ _ h => h) (Or.inl ⟨by rfl, ?_⟩) H ?_
      · intro w' hSw; go_simp
      change wpAnyH _ _ _ _ _ _ _ { tmps := #[_, _, _, _, _, _, _, _, _, _, _, _, _, _, _, _, _, _, _, _, _, _, _, _, _, _, _, _, _, _, _, _, _, _, _, _, _, _, _, _, _, _, _, _, _, _, _, _, _, _, _, _, _, _, _, _, _, _, _, _, _, _, _, _, _, _, _, _, _, _, _, _, _, _, _, _, _, _, _, _, _, _, _, _, _, _, _, _, _, _, _, _, _, _, _, _, _, _, _, _, _, _, _, _, _, _, _, _, _, _, _, _, _, _, _, _, _, _, _, _, _, _, _, _, _, _, _, _, _, _, _, _, _, _, _, _, _, _, _, _, _, _, _, _, _, _, _, _, _, _, _, _, _, _, _, _, _, _, _, _, _, _, _, _, _, _, _, _, _, _, _, _, _, _, _, _, _, _, _, _, _, _, _, _], defers := _ } _
      have GX : Own8 (u2.setCell ⟨xg, r1, none⟩ (.int .u8 (Y : Int))) xg M (fun i => if i = r1 then Y else SF i) := Ry.out.set r1 Y
      have GE : Own8 (u2.setCell ⟨xg, r1, none⟩ (.int .u8 (Y : Int))) eg en ef := Rz.out.onlyB ((OnlyB.refl xg u2).setCell r1 _) (fun e => hne e.symm)
      have GB : Below w.heap.size w (u2.setCell ⟨xg, r1, none⟩ (.int .u8 (Y : Int))) := HBy.out.setCell hxw _
      have cx := Ry.out.cell hr1'
      have fx := Ry.out.frozen r1
      refine wpAnyH_ready (rs := [13]) (by kernel_rfl) (by simp) ?_
      refine AllReadyH.cons rfl (fun KK hK => ?_) AllReadyH.nil
      go_simp
      refine hK.out _ _ ⟨_, GX⟩ (fun _ => ?_)
      clear hK KK H cx fx Ry Rz HBy A3 ROW2
      change wpAnyH _ _ _ _ _ _ _ { tmps := #[_, _, _, _, _, _, _, _, _, _, _, _, _, _, _, _, _, _, _, _, _, _, _, _, _, _, _, _, _, _, _, _, _, _, _, _, _, _, _, _, _, _, _, _, _, _, _, _, _, _, _, _, _, _, _, _, _, _, _, _, _, _, _, _, _, _, _, _, _, _, _, _, _, _, _, _, _, _, _, _, _, _, _, _, _, _, _, _, _, _, _, _, _, _, _, _, _, _, _, _, _, _, _, _, _, _, _, _, _, _, _, _, _, _, _, _, _, _, _, _, _, _, _, _, _, _, _, _, _, _, _, _, _, _, _, _, _, _, _, _, _, _, _, _, _, _, _, _, _, _, _, _, _, _, _, _, _, _, _, _, _, _, _, _, _, _, _, _, _, _, _, _, _, _, _, _, _, _, _, _, _, _, _, _], defers := _ } _
      refine wpAnyH_done (by kernel_rfl) ?_ _
      refine NoPanic.normal ?_
      generalize u2.setCell ⟨xg, r1, none⟩ (.int .u8 (Y : Int)) = u3 at *
      have lG : ∀ i, (fun i => if i = r1 then Y else SF i) i < 256 := fun i => by dsimp only; split; exact lY; exact LSF.out i
      generalize (fun i => if i = r1 then Y else SF i) = G at *
      have R1 : Hid (Own8 u3 xg M G) := GX
      have R2 : Hid (Own8 u3 eg en ef) := GE
      have HBz : Hid (Below w.heap.size w u3) := GB
      have OI2 : Hid _ := OI.out G xg xc
      have OS2 : Hid _ := OS.out G xg xc
      generalize hL : (if okT KEY NON en ef pn G then pn else 0) = L at *
      generalize hC : (if okT KEY NON en ef pn G then (0 : Int) else 10) = CD at *
      generalize streamF KEY NON G = SG at *
      have lG2 : Hid (∀ i, G i < 256) := lG
      clear GX GE GB lG hL hC eY lY eK lK eW eW2 lx LSF hr1 hr1' OI OS
      go_wp2_with fail
      refine (OI2.out _ lG2.out hxc R2.out R1.out (HT.out.below HBz.out)).mono ?_
      rintro e u4 ⟨⟨za, zc, rfl, hz⟩, hb⟩
      replace HBz : Hid (Below w.heap.size w u4) := HBz.out.trans (hb.mono HBz.out.size)
      replace R1 : Hid (Own8 u4 xg M G) := R1.out.below hb
      replace R2 : Hid (Own8 u4 eg en ef) := R2.out.below hb
      have Z : Hid (OwnS u4 u3.heap.size za L SG) := hz
      clear hb hz OI2
      go_wp2_with fail
      refine (OS2.out _ lG2.out hxc R2.out R1.out).mono ?_
      rintro e u5 ⟨⟨ya, yc2, rfl, hz⟩, hb⟩
      replace HBz : Hid (Below w.heap.size w u5) := HBz.out.trans (hb.mono HBz.out.size)
      have cva := kstr_of_ownS (c := zc) (Z.out.below hb)
      have cvb := kstr_of_ownS (c := yc2) hz
      have ee : (CD == CD) = true := by simp
      generalize kstr SG 0 L = T3 at *
      clear hb hz OS2 Z R1 R2 lG2 HT
      go_wp2
      go_ret
      exact ⟨rfl, HBz.out⟩
    · go_simp
      refine (A3.out _ HBy.out).mono ?_
      rintro e wq ⟨⟨r2, hr2, rfl⟩, q, rfl⟩
      have hb : Below u1.heap.size u1 (u1.drewN q) := below_drewN8 (Below.refl _ _) q
      generalize u1.drewN q = u2 at *
      replace HBy : Hid (Below w.heap.size w u2) := HBy.out.trans (hb.mono HBy.out.size)
      replace Ry : Hid (Own8 u2 xg M SF) := Ry.out.below hb
      replace Rz : Hid (Own8 u2 eg en ef) := Rz.out.below hb
      replace H : ∃ F, Own8 u2 xg M F := ⟨SF, Ry.out⟩
      clear hb
      refine hK.out _ _ H (fun _ => ?_)
      clear hK KK
      obtain ⟨K2, hK2⟩ : ∃ K2, K2 = 1 + r2 := ⟨_, rfl⟩
      have eK : (1 : Int) + (r2 : Int) = (K2 : Int) := by omega
      have lK : K2 < 256 := by omega
      have eW : IntKind.u8.wrap (K2 : Int) = (K2 : Int) := IntWalk.u8_in _ (by omega)
      have eW2 : IntKind.i64.wrap (K2 : Int) = (K2 : Int) := IntWalk.i64_in _ (by omega)
      clear hK2
      change wpAnyH _ _ _ _ _ _ _ { tmps := #[_, _, _, _, _, _, _, _, _, _, _, _, _, _, _, _, _, _, _, _, _, _, _, _, _, _, _, _, _, _, _, _, _, _, _, _, _, _, _, _, _, _, _, _, _, _, _, _, _, _, _, _, _, _, _, _, _, _, _, _, _, _, _, _, _, _, _, _, _, _, _, _, _, _, _, _, _, _, _, _, _, _, _, _, _, _, _, _, _, _, _, _, _, _, _, _, _, _, _, _, _, _, _, _, _, _, _, _, _, _, _, _, _, _, _, _, _, _, _, _, _, _, _, _, _, _, _, _, _, _, _, _, _, _, _, _, _, _, _, _, _, _, _, _, _, _, _, _, _, _, _, _, _, _, _, _, _, _, _, _, _, _, _, _, _, _, _, _, _, _, _, _, _, _, _, _, _, _, _, _, _, _, _, _], defers := _ } _
      refine wpAnyH_take (i := 9) (v := .int .i64 (K2 : Int)) rfl (by kernel_rfl) (by kernel_rfl) (by kernel_rfl) (fun _ _ _ h => h) (Or.inl ⟨by rfl, ?_⟩) H ?_
      · intro w' hSw; go_simp
      change wpAnyH _ _ _ _ _ _ _ { tmps := #[_, _, _, _, _, _, _, _, _, _, _, _, _, _, _, _, _, _, _, _, _, _, _, _, _, _, _, _, _, _, _, _, _, _, _, _, _, _, _, _, _, _, _, _, _, _, _, _, _, _, _, _, _, _, _, _, _, _, _, _, _, _, _, _, _, _, _, _, _, _, _, _, _, _, _, _, _, _, _, _, _, _, _, _, _, _, _, _, _, _, _, _, _, _, _, _, _, _, _, _, _, _, _, _, _, _, _, _, _, _, _, _, _, _, _, _, _, _, _, _, _, _, _, _, _, _, _, _, _, _, _, _, _, _, _, _, _, _, _, _, _, _, _, _, _, _, _, _, _, _, _, _, _, _, _, _, _, _, _, _, _, _, _, _, _, _, _, _, _, _, _, _, _, _, _, _, _, _, _, _, _, _, _, _], defers := _ } _
      refine wpAnyH_take (i := 10) (v := .int .u8 (K2 : Int)) rfl (by kernel_rfl) (by kernel_rfl) (by kernel_rfl) (fun _ _ _ h => h) (Or.inl ⟨by rfl, ?_⟩) H ?_
      · intro w' hSw; go_simp
      change wpAnyH _ _ _ _ _ _ _ { tmps := #[_, _, _, _, _, _, _, _, _, _, _, _, _, _, _, _, _, _, _, _, _, _, _, _, _, _, _, _, _, _, _, _, _, _, _, _, _, _, _, _, _, _, _, _, _, _, _, _, _, _, _, _, _, _, _, _, _, _, _, _, _, _, _, _, _, _, _, _, _, _, _, _, _, _, _, _, _, _, _, _, _, _, _, _, _, _, _, _, _, _, _, _, _, _, _, _, _, _, _, _, _, _, _, _, _, _, _, _, _, _, _, _, _, _, _, _, _, _, _, _, _, _, _, _, _, _, _, _, _, _, _, _, _, _, _, _, _, _, _, _, _, _, _, _, _, _, _, _, _, _, _, _, _, _, _, _, _, _, _, _, _, _, _, _, _, _, _, _, _, _, _, _, _, _, _, _, _, _, _, _, _, _, _, _], defers := _ } _
      refine wpAnyH_ready (rs := [6]) (by kernel_rfl) (by simp) ?_
      refine AllReadyH.cons rfl (fun KK hK => ?_) AllReadyH.nil
      have cx := Ry.out.cell hr1'
      go_simp
      refine hK.out _ _ H (fun _ => ?_)
      clear hK KK cx
      change wpAnyH _ _ _ _ _ _ _ { tmps := #[_, _, _, _, _, _, _, _, _, _, _, _, _, _, _, _, _, _, _, _, _, _, _, _, _, _, _, _, _, _, _, _, _, _, _, _, _, _, _, _, _, _, _, _, _, _, _, _, _, _, _, _, _, _, _, _, _, _, _, _, _, _, _, _, _, _, _, _, _, _, _, _, _, _, _, _, _, _, _, _, _, _, _, _, _, _, _, _, _, _, _, _, _, _, _, _, _, _, _, _, _, _, _, _, _, _, _, _, _, _, _, _, _, _, _, _, _, _, _, _, _, _, _, _, _, _, _, _, _, _, _, _, _, _, _, _, _, _, _, _, _, _, _, _, _, _, _, _, _, _, _, _, _, _, _, _, _, _, _, _, _, _, _, _, _, _, _, _, _, _, _, _, _, _, _, _, _, _, _, _, _, _, _, _], defers := _ } _
      obtain ⟨Y, hY⟩ : ∃ Y, Y = SF r1 ^^^ K2 := ⟨_, rfl⟩
      have eY : bits .xor .u8 ((SF r1 : Nat) : Int) (K2 : Int) = (Y : Int) := by rw [hY]; exact e8_xor _ _ lx lK
      have lY : Y < 256 := by rw [hY]; exact Nat.xor_lt_two_pow (n := 8) lx lK
      clear hY
      refine wpAnyH_take (i := 11) (v := .int .u8 (Y : Int)) rfl (by kernel_rfl) (by kernel_rfl) (by kernel_rfl) (fun _ _ _ h => h) (Or.inl ⟨by rfl, ?_⟩) H ?_
      · intro w' hSw; go_simp
      change wpAnyH _ _ _ _ _ _ _ { tmps := #[_, _, _, _, _, _, _, _, _, _, _, _, _, _, _, _, _, _, _, _, _, _, _, _, _, _, _, _, _, _, _, _, _, _, _, _, _, _, _, _, _, _, _, _, _, _, _, _, _, _, _, _, _, _, _, _, _, _, _, _, _, _, _, _, _, _, _, _, _, _, _, _, _, _, _, _, _, _, _, _, _, _, _, _, _, _, _, _, _, _, _, _, _, _, _, _, _, _, _, _, _, _, _, _, _, _, _, _, _, _, _, _, _, _, _, _, _, _, _, _, _, _, _, _, _, _, _, _, _, _, _, _, _, _, _, _, _, _, _, _, _, _, _, _, _, _, _, _, _, _, _, _, _, _, _, _, _, _, _, _, _, _, _, _, _, _, _, _, _, _, _, _, _, _, _, _, _, _, _, _, _, _, _, _], defers := _ } _
      refine wpAnyH_take (i := 12) (v := .pointer (some ⟨xg, r1, none⟩)) rfl (by kernel_rfl) (by kernel_rfl) (by kernel_rfl) (fun _ _ _ h => h) (Or.inl ⟨by rfl, ?_⟩) H ?_
      · intro w' hSw; go_simp
      change wpAnyH _ _ _ _ _ _ _ { tmps := #[_, _, _, _, _, _, _, _, _, _, _, _, _, _, _, _, _, _, _, _, _, _, _, _, _, _, _, _, _, _, _, _, _, _, _, _, _, _, _, _, _, _, _, _, _, _, _, _, _, _, _, _, _, _, _, _, _, _, _, _, _, _, _, _, _, _, _, _, _, _, _, _, _, _, _, _, _, _, _, _, _, _, _, _, _, _, _, _, _, _, _, _, _, _, _, _, _, _, _, _, _, _, _, _, _, _, _, _, _, _, _, _, _, _, _, _, _, _, _, _, _, _, _, _, _, _, _, _, _, _, _, _, _, _, _, _, _, _, _, _, _, _, _, _, _, _, _, _, _, _, _, _, _, _, _, _, _, _, _, _, _, _, _, _, _, _, _, _, _, _, _, _, _, _, _, _, _, _, _, _, _, _, _, _], defers := _ } _
      have GX : Own8 (u2.setCell ⟨xg, r1, none⟩ (.int .u8 (Y : Int))) xg M (fun i => if i = r1 then Y else SF i) := Ry.out.set r1 Y
      have GE : Own8 (u2.setCell ⟨xg, r1, none⟩ (.int .u8 (Y : Int))) eg en ef := Rz.out.onlyB ((OnlyB.refl xg u2).setCell r1 _) (fun e => hne e.symm)
      have GB : Below w.heap.size w (u2.setCell ⟨xg, r1, none⟩ (.int .u8 (Y : Int))) := HBy.out.setCell hxw _
      have cx := Ry.out.cell hr1'
      have fx := Ry.out.frozen r1
      refine wpAnyH_ready (rs := [13]) (by kernel_rfl) (by simp) ?_
      refine AllReadyH.cons rfl (fun KK hK => ?_) AllReadyH.nil
      go_simp
      refine hK.out _ _ ⟨_, GX⟩ (fun _ => ?_)
      clear hK KK H cx fx Ry Rz HBy A3 ROW2
      change wpAnyH _ _ _ _ _ _ _ { tmps := #[_, _, _, _, _, _, _, _, _, _, _, _, _, _, _, _, _, _, _, _, _, _, _, _, _, _, _, _, _, _, _, _, _, _, _, _, _, _, _, _, _, _, _, _, _, _, _, _, _, _, _, _, _, _, _, _, _, _, _, _, _, _, _, _, _, _, _, _, _, _, _, _, _, _, _, _, _, _, _, _, _, _, _, _, _, _, _, _, _, _, _, _, _, _, _, _, _, _, _, _, _, _, _, _, _, _, _, _, _, _, _, _, _, _, _, _, _, _, _, _, _, _, _, _, _, _, _, _, _, _, _, _, _, _, _, _, _, _, _, _, _, _, _, _, _, _, _, _, _, _, _, _, _, _, _, _, _, _, _, _, _, _, _, _, _, _, _, _, _, _, _, _, _, _, _, _, _, _, _, _, _, _, _, _], defers := _ } _
      refine wpAnyH_done (by kernel_rfl) ?_ _
      refine NoPanic.normal ?_
      generalize u2.setCell ⟨xg, r1, none⟩ (.int .u8 (Y : Int)) = u3 at *
      have lG : ∀ i, (fun i => if i = r1 then Y else SF i) i < 256 := fun i => by dsimp only; split; exact lY; exact LSF.out i
      generalize (fun i => if i = r1 then Y else SF i) = G at *
      have R1 : Hid (Own8 u3 xg M G) := GX
      have R2 : Hid (Own8 u3 eg en ef) := GE
      have HBz : Hid (Below w.heap.size w u3) := GB
      have OI2 : Hid _ := OI.out G xg xc
      have OS2 : Hid _ := OS.out G xg xc
      generalize hL : (if okT KEY NON en ef pn G then pn else 0) = L at *
      generalize hC : (if okT KEY NON en ef pn G then (0 : Int) else 10) = CD at *
      generalize streamF KEY NON G = SG at *
      have lG2 : Hid (∀ i, G i < 256) := lG
      clear GX GE GB lG hL hC eY lY eK lK eW eW2 lx LSF hr1 hr1' OI OS
      go_wp2_with fail
      refine (OI2.out _ lG2.out hxc R2.out R1.out (HT.out.below HBz.out)).mono ?_
      rintro e u4 ⟨⟨za, zc, rfl, hz⟩, hb⟩
      replace HBz : Hid (Below w.heap.size w u4) := HBz.out.trans (hb.mono HBz.out.size)
      replace R1 : Hid (Own8 u4 xg M G) := R1.out.below hb
      replace R2 : Hid (Own8 u4 eg en ef) := R2.out.below hb
      have Z : Hid (OwnS u4 u3.heap.size za L SG) := hz
      clear hb hz OI2
      go_wp2_with fail
      refine (OS2.out _ lG2.out hxc R2.out R1.out).mono ?_
      rintro e u5 ⟨⟨ya, yc2, rfl, hz⟩, hb⟩
      replace HBz : Hid (Below w.heap.size w u5) := HBz.out.trans (hb.mono HBz.out.size)
      have cva := kstr_of_ownS (c := zc) (Z.out.below hb)
      have cvb := kstr_of_ownS (c := yc2) hz
      have ee : (CD == CD) = true := by simp
      generalize kstr SG 0 L = T3 at *
      clear hb hz OS2 Z R1 R2 lG2 HT
      go_wp2
      go_ret
      exact ⟨rfl, HBz.out⟩
  · by_cases h3 : N1 ≤ 1048576
    · have e1 : ¬ (1048576 : Int) < (N1 : Int) := by omega
      have e2 : (1048576 : Int) < (N2 : Int) := by omega
      clear h0
      go_enter Tryd.func3, Tryd.ntmps3
      go_wp2
      go_ret
      exact ⟨rfl, Below.refl _ _⟩
    · have e1 : (1048576 : Int) < (N1 : Int) := by omega
      clear h0
      go_enter Tryd.func3, Tryd.ntmps3
      go_wp2
      go_ret
      exact ⟨rfl, Below.refl _ _⟩
end Go.Proofs.YthfnbbjjiipcpaaDoor
