/-
  The law of images (written by tools/fnimage_law.py).
-/
import Derived.Test.YtonccbgolbcjfaaImgC
import Derived.Test.YtonccbgolbcjfaaImgD
import Derived.Test.YtonccbgolbcjfaaDrawI
import Derived.Test.YtonccbgolbcjfaaByRow
namespace Go.Proofs.Ytonccbgolbcjfaa
open Go.ChangeShapes Go.WideShapes Go.ChangeAt Go.RowKit
set_option linter.unusedVariables false
theorem pcs_ok (f : Nat → Nat) {n : Nat} (h : n ≤ 1024) : PcsOk (pcsN n) (pcT f n) := by
  refine ⟨pcsN_le h, fun i hi => ?_⟩
  have h1 : 64 * i < n := by unfold pcsN at hi; omega
  have e : (pcT f n i).size = min (64 * i + 64) n - 64 * i := kstr_size _ _ _
  rw [e]
  refine ⟨⟨by omega, by omega⟩, fun h2 => ?_⟩
  have h3 : 64 * (i + 1) < n := by unfold pcsN at h2; omega
  omega
theorem strL_kstr (f : Nat → Nat) (hf : ∀ i, f i < 256) (o m : Nat) : strL (kstr f o m) = (List.range m).map fun i => f (o + i) := by
  unfold strL
  rw [kstr_data, List.map_map]
  refine List.map_congr_left (fun i _ => ?_)
  show (UInt8.ofNat (f (o + i))).toNat = f (o + i)
  rw [UInt8.toNat_ofNat']
  exact Nat.mod_eq_of_lt (by simpa using hf (o + i))
theorem joinL_cut (f : Nat → Nat) (hf : ∀ i, f i < 256) (n : Nat) : ∀ k, k ≤ pcsN n → joinL (pcT f n) k = (List.range (min (64 * k) n)).map f
  | 0, _ => by simp [joinL]
  | k + 1, hk => by
    have h1 : 64 * k < n := by unfold pcsN at hk; omega
    rw [joinL, joinL_cut f hf n k (by omega)]
    have e : min (64 * (k + 1)) n = min (64 * k) n + (min (64 * k + 64) n - 64 * k) := by omega
    rw [e, List.range_add, List.map_append]
    have e2 : min (64 * k) n = 64 * k := by omega
    congr 1
    unfold pcT
    rw [strL_kstr f hf, e2, List.map_map]
    rfl
theorem joinL_all (f : Nat → Nat) (hf : ∀ i, f i < 256) (n : Nat) : joinL (pcT f n) (pcsN n) = (List.range n).map f := by
  rw [joinL_cut f hf n _ (Nat.le_refl _)]
  have : min (64 * pcsN n) n = n := by unfold pcsN; omega
  rw [this]
theorem nthI_mem (L : List Nat) (i : Nat) : (∃ j, j < L.length ∧ nthI L j = (i : Int)) ↔ i ∈ L := by
  unfold nthI
  constructor
  · rintro ⟨j, hj, e⟩
    rw [List.getD_eq_getElem?_getD, List.getElem?_eq_getElem hj] at e
    have e2 : ((L[j] : Nat) : Int) = (i : Int) := e
    have : L[j] = i := by omega
    rw [← this]
    exact List.getElem_mem hj
  · intro h
    obtain ⟨j, hj, e⟩ := List.getElem_of_mem h
    exact ⟨j, hj, by rw [List.getD_eq_getElem?_getD, List.getElem?_eq_getElem hj, e]; rfl⟩
set_option maxRecDepth 100000 in
set_option maxHeartbeats 8000000 in
theorem law_fnImage (a0 a1 : Option Addr) (l0 c0 l1 c1 : Nat) (z0 z1 : Nat → Nat) (hm0 : l0 ≤ maxLen) (hz0 : ∀ i, z0 i < 256) (hm1 : l1 ≤ maxLen) (hz1 : ∀ i, z1 i < 256) (w : World) (hv0 : Code8 w a0 l0 z0) (hv1 : Code8 w a1 l1 z1) :
    Calls Try.prog 3 #[.slice a0 l0 c0, .slice a1 l1 c1] w fun e w' => e = .returned (.bool true) ∧ Below w.heap.size w w' := by
  by_cases b0 : 1048576 < l0
  · have bb0 : (1048576 : Int) < (l0 : Int) := by omega
    clear hv0 hv1 hm0 hm1 hz0 hz1
    go_enter Try.func3, Try.ntmps3
    go_wp2
    go_ret
    exact ⟨rfl, Below.refl _ _⟩
  have bb0 : ¬ (1048576 : Int) < (l0 : Int) := by omega
  by_cases b1 : 1048576 < l1
  · have bb1 : (1048576 : Int) < (l1 : Int) := by omega
    clear hv0 hv1 hm0 hm1 hz0 hz1
    go_enter Try.func3, Try.ntmps3
    go_wp2
    go_ret
    exact ⟨rfl, Below.refl _ _⟩
  have bb1 : ¬ (1048576 : Int) < (l1 : Int) := by omega
  have I0 : Hid (∀ w : World, Code8 w a0 l0 z0 → Calls Try.prog 8 #[.slice a0 l0 c0] w fun e w' => SomeG w.heap.size w' e ∧ Below w.heap.size w w') := fun w h => imageOf_ex a0 l0 c0 z0 hz0 hm0 w h
  have I1 : Hid (∀ w : World, Code8 w a1 l1 z1 → Calls Try.prog 8 #[.slice a1 l1 c1] w fun e w' => SomeG w.heap.size w' e ∧ Below w.heap.size w w') := fun w h => imageOf_ex a1 l1 c1 z1 hz1 hm1 w h
  have A1 : Hid (Below w.heap.size w w) := Below.refl _ _
  have H0 : Hid (Code8 w a0 l0 z0) := hv0
  have H1 : Hid (Code8 w a1 l1 z1) := hv1
  clear hv0 hv1 hm0 hm1 hz0 hz1 b0 b1
  go_enter Try.func3, Try.ntmps3
  go_wp2_with fail
  refine (I0.out _ (H0.out.below A1.out)).mono ?_
  rintro e v1 ⟨⟨n0, f0, g0, k0, ⟨hn0, hx0, hc0⟩, hf0, rfl, ho0, _⟩, hb⟩
  replace A1 : Hid (Below w.heap.size w v1) := A1.out.trans (hb.mono A1.out.size)
  have R0 : Hid (Own8 v1 g0 n0 f0) := ho0
  have B0 : Hid ((1 ≤ n0 ∧ n0 ≤ 260 ∧ n0 ≤ k0) ∧ ∀ i, f0 i < 256) := ⟨⟨hn0, hx0, hc0⟩, hf0⟩
  clear hb ho0 hn0 hx0 hc0 hf0 I0 H0
  go_wp2_with fail
  refine (I1.out _ (H1.out.below A1.out)).mono ?_
  rintro e v2 ⟨⟨n1, f1, g1, k1, ⟨hn1, hx1, hc1⟩, hf1, rfl, ho1, _⟩, hb⟩
  replace A1 : Hid (Below w.heap.size w v2) := A1.out.trans (hb.mono A1.out.size)
  replace R0 : Hid (Own8 v2 g0 n0 f0) := R0.out.below hb
  have R1 : Hid (Own8 v2 g1 n1 f1) := ho1
  have B1 : Hid ((1 ≤ n1 ∧ n1 ≤ 260 ∧ n1 ≤ k1) ∧ ∀ i, f1 i < 256) := ⟨⟨hn1, hx1, hc1⟩, hf1⟩
  clear hb ho1 hn1 hx1 hc1 hf1 I1 H1
  have CU : Hid (∀ (b n c : Nat) (f : Nat → Nat) (w : World), n ≤ 260 → n ≤ c → Code8 w (some ⟨b, 0, none⟩) n f → Calls Try.prog 9 #[.slice (some ⟨b, 0, none⟩) n c] w fun e w' => (∃ g, e = .returned (.tuple #[.slice (some ⟨g, 0, none⟩) (pcsN n) (pcsN n), .int .i64 0]) ∧ Strs w' (some ⟨g, 0, none⟩) (pcsN n) (pcT f n)) ∧ Below w.heap.size w w') := fun b n c f w h1 h2 h => (implCut_ok b 0 n c f (by omega) h2 w h).mono fun e w' q => ⟨⟨w.heap.size, q.1.1, Strs.ofRow q.1.2⟩, q.2⟩
  have SU : Hid (∀ (b n c : Nat) (f : Nat → Nat) (w : World), n ≤ 260 → n ≤ c → Code8 w (some ⟨b, 0, none⟩) n f → Calls Try.prog 10 #[.slice (some ⟨b, 0, none⟩) n c] w fun e w' => (∃ a x, e = .returned (.tuple #[.slice a (pcsN n) x, .int .i64 0]) ∧ Strs w' a (pcsN n) (pcT f n)) ∧ Below w.heap.size w w') := fun b n c f w h1 h2 h => (specCut_ok b 0 n c f (by omega) h2 w h).mono fun e w' q => by
    obtain ⟨⟨a', c', he, ho⟩, hb⟩ := q
    exact ⟨⟨a', c', he, ho.pxs⟩, hb⟩
  have JO : Hid (∀ (a : Option Addr) (c : Nat) (w : World), Strs w a (pcsN n0) (pcT f0 n0) → Calls Try.prog 11 #[.slice a (pcsN n0) c] w fun e w' => (∃ a' c', e = .returned (.tuple #[.slice a' n0 c', .int .i64 0]) ∧ Code8 w' a' n0 f0) ∧ Below w.heap.size w w') := fun a c w h => (implJoin_any a (pcsN n0) c (pcT f0 n0) _ 0 (.inr (.inr ⟨pcs_ok f0 (by have := B0.out.1; omega), rfl, rfl⟩)) w h).mono fun e w' q => by
    obtain ⟨⟨a', c', he, ho⟩, hb⟩ := q
    obtain ⟨g, hr, _⟩ := ho.byR rfl
    have el : (joinL (pcT f0 n0) (pcsN n0)).length = n0 := by rw [joinL_all f0 B0.out.2]; simp
    rw [el] at he hr
    refine ⟨⟨a', c', he, hr.code.congr (fun i hi => ?_)⟩, hb⟩
    show (joinL (pcT f0 n0) (pcsN n0)).getD i 0 = f0 i
    rw [joinL_all f0 B0.out.2]
    simp [hi]
  have PN : Hid (∀ w : World, Calls Try.prog 12 #[.int .i64 (n0 : Int)] w fun e w' => e = .returned (.tuple #[.int .i64 ((pcsN n0 : Nat) : Int), .int .i64 0]) ∧ Below w.heap.size w w') := fun w => (implPc_ok n0 (by have := B0.out.1; omega) w).mono fun _ _ q => ⟨q.1, by rw [← q.2]; exact Below.refl _ _⟩
  have DI : Hid (∀ (a b : Option Addr) (c d : Nat) (w : World), Strs w a (pcsN n0) (pcT f0 n0) → Strs w b (pcsN n1) (pcT f1 n1) → Calls Try.prog 13 #[.slice a (pcsN n0) c, .slice b (pcsN n1) d] w fun e w' => (∃ a' c', e = .returned (.tuple #[.slice a' (dirL (DirtAt (pcsN n0) (pcT f0 n0) (pcT f1 n1)) (pcsN n1)).length c', .int .i64 0]) ∧ Num w' a' (dirL (DirtAt (pcsN n0) (pcT f0 n0) (pcT f1 n1)) (pcsN n1)).length (nthI (dirL (DirtAt (pcsN n0) (pcT f0 n0) (pcT f1 n1)) (pcsN n1)))) ∧ Below w.heap.size w w') := fun a b c d w h h' => (implDirty_any a b _ _ c d _ _ _ 0 (.inr (.inr ⟨rfl, ⟨pcs_ok f0 (by have := B0.out.1; omega), pcs_ok f1 (by have := B1.out.1; omega)⟩, rfl⟩)) w h h').mono fun e w' q => by
    obtain ⟨⟨a', c', he, ho⟩, hb⟩ := q
    exact ⟨⟨a', c', he, IE.num ho⟩, hb⟩
  have DS : Hid (∀ (a b : Option Addr) (c d : Nat) (w : World), Strs w a (pcsN n0) (pcT f0 n0) → Strs w b (pcsN n1) (pcT f1 n1) → Calls Try.prog 14 #[.slice a (pcsN n0) c, .slice b (pcsN n1) d] w fun e w' => (∃ a' c', e = .returned (.tuple #[.slice a' (dirL (DirtAt (pcsN n0) (pcT f0 n0) (pcT f1 n1)) (pcsN n1)).length c', .int .i64 0]) ∧ Num w' a' (dirL (DirtAt (pcsN n0) (pcT f0 n0) (pcT f1 n1)) (pcsN n1)).length (nthI (dirL (DirtAt (pcsN n0) (pcT f0 n0) (pcT f1 n1)) (pcsN n1)))) ∧ Below w.heap.size w w') := fun a b c d w h h' => (specDirty_any a b _ _ c d _ _ _ 0 (.inr (.inr ⟨rfl, ⟨pcs_ok f0 (by have := B0.out.1; omega), pcs_ok f1 (by have := B1.out.1; omega)⟩, rfl⟩)) w h h').mono fun e w' q => by
    obtain ⟨⟨a', c', he, ho⟩, hb⟩ := q
    exact ⟨⟨a', c', he, IE.num ho⟩, hb⟩
  have ST : Hid (∀ (a b : Option Addr) (x y : Nat) (w : World), Strs w a (pcsN n0) (pcT f0 n0) → Strs w b (pcsN n0) (pcT f0 n0) → Calls Try.prog 15 #[.slice a (pcsN n0) x, .slice b (pcsN n0) y] w fun e w' => e = .returned (.bool true) ∧ Below w.heap.size w w') := fun a b x y w h h' => (sameTexts_yes a b _ x y _ _ w h h' (fun _ _ => rfl) (by have := pcsN_le (n := n0) (by have := B0.out.1; omega); omega)).mono fun _ _ q => ⟨q.1, by obtain ⟨z, e⟩ := q.2; rw [e]; exact below_drewN8 (Below.refl _ _) z⟩
  have n16 : pcsN n1 ≤ 16 := pcsN_le (by have := B1.out.1; omega)
  have m16 : pcsN n0 ≤ 16 := pcsN_le (by have := B0.out.1; omega)
  have dl : (dirL (DirtAt (pcsN n0) (pcT f0 n0) (pcT f1 n1)) (pcsN n1)).length ≤ 16 := Nat.le_trans (dirL_le _ _) n16
  have SI : Hid (∀ (a b : Option Addr) (x y : Nat) (w : World), Num w a (dirL (DirtAt (pcsN n0) (pcT f0 n0) (pcT f1 n1)) (pcsN n1)).length (nthI (dirL (DirtAt (pcsN n0) (pcT f0 n0) (pcT f1 n1)) (pcsN n1))) → Num w b (dirL (DirtAt (pcsN n0) (pcT f0 n0) (pcT f1 n1)) (pcsN n1)).length (nthI (dirL (DirtAt (pcsN n0) (pcT f0 n0) (pcT f1 n1)) (pcsN n1))) → Calls Try.prog 16 #[.slice a (dirL (DirtAt (pcsN n0) (pcT f0 n0) (pcT f1 n1)) (pcsN n1)).length x, .slice b (dirL (DirtAt (pcsN n0) (pcT f0 n0) (pcT f1 n1)) (pcsN n1)).length y] w fun e w' => e = .returned (.bool true) ∧ Below w.heap.size w w') := fun a b x y w h h' => (sameInts_yes a b _ x y _ _ w h.ints h'.ints (fun _ _ => rfl) (by omega)).mono fun _ _ q => ⟨q.1, by obtain ⟨z, e⟩ := q.2; rw [e]; exact below_drewN8 (Below.refl _ _) z⟩
  have HIT : Hid (∀ (a : Option Addr) (x i : Nat) (w : World), (i < pcsN n1 ∧ DirtAt (pcsN n0) (pcT f0 n0) (pcT f1 n1) i) → Num w a (dirL (DirtAt (pcsN n0) (pcT f0 n0) (pcT f1 n1)) (pcsN n1)).length (nthI (dirL (DirtAt (pcsN n0) (pcT f0 n0) (pcT f1 n1)) (pcsN n1))) → Calls Try.prog 17 #[.slice a (dirL (DirtAt (pcsN n0) (pcT f0 n0) (pcT f1 n1)) (pcsN n1)).length x, .int .i64 (i : Int)] w fun e w' => e = .returned (.bool true) ∧ Below w.heap.size w w') := fun a x i w hr h => (lawHas_any a _ x _ (i : Int) true (by rw [nthI_mem, dirL_mem]; simp [hr]) (by omega) w h).mono fun _ _ q => ⟨q.1, by rw [← q.2]; exact Below.refl _ _⟩
  have HIF : Hid (∀ (a : Option Addr) (x i : Nat) (w : World), ¬ (i < pcsN n1 ∧ DirtAt (pcsN n0) (pcT f0 n0) (pcT f1 n1) i) → Num w a (dirL (DirtAt (pcsN n0) (pcT f0 n0) (pcT f1 n1)) (pcsN n1)).length (nthI (dirL (DirtAt (pcsN n0) (pcT f0 n0) (pcT f1 n1)) (pcsN n1))) → Calls Try.prog 17 #[.slice a (dirL (DirtAt (pcsN n0) (pcT f0 n0) (pcT f1 n1)) (pcsN n1)).length x, .int .i64 (i : Int)] w fun e w' => e = .returned (.bool false) ∧ Below w.heap.size w w') := fun a x i w hr h => (lawHas_any a _ x _ (i : Int) false (by rw [nthI_mem, dirL_mem]; simp [hr]) (by omega) w h).mono fun _ _ q => ⟨q.1, by rw [← q.2]; exact Below.refl _ _⟩
  have CVA : Hid (∀ (a : Option Addr) (x : Nat) (w : World), Code8 w a n0 f0 → (convert 22 9 (.slice a n0 x)).run Try.prog w = .ok (.string (kstr f0 0 n0)) w) := fun a x w h => by
    obtain ⟨b, o, rfl, _⟩ := h.opened (by have := B0.out.1; omega)
    exact kstr_of_code h
  have KB : Hid ((n0 ≤ 260 ∧ n0 ≤ k0) ∧ (n1 ≤ 260 ∧ n1 ≤ k1)) := ⟨B0.out.1.2, B1.out.1.2⟩
  have HDEF : Hid (∀ i, DirtAt (pcsN n0) (pcT f0 n0) (pcT f1 n1) i ↔ ¬ (i < pcsN n0 ∧ pcT f0 n0 i = pcT f1 n1 i)) := fun i => Iff.rfl
  clear B0 B1
  go_wp2_with fail
  refine (CU.out _ _ _ _ _ KB.out.1.1 KB.out.1.2 R0.out.code).mono ?_
  rintro e v3 ⟨⟨gx, rfl, hx⟩, hb⟩
  replace A1 : Hid (Below w.heap.size w v3) := A1.out.trans (hb.mono A1.out.size)
  replace R0 : Hid (Own8 v3 g0 n0 f0) := R0.out.below hb
  replace R1 : Hid (Own8 v3 g1 n1 f1) := R1.out.below hb
  have TX : Hid (Strs v3 (some ⟨gx, 0, none⟩) (pcsN n0) (pcT f0 n0)) := hx
  clear hb hx
  go_wp2_with fail
  refine (CU.out _ _ _ _ _ KB.out.2.1 KB.out.2.2 R1.out.code).mono ?_
  rintro e v4 ⟨⟨gy, rfl, hx⟩, hb⟩
  replace A1 : Hid (Below w.heap.size w v4) := A1.out.trans (hb.mono A1.out.size)
  replace R0 : Hid (Own8 v4 g0 n0 f0) := R0.out.below hb
  replace R1 : Hid (Own8 v4 g1 n1 f1) := R1.out.below hb
  replace TX : Hid (Strs v4 (some ⟨gx, 0, none⟩) (pcsN n0) (pcT f0 n0)) := TX.out.below hb
  have TY : Hid (Strs v4 (some ⟨gy, 0, none⟩) (pcsN n1) (pcT f1 n1)) := hx
  clear hb hx CU
  clear R1
  go_wp2_with fail
  refine (SU.out _ _ _ _ _ KB.out.1.1 KB.out.1.2 R0.out.code).mono ?_
  rintro e v5 ⟨⟨aw, xw, rfl, hx⟩, hb⟩
  replace A1 : Hid (Below w.heap.size w v5) := A1.out.trans (hb.mono A1.out.size)
  replace R0 : Hid (Own8 v5 g0 n0 f0) := R0.out.below hb
  replace TX : Hid (Strs v5 (some ⟨gx, 0, none⟩) (pcsN n0) (pcT f0 n0)) := TX.out.below hb
  replace TY : Hid (Strs v5 (some ⟨gy, 0, none⟩) (pcsN n1) (pcT f1 n1)) := TY.out.below hb
  have TW : Hid (Strs v5 aw (pcsN n0) (pcT f0 n0)) := hx
  clear hb hx SU
  generalize hF : pcT f0 n0 = F at *
  generalize hG : pcT f1 n1 = GG at *
  clear hF hG
  generalize pcsN n0 = N at *
  generalize pcsN n1 = M at *
  generalize hK : kstr f0 0 n0 = KT at *
  clear hK
  generalize hDL : (dirL (DirtAt N F GG) M) = DL at *
  clear hDL
  go_wp2_with fail
  refine (JO.out _ _ _ TX.out).mono ?_
  rintro e v6 ⟨⟨ab, xb, rfl, hx⟩, hb⟩
  replace A1 : Hid (Below w.heap.size w v6) := A1.out.trans (hb.mono A1.out.size)
  replace R0 : Hid (Own8 v6 g0 n0 f0) := R0.out.below hb
  replace TX : Hid (Strs v6 (some ⟨gx, 0, none⟩) N F) := TX.out.below hb
  replace TY : Hid (Strs v6 (some ⟨gy, 0, none⟩) M GG) := TY.out.below hb
  replace TW : Hid (Strs v6 aw N F) := TW.out.below hb
  have TB : Hid (Code8 v6 ab n0 f0) := hx
  clear hb hx JO
  go_wp2_with fail
  refine (PN.out _).mono ?_
  rintro e v7 ⟨rfl, hb⟩
  replace A1 : Hid (Below w.heap.size w v7) := A1.out.trans (hb.mono A1.out.size)
  replace R0 : Hid (Own8 v7 g0 n0 f0) := R0.out.below hb
  replace TX : Hid (Strs v7 (some ⟨gx, 0, none⟩) N F) := TX.out.below hb
  replace TY : Hid (Strs v7 (some ⟨gy, 0, none⟩) M GG) := TY.out.below hb
  replace TW : Hid (Strs v7 aw N F) := TW.out.below hb
  replace TB : Hid (Code8 v7 ab n0 f0) := TB.out.below hb
  clear hb PN
  go_wp2_with fail
  refine (DI.out _ _ _ _ _ TX.out TY.out).mono ?_
  rintro e v8 ⟨⟨ad, xd, rfl, hx⟩, hb⟩
  replace A1 : Hid (Below w.heap.size w v8) := A1.out.trans (hb.mono A1.out.size)
  replace R0 : Hid (Own8 v8 g0 n0 f0) := R0.out.below hb
  replace TX : Hid (Strs v8 (some ⟨gx, 0, none⟩) N F) := TX.out.below hb
  replace TY : Hid (Strs v8 (some ⟨gy, 0, none⟩) M GG) := TY.out.below hb
  replace TW : Hid (Strs v8 aw N F) := TW.out.below hb
  replace TB : Hid (Code8 v8 ab n0 f0) := TB.out.below hb
  have TD : Hid (Num v8 ad DL.length (nthI DL)) := hx
  clear hb hx DI
  go_wp2_with fail
  refine (DS.out _ _ _ _ _ TX.out TY.out).mono ?_
  rintro e v9 ⟨⟨at1, xt, rfl, hx⟩, hb⟩
  replace A1 : Hid (Below w.heap.size w v9) := A1.out.trans (hb.mono A1.out.size)
  replace R0 : Hid (Own8 v9 g0 n0 f0) := R0.out.below hb
  replace TX : Hid (Strs v9 (some ⟨gx, 0, none⟩) N F) := TX.out.below hb
  replace TY : Hid (Strs v9 (some ⟨gy, 0, none⟩) M GG) := TY.out.below hb
  replace TW : Hid (Strs v9 aw N F) := TW.out.below hb
  replace TB : Hid (Code8 v9 ab n0 f0) := TB.out.below hb
  replace TD : Hid (Num v9 ad DL.length (nthI DL)) := TD.out.below hb
  have TT : Hid (Num v9 at1 DL.length (nthI DL)) := hx
  clear hb hx DS
  have nn : ((N : Int) != (N : Int)) = false := by simp
  generalize hLL : DL.length = LL at *
  clear hLL
  go_wp2_with fail
  refine (ST.out _ _ _ _ _ TX.out TW.out).mono ?_
  rintro e v10 ⟨rfl, hb⟩
  replace A1 : Hid (Below w.heap.size w v10) := A1.out.trans (hb.mono A1.out.size)
  replace R0 : Hid (Own8 v10 g0 n0 f0) := R0.out.below hb
  replace TX : Hid (Strs v10 (some ⟨gx, 0, none⟩) N F) := TX.out.below hb
  replace TY : Hid (Strs v10 (some ⟨gy, 0, none⟩) M GG) := TY.out.below hb
  replace TW : Hid (Strs v10 aw N F) := TW.out.below hb
  replace TB : Hid (Code8 v10 ab n0 f0) := TB.out.below hb
  replace TD : Hid (Num v10 ad LL (nthI DL)) := TD.out.below hb
  replace TT : Hid (Num v10 at1 LL (nthI DL)) := TT.out.below hb
  clear hb ST
  clear TW
  have cv1 := CVA.out _ xb _ TB.out
  have cv2 := CVA.out _ k0 _ R0.out.code
  go_wp2_with fail
  refine (SI.out _ _ _ _ _ TD.out TT.out).mono ?_
  rintro e v11 ⟨rfl, hb⟩
  replace A1 : Hid (Below w.heap.size w v11) := A1.out.trans (hb.mono A1.out.size)
  replace R0 : Hid (Own8 v11 g0 n0 f0) := R0.out.below hb
  replace TX : Hid (Strs v11 (some ⟨gx, 0, none⟩) N F) := TX.out.below hb
  replace TY : Hid (Strs v11 (some ⟨gy, 0, none⟩) M GG) := TY.out.below hb
  replace TB : Hid (Code8 v11 ab n0 f0) := TB.out.below hb
  replace TD : Hid (Num v11 ad LL (nthI DL)) := TD.out.below hb
  replace TT : Hid (Num v11 at1 LL (nthI DL)) := TT.out.below hb
  clear hb SI cv1 cv2
  clear TT TB R0
  clear CVA KB nn
  go_wp2
  go_loopw [21] (fun i wr => ∃ k : Nat, k ≤ M ∧ i = .int .i64 k ∧ Below v11.heap.size v11 wr) (fun i _ => M - (intOf i).toNat)
  case atStart => exact ⟨0, by omega, rfl, Below.refl _ _⟩
  case round =>
    obtain ⟨k, hk, rfl, hb⟩ := hrel
    have HB : Hid (Below v11.heap.size v11 wr) := hb
    by_cases hlt : k < M
    · have hlt' : (k : Int) < (M : Int) := by omega
      have k0' : (0 : Int) ≤ (k : Int) := by omega
      have kb : (k : Int) ≤ 16 := by omega
      have HK : Hid (k < M) := hlt
      have WX : Hid (Strs wr (some ⟨gx, 0, none⟩) N F) := TX.out.below hb
      have WD : Hid (Num wr ad LL (nthI DL)) := TD.out.below hb
      have d1 : wr.cell? ⟨gy, k, none⟩ = some (.string (GG k)) := by
        obtain ⟨b, o, e, q⟩ := (TY.out.below hb) k hlt
        cases e
        rwa [Nat.zero_add] at q
      have HDK := HDEF.out k
      by_cases hkn : k < N
      · have HKN : Hid (k < N) := hkn
        have hkn' : (k : Int) < (N : Int) := by omega
        have d0 : wr.cell? ⟨gx, k, none⟩ = some (.string (F k)) := by
          obtain ⟨b, o, e, q⟩ := WX.out k hkn
          cases e
          rwa [Nat.zero_add] at q
        by_cases he : F k = GG k
        · have HRR : Hid (¬ (k < M ∧ DirtAt N F GG k)) := fun q => absurd ⟨hkn, he⟩ (HDK.1 q.2)
          rw [he] at d0
          clear he hkn hlt hk hb HDK
          generalize GG k = V at *
          go_wp2_with fail
          have H : Below wr.heap.size wr wr.drew := (Below.refl _ _).drew
          refine wp_region_noPanic ?_
          refine wp_region_held_drew (S := fun w' => Below wr.heap.size wr w') (by kernel_rfl) H (fun _ => ?_)
          generalize wr.drew = x0 at *
          refine wpAnyH_take (i := 0) (v := .slice ad LL xd) rfl (by kernel_rfl) (by kernel_rfl) (by kernel_rfl) (fun _ _ _ h => h) (Or.inl ⟨by rfl, ?_⟩) H ?_
          · intro w' hSw; clear hSw; go_simp
          change wpAnyH _ _ _ _ _ _ _ { tmps := #[_, _, _, _, _, _, _, _, _, _, _, _, _, _, _, _, _, _, _, _, _, _, _, _, _, _, _, _, _, _, _, _, _, _, _, _, _, _, _, _, _, _, _, _, _, _, _, _, _, _, _, _, _, _, _, _, _, _, _, _, _, _, _, _, _, _, _, _, _, _, _, _, _, _, _, _, _, _, _, _, _, _, _, _, _, _, _, _, _, _, _, _, _, _, _, _, _, _, _, _, _, _, _, _, _, _, _, _, _, _, _, _, _, _, _, _, _, _, _, _, _, _, _, _, _, _, _, _, _, _, _, _, _, _, _, _, _, _, _, _], defers := _ } _
          refine wpAnyH_take (i := 1) (v := .int .i64 (k : Int)) rfl (by kernel_rfl) (by kernel_rfl) (by kernel_rfl) (fun _ _ _ h => h) (Or.inl ⟨by rfl, ?_⟩) H ?_
          · intro w' hSw; clear hSw; go_simp
          change wpAnyH _ _ _ _ _ _ _ { tmps := #[_, _, _, _, _, _, _, _, _, _, _, _, _, _, _, _, _, _, _, _, _, _, _, _, _, _, _, _, _, _, _, _, _, _, _, _, _, _, _, _, _, _, _, _, _, _, _, _, _, _, _, _, _, _, _, _, _, _, _, _, _, _, _, _, _, _, _, _, _, _, _, _, _, _, _, _, _, _, _, _, _, _, _, _, _, _, _, _, _, _, _, _, _, _, _, _, _, _, _, _, _, _, _, _, _, _, _, _, _, _, _, _, _, _, _, _, _, _, _, _, _, _, _, _, _, _, _, _, _, _, _, _, _, _, _, _, _, _, _, _], defers := _ } _
          refine wpAnyH_take (i := 3) (v := .int .i64 (k : Int)) rfl (by kernel_rfl) (by kernel_rfl) (by kernel_rfl) (fun _ _ _ h => h) (Or.inl ⟨by rfl, ?_⟩) H ?_
          · intro w' hSw; clear hSw; go_simp
          change wpAnyH _ _ _ _ _ _ _ { tmps := #[_, _, _, _, _, _, _, _, _, _, _, _, _, _, _, _, _, _, _, _, _, _, _, _, _, _, _, _, _, _, _, _, _, _, _, _, _, _, _, _, _, _, _, _, _, _, _, _, _, _, _, _, _, _, _, _, _, _, _, _, _, _, _, _, _, _, _, _, _, _, _, _, _, _, _, _, _, _, _, _, _, _, _, _, _, _, _, _, _, _, _, _, _, _, _, _, _, _, _, _, _, _, _, _, _, _, _, _, _, _, _, _, _, _, _, _, _, _, _, _, _, _, _, _, _, _, _, _, _, _, _, _, _, _, _, _, _, _, _, _], defers := _ } _
          refine wpAnyH_take (i := 4) (v := .slice (some ⟨gx, 0, none⟩) N N) rfl (by kernel_rfl) (by kernel_rfl) (by kernel_rfl) (fun _ _ _ h => h) (Or.inl ⟨by rfl, ?_⟩) H ?_
          · intro w' hSw; clear hSw; go_simp
          change wpAnyH _ _ _ _ _ _ _ { tmps := #[_, _, _, _, _, _, _, _, _, _, _, _, _, _, _, _, _, _, _, _, _, _, _, _, _, _, _, _, _, _, _, _, _, _, _, _, _, _, _, _, _, _, _, _, _, _, _, _, _, _, _, _, _, _, _, _, _, _, _, _, _, _, _, _, _, _, _, _, _, _, _, _, _, _, _, _, _, _, _, _, _, _, _, _, _, _, _, _, _, _, _, _, _, _, _, _, _, _, _, _, _, _, _, _, _, _, _, _, _, _, _, _, _, _, _, _, _, _, _, _, _, _, _, _, _, _, _, _, _, _, _, _, _, _, _, _, _, _, _, _], defers := _ } _
          refine wpAnyH_take (i := 5) (v := .int .i64 (N : Int)) rfl (by kernel_rfl) (by kernel_rfl) (by kernel_rfl) (fun _ _ _ h => h) (Or.inl ⟨by rfl, ?_⟩) H ?_
          · intro w' hSw; clear hSw; go_simp
          change wpAnyH _ _ _ _ _ _ _ { tmps := #[_, _, _, _, _, _, _, _, _, _, _, _, _, _, _, _, _, _, _, _, _, _, _, _, _, _, _, _, _, _, _, _, _, _, _, _, _, _, _, _, _, _, _, _, _, _, _, _, _, _, _, _, _, _, _, _, _, _, _, _, _, _, _, _, _, _, _, _, _, _, _, _, _, _, _, _, _, _, _, _, _, _, _, _, _, _, _, _, _, _, _, _, _, _, _, _, _, _, _, _, _, _, _, _, _, _, _, _, _, _, _, _, _, _, _, _, _, _, _, _, _, _, _, _, _, _, _, _, _, _, _, _, _, _, _, _, _, _, _, _], defers := _ } _
          refine wpAnyH_take (i := 6) (v := .bool true) rfl (by kernel_rfl) (by kernel_rfl) (by kernel_rfl) (fun _ _ _ h => h) (Or.inl ⟨by rfl, ?_⟩) H ?_
          · intro w' hSw; clear hSw; go_simp; try exact HKN.out
          change wpAnyH _ _ _ _ _ _ _ { tmps := #[_, _, _, _, _, _, _, _, _, _, _, _, _, _, _, _, _, _, _, _, _, _, _, _, _, _, _, _, _, _, _, _, _, _, _, _, _, _, _, _, _, _, _, _, _, _, _, _, _, _, _, _, _, _, _, _, _, _, _, _, _, _, _, _, _, _, _, _, _, _, _, _, _, _, _, _, _, _, _, _, _, _, _, _, _, _, _, _, _, _, _, _, _, _, _, _, _, _, _, _, _, _, _, _, _, _, _, _, _, _, _, _, _, _, _, _, _, _, _, _, _, _, _, _, _, _, _, _, _, _, _, _, _, _, _, _, _, _, _, _], defers := _ } _
          refine wpAnyH_ready (rs := [2]) (by kernel_rfl) (by simp) ?_
          refine AllReadyH.cons rfl (fun KK hK => ?_) AllReadyH.nil
          go_simp
          refine (HIF.out _ _ k _ HRR.out (WD.out.below H)).mono ?_
          rintro e x1 ⟨rfl, hb⟩
          replace H : Below wr.heap.size wr x1 := H.trans (hb.mono H.size)
          clear hb
          refine hK.out _ _ H (fun _ => ?_)
          clear hK KK
          change wpAnyH _ _ _ _ _ _ _ { tmps := #[_, _, _, _, _, _, _, _, _, _, _, _, _, _, _, _, _, _, _, _, _, _, _, _, _, _, _, _, _, _, _, _, _, _, _, _, _, _, _, _, _, _, _, _, _, _, _, _, _, _, _, _, _, _, _, _, _, _, _, _, _, _, _, _, _, _, _, _, _, _, _, _, _, _, _, _, _, _, _, _, _, _, _, _, _, _, _, _, _, _, _, _, _, _, _, _, _, _, _, _, _, _, _, _, _, _, _, _, _, _, _, _, _, _, _, _, _, _, _, _, _, _, _, _, _, _, _, _, _, _, _, _, _, _, _, _, _, _, _, _], defers := _ } _
          refine wpAnyH_take (i := 7) (v := .bool true) rfl (by kernel_rfl) (by kernel_rfl) (by kernel_rfl) (fun _ _ _ h => h) (Or.inl ⟨by rfl, ?_⟩) H ?_
          · intro w' hSw; clear hSw; go_simp
          change wpAnyH _ _ _ _ _ _ _ { tmps := #[_, _, _, _, _, _, _, _, _, _, _, _, _, _, _, _, _, _, _, _, _, _, _, _, _, _, _, _, _, _, _, _, _, _, _, _, _, _, _, _, _, _, _, _, _, _, _, _, _, _, _, _, _, _, _, _, _, _, _, _, _, _, _, _, _, _, _, _, _, _, _, _, _, _, _, _, _, _, _, _, _, _, _, _, _, _, _, _, _, _, _, _, _, _, _, _, _, _, _, _, _, _, _, _, _, _, _, _, _, _, _, _, _, _, _, _, _, _, _, _, _, _, _, _, _, _, _, _, _, _, _, _, _, _, _, _, _, _, _, _], defers := _ } _
          refine wpAnyH_take (i := 8) (v := .slice (some ⟨gx, 0, none⟩) N N) rfl (by kernel_rfl) (by kernel_rfl) (by kernel_rfl) (fun _ _ _ h => h) (Or.inl ⟨by rfl, ?_⟩) H ?_
          · intro w' hSw; clear hSw; go_simp
          change wpAnyH _ _ _ _ _ _ _ { tmps := #[_, _, _, _, _, _, _, _, _, _, _, _, _, _, _, _, _, _, _, _, _, _, _, _, _, _, _, _, _, _, _, _, _, _, _, _, _, _, _, _, _, _, _, _, _, _, _, _, _, _, _, _, _, _, _, _, _, _, _, _, _, _, _, _, _, _, _, _, _, _, _, _, _, _, _, _, _, _, _, _, _, _, _, _, _, _, _, _, _, _, _, _, _, _, _, _, _, _, _, _, _, _, _, _, _, _, _, _, _, _, _, _, _, _, _, _, _, _, _, _, _, _, _, _, _, _, _, _, _, _, _, _, _, _, _, _, _, _, _, _], defers := _ } _
          refine wpAnyH_take (i := 9) (v := .int .i64 (k : Int)) rfl (by kernel_rfl) (by kernel_rfl) (by kernel_rfl) (fun _ _ _ h => h) (Or.inl ⟨by rfl, ?_⟩) H ?_
          · intro w' hSw; clear hSw; go_simp
          change wpAnyH _ _ _ _ _ _ _ { tmps := #[_, _, _, _, _, _, _, _, _, _, _, _, _, _, _, _, _, _, _, _, _, _, _, _, _, _, _, _, _, _, _, _, _, _, _, _, _, _, _, _, _, _, _, _, _, _, _, _, _, _, _, _, _, _, _, _, _, _, _, _, _, _, _, _, _, _, _, _, _, _, _, _, _, _, _, _, _, _, _, _, _, _, _, _, _, _, _, _, _, _, _, _, _, _, _, _, _, _, _, _, _, _, _, _, _, _, _, _, _, _, _, _, _, _, _, _, _, _, _, _, _, _, _, _, _, _, _, _, _, _, _, _, _, _, _, _, _, _, _, _], defers := _ } _
          refine wpAnyH_take (i := 10) (v := .pointer (some ⟨gx, k, none⟩)) rfl (by kernel_rfl) (by kernel_rfl) (by kernel_rfl) (fun _ _ _ h => h) (Or.inl ⟨by rfl, ?_⟩) H ?_
          · intro w' hSw; clear hSw; go_simp
          change wpAnyH _ _ _ _ _ _ _ { tmps := #[_, _, _, _, _, _, _, _, _, _, _, _, _, _, _, _, _, _, _, _, _, _, _, _, _, _, _, _, _, _, _, _, _, _, _, _, _, _, _, _, _, _, _, _, _, _, _, _, _, _, _, _, _, _, _, _, _, _, _, _, _, _, _, _, _, _, _, _, _, _, _, _, _, _, _, _, _, _, _, _, _, _, _, _, _, _, _, _, _, _, _, _, _, _, _, _, _, _, _, _, _, _, _, _, _, _, _, _, _, _, _, _, _, _, _, _, _, _, _, _, _, _, _, _, _, _, _, _, _, _, _, _, _, _, _, _, _, _, _, _], defers := _ } _
          refine wpAnyH_take (i := 11) (v := .string V) rfl (by kernel_rfl) (by kernel_rfl) (by kernel_rfl) (fun _ _ _ h => h) (Or.inl ⟨by rfl, ?_⟩) H ?_
          · intro w' hSw; have q0 := (hSw.cell (strBlock d0)).trans d0; clear hSw; go_simp
          change wpAnyH _ _ _ _ _ _ _ { tmps := #[_, _, _, _, _, _, _, _, _, _, _, _, _, _, _, _, _, _, _, _, _, _, _, _, _, _, _, _, _, _, _, _, _, _, _, _, _, _, _, _, _, _, _, _, _, _, _, _, _, _, _, _, _, _, _, _, _, _, _, _, _, _, _, _, _, _, _, _, _, _, _, _, _, _, _, _, _, _, _, _, _, _, _, _, _, _, _, _, _, _, _, _, _, _, _, _, _, _, _, _, _, _, _, _, _, _, _, _, _, _, _, _, _, _, _, _, _, _, _, _, _, _, _, _, _, _, _, _, _, _, _, _, _, _, _, _, _, _, _, _], defers := _ } _
          refine wpAnyH_take (i := 12) (v := .slice (some ⟨gy, 0, none⟩) M M) rfl (by kernel_rfl) (by kernel_rfl) (by kernel_rfl) (fun _ _ _ h => h) (Or.inl ⟨by rfl, ?_⟩) H ?_
          · intro w' hSw; clear hSw; go_simp
          change wpAnyH _ _ _ _ _ _ _ { tmps := #[_, _, _, _, _, _, _, _, _, _, _, _, _, _, _, _, _, _, _, _, _, _, _, _, _, _, _, _, _, _, _, _, _, _, _, _, _, _, _, _, _, _, _, _, _, _, _, _, _, _, _, _, _, _, _, _, _, _, _, _, _, _, _, _, _, _, _, _, _, _, _, _, _, _, _, _, _, _, _, _, _, _, _, _, _, _, _, _, _, _, _, _, _, _, _, _, _, _, _, _, _, _, _, _, _, _, _, _, _, _, _, _, _, _, _, _, _, _, _, _, _, _, _, _, _, _, _, _, _, _, _, _, _, _, _, _, _, _, _, _], defers := _ } _
          refine wpAnyH_take (i := 13) (v := .int .i64 (k : Int)) rfl (by kernel_rfl) (by kernel_rfl) (by kernel_rfl) (fun _ _ _ h => h) (Or.inl ⟨by rfl, ?_⟩) H ?_
          · intro w' hSw; clear hSw; go_simp
          change wpAnyH _ _ _ _ _ _ _ { tmps := #[_, _, _, _, _, _, _, _, _, _, _, _, _, _, _, _, _, _, _, _, _, _, _, _, _, _, _, _, _, _, _, _, _, _, _, _, _, _, _, _, _, _, _, _, _, _, _, _, _, _, _, _, _, _, _, _, _, _, _, _, _, _, _, _, _, _, _, _, _, _, _, _, _, _, _, _, _, _, _, _, _, _, _, _, _, _, _, _, _, _, _, _, _, _, _, _, _, _, _, _, _, _, _, _, _, _, _, _, _, _, _, _, _, _, _, _, _, _, _, _, _, _, _, _, _, _, _, _, _, _, _, _, _, _, _, _, _, _, _, _], defers := _ } _
          refine wpAnyH_take (i := 14) (v := .pointer (some ⟨gy, k, none⟩)) rfl (by kernel_rfl) (by kernel_rfl) (by kernel_rfl) (fun _ _ _ h => h) (Or.inl ⟨by rfl, ?_⟩) H ?_
          · intro w' hSw; clear hSw; go_simp
          change wpAnyH _ _ _ _ _ _ _ { tmps := #[_, _, _, _, _, _, _, _, _, _, _, _, _, _, _, _, _, _, _, _, _, _, _, _, _, _, _, _, _, _, _, _, _, _, _, _, _, _, _, _, _, _, _, _, _, _, _, _, _, _, _, _, _, _, _, _, _, _, _, _, _, _, _, _, _, _, _, _, _, _, _, _, _, _, _, _, _, _, _, _, _, _, _, _, _, _, _, _, _, _, _, _, _, _, _, _, _, _, _, _, _, _, _, _, _, _, _, _, _, _, _, _, _, _, _, _, _, _, _, _, _, _, _, _, _, _, _, _, _, _, _, _, _, _, _, _, _, _, _, _], defers := _ } _
          refine wpAnyH_take (i := 15) (v := .string V) rfl (by kernel_rfl) (by kernel_rfl) (by kernel_rfl) (fun _ _ _ h => h) (Or.inl ⟨by rfl, ?_⟩) H ?_
          · intro w' hSw; have q0 := (hSw.cell (strBlock d1)).trans d1; clear hSw; go_simp
          change wpAnyH _ _ _ _ _ _ _ { tmps := #[_, _, _, _, _, _, _, _, _, _, _, _, _, _, _, _, _, _, _, _, _, _, _, _, _, _, _, _, _, _, _, _, _, _, _, _, _, _, _, _, _, _, _, _, _, _, _, _, _, _, _, _, _, _, _, _, _, _, _, _, _, _, _, _, _, _, _, _, _, _, _, _, _, _, _, _, _, _, _, _, _, _, _, _, _, _, _, _, _, _, _, _, _, _, _, _, _, _, _, _, _, _, _, _, _, _, _, _, _, _, _, _, _, _, _, _, _, _, _, _, _, _, _, _, _, _, _, _, _, _, _, _, _, _, _, _, _, _, _, _], defers := _ } _
          refine wpAnyH_take (i := 16) (v := .bool true) rfl (by kernel_rfl) (by kernel_rfl) (by kernel_rfl) (fun _ _ _ h => h) (Or.inl ⟨by rfl, ?_⟩) H ?_
          · intro w' hSw; clear hSw; go_simp
          change wpAnyH _ _ _ _ _ _ _ { tmps := #[_, _, _, _, _, _, _, _, _, _, _, _, _, _, _, _, _, _, _, _, _, _, _, _, _, _, _, _, _, _, _, _, _, _, _, _, _, _, _, _, _, _, _, _, _, _, _, _, _, _, _, _, _, _, _, _, _, _, _, _, _, _, _, _, _, _, _, _, _, _, _, _, _, _, _, _, _, _, _, _, _, _, _, _, _, _, _, _, _, _, _, _, _, _, _, _, _, _, _, _, _, _, _, _, _, _, _, _, _, _, _, _, _, _, _, _, _, _, _, _, _, _, _, _, _, _, _, _, _, _, _, _, _, _, _, _, _, _, _, _], defers := _ } _
          refine wpAnyH_take (i := 17) (v := .bool true) rfl (by kernel_rfl) (by kernel_rfl) (by kernel_rfl) (fun _ _ _ h => h) (Or.inl ⟨by rfl, ?_⟩) H ?_
          · intro w' hSw; clear hSw; go_simp
          change wpAnyH _ _ _ _ _ _ _ { tmps := #[_, _, _, _, _, _, _, _, _, _, _, _, _, _, _, _, _, _, _, _, _, _, _, _, _, _, _, _, _, _, _, _, _, _, _, _, _, _, _, _, _, _, _, _, _, _, _, _, _, _, _, _, _, _, _, _, _, _, _, _, _, _, _, _, _, _, _, _, _, _, _, _, _, _, _, _, _, _, _, _, _, _, _, _, _, _, _, _, _, _, _, _, _, _, _, _, _, _, _, _, _, _, _, _, _, _, _, _, _, _, _, _, _, _, _, _, _, _, _, _, _, _, _, _, _, _, _, _, _, _, _, _, _, _, _, _, _, _, _, _], defers := _ } _
          refine wpAnyH_take (i := 18) (v := .bool false) rfl (by kernel_rfl) (by kernel_rfl) (by kernel_rfl) (fun _ _ _ h => h) (Or.inl ⟨by rfl, ?_⟩) H ?_
          · intro w' hSw; clear hSw; go_simp
          change wpAnyH _ _ _ _ _ _ _ { tmps := #[_, _, _, _, _, _, _, _, _, _, _, _, _, _, _, _, _, _, _, _, _, _, _, _, _, _, _, _, _, _, _, _, _, _, _, _, _, _, _, _, _, _, _, _, _, _, _, _, _, _, _, _, _, _, _, _, _, _, _, _, _, _, _, _, _, _, _, _, _, _, _, _, _, _, _, _, _, _, _, _, _, _, _, _, _, _, _, _, _, _, _, _, _, _, _, _, _, _, _, _, _, _, _, _, _, _, _, _, _, _, _, _, _, _, _, _, _, _, _, _, _, _, _, _, _, _, _, _, _, _, _, _, _, _, _, _, _, _, _, _], defers := _ } _
          refine wpAnyH_done (by kernel_rfl) ?_ _
          refine NoPanic.normal ?_
          have HB2 : Hid (Below v11.heap.size v11 x1) := HB.out.trans (H.mono HB.out.size)
          clear H
          go_wp2
          go_roundw
          case rel => exact ⟨k + 1, by have := HK.out; omega, by go_num, HB2.out⟩
          case measure => have := HK.out; simp [intOf]; omega
        · have HRR : Hid (k < M ∧ DirtAt N F GG k) := ⟨hlt, HDK.2 (fun q => he q.2)⟩
          have he1 := textNeD he
          clear he hkn hlt hk hb HDK
          generalize F k = U at *
          generalize GG k = V at *
          go_wp2_with fail
          have H : Below wr.heap.size wr wr.drew := (Below.refl _ _).drew
          refine wp_region_noPanic ?_
          refine wp_region_held_drew (S := fun w' => Below wr.heap.size wr w') (by kernel_rfl) H (fun _ => ?_)
          generalize wr.drew = x0 at *
          refine wpAnyH_take (i := 0) (v := .slice ad LL xd) rfl (by kernel_rfl) (by kernel_rfl) (by kernel_rfl) (fun _ _ _ h => h) (Or.inl ⟨by rfl, ?_⟩) H ?_
          · intro w' hSw; clear hSw; go_simp
          change wpAnyH _ _ _ _ _ _ _ { tmps := #[_, _, _, _, _, _, _, _, _, _, _, _, _, _, _, _, _, _, _, _, _, _, _, _, _, _, _, _, _, _, _, _, _, _, _, _, _, _, _, _, _, _, _, _, _, _, _, _, _, _, _, _, _, _, _, _, _, _, _, _, _, _, _, _, _, _, _, _, _, _, _, _, _, _, _, _, _, _, _, _, _, _, _, _, _, _, _, _, _, _, _, _, _, _, _, _, _, _, _, _, _, _, _, _, _, _, _, _, _, _, _, _, _, _, _, _, _, _, _, _, _, _, _, _, _, _, _, _, _, _, _, _, _, _, _, _, _, _, _, _], defers := _ } _
          refine wpAnyH_take (i := 1) (v := .int .i64 (k : Int)) rfl (by kernel_rfl) (by kernel_rfl) (by kernel_rfl) (fun _ _ _ h => h) (Or.inl ⟨by rfl, ?_⟩) H ?_
          · intro w' hSw; clear hSw; go_simp
          change wpAnyH _ _ _ _ _ _ _ { tmps := #[_, _, _, _, _, _, _, _, _, _, _, _, _, _, _, _, _, _, _, _, _, _, _, _, _, _, _, _, _, _, _, _, _, _, _, _, _, _, _, _, _, _, _, _, _, _, _, _, _, _, _, _, _, _, _, _, _, _, _, _, _, _, _, _, _, _, _, _, _, _, _, _, _, _, _, _, _, _, _, _, _, _, _, _, _, _, _, _, _, _, _, _, _, _, _, _, _, _, _, _, _, _, _, _, _, _, _, _, _, _, _, _, _, _, _, _, _, _, _, _, _, _, _, _, _, _, _, _, _, _, _, _, _, _, _, _, _, _, _, _], defers := _ } _
          refine wpAnyH_take (i := 3) (v := .int .i64 (k : Int)) rfl (by kernel_rfl) (by kernel_rfl) (by kernel_rfl) (fun _ _ _ h => h) (Or.inl ⟨by rfl, ?_⟩) H ?_
          · intro w' hSw; clear hSw; go_simp
          change wpAnyH _ _ _ _ _ _ _ { tmps := #[_, _, _, _, _, _, _, _, _, _, _, _, _, _, _, _, _, _, _, _, _, _, _, _, _, _, _, _, _, _, _, _, _, _, _, _, _, _, _, _, _, _, _, _, _, _, _, _, _, _, _, _, _, _, _, _, _, _, _, _, _, _, _, _, _, _, _, _, _, _, _, _, _, _, _, _, _, _, _, _, _, _, _, _, _, _, _, _, _, _, _, _, _, _, _, _, _, _, _, _, _, _, _, _, _, _, _, _, _, _, _, _, _, _, _, _, _, _, _, _, _, _, _, _, _, _, _, _, _, _, _, _, _, _, _, _, _, _, _, _], defers := _ } _
          refine wpAnyH_take (i := 4) (v := .slice (some ⟨gx, 0, none⟩) N N) rfl (by kernel_rfl) (by kernel_rfl) (by kernel_rfl) (fun _ _ _ h => h) (Or.inl ⟨by rfl, ?_⟩) H ?_
          · intro w' hSw; clear hSw; go_simp
          change wpAnyH _ _ _ _ _ _ _ { tmps := #[_, _, _, _, _, _, _, _, _, _, _, _, _, _, _, _, _, _, _, _, _, _, _, _, _, _, _, _, _, _, _, _, _, _, _, _, _, _, _, _, _, _, _, _, _, _, _, _, _, _, _, _, _, _, _, _, _, _, _, _, _, _, _, _, _, _, _, _, _, _, _, _, _, _, _, _, _, _, _, _, _, _, _, _, _, _, _, _, _, _, _, _, _, _, _, _, _, _, _, _, _, _, _, _, _, _, _, _, _, _, _, _, _, _, _, _, _, _, _, _, _, _, _, _, _, _, _, _, _, _, _, _, _, _, _, _, _, _, _, _], defers := _ } _
          refine wpAnyH_take (i := 5) (v := .int .i64 (N : Int)) rfl (by kernel_rfl) (by kernel_rfl) (by kernel_rfl) (fun _ _ _ h => h) (Or.inl ⟨by rfl, ?_⟩) H ?_
          · intro w' hSw; clear hSw; go_simp
          change wpAnyH _ _ _ _ _ _ _ { tmps := #[_, _, _, _, _, _, _, _, _, _, _, _, _, _, _, _, _, _, _, _, _, _, _, _, _, _, _, _, _, _, _, _, _, _, _, _, _, _, _, _, _, _, _, _, _, _, _, _, _, _, _, _, _, _, _, _, _, _, _, _, _, _, _, _, _, _, _, _, _, _, _, _, _, _, _, _, _, _, _, _, _, _, _, _, _, _, _, _, _, _, _, _, _, _, _, _, _, _, _, _, _, _, _, _, _, _, _, _, _, _, _, _, _, _, _, _, _, _, _, _, _, _, _, _, _, _, _, _, _, _, _, _, _, _, _, _, _, _, _, _], defers := _ } _
          refine wpAnyH_take (i := 6) (v := .bool true) rfl (by kernel_rfl) (by kernel_rfl) (by kernel_rfl) (fun _ _ _ h => h) (Or.inl ⟨by rfl, ?_⟩) H ?_
          · intro w' hSw; clear hSw; go_simp; try exact HKN.out
          change wpAnyH _ _ _ _ _ _ _ { tmps := #[_, _, _, _, _, _, _, _, _, _, _, _, _, _, _, _, _, _, _, _, _, _, _, _, _, _, _, _, _, _, _, _, _, _, _, _, _, _, _, _, _, _, _, _, _, _, _, _, _, _, _, _, _, _, _, _, _, _, _, _, _, _, _, _, _, _, _, _, _, _, _, _, _, _, _, _, _, _, _, _, _, _, _, _, _, _, _, _, _, _, _, _, _, _, _, _, _, _, _, _, _, _, _, _, _, _, _, _, _, _, _, _, _, _, _, _, _, _, _, _, _, _, _, _, _, _, _, _, _, _, _, _, _, _, _, _, _, _, _, _], defers := _ } _
          refine wpAnyH_ready (rs := [2]) (by kernel_rfl) (by simp) ?_
          refine AllReadyH.cons rfl (fun KK hK => ?_) AllReadyH.nil
          go_simp
          refine (HIT.out _ _ k _ HRR.out (WD.out.below H)).mono ?_
          rintro e x1 ⟨rfl, hb⟩
          replace H : Below wr.heap.size wr x1 := H.trans (hb.mono H.size)
          clear hb
          refine hK.out _ _ H (fun _ => ?_)
          clear hK KK
          change wpAnyH _ _ _ _ _ _ _ { tmps := #[_, _, _, _, _, _, _, _, _, _, _, _, _, _, _, _, _, _, _, _, _, _, _, _, _, _, _, _, _, _, _, _, _, _, _, _, _, _, _, _, _, _, _, _, _, _, _, _, _, _, _, _, _, _, _, _, _, _, _, _, _, _, _, _, _, _, _, _, _, _, _, _, _, _, _, _, _, _, _, _, _, _, _, _, _, _, _, _, _, _, _, _, _, _, _, _, _, _, _, _, _, _, _, _, _, _, _, _, _, _, _, _, _, _, _, _, _, _, _, _, _, _, _, _, _, _, _, _, _, _, _, _, _, _, _, _, _, _, _, _], defers := _ } _
          refine wpAnyH_take (i := 7) (v := .bool true) rfl (by kernel_rfl) (by kernel_rfl) (by kernel_rfl) (fun _ _ _ h => h) (Or.inl ⟨by rfl, ?_⟩) H ?_
          · intro w' hSw; clear hSw; go_simp
          change wpAnyH _ _ _ _ _ _ _ { tmps := #[_, _, _, _, _, _, _, _, _, _, _, _, _, _, _, _, _, _, _, _, _, _, _, _, _, _, _, _, _, _, _, _, _, _, _, _, _, _, _, _, _, _, _, _, _, _, _, _, _, _, _, _, _, _, _, _, _, _, _, _, _, _, _, _, _, _, _, _, _, _, _, _, _, _, _, _, _, _, _, _, _, _, _, _, _, _, _, _, _, _, _, _, _, _, _, _, _, _, _, _, _, _, _, _, _, _, _, _, _, _, _, _, _, _, _, _, _, _, _, _, _, _, _, _, _, _, _, _, _, _, _, _, _, _, _, _, _, _, _, _], defers := _ } _
          refine wpAnyH_take (i := 8) (v := .slice (some ⟨gx, 0, none⟩) N N) rfl (by kernel_rfl) (by kernel_rfl) (by kernel_rfl) (fun _ _ _ h => h) (Or.inl ⟨by rfl, ?_⟩) H ?_
          · intro w' hSw; clear hSw; go_simp
          change wpAnyH _ _ _ _ _ _ _ { tmps := #[_, _, _, _, _, _, _, _, _, _, _, _, _, _, _, _, _, _, _, _, _, _, _, _, _, _, _, _, _, _, _, _, _, _, _, _, _, _, _, _, _, _, _, _, _, _, _, _, _, _, _, _, _, _, _, _, _, _, _, _, _, _, _, _, _, _, _, _, _, _, _, _, _, _, _, _, _, _, _, _, _, _, _, _, _, _, _, _, _, _, _, _, _, _, _, _, _, _, _, _, _, _, _, _, _, _, _, _, _, _, _, _, _, _, _, _, _, _, _, _, _, _, _, _, _, _, _, _, _, _, _, _, _, _, _, _, _, _, _, _], defers := _ } _
          refine wpAnyH_take (i := 9) (v := .int .i64 (k : Int)) rfl (by kernel_rfl) (by kernel_rfl) (by kernel_rfl) (fun _ _ _ h => h) (Or.inl ⟨by rfl, ?_⟩) H ?_
          · intro w' hSw; clear hSw; go_simp
          change wpAnyH _ _ _ _ _ _ _ { tmps := #[_, _, _, _, _, _, _, _, _, _, _, _, _, _, _, _, _, _, _, _, _, _, _, _, _, _, _, _, _, _, _, _, _, _, _, _, _, _, _, _, _, _, _, _, _, _, _, _, _, _, _, _, _, _, _, _, _, _, _, _, _, _, _, _, _, _, _, _, _, _, _, _, _, _, _, _, _, _, _, _, _, _, _, _, _, _, _, _, _, _, _, _, _, _, _, _, _, _, _, _, _, _, _, _, _, _, _, _, _, _, _, _, _, _, _, _, _, _, _, _, _, _, _, _, _, _, _, _, _, _, _, _, _, _, _, _, _, _, _, _], defers := _ } _
          refine wpAnyH_take (i := 10) (v := .pointer (some ⟨gx, k, none⟩)) rfl (by kernel_rfl) (by kernel_rfl) (by kernel_rfl) (fun _ _ _ h => h) (Or.inl ⟨by rfl, ?_⟩) H ?_
          · intro w' hSw; clear hSw; go_simp
          change wpAnyH _ _ _ _ _ _ _ { tmps := #[_, _, _, _, _, _, _, _, _, _, _, _, _, _, _, _, _, _, _, _, _, _, _, _, _, _, _, _, _, _, _, _, _, _, _, _, _, _, _, _, _, _, _, _, _, _, _, _, _, _, _, _, _, _, _, _, _, _, _, _, _, _, _, _, _, _, _, _, _, _, _, _, _, _, _, _, _, _, _, _, _, _, _, _, _, _, _, _, _, _, _, _, _, _, _, _, _, _, _, _, _, _, _, _, _, _, _, _, _, _, _, _, _, _, _, _, _, _, _, _, _, _, _, _, _, _, _, _, _, _, _, _, _, _, _, _, _, _, _, _], defers := _ } _
          refine wpAnyH_take (i := 11) (v := .string U) rfl (by kernel_rfl) (by kernel_rfl) (by kernel_rfl) (fun _ _ _ h => h) (Or.inl ⟨by rfl, ?_⟩) H ?_
          · intro w' hSw; have q0 := (hSw.cell (strBlock d0)).trans d0; clear hSw; go_simp
          change wpAnyH _ _ _ _ _ _ _ { tmps := #[_, _, _, _, _, _, _, _, _, _, _, _, _, _, _, _, _, _, _, _, _, _, _, _, _, _, _, _, _, _, _, _, _, _, _, _, _, _, _, _, _, _, _, _, _, _, _, _, _, _, _, _, _, _, _, _, _, _, _, _, _, _, _, _, _, _, _, _, _, _, _, _, _, _, _, _, _, _, _, _, _, _, _, _, _, _, _, _, _, _, _, _, _, _, _, _, _, _, _, _, _, _, _, _, _, _, _, _, _, _, _, _, _, _, _, _, _, _, _, _, _, _, _, _, _, _, _, _, _, _, _, _, _, _, _, _, _, _, _, _], defers := _ } _
          refine wpAnyH_take (i := 12) (v := .slice (some ⟨gy, 0, none⟩) M M) rfl (by kernel_rfl) (by kernel_rfl) (by kernel_rfl) (fun _ _ _ h => h) (Or.inl ⟨by rfl, ?_⟩) H ?_
          · intro w' hSw; clear hSw; go_simp
          change wpAnyH _ _ _ _ _ _ _ { tmps := #[_, _, _, _, _, _, _, _, _, _, _, _, _, _, _, _, _, _, _, _, _, _, _, _, _, _, _, _, _, _, _, _, _, _, _, _, _, _, _, _, _, _, _, _, _, _, _, _, _, _, _, _, _, _, _, _, _, _, _, _, _, _, _, _, _, _, _, _, _, _, _, _, _, _, _, _, _, _, _, _, _, _, _, _, _, _, _, _, _, _, _, _, _, _, _, _, _, _, _, _, _, _, _, _, _, _, _, _, _, _, _, _, _, _, _, _, _, _, _, _, _, _, _, _, _, _, _, _, _, _, _, _, _, _, _, _, _, _, _, _], defers := _ } _
          refine wpAnyH_take (i := 13) (v := .int .i64 (k : Int)) rfl (by kernel_rfl) (by kernel_rfl) (by kernel_rfl) (fun _ _ _ h => h) (Or.inl ⟨by rfl, ?_⟩) H ?_
          · intro w' hSw; clear hSw; go_simp
          change wpAnyH _ _ _ _ _ _ _ { tmps := #[_, _, _, _, _, _, _, _, _, _, _, _, _, _, _, _, _, _, _, _, _, _, _, _, _, _, _, _, _, _, _, _, _, _, _, _, _, _, _, _, _, _, _, _, _, _, _, _, _, _, _, _, _, _, _, _, _, _, _, _, _, _, _, _, _, _, _, _, _, _, _, _, _, _, _, _, _, _, _, _, _, _, _, _, _, _, _, _, _, _, _, _, _, _, _, _, _, _, _, _, _, _, _, _, _, _, _, _, _, _, _, _, _, _, _, _, _, _, _, _, _, _, _, _, _, _, _, _, _, _, _, _, _, _, _, _, _, _, _, _], defers := _ } _
          refine wpAnyH_take (i := 14) (v := .pointer (some ⟨gy, k, none⟩)) rfl (by kernel_rfl) (by kernel_rfl) (by kernel_rfl) (fun _ _ _ h => h) (Or.inl ⟨by rfl, ?_⟩) H ?_
          · intro w' hSw; clear hSw; go_simp
          change wpAnyH _ _ _ _ _ _ _ { tmps := #[_, _, _, _, _, _, _, _, _, _, _, _, _, _, _, _, _, _, _, _, _, _, _, _, _, _, _, _, _, _, _, _, _, _, _, _, _, _, _, _, _, _, _, _, _, _, _, _, _, _, _, _, _, _, _, _, _, _, _, _, _, _, _, _, _, _, _, _, _, _, _, _, _, _, _, _, _, _, _, _, _, _, _, _, _, _, _, _, _, _, _, _, _, _, _, _, _, _, _, _, _, _, _, _, _, _, _, _, _, _, _, _, _, _, _, _, _, _, _, _, _, _, _, _, _, _, _, _, _, _, _, _, _, _, _, _, _, _, _, _], defers := _ } _
          refine wpAnyH_take (i := 15) (v := .string V) rfl (by kernel_rfl) (by kernel_rfl) (by kernel_rfl) (fun _ _ _ h => h) (Or.inl ⟨by rfl, ?_⟩) H ?_
          · intro w' hSw; have q0 := (hSw.cell (strBlock d1)).trans d1; clear hSw; go_simp
          change wpAnyH _ _ _ _ _ _ _ { tmps := #[_, _, _, _, _, _, _, _, _, _, _, _, _, _, _, _, _, _, _, _, _, _, _, _, _, _, _, _, _, _, _, _, _, _, _, _, _, _, _, _, _, _, _, _, _, _, _, _, _, _, _, _, _, _, _, _, _, _, _, _, _, _, _, _, _, _, _, _, _, _, _, _, _, _, _, _, _, _, _, _, _, _, _, _, _, _, _, _, _, _, _, _, _, _, _, _, _, _, _, _, _, _, _, _, _, _, _, _, _, _, _, _, _, _, _, _, _, _, _, _, _, _, _, _, _, _, _, _, _, _, _, _, _, _, _, _, _, _, _, _], defers := _ } _
          refine wpAnyH_take (i := 16) (v := .bool false) rfl (by kernel_rfl) (by kernel_rfl) (by kernel_rfl) (fun _ _ _ h => h) (Or.inl ⟨by rfl, ?_⟩) H ?_
          · intro w' hSw; clear hSw; go_simp
          change wpAnyH _ _ _ _ _ _ _ { tmps := #[_, _, _, _, _, _, _, _, _, _, _, _, _, _, _, _, _, _, _, _, _, _, _, _, _, _, _, _, _, _, _, _, _, _, _, _, _, _, _, _, _, _, _, _, _, _, _, _, _, _, _, _, _, _, _, _, _, _, _, _, _, _, _, _, _, _, _, _, _, _, _, _, _, _, _, _, _, _, _, _, _, _, _, _, _, _, _, _, _, _, _, _, _, _, _, _, _, _, _, _, _, _, _, _, _, _, _, _, _, _, _, _, _, _, _, _, _, _, _, _, _, _, _, _, _, _, _, _, _, _, _, _, _, _, _, _, _, _, _, _], defers := _ } _
          refine wpAnyH_take (i := 17) (v := .bool false) rfl (by kernel_rfl) (by kernel_rfl) (by kernel_rfl) (fun _ _ _ h => h) (Or.inl ⟨by rfl, ?_⟩) H ?_
          · intro w' hSw; clear hSw; go_simp
          change wpAnyH _ _ _ _ _ _ _ { tmps := #[_, _, _, _, _, _, _, _, _, _, _, _, _, _, _, _, _, _, _, _, _, _, _, _, _, _, _, _, _, _, _, _, _, _, _, _, _, _, _, _, _, _, _, _, _, _, _, _, _, _, _, _, _, _, _, _, _, _, _, _, _, _, _, _, _, _, _, _, _, _, _, _, _, _, _, _, _, _, _, _, _, _, _, _, _, _, _, _, _, _, _, _, _, _, _, _, _, _, _, _, _, _, _, _, _, _, _, _, _, _, _, _, _, _, _, _, _, _, _, _, _, _, _, _, _, _, _, _, _, _, _, _, _, _, _, _, _, _, _, _], defers := _ } _
          refine wpAnyH_take (i := 18) (v := .bool false) rfl (by kernel_rfl) (by kernel_rfl) (by kernel_rfl) (fun _ _ _ h => h) (Or.inl ⟨by rfl, ?_⟩) H ?_
          · intro w' hSw; clear hSw; go_simp
          change wpAnyH _ _ _ _ _ _ _ { tmps := #[_, _, _, _, _, _, _, _, _, _, _, _, _, _, _, _, _, _, _, _, _, _, _, _, _, _, _, _, _, _, _, _, _, _, _, _, _, _, _, _, _, _, _, _, _, _, _, _, _, _, _, _, _, _, _, _, _, _, _, _, _, _, _, _, _, _, _, _, _, _, _, _, _, _, _, _, _, _, _, _, _, _, _, _, _, _, _, _, _, _, _, _, _, _, _, _, _, _, _, _, _, _, _, _, _, _, _, _, _, _, _, _, _, _, _, _, _, _, _, _, _, _, _, _, _, _, _, _, _, _, _, _, _, _, _, _, _, _, _, _], defers := _ } _
          refine wpAnyH_done (by kernel_rfl) ?_ _
          refine NoPanic.normal ?_
          have HB2 : Hid (Below v11.heap.size v11 x1) := HB.out.trans (H.mono HB.out.size)
          clear H
          go_wp2
          go_roundw
          case rel => exact ⟨k + 1, by have := HK.out; omega, by go_num, HB2.out⟩
          case measure => have := HK.out; simp [intOf]; omega
      · have HRR : Hid (k < M ∧ DirtAt N F GG k) := ⟨hlt, HDK.2 (fun q => hkn q.1)⟩
        have hkn' : ¬ (k : Int) < (N : Int) := by omega
        have HNK : Hid (N ≤ k) := by show N ≤ k; omega
        clear hkn hlt hk hb HDK
        go_wp2_with fail
        have H : Below wr.heap.size wr wr.drew := (Below.refl _ _).drew
        refine wp_region_noPanic ?_
        refine wp_region_held_drew (S := fun w' => Below wr.heap.size wr w') (by kernel_rfl) H (fun _ => ?_)
        generalize wr.drew = x0 at *
        refine wpAnyH_take (i := 0) (v := .slice ad LL xd) rfl (by kernel_rfl) (by kernel_rfl) (by kernel_rfl) (fun _ _ _ h => h) (Or.inl ⟨by rfl, ?_⟩) H ?_
        · intro w' hSw; clear hSw; go_simp
        change wpAnyH _ _ _ _ _ _ _ { tmps := #[_, _, _, _, _, _, _, _, _, _, _, _, _, _, _, _, _, _, _, _, _, _, _, _, _, _, _, _, _, _, _, _, _, _, _, _, _, _, _, _, _, _, _, _, _, _, _, _, _, _, _, _, _, _, _, _, _, _, _, _, _, _, _, _, _, _, _, _, _, _, _, _, _, _, _, _, _, _, _, _, _, _, _, _, _, _, _, _, _, _, _, _, _, _, _, _, _, _, _, _, _, _, _, _, _, _, _, _, _, _, _, _, _, _, _, _, _, _, _, _, _, _, _, _, _, _, _, _, _, _, _, _, _, _, _, _, _, _, _, _], defers := _ } _
        refine wpAnyH_take (i := 1) (v := .int .i64 (k : Int)) rfl (by kernel_rfl) (by kernel_rfl) (by kernel_rfl) (fun _ _ _ h => h) (Or.inl ⟨by rfl, ?_⟩) H ?_
        · intro w' hSw; clear hSw; go_simp
        change wpAnyH _ _ _ _ _ _ _ { tmps := #[_, _, _, _, _, _, _, _, _, _, _, _, _, _, _, _, _, _, _, _, _, _, _, _, _, _, _, _, _, _, _, _, _, _, _, _, _, _, _, _, _, _, _, _, _, _, _, _, _, _, _, _, _, _, _, _, _, _, _, _, _, _, _, _, _, _, _, _, _, _, _, _, _, _, _, _, _, _, _, _, _, _, _, _, _, _, _, _, _, _, _, _, _, _, _, _, _, _, _, _, _, _, _, _, _, _, _, _, _, _, _, _, _, _, _, _, _, _, _, _, _, _, _, _, _, _, _, _, _, _, _, _, _, _, _, _, _, _, _, _], defers := _ } _
        refine wpAnyH_take (i := 3) (v := .int .i64 (k : Int)) rfl (by kernel_rfl) (by kernel_rfl) (by kernel_rfl) (fun _ _ _ h => h) (Or.inl ⟨by rfl, ?_⟩) H ?_
        · intro w' hSw; clear hSw; go_simp
        change wpAnyH _ _ _ _ _ _ _ { tmps := #[_, _, _, _, _, _, _, _, _, _, _, _, _, _, _, _, _, _, _, _, _, _, _, _, _, _, _, _, _, _, _, _, _, _, _, _, _, _, _, _, _, _, _, _, _, _, _, _, _, _, _, _, _, _, _, _, _, _, _, _, _, _, _, _, _, _, _, _, _, _, _, _, _, _, _, _, _, _, _, _, _, _, _, _, _, _, _, _, _, _, _, _, _, _, _, _, _, _, _, _, _, _, _, _, _, _, _, _, _, _, _, _, _, _, _, _, _, _, _, _, _, _, _, _, _, _, _, _, _, _, _, _, _, _, _, _, _, _, _, _], defers := _ } _
        refine wpAnyH_take (i := 4) (v := .slice (some ⟨gx, 0, none⟩) N N) rfl (by kernel_rfl) (by kernel_rfl) (by kernel_rfl) (fun _ _ _ h => h) (Or.inl ⟨by rfl, ?_⟩) H ?_
        · intro w' hSw; clear hSw; go_simp
        change wpAnyH _ _ _ _ _ _ _ { tmps := #[_, _, _, _, _, _, _, _, _, _, _, _, _, _, _, _, _, _, _, _, _, _, _, _, _, _, _, _, _, _, _, _, _, _, _, _, _, _, _, _, _, _, _, _, _, _, _, _, _, _, _, _, _, _, _, _, _, _, _, _, _, _, _, _, _, _, _, _, _, _, _, _, _, _, _, _, _, _, _, _, _, _, _, _, _, _, _, _, _, _, _, _, _, _, _, _, _, _, _, _, _, _, _, _, _, _, _, _, _, _, _, _, _, _, _, _, _, _, _, _, _, _, _, _, _, _, _, _, _, _, _, _, _, _, _, _, _, _, _, _], defers := _ } _
        refine wpAnyH_take (i := 5) (v := .int .i64 (N : Int)) rfl (by kernel_rfl) (by kernel_rfl) (by kernel_rfl) (fun _ _ _ h => h) (Or.inl ⟨by rfl, ?_⟩) H ?_
        · intro w' hSw; clear hSw; go_simp
        change wpAnyH _ _ _ _ _ _ _ { tmps := #[_, _, _, _, _, _, _, _, _, _, _, _, _, _, _, _, _, _, _, _, _, _, _, _, _, _, _, _, _, _, _, _, _, _, _, _, _, _, _, _, _, _, _, _, _, _, _, _, _, _, _, _, _, _, _, _, _, _, _, _, _, _, _, _, _, _, _, _, _, _, _, _, _, _, _, _, _, _, _, _, _, _, _, _, _, _, _, _, _, _, _, _, _, _, _, _, _, _, _, _, _, _, _, _, _, _, _, _, _, _, _, _, _, _, _, _, _, _, _, _, _, _, _, _, _, _, _, _, _, _, _, _, _, _, _, _, _, _, _, _], defers := _ } _
        refine wpAnyH_take (i := 6) (v := .bool false) rfl (by kernel_rfl) (by kernel_rfl) (by kernel_rfl) (fun _ _ _ h => h) (Or.inl ⟨by rfl, ?_⟩) H ?_
        · intro w' hSw; clear hSw; go_simp; try exact HNK.out
        change wpAnyH _ _ _ _ _ _ _ { tmps := #[_, _, _, _, _, _, _, _, _, _, _, _, _, _, _, _, _, _, _, _, _, _, _, _, _, _, _, _, _, _, _, _, _, _, _, _, _, _, _, _, _, _, _, _, _, _, _, _, _, _, _, _, _, _, _, _, _, _, _, _, _, _, _, _, _, _, _, _, _, _, _, _, _, _, _, _, _, _, _, _, _, _, _, _, _, _, _, _, _, _, _, _, _, _, _, _, _, _, _, _, _, _, _, _, _, _, _, _, _, _, _, _, _, _, _, _, _, _, _, _, _, _, _, _, _, _, _, _, _, _, _, _, _, _, _, _, _, _, _, _], defers := _ } _
        refine wpAnyH_ready (rs := [2]) (by kernel_rfl) (by simp) ?_
        refine AllReadyH.cons rfl (fun KK hK => ?_) AllReadyH.nil
        go_simp
        refine (HIT.out _ _ k _ HRR.out (WD.out.below H)).mono ?_
        rintro e x1 ⟨rfl, hb⟩
        replace H : Below wr.heap.size wr x1 := H.trans (hb.mono H.size)
        clear hb
        refine hK.out _ _ H (fun _ => ?_)
        clear hK KK
        change wpAnyH _ _ _ _ _ _ _ { tmps := #[_, _, _, _, _, _, _, _, _, _, _, _, _, _, _, _, _, _, _, _, _, _, _, _, _, _, _, _, _, _, _, _, _, _, _, _, _, _, _, _, _, _, _, _, _, _, _, _, _, _, _, _, _, _, _, _, _, _, _, _, _, _, _, _, _, _, _, _, _, _, _, _, _, _, _, _, _, _, _, _, _, _, _, _, _, _, _, _, _, _, _, _, _, _, _, _, _, _, _, _, _, _, _, _, _, _, _, _, _, _, _, _, _, _, _, _, _, _, _, _, _, _, _, _, _, _, _, _, _, _, _, _, _, _, _, _, _, _, _, _], defers := _ } _
        refine wpAnyH_take (i := 7) (v := .bool false) rfl (by kernel_rfl) (by kernel_rfl) (by kernel_rfl) (fun _ _ _ h => h) (Or.inl ⟨by rfl, ?_⟩) H ?_
        · intro w' hSw; clear hSw; go_simp
        change wpAnyH _ _ _ _ _ _ _ { tmps := #[_, _, _, _, _, _, _, _, _, _, _, _, _, _, _, _, _, _, _, _, _, _, _, _, _, _, _, _, _, _, _, _, _, _, _, _, _, _, _, _, _, _, _, _, _, _, _, _, _, _, _, _, _, _, _, _, _, _, _, _, _, _, _, _, _, _, _, _, _, _, _, _, _, _, _, _, _, _, _, _, _, _, _, _, _, _, _, _, _, _, _, _, _, _, _, _, _, _, _, _, _, _, _, _, _, _, _, _, _, _, _, _, _, _, _, _, _, _, _, _, _, _, _, _, _, _, _, _, _, _, _, _, _, _, _, _, _, _, _, _], defers := _ } _
        refine wpAnyH_take (i := 8) (v := undef) rfl (by kernel_rfl) (by kernel_rfl) (by kernel_rfl) (fun _ _ _ h => h) (Or.inr ⟨by rfl, rfl⟩) H ?_
        change wpAnyH _ _ _ _ _ _ _ { tmps := #[_, _, _, _, _, _, _, _, _, _, _, _, _, _, _, _, _, _, _, _, _, _, _, _, _, _, _, _, _, _, _, _, _, _, _, _, _, _, _, _, _, _, _, _, _, _, _, _, _, _, _, _, _, _, _, _, _, _, _, _, _, _, _, _, _, _, _, _, _, _, _, _, _, _, _, _, _, _, _, _, _, _, _, _, _, _, _, _, _, _, _, _, _, _, _, _, _, _, _, _, _, _, _, _, _, _, _, _, _, _, _, _, _, _, _, _, _, _, _, _, _, _, _, _, _, _, _, _, _, _, _, _, _, _, _, _, _, _, _, _], defers := _ } _
        refine wpAnyH_take (i := 9) (v := undef) rfl (by kernel_rfl) (by kernel_rfl) (by kernel_rfl) (fun _ _ _ h => h) (Or.inr ⟨by rfl, rfl⟩) H ?_
        change wpAnyH _ _ _ _ _ _ _ { tmps := #[_, _, _, _, _, _, _, _, _, _, _, _, _, _, _, _, _, _, _, _, _, _, _, _, _, _, _, _, _, _, _, _, _, _, _, _, _, _, _, _, _, _, _, _, _, _, _, _, _, _, _, _, _, _, _, _, _, _, _, _, _, _, _, _, _, _, _, _, _, _, _, _, _, _, _, _, _, _, _, _, _, _, _, _, _, _, _, _, _, _, _, _, _, _, _, _, _, _, _, _, _, _, _, _, _, _, _, _, _, _, _, _, _, _, _, _, _, _, _, _, _, _, _, _, _, _, _, _, _, _, _, _, _, _, _, _, _, _, _, _], defers := _ } _
        refine wpAnyH_take (i := 10) (v := undef) rfl (by kernel_rfl) (by kernel_rfl) (by kernel_rfl) (fun _ _ _ h => h) (Or.inr ⟨by rfl, rfl⟩) H ?_
        change wpAnyH _ _ _ _ _ _ _ { tmps := #[_, _, _, _, _, _, _, _, _, _, _, _, _, _, _, _, _, _, _, _, _, _, _, _, _, _, _, _, _, _, _, _, _, _, _, _, _, _, _, _, _, _, _, _, _, _, _, _, _, _, _, _, _, _, _, _, _, _, _, _, _, _, _, _, _, _, _, _, _, _, _, _, _, _, _, _, _, _, _, _, _, _, _, _, _, _, _, _, _, _, _, _, _, _, _, _, _, _, _, _, _, _, _, _, _, _, _, _, _, _, _, _, _, _, _, _, _, _, _, _, _, _, _, _, _, _, _, _, _, _, _, _, _, _, _, _, _, _, _, _], defers := _ } _
        refine wpAnyH_take (i := 11) (v := undef) rfl (by kernel_rfl) (by kernel_rfl) (by kernel_rfl) (fun _ _ _ h => h) (Or.inr ⟨by rfl, rfl⟩) H ?_
        change wpAnyH _ _ _ _ _ _ _ { tmps := #[_, _, _, _, _, _, _, _, _, _, _, _, _, _, _, _, _, _, _, _, _, _, _, _, _, _, _, _, _, _, _, _, _, _, _, _, _, _, _, _, _, _, _, _, _, _, _, _, _, _, _, _, _, _, _, _, _, _, _, _, _, _, _, _, _, _, _, _, _, _, _, _, _, _, _, _, _, _, _, _, _, _, _, _, _, _, _, _, _, _, _, _, _, _, _, _, _, _, _, _, _, _, _, _, _, _, _, _, _, _, _, _, _, _, _, _, _, _, _, _, _, _, _, _, _, _, _, _, _, _, _, _, _, _, _, _, _, _, _, _], defers := _ } _
        refine wpAnyH_take (i := 12) (v := undef) rfl (by kernel_rfl) (by kernel_rfl) (by kernel_rfl) (fun _ _ _ h => h) (Or.inr ⟨by rfl, rfl⟩) H ?_
        change wpAnyH _ _ _ _ _ _ _ { tmps := #[_, _, _, _, _, _, _, _, _, _, _, _, _, _, _, _, _, _, _, _, _, _, _, _, _, _, _, _, _, _, _, _, _, _, _, _, _, _, _, _, _, _, _, _, _, _, _, _, _, _, _, _, _, _, _, _, _, _, _, _, _, _, _, _, _, _, _, _, _, _, _, _, _, _, _, _, _, _, _, _, _, _, _, _, _, _, _, _, _, _, _, _, _, _, _, _, _, _, _, _, _, _, _, _, _, _, _, _, _, _, _, _, _, _, _, _, _, _, _, _, _, _, _, _, _, _, _, _, _, _, _, _, _, _, _, _, _, _, _, _], defers := _ } _
        refine wpAnyH_take (i := 13) (v := undef) rfl (by kernel_rfl) (by kernel_rfl) (by kernel_rfl) (fun _ _ _ h => h) (Or.inr ⟨by rfl, rfl⟩) H ?_
        change wpAnyH _ _ _ _ _ _ _ { tmps := #[_, _, _, _, _, _, _, _, _, _, _, _, _, _, _, _, _, _, _, _, _, _, _, _, _, _, _, _, _, _, _, _, _, _, _, _, _, _, _, _, _, _, _, _, _, _, _, _, _, _, _, _, _, _, _, _, _, _, _, _, _, _, _, _, _, _, _, _, _, _, _, _, _, _, _, _, _, _, _, _, _, _, _, _, _, _, _, _, _, _, _, _, _, _, _, _, _, _, _, _, _, _, _, _, _, _, _, _, _, _, _, _, _, _, _, _, _, _, _, _, _, _, _, _, _, _, _, _, _, _, _, _, _, _, _, _, _, _, _, _], defers := _ } _
        refine wpAnyH_take (i := 14) (v := undef) rfl (by kernel_rfl) (by kernel_rfl) (by kernel_rfl) (fun _ _ _ h => h) (Or.inr ⟨by rfl, rfl⟩) H ?_
        change wpAnyH _ _ _ _ _ _ _ { tmps := #[_, _, _, _, _, _, _, _, _, _, _, _, _, _, _, _, _, _, _, _, _, _, _, _, _, _, _, _, _, _, _, _, _, _, _, _, _, _, _, _, _, _, _, _, _, _, _, _, _, _, _, _, _, _, _, _, _, _, _, _, _, _, _, _, _, _, _, _, _, _, _, _, _, _, _, _, _, _, _, _, _, _, _, _, _, _, _, _, _, _, _, _, _, _, _, _, _, _, _, _, _, _, _, _, _, _, _, _, _, _, _, _, _, _, _, _, _, _, _, _, _, _, _, _, _, _, _, _, _, _, _, _, _, _, _, _, _, _, _, _], defers := _ } _
        refine wpAnyH_take (i := 15) (v := undef) rfl (by kernel_rfl) (by kernel_rfl) (by kernel_rfl) (fun _ _ _ h => h) (Or.inr ⟨by rfl, rfl⟩) H ?_
        change wpAnyH _ _ _ _ _ _ _ { tmps := #[_, _, _, _, _, _, _, _, _, _, _, _, _, _, _, _, _, _, _, _, _, _, _, _, _, _, _, _, _, _, _, _, _, _, _, _, _, _, _, _, _, _, _, _, _, _, _, _, _, _, _, _, _, _, _, _, _, _, _, _, _, _, _, _, _, _, _, _, _, _, _, _, _, _, _, _, _, _, _, _, _, _, _, _, _, _, _, _, _, _, _, _, _, _, _, _, _, _, _, _, _, _, _, _, _, _, _, _, _, _, _, _, _, _, _, _, _, _, _, _, _, _, _, _, _, _, _, _, _, _, _, _, _, _, _, _, _, _, _, _], defers := _ } _
        refine wpAnyH_take (i := 16) (v := undef) rfl (by kernel_rfl) (by kernel_rfl) (by kernel_rfl) (fun _ _ _ h => h) (Or.inr ⟨by rfl, rfl⟩) H ?_
        change wpAnyH _ _ _ _ _ _ _ { tmps := #[_, _, _, _, _, _, _, _, _, _, _, _, _, _, _, _, _, _, _, _, _, _, _, _, _, _, _, _, _, _, _, _, _, _, _, _, _, _, _, _, _, _, _, _, _, _, _, _, _, _, _, _, _, _, _, _, _, _, _, _, _, _, _, _, _, _, _, _, _, _, _, _, _, _, _, _, _, _, _, _, _, _, _, _, _, _, _, _, _, _, _, _, _, _, _, _, _, _, _, _, _, _, _, _, _, _, _, _, _, _, _, _, _, _, _, _, _, _, _, _, _, _, _, _, _, _, _, _, _, _, _, _, _, _, _, _, _, _, _, _], defers := _ } _
        refine wpAnyH_take (i := 17) (v := .bool false) rfl (by kernel_rfl) (by kernel_rfl) (by kernel_rfl) (fun _ _ _ h => h) (Or.inl ⟨by rfl, ?_⟩) H ?_
        · intro w' hSw; clear hSw; go_simp
        change wpAnyH _ _ _ _ _ _ _ { tmps := #[_, _, _, _, _, _, _, _, _, _, _, _, _, _, _, _, _, _, _, _, _, _, _, _, _, _, _, _, _, _, _, _, _, _, _, _, _, _, _, _, _, _, _, _, _, _, _, _, _, _, _, _, _, _, _, _, _, _, _, _, _, _, _, _, _, _, _, _, _, _, _, _, _, _, _, _, _, _, _, _, _, _, _, _, _, _, _, _, _, _, _, _, _, _, _, _, _, _, _, _, _, _, _, _, _, _, _, _, _, _, _, _, _, _, _, _, _, _, _, _, _, _, _, _, _, _, _, _, _, _, _, _, _, _, _, _, _, _, _, _], defers := _ } _
        refine wpAnyH_take (i := 18) (v := .bool false) rfl (by kernel_rfl) (by kernel_rfl) (by kernel_rfl) (fun _ _ _ h => h) (Or.inl ⟨by rfl, ?_⟩) H ?_
        · intro w' hSw; clear hSw; go_simp
        change wpAnyH _ _ _ _ _ _ _ { tmps := #[_, _, _, _, _, _, _, _, _, _, _, _, _, _, _, _, _, _, _, _, _, _, _, _, _, _, _, _, _, _, _, _, _, _, _, _, _, _, _, _, _, _, _, _, _, _, _, _, _, _, _, _, _, _, _, _, _, _, _, _, _, _, _, _, _, _, _, _, _, _, _, _, _, _, _, _, _, _, _, _, _, _, _, _, _, _, _, _, _, _, _, _, _, _, _, _, _, _, _, _, _, _, _, _, _, _, _, _, _, _, _, _, _, _, _, _, _, _, _, _, _, _, _, _, _, _, _, _, _, _, _, _, _, _, _, _, _, _, _, _], defers := _ } _
        refine wpAnyH_done (by kernel_rfl) ?_ _
        refine NoPanic.normal ?_
        have HB2 : Hid (Below v11.heap.size v11 x1) := HB.out.trans (H.mono HB.out.size)
        clear H
        go_wp2
        go_roundw
        case rel => exact ⟨k + 1, by have := HK.out; omega, by go_num, HB2.out⟩
        case measure => have := HK.out; simp [intOf]; omega
    · obtain rfl : k = M := by omega
      have HB2 : Hid (Below w.heap.size w wr) := A1.out.trans (hb.mono A1.out.size)
      clear hb HB hlt hk
      go_wp2
      go_ret
      exact ⟨rfl, HB2.out⟩
end Go.Proofs.Ytonccbgolbcjfaa
