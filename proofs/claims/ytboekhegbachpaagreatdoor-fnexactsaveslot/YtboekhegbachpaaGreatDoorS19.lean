/-
  Texts of the proof, joined: Expand, ExpandS, KeyDefs, KeysOf, Forget.
-/
import Derived.Test.YtboekhegbachpaaGreatDoorS14
import Derived.Test.YtboekhegbachpaaGreatDoorS10
import Derived.Test.YtboekhegbachpaaGreatDoorS17
import Derived.Test.YtboekhegbachpaaGreatDoorS18
import Derived.ArgAppend
import Derived.Test.YtboekhegbachpaaGreatDoorS11
import Derived.Defers
import Derived.Test.YtboekhegbachpaaGreatDoorTkH
namespace Go.Proofs.YtboekhegbachpaaGreatDoor
open Go.ChangeShapes Go.WideShapes Go.ChangeAt Go.RowKit
theorem cat3 (n0 n1 n2 : Nat) (f0 f1 f2 : Nat → Nat) : catF (fun k => if k = 0 then n0 else if k = 1 then n1 else n2) (fun k => if k = 0 then f0 else if k = 1 then f1 else f2) 3 = Sha.cat n0 f0 (Sha.cat n1 f1 f2) := by
 show Sha.cat (0 + n0 + n1) (Sha.cat (0 + n0) (Sha.cat 0 (fun _ => 0) f0) f1) f2 = _
 funext j
 unfold Sha.cat
 simp only [Nat.zero_add, Nat.not_lt_zero, if_false, Nat.sub_zero]
 by_cases h0 : j < n0
 ·rw [if_pos (by omega), if_pos h0, if_pos h0]
 ·rw [if_neg h0]
  by_cases h1 : j < n0 + n1
  ·rw [if_pos h1, if_neg h0, if_pos (by omega)]
  ·rw [if_neg h1, if_neg h0, if_neg (show ¬ j - n0 < n1 by omega), show j - n0 - n1 = j - (n0 + n1) from by omega]
theorem concat3_any (a0 : Option Addr) (n0 c0 b1 o1 n1 c1 b2 o2 n2 c2 : Nat) (f0 f1 f2 : Nat → Nat) (hnil : (a0 = none ∧ n0 = 0 ∧ c0 = 0) ∨ ∃ b, a0 = some ⟨b, 0, none⟩) (h1 : 1 ≤ n2) (h2 : n0 + n1 + n2 ≤ 1000000) (w wb : World) (hwb : wb = w.alloc (.cells #[.slice a0 n0 c0, .slice (some ⟨b1, o1, none⟩) n1 c1, .slice (some ⟨b2, o2, none⟩) n2 c2] 84)) (k0 : Code8 w a0 n0 f0) (k1 : Code8 w (some ⟨b1, o1, none⟩) n1 f1) (k2 : Code8 w (some ⟨b2, o2, none⟩) n2 f2) :
  Calls Tryz.prog 90 #[.slice (some ⟨w.heap.size, 0, none⟩) 3 3] wb fun e w' => (∃ g c, e = .returned (.slice (some ⟨g, 0, none⟩) (n0 + n1 + n2) c) ∧ Own8 w' g (n0 + n1 + n2) (Sha.cat n0 f0 (Sha.cat n1 f1 f2))) ∧ Below w.heap.size w w' := by
 have hA : Below w.heap.size w wb := by rw [hwb]; exact (Below.refl _ _).alloc (Nat.le_refl _) _
 have P : Parts wb w.heap.size 3 (fun k => if k = 0 then a0 else if k = 1 then some ⟨b1, o1, none⟩ else some ⟨b2, o2, none⟩) (fun k => if k = 0 then n0 else if k = 1 then n1 else n2) (fun k => if k = 0 then c0 else if k = 1 then c1 else c2) (fun k => if k = 0 then f0 else if k = 1 then f1 else f2) := by
  refine ⟨fun k hk => ?_, fun k hk => ?_, fun k hk => ?_⟩
  ·rw [hwb, cell3 _ _ _ _ _ k hk]
   rcases (show k = 0 ∨ k = 1 ∨ k = 2 by omega) with rfl | rfl | rfl <;> simp
  ·rcases (show k = 0 ∨ k = 1 ∨ k = 2 by omega) with rfl | rfl | rfl
   ·exact k0.below hA
   ·exact k1.below hA
   ·exact k2.below hA
  ·rcases (show k = 0 ∨ k = 1 ∨ k = 2 by omega) with rfl | rfl | rfl
   ·rcases hnil with h | ⟨b, hb⟩
    ·exact .inl h
    ·exact .inr ⟨b, 0, hb⟩
   ·exact .inr ⟨_, _, rfl⟩
   ·exact .inr ⟨_, _, rfl⟩
 have hN : catN (fun k => if k = 0 then n0 else if k = 1 then n1 else n2) 3 = n0 + n1 + n2 := by show 0 + n0 + n1 + n2 = _; omega
 have := concatN_any w.heap.size 3 _ _ _ _ (by omega) (by rw [hN]; omega) (by rw [hN]; omega) _ P
 rw [hN, cat3] at this
 refine this.mono ?_
 rintro e w' ⟨⟨g, cc, rfl, ho⟩, hb'⟩
 obtain ⟨g', c', _, e', h8⟩ := own8_of_own ho (by intro e; cases e)
 cases e'
 exact ⟨⟨g, cc, rfl, h8⟩, hA.trans (hb'.mono hA.size)⟩
set_option maxRecDepth 100000 in
theorem run_convert_nil (w : World) : (convert 84 9 (.slice none 0 0)).run Tryz.prog w = .ok (.string ⟨#[]⟩) w := by
 rfl
def DSt (w0 w' : World) (K : Nat → Nat) : Prop := Row8 w' w0.heap.size 131 64 K ∧ Below w0.heap.size w0 w'
theorem DSt.below {w0 w' w'' : World} {K : Nat → Nat} (h : DSt w0 w' K) (hb : Below w'.heap.size w' w'') : DSt w0 w'' K := ⟨h.1.below hb, h.2.trans (hb.mono h.2.size)⟩
set_option maxRecDepth 100000 in
set_option maxHeartbeats 4000000 in
theorem drawn_any (K : Nat → Nat) (hK : ∀ i, K i < 256) (b o m c n : Nat) (g : Nat → Nat) (hg : ∀ i, g i < 256) (hm : m ≤ 65536) (hn : n ≤ 8160) (w : World) (h : Code8 w (some ⟨b, o, none⟩) m g) (ht : Tabs w) :
  Calls Tryz.prog 89 #[.agg (bA 64 K), .slice (some ⟨b, o, none⟩) m c, .int .i64 (n : Int)] w fun e w' => e = .returned (.string (kstr (Sha.drawnF K m g) 0 n)) ∧ Below w.heap.size w w' := by
 obtain ⟨i0, hi⟩ := info_parts Tryz.info8
 have HI : Hid (Tryz.prog.info? 5 = some i0 ∧ i0.zero = some (.int .u8 0) ∧ i0.size = 1 ∧ i0.bytes = 1) := hi
 have MC : Hid (∀ (i g' c : Nat) (w' : World), Own8 w' g' ((if i = 0 then 0 else 32) + m + 1) (Sha.cat (if i = 0 then 0 else 32) (Sha.drawnB K m g i) (Sha.cat m g (fun _ => (i + 1) % 256))) → Tabs w' → Calls Tryz.prog 88 #[.agg (bA 64 K), .slice (some ⟨g', 0, none⟩) ((if i = 0 then 0 else 32) + m + 1) c] w' fun e w'' => e = .returned (.string (kstr (Sha.drawnB K m g (i + 1)) 0 32)) ∧ Below w'.heap.size w' w'') := fun i g' c w' h8 ht => by
  have lB : ∀ j, Sha.drawnB K m g i j < 256 := by
   cases i with
   | zero => intro j; show 0 < 256; omega
   | succ i => intro j; exact Sha.mac_lt _ _ _ _
  exact mac_any K hK g' 0 _ c _ (Sha.cat_lt lB (Sha.cat_lt hg (fun _ => Nat.mod_lt _ (by omega)))) (by split <;> omega) w' h8.code ht
 have HC : Hid (Code8 w (some ⟨b, o, none⟩) m g) := h
 have HT : Hid (Tabs w) := ht
 have D0 : Hid (DSt w (w.alloc (.cells (bA 64 K) 131)) K) := ⟨Row8.boxedAt rfl _ _ _, (Below.refl _ _).alloc (Nat.le_refl _) _⟩
 have S0 : Hid (w.heap.size + 1 ≤ (w.alloc (.cells (bA 64 K) 131)).heap.size) := by show _ ≤ _; simp
 have EA : Hid ((bv 64 K).toArray = bA 64 K) := rfl
 have N0 : Hid ((w.alloc (.cells (bA 64 K) 131)).ownsRow (w.heap.size + 1) 5 1 (.slice none 0 0) 0 (bv 0 (Sha.drawnF K m g))) := ⟨rfl, .inl ⟨rfl, rfl⟩⟩
 clear h ht hg hK hi
 generalize bA 64 K = KA at *
 go_enter Tryz.func89, Tryz.ntmps89
 go_wp2
 generalize w.alloc (.cells KA 131) = w0 at *
 go_loopw [7, 8, 9] (fun s t i wr => ∃ (q : Nat) (a : Option Addr) (cc : Nat) (a2 : Option Addr) (n2 c2 : Nat), q ≤ 255 ∧ i = .int .i64 ((q + 1 : Nat) : Int) ∧ s = .slice a (32 * q) cc ∧ t = .slice a2 n2 c2 ∧ (n2 = if q = 0 then 0 else 32) ∧ Code8 wr a2 n2 (Sha.drawnB K m g q) ∧ ((a2 = none ∧ n2 = 0 ∧ c2 = 0) ∨ ∃ b, a2 = some ⟨b, 0, none⟩) ∧ wr.ownsRow (w.heap.size + 1) 5 1 (.slice a (32 * q) cc) (32 * q) (bv (32 * q) (Sha.drawnF K m g)) ∧ DSt w wr K ∧ w.heap.size + 1 ≤ wr.heap.size) (fun s _ _ _ => 9000 - lenH s)
 case atStart => exact ⟨0, none, 0, none, 0, 0, by omega, rfl, rfl, rfl, rfl, code8_zero _ _ _, .inl ⟨rfl, rfl, rfl⟩, N0.out, D0.out, S0.out⟩
 case round =>
  clear N0 D0 S0
  obtain ⟨q, a, cc, a2, n2, c2, hq, rfl, rfl, rfl, hn2, hk2, hnil2, hown, hd, hsz⟩ := hrel
  have HO : Hid (wr.ownsRow (w.heap.size + 1) 5 1 (.slice a (32 * q) cc) (32 * q) (bv (32 * q) (Sha.drawnF K m g))) := hown
  have HD : Hid (DSt w wr K) := hd
  have HK2 : Hid (Code8 wr a2 n2 (Sha.drawnB K m g q)) := hk2
  have HN2 : Hid (n2 = if q = 0 then 0 else 32) := hn2
  have HNL : Hid ((a2 = none ∧ n2 = 0 ∧ c2 = 0) ∨ ∃ b, a2 = some ⟨b, 0, none⟩) := hnil2
  have hn32 : n2 ≤ 32 := by rw [hn2]; split <;> omega
  clear hown hd hk2 hn2 hnil2
  by_cases hlt : 32 * q < n
  ·have hlt' : ((32 * q : Nat) : Int) < (n : Int) := by omega
   obtain ⟨L, hL⟩ : ∃ L, L = 32 * q := ⟨_, rfl⟩
   have HL : Hid (L = 32 * q) := hL
   rw [← hL] at HO hlt' ⊢
   clear hL
   obtain ⟨X, hX⟩ : ∃ X, X = (q + 1) % 256 := ⟨_, rfl⟩
   have eX : ((q + 1 : Nat) : Int) % 256 = (X : Int) := by omega
   have eX2 : ((q : Int) + 1) % 256 = (X : Int) := by omega
   have wX : IntKind.u8.wrap ((q + 1 : Nat) : Int) = (X : Int) := by show ((q + 1 : Nat) : Int) % 256 = _; omega
   have wX2 : IntKind.u8.wrap ((q : Int) + 1) = (X : Int) := by show ((q : Int) + 1) % 256 = _; omega
   have hqb : q ≤ 254 := by omega
   have MQ : Hid (∀ (g' c : Nat) (w' : World), Own8 w' g' (n2 + m + 1) (Sha.cat n2 (Sha.drawnB K m g q) (Sha.cat m g (fun _ => X))) → Tabs w' → Calls Tryz.prog 88 #[.agg KA, .slice (some ⟨g', 0, none⟩) (n2 + m + 1) c] w' fun e w'' => e = .returned (.string (kstr (Sha.drawnB K m g (q + 1)) 0 32)) ∧ Below w'.heap.size w' w'') := fun g' c w' h8 ht => by
    have := MC.out q g' c w' (by rw [← HN2.out, ← hX]; exact h8) ht
    rw [← HN2.out] at this
    exact this
   clear hX MC
   go_upto_region 5 with fail
   have H : DSt w wr.drew K := ⟨HD.out.1, HD.out.2.drew⟩
   refine wp_region_noPanic ?_
   refine wp_region_held_drew (S := fun w' => DSt w w' K) (by kernel_rfl) H (fun _ => ?_)
   have HOd : Hid (wr.drew.ownsRow (w.heap.size + 1) 5 1 (.slice a L cc) L (bv L (Sha.drawnF K m g))) := HO.out
   have HKd : Hid (Code8 wr.drew a2 n2 (Sha.drawnB K m g q)) := HK2.out
   have hszd : w.heap.size + 1 ≤ wr.drew.heap.size := hsz
   clear HO HK2 HD hsz
   generalize wr.drew = wd at *
   refine wpAnyH_take (i := 0) (v := .agg (bv 64 K).toArray) rfl (by kernel_rfl) (by kernel_rfl) (by kernel_rfl) (fun _ _ _ h => h) (yieldsIf_load_mid (by rfl) 131 (.tmp 3) rfl w.heap.size 0 rfl (bv 64 K) _ (fun w h => h.1.range) Tryz.underlying131 rfl (by rw [bv_length]; exact Tryz.sizeMk)) H ?_
   rw [EA.out]
   change wpAnyH _ _ _ _ _ _ _ { tmps := #[_,_,_,_,_,_,_,_,_,_,_,_,_,_,_,_,_,_,_,_,_,_,_,_,_,_,_,_,_,_,_,_,_], defers := [] } _
   refine tkH (i := 1) (v := .slice a2 n2 c2) rfl (by kernel_rfl) (by rfl) ?_ H ?_
   ·intro wq hSq; go_simp
   change wpAnyH _ _ _ _ _ _ _ { tmps := #[_,_,_,_,_,_,_,_,_,_,_,_,_,_,_,_,_,_,_,_,_,_,_,_,_,_,_,_,_,_,_,_,_], defers := [] } _
   refine tkH (i := 2) (v := .slice (some ⟨b, o, none⟩) m c) rfl (by kernel_rfl) (by rfl) ?_ H ?_
   ·intro wq hSq; go_simp
   change wpAnyH _ _ _ _ _ _ _ { tmps := #[_,_,_,_,_,_,_,_,_,_,_,_,_,_,_,_,_,_,_,_,_,_,_,_,_,_,_,_,_,_,_,_,_], defers := [] } _
   refine tkH (i := 3) (v := .int .i64 ((q + 1 : Nat) : Int)) rfl (by kernel_rfl) (by rfl) ?_ H ?_
   ·intro wq hSq; go_simp
   change wpAnyH _ _ _ _ _ _ _ { tmps := #[_,_,_,_,_,_,_,_,_,_,_,_,_,_,_,_,_,_,_,_,_,_,_,_,_,_,_,_,_,_,_,_,_], defers := [] } _
   refine tkH (i := 4) (v := .int .u8 (X : Int)) rfl (by kernel_rfl) (by rfl) ?_ H ?_
   ·intro wq hSq; go_simp
   change wpAnyH _ _ _ _ _ _ _ { tmps := #[_,_,_,_,_,_,_,_,_,_,_,_,_,_,_,_,_,_,_,_,_,_,_,_,_,_,_,_,_,_,_,_,_], defers := [] } _
   have BX : Below wd.heap.size wd (wd.alloc (.cells #[.int .u8 (X : Int)] 5)) := (Below.refl _ _).alloc (Nat.le_refl _) _
   have KX : Code8 (wd.alloc (.cells #[.int .u8 (X : Int)] 5)) (some ⟨wd.heap.size, 0, none⟩) 1 (fun _ => X) := fun i hi => ⟨_, 0, rfl, by rw [show 0 + i = 0 from by omega]; simp⟩
   refine wpAnyH_ready (rs := [5]) (by kernel_rfl) (by simp) ?_
   refine AllReadyH.cons rfl (fun KK hK => ?_) AllReadyH.nil
   go_simp
   replace H := DSt.below H BX
   refine hK.out _ _ H (fun _ => ?_)
   clear hK KK
   have HO5 : Hid ((wd.alloc (.cells #[.int .u8 (X : Int)] 5)).ownsRow (w.heap.size + 1) 5 1 (.slice a L cc) L (bv L (Sha.drawnF K m g))) := ownsRow_below8 HOd.out BX
   have HK5 : Hid (Code8 (wd.alloc (.cells #[.int .u8 (X : Int)] 5)) a2 n2 (Sha.drawnB K m g q)) := HKd.out.below BX
   have HX5 : Hid (Code8 (wd.alloc (.cells #[.int .u8 (X : Int)] 5)) (some ⟨wd.heap.size, 0, none⟩) 1 (fun _ => X)) := KX
   have hsz5 : w.heap.size + 1 ≤ (wd.alloc (.cells #[.int .u8 (X : Int)] 5)).heap.size := Nat.le_trans hszd BX.size
   clear BX KX HOd HKd hszd
   generalize wd.alloc (.cells #[.int .u8 (X : Int)] 5) = w5 at *
   generalize wd.heap.size = bX at *
   change wpAnyH _ _ _ _ _ _ _ { tmps := #[_,_,_,_,_,_,_,_,_,_,_,_,_,_,_,_,_,_,_,_,_,_,_,_,_,_,_,_,_,_,_,_,_], defers := [] } _
   have HI5 : Hid (Code8 w5 (some ⟨b, o, none⟩) m g) := HC.out.below H.2
   have CC : Hid (Calls Tryz.prog 90 #[.slice (some ⟨w5.heap.size, 0, none⟩) 3 3] (w5.alloc (.cells #[.slice a2 n2 c2, .slice (some ⟨b, o, none⟩) m c, .slice (some ⟨bX, 0, none⟩) 1 1] 84)) fun e w' => (∃ g' c, e = .returned (.slice (some ⟨g', 0, none⟩) (n2 + m + 1) c) ∧ Own8 w' g' (n2 + m + 1) (Sha.cat n2 (Sha.drawnB K m g q) (Sha.cat m g (fun _ => X)))) ∧ Below w5.heap.size w5 w') := concat3_any a2 n2 c2 b o m c bX 0 1 1 _ g (fun _ => X) HNL.out (by omega) (by omega) w5 _ rfl HK5.out HI5.out HX5.out
   refine wpAnyH_ready (rs := [6]) (by kernel_rfl) (by simp) ?_
   refine AllReadyH.cons rfl (fun KK hK => ?_) AllReadyH.nil
   go_simp
   refine hK.out _ _ (DSt.below H ((Below.refl _ _).alloc (Nat.le_refl _) _)) (fun _ => ?_)
   clear hK KK
   change wpAnyH _ _ _ _ _ _ _ { tmps := #[_,_,_,_,_,_,_,_,_,_,_,_,_,_,_,_,_,_,_,_,_,_,_,_,_,_,_,_,_,_,_,_,_], defers := [] } _
   refine wpAnyH_ready (rs := [7]) (by kernel_rfl) (by simp) ?_
   refine AllReadyH.cons rfl (fun KK hK => ?_) AllReadyH.nil
   go_simp
   refine CC.out.mono ?_
   rintro e w6 ⟨⟨g6, c6, rfl, ho6⟩, hb6⟩
   replace H := DSt.below H hb6
   have HO6 : Hid (w6.ownsRow (w.heap.size + 1) 5 1 (.slice a L cc) L (bv L (Sha.drawnF K m g))) := ownsRow_below8 HO5.out hb6
   have hsz6 : w.heap.size + 1 ≤ w6.heap.size := Nat.le_trans hsz5 hb6.size
   refine hK.out _ _ H (fun _ => ?_)
   clear hK KK hb6 CC HO5 HK5 HX5 HI5 hsz5
   change wpAnyH _ _ _ _ _ _ _ { tmps := #[_,_,_,_,_,_,_,_,_,_,_,_,_,_,_,_,_,_,_,_,_,_,_,_,_,_,_,_,_,_,_,_,_], defers := [] } _
   refine wpAnyH_ready (rs := [8]) (by kernel_rfl) (by simp) ?_
   refine AllReadyH.cons rfl (fun KK hK => ?_) AllReadyH.nil
   go_simp
   refine (MQ.out g6 c6 _ ho6 (HT.out.below H.2)).mono ?_
   rintro e w7 ⟨rfl, hb7⟩
   replace H := DSt.below H hb7
   have HO7 : Hid (w7.ownsRow (w.heap.size + 1) 5 1 (.slice a L cc) L (bv L (Sha.drawnF K m g))) := ownsRow_below8 HO6.out hb7
   have hsz7 : w.heap.size + 1 ≤ w7.heap.size := Nat.le_trans hsz6 hb7.size
   refine hK.out _ _ H (fun _ => ?_)
   clear hK KK hb7 HO6 hsz6 ho6 MQ
   change wpAnyH _ _ _ _ _ _ _ { tmps := #[_,_,_,_,_,_,_,_,_,_,_,_,_,_,_,_,_,_,_,_,_,_,_,_,_,_,_,_,_,_,_,_,_], defers := [] } _
   obtain ⟨R, hR⟩ : ∃ R, R = kstr (Sha.drawnB K m g (q + 1)) 0 32 := ⟨_, rfl⟩
   have hRs : R.size = 32 := by rw [hR]; exact kstr_size _ _ _
   have HRs : Hid (∀ j, j < 32 → strB R j = Sha.drawnB K m g (q + 1) j) := fun j hj => by
    rw [hR, strB_kstr _ 0 32 j (by rw [Nat.zero_add]; exact Sha.mac_lt _ _ _ _) hj, Nat.zero_add]
   rw [← hR]
   clear hR
   obtain ⟨w8, c8, hcv, hk8, hb8, _⟩ := bytesOfM R w7
   rw [hRs] at hcv hk8
   refine wpAnyH_ready (rs := [9]) (by kernel_rfl) (by simp) ?_
   refine AllReadyH.cons rfl (fun KK hK => ?_) AllReadyH.nil
   go_simp
   replace H := DSt.below H hb8
   have HO8 : Hid (w8.ownsRow (w.heap.size + 1) 5 1 (.slice a L cc) L (bv L (Sha.drawnF K m g))) := ownsRow_below8 HO7.out hb8
   have HK8 : Hid (Code8 w8 (some ⟨w7.heap.size, 0, none⟩) 32 (Sha.drawnB K m g (q + 1))) := hk8.congr HRs.out
   have hsz8 : w.heap.size + 1 ≤ w8.heap.size := Nat.le_trans hsz7 hb8.size
   have HOB : Hid (∀ k, (Value.slice a L cc).ownBlock = some k → k < w7.heap.size) := fun k hk => (HO7.out.lt k hk).2
   refine hK.out _ _ H (fun _ => ?_)
   clear hK KK hb8 HO7 hcv hk8
   generalize w7.heap.size = b8 at *
   change wpAnyH _ _ _ _ _ _ _ { tmps := #[_,_,_,_,_,_,_,_,_,_,_,_,_,_,_,_,_,_,_,_,_,_,_,_,_,_,_,_,_,_,_,_,_], defers := [] } _
   refine tkH (i := 10) (v := .slice (some ⟨b8, 0, none⟩) 32 c8) rfl (by kernel_rfl) (by rfl) ?_ H ?_
   ·intro wq hSq; go_simp
   change wpAnyH _ _ _ _ _ _ _ { tmps := #[_,_,_,_,_,_,_,_,_,_,_,_,_,_,_,_,_,_,_,_,_,_,_,_,_,_,_,_,_,_,_,_,_], defers := [] } _
   refine wpAnyH_done (by kernel_rfl) ?_ _
   refine NoPanic.normal ?_
   have HD8 : Hid (DSt w w8 K) := H
   clear H
   go_wp2_with (at_builtin; refine wpList_append_own _ rfl _ _ 84 rfl (w.heap.size + 1) 5 i0 (.int .u8 0) 1 1 Tryz.underlying84 HI.out.1 HI.out.2.1 HI.out.2.2.1 HI.out.2.2.2 rfl (by decide) (.slice a L cc) L _ rfl HO8.out ⟨b8, 0, none⟩ 32 c8 (bv 32 (Sha.drawnB K m g (q + 1))) rfl (by rw [bv_length]) (bv_news HK8.out) (bv_one _ _) (by unfold maxLen; omega) (by omega) hsz8 ?_)
   intro v' w9 hown hgrow hnil
   have BG : Below (w.heap.size + 1) w8 w9 := grown_below HO8.out hgrow hsz8
   have EB : bv L (Sha.drawnF K m g) ++ bv 32 (Sha.drawnB K m g (q + 1)) = bv (L + 32) (Sha.drawnF K m g) := by
    rw [bv_append]
    refine bv_congr (fun i hi => ?_)
    have hL := HL.out
    by_cases hi2 : i < L
    ·rw [if_pos hi2]
    ·rw [if_neg hi2]
     unfold Sha.drawnF
     rw [show i / 32 + 1 = q + 1 from by omega, show i % 32 = i - L from by omega]
   rw [EB] at hown
   have hne : v' ≠ .slice none 0 0 := fun h => by
    have := hown.1
    subst h
    rcases hown.2 with ⟨_, h0⟩ | ⟨g', cap', cur, h0, _⟩
    ·omega
    ·cases h0
   obtain ⟨g9, c9, hgc9, rfl, -⟩ := own8_of_own hown hne
   have HO9 : Hid (w9.ownsRow (w.heap.size + 1) 5 1 (.slice (some ⟨g9, 0, none⟩) (L + 32) c9) (L + 32) (bv (L + 32) (Sha.drawnF K m g))) := hown
   have hb8lt : b8 < w8.heap.size := HK8.out.lt _ (by omega) rfl
   have HK9 : Hid (Code8 w9 (some ⟨b8, 0, none⟩) 32 (Sha.drawnB K m g (q + 1))) := HK8.out.grown hgrow (fun e => absurd (HOB.out b8 e.symm) (by omega))
   have HD9 : Hid (DSt w w9 K) := ⟨World.rowIs.of_block HD8.out.1 (BG.block _ (by omega)), HD8.out.2.trans (BG.mono (by omega))⟩
   have HS9 : Hid (w.heap.size + 1 ≤ w9.heap.size) := Nat.le_trans hsz8 BG.size
   have HL2 : Hid (32 * (q + 1) = L + 32) := by show _ = _; have := HL.out; omega
   clear hown hgrow hnil BG HO8 HK8 HD8 EB hne HOB
   go_wp2
   go_roundw
   case rel => exact ⟨q + 1, some ⟨g9, 0, none⟩, c9, some ⟨b8, 0, none⟩, 32, c8, by omega, by go_num, by rw [HL2.out], rfl, by rw [if_neg (by omega)], HK9.out, .inr ⟨b8, rfl⟩, by rw [HL2.out]; exact HO9.out, HD9.out, HS9.out⟩
   case measure => simp [lenH]; have := HL.out; omega
  ·have hlt' : ¬ ((32 * q : Nat) : Int) < (n : Int) := by omega
   clear MC HK2 HN2 HNL HC HT
   rcases Nat.eq_zero_or_pos q with rfl | hq0
   ·obtain rfl : n = 0 := by omega
    have HBB : Hid (Below w.heap.size w wr) := HD.out.2
    have HK0 : Hid (kstr (Sha.drawnF K m g) 0 0 = ⟨#[]⟩) := rfl
    rcases HO.out.2 with ⟨h0, _⟩ | ⟨g9, c9, cur, h0, _⟩
    ·cases h0
     have cv : (convert 84 9 (.slice none 0 0)).run Tryz.prog wr = .ok (.string ⟨#[]⟩) wr := run_convert_nil wr
     clear HO HD
     go_wp2
     go_ret
     exact ⟨by rw [HK0.out]; rfl, HBB.out⟩
    ·cases h0
     have cv : (convert 84 9 (.slice (some ⟨g9, 0, none⟩) 0 cc)).run Tryz.prog wr = .ok (.string ⟨#[]⟩) wr := kstr_of_code (c := cc) (code8_of (f := fun _ => 0) (fun i hi => absurd hi (by omega)))
     clear HO HD
     go_wp2
     go_ret
     exact ⟨by rw [HK0.out]; rfl, HBB.out⟩
   ·obtain ⟨g9, c9, ⟨hg9, hc9⟩, e9, ho9⟩ := own8_of_owned HO.out (by omega)
    cases e9
    have cv := kstr_of_code (c := cc) (ho9.part (n' := n) (by omega)).code
    have x1 : (n : Int) ≤ (cc : Int) := by omega
    have x0 : (0 : Int) ≤ (n : Int) := by omega
    have HBB : Hid (Below w.heap.size w wr) := HD.out.2
    generalize hRR : kstr (Sha.drawnF K m g) 0 n = RR at cv
    have HRR : Hid (kstr (Sha.drawnF K m g) 0 n = RR) := hRR
    clear hRR HO ho9 HD hg9
    go_wp2
    go_ret
    exact ⟨by rw [HRR.out]; rfl, HBB.out⟩
end Go.Proofs.YtboekhegbachpaaGreatDoor
namespace Go.Proofs.YtboekhegbachpaaGreatDoor
open Go.ChangeShapes Go.WideShapes Go.ChangeAt Go.RowKit
def lastS (K : Nat → Nat) (m : Nat) (g : Nat → Nat) (q : Nat) : ByteArray := kstr (Sha.drawnB K m g q) 0 (if q = 0 then 0 else 32)
theorem kstr_none (f : Nat → Nat) (o : Nat) : kstr f o 0 = ⟨#[]⟩ := rfl
theorem lastS_zero (K : Nat → Nat) (m : Nat) (g : Nat → Nat) : lastS K m g 0 = ⟨#[]⟩ := by unfold lastS; rw [if_pos rfl]; rfl
theorem lastS_succ (K : Nat → Nat) (m : Nat) (g : Nat → Nat) (q : Nat) : lastS K m g (q + 1) = kstr (Sha.drawnB K m g (q + 1)) 0 32 := by unfold lastS; rw [if_neg (by omega)]
theorem drawnB_succ (K : Nat → Nat) (m : Nat) (g : Nat → Nat) (q : Nat) : Sha.drawnB K m g (q + 1) = Sha.mac K ((if q = 0 then 0 else 32) + m + 1) (Sha.cat (if q = 0 then 0 else 32) (Sha.drawnB K m g q) (Sha.cat m g (fun _ => (q + 1) % 256))) := rfl
theorem out_grow (K : Nat → Nat) (m : Nat) (g : Nat → Nat) (q : Nat) : kstr (Sha.drawnF K m g) 0 (32 * q) ++ lastS K m g (q + 1) = kstr (Sha.drawnF K m g) 0 (32 * (q + 1)) := by
 have e : kstr (Sha.drawnB K m g (q + 1)) 0 32 = kstr (Sha.drawnF K m g) (0 + 32 * q) 32 := kstr_congr (fun i hi => by
  unfold Sha.drawnF
  rw [show (0 + 32 * q + i) / 32 + 1 = q + 1 from by omega, show (0 + 32 * q + i) % 32 = 0 + i from by omega])
 have := kstr_append (Sha.drawnF K m g) 0 (32 * q) 32
 rw [lastS_succ, e, this]
 rfl
set_option maxRecDepth 100000 in
set_option maxHeartbeats 4000000 in
theorem l03Expand_any (k : ByteArray) (hk : k.size ≤ 65536) (b o m c n : Nat) (g : Nat → Nat) (hg : ∀ i, g i < 256) (hm : m ≤ 65536) (hn : n ≤ 8160) (w : World) (h : Code8 w (some ⟨b, o, none⟩) m g) :
  Calls Tryz.prog 82 #[.string k, .slice (some ⟨b, o, none⟩) m c, .int .i64 (n : Int)] w fun e w' => e = .returned (.string (kstr (Sha.drawnF (Sha.keyF k.size (strB k)) m g) 0 n)) ∧ Below w.heap.size w w' := by
 obtain ⟨K, hK⟩ : ∃ K, K = Sha.keyF k.size (strB k) := ⟨_, rfl⟩
 rw [← hK]
 have HC : Hid (Code8 w (some ⟨b, o, none⟩) m g) := h
 have MC : Hid (∀ (q kb kc g' c' : Nat) (w' : World), Code8 w' (some ⟨kb, 0, none⟩) k.size (strB k) → Code8 w' (some ⟨g', 0, none⟩) ((if q = 0 then 0 else 32) + m + 1) (Sha.cat (if q = 0 then 0 else 32) (Sha.drawnB K m g q) (Sha.cat m g (fun _ => (q + 1) % 256))) → Calls Tryz.prog 83 #[.slice (some ⟨kb, 0, none⟩) k.size kc, .slice (some ⟨g', 0, none⟩) ((if q = 0 then 0 else 32) + m + 1) c'] w' fun e w'' => e = .returned (.string (lastS K m g (q + 1))) ∧ Below w'.heap.size w' w'') := fun q kb kc g' c' w' h0 h1 => by
  have lB : ∀ j, Sha.drawnB K m g q j < 256 := by
   cases q with
   | zero => intro j; show 0 < 256; omega
   | succ q => intro j; exact Sha.mac_lt _ _ _ _
  have := l03Hmac_any kb 0 k.size kc g' 0 _ c' (strB k) _ (strB_lt k) (Sha.cat_lt lB (Sha.cat_lt hg (fun _ => Nat.mod_lt _ (by omega)))) (by omega) (by split <;> omega) w' h0 h1
  unfold macS at this
  rw [← hK, ← drawnB_succ, ← lastS_succ] at this
  exact this
 clear h hg hK
 go_enter Tryz.func82, Tryz.ntmps82
 go_wp2
 go_loopw [7, 8, 9] (fun s t i wr => ∃ q : Nat, q ≤ 255 ∧ i = .int .i64 ((q + 1 : Nat) : Int) ∧ s = .string (kstr (Sha.drawnF K m g) 0 (32 * q)) ∧ t = .string (lastS K m g q) ∧ Below w.heap.size w wr) (fun _ _ i _ => 9000 - (intOf i).toNat)
 case atStart => exact ⟨0, by omega, rfl, by rw [Nat.mul_zero, kstr_none], by rw [lastS_zero], Below.refl _ _⟩
 case round =>
  obtain ⟨q, hq, rfl, rfl, rfl, hb⟩ := hrel
  have HB : Hid (Below w.heap.size w wr) := hb
  clear hb
  have hsO : (kstr (Sha.drawnF K m g) 0 (32 * q)).size = 32 * q := kstr_size _ _ _
  by_cases hlt : 32 * q < n
  ·have hlt' : ((32 * q : Nat) : Int) < (n : Int) := by omega
   obtain ⟨n0, hn0⟩ : ∃ n0, n0 = if q = 0 then 0 else 32 := ⟨_, rfl⟩
   have hn32 : n0 ≤ 32 := by rw [hn0]; split <;> omega
   have hsL : (lastS K m g q).size = n0 := by rw [hn0]; exact kstr_size _ _ _
   have HFL : Hid (∀ j, j < n0 → strB (lastS K m g q) j = Sha.drawnB K m g q j) := fun j hj => by
    have lB : ∀ j, Sha.drawnB K m g q j < 256 := by
     cases q with
     | zero => intro j; show 0 < 256; omega
     | succ q => intro j; exact Sha.mac_lt _ _ _ _
    unfold lastS
    rw [← hn0, strB_kstr _ 0 n0 j (by rw [Nat.zero_add]; exact lB j) hj, Nat.zero_add]
   obtain ⟨X, hX⟩ : ∃ X, X = (q + 1) % 256 := ⟨_, rfl⟩
   have wX : IntKind.u8.wrap ((q + 1 : Nat) : Int) = (X : Int) := by show ((q + 1 : Nat) : Int) % 256 = _; omega
   have wX2 : ((q : Int) + 1) % 256 = (X : Int) := by omega
   have MQ : Hid (∀ (kb kc g' c' : Nat) (w' : World), Code8 w' (some ⟨kb, 0, none⟩) k.size (strB k) → Code8 w' (some ⟨g', 0, none⟩) (n0 + m + 1) (Sha.cat n0 (Sha.drawnB K m g q) (Sha.cat m g (fun _ => X))) → Calls Tryz.prog 83 #[.slice (some ⟨kb, 0, none⟩) k.size kc, .slice (some ⟨g', 0, none⟩) (n0 + m + 1) c'] w' fun e w'' => e = .returned (.string (lastS K m g (q + 1))) ∧ Below w'.heap.size w' w'') := fun kb kc g' c' w' h0 h1 => by
    have := MC.out q kb kc g' c' w' h0 (by rw [← hn0, ← hX]; exact h1)
    rw [← hn0] at this
    exact this
   have HAP : Hid (kstr (Sha.drawnF K m g) 0 (32 * q) ++ lastS K m g (q + 1) = kstr (Sha.drawnF K m g) 0 (32 * (q + 1))) := out_grow K m g q
   have hsN : (lastS K m g (q + 1)).size = 32 := by rw [lastS_succ]; exact kstr_size _ _ _
   have hqb : q ≤ 254 := by omega
   have HXq : Hid ((q : Int) + 1 = (X : Int)) := by show _ = _; omega
   clear hn0 hX MC wX wX2
   generalize hOS : kstr (Sha.drawnF K m g) 0 (32 * q) = OS at *
   generalize hLN : lastS K m g (q + 1) = LN at *
   have HLN : Hid (lastS K m g (q + 1) = LN) := hLN
   clear hLN
   generalize lastS K m g q = LS at *
   clear hOS
   obtain ⟨wa, kc, hcv1, hk1, hb1, _⟩ := bytesOfM k wr
   obtain ⟨wb, lc, hcv2, hk2, hb2⟩ := bytesOfR LS wa
   rw [hsL] at hcv2 hk2
   have HBb : Hid (Below w.heap.size w wb) := (HB.out.trans (hb1.mono HB.out.size)).trans (hb2.mono (Nat.le_trans HB.out.size hb1.size))
   have hKb : Code8 wb (some ⟨wr.heap.size, 0, none⟩) k.size (strB k) := hk1.below hb2
   have hIb : Code8 wb (some ⟨b, o, none⟩) m g := HC.out.below HBb.out
   obtain ⟨g3, c3, w3, hap1, hr3, hb3, hB3⟩ := appendM wb wa.heap.size wa.heap.size n0 lc _ b o m c g (Nat.le_refl _) hb2.size (by omega) (hk2.congr HFL.out) hIb 84
   have hK3 : Code8 w3 (some ⟨wr.heap.size, 0, none⟩) k.size (strB k) := hKb.belowO hb3 hk1.lt
   have hA4 : Below w3.heap.size w3 (w3.alloc (.cells #[.int .u8 ((q : Int) + 1)] 5)) := (Below.refl _ _).alloc (Nat.le_refl _) _
   have hs3 : wa.heap.size ≤ w3.heap.size := Nat.le_trans hb2.size hb3.size
   have hX4 : Code8 (w3.alloc (.cells #[.int .u8 ((q : Int) + 1)] 5)) (some ⟨w3.heap.size, 0, none⟩) 1 (fun _ => X) := fun i hi => ⟨_, 0, rfl, by rw [show 0 + i = 0 from by omega, ← HXq.out]; simp⟩
   obtain ⟨g5, c5, w5, hap2, hr5, hb5, _⟩ := appendM (w3.alloc (.cells #[.int .u8 ((q : Int) + 1)] 5)) wa.heap.size g3 (n0 + m) c3 _ w3.heap.size 0 1 1 (fun _ => X) hB3 (Nat.le_trans hs3 hA4.size) (by omega) (hr3.below hA4) hX4 84
   have HM5 : Hid (Code8 w5 (some ⟨g5, 0, none⟩) (n0 + m + 1) (Sha.cat n0 (Sha.drawnB K m g q) (Sha.cat m g (fun _ => X)))) := hr5.code.congr (fun i hi => by
    unfold Sha.cat
    by_cases h0 : i < n0
    ·rw [if_pos (by omega), if_pos h0, if_pos h0]
    ·by_cases h1 : i < n0 + m
     ·rw [if_pos h1, if_neg h0, if_neg h0, if_pos (by omega)]
     ·rw [if_neg h1, if_neg h0, if_neg (show ¬ i - n0 < m by omega)])
   have HK5 : Hid (Code8 w5 (some ⟨wr.heap.size, 0, none⟩) k.size (strB k)) := (hK3.below hA4).belowO hb5 hk1.lt
   have hwa : w.heap.size ≤ wa.heap.size := Nat.le_trans HB.out.size hb1.size
   have HB5 : Hid (Below w.heap.size w w5) := ((HBb.out.trans (hb3.mono hwa)).trans (hA4.mono (Nat.le_trans hwa hs3))).trans (hb5.mono hwa)
   clear hK3 hA4 hs3 hX4 hr5 hb5 hr3 hb3 hB3 hKb hIb hk1 hk2 hb1 hb2 hwa HBb HFL
   have HAP1 : Hid _ := hap1
   have HAP2 : Hid _ := hap2
   clear hap1 hap2
   go_wp2_with (first
    | (at_builtin; refine Lib.wpList_append_run _ rfl (.tmp 19) (.tmp 20) _ _ rfl _ _ rfl rfl _ _ HAP1.out ?_)
    | (at_builtin; refine Lib.wpList_append_run _ rfl (.tmp 21) (.tmp 24) _ _ rfl _ _ rfl rfl _ _ HAP2.out ?_))
   refine (MQ.out _ _ _ _ _ HK5.out HM5.out).mono ?_
   rintro e w6 ⟨rfl, hb6⟩
   have HB6 : Hid (Below w.heap.size w w6) := HB5.out.trans (hb6.mono HB5.out.size)
   clear hb6 HB5 HK5 HM5 MQ HAP1 HAP2 hcv1 hcv2
   go_wp2
   go_roundw
   case rel => exact ⟨q + 1, by omega, by go_num, by rw [HAP.out], by rw [HLN.out], HB6.out⟩
   case measure => simp [intOf]; omega
  ·have hlt' : ¬ ((32 * q : Nat) : Int) < (n : Int) := by omega
   have hex : (kstr (Sha.drawnF K m g) 0 (32 * q)).extract 0 n = kstr (Sha.drawnF K m g) 0 n := by
    have := kstr_extract (kstr (Sha.drawnF K m g) 0 (32 * q)) 0 n (by rw [kstr_size]; omega)
    rw [Nat.zero_add] at this
    rw [this]
    exact kstr_congr (fun i hi => by rw [Nat.zero_add, strB_kstr _ 0 (32 * q) i (by rw [Nat.zero_add]; exact Sha.drawnF_lt _ _ _ _) (by omega), Nat.zero_add])
   have x1 : (n : Int) ≤ ((32 * q : Nat) : Int) := by omega
   generalize hOS : kstr (Sha.drawnF K m g) 0 (32 * q) = OS at *
   generalize hON : kstr (Sha.drawnF K m g) 0 n = ON at hex
   have HON : Hid (kstr (Sha.drawnF K m g) 0 n = ON) := hON
   clear hOS hON MC HC
   go_wp2
   go_ret
   exact ⟨by rw [HON.out]; rfl, HB.out⟩
end Go.Proofs.YtboekhegbachpaaGreatDoor
namespace Go.Proofs.YtboekhegbachpaaGreatDoor
open Go.ChangeShapes Go.WideShapes Go.ChangeAt Go.RowKit
def sealF (i : Nat) : Nat := if i = 0 then 115 else if i = 1 then 101 else if i = 2 then 97 else 108
theorem sealF_lt (i : Nat) : sealF i < 256 := by unfold sealF; split; omega; split; omega; split <;> omega
def keysF (i : Nat) : Nat := if i = 0 then 107 else if i = 1 then 101 else if i = 2 then 121 else 115
theorem keysF_lt (i : Nat) : keysF i < 256 := by unfold keysF; split; omega; split; omega; split <;> omega
theorem conv_rowS (w : World) (C : Array Value) (n c : Nat) : (convert 84 84 (.slice (some ⟨w.heap.size, 0, none⟩) n c)).run Tryz.prog (w.alloc (.cells C 5)) = .ok (.slice (some ⟨w.heap.size, 0, none⟩) n c) (w.alloc (.cells C 5 (C.size, C.size + 1))) := by
 have hsh : (w.alloc (.cells C 5)).shape? w.heap.size = some (5, C.size) := by
  have : (w.alloc (.cells C 5)).heap[w.heap.size]? = some (.cells C 5) := by
   show (w.heap.push (.cells C 5))[w.heap.size]? = _
   simp
  unfold World.shape?
  rw [this]
 have hfr : (w.alloc (.cells C 5)).freeze ⟨w.heap.size, C.size, none⟩ 1 = w.alloc (.cells C 5 (C.size, C.size + 1)) := by
  have hm : ∀ (a : Array Obj) (x : Obj) (f : Obj → Obj), (a.push x).modify a.size f = a.push (f x) := by
   intro a x f
   apply Array.ext
   ·simp
   ·intro i h1 h2
    simp only [Array.getElem_modify, Array.getElem_push]
    by_cases h : a.size = i
    ·subst h
     simp
    ·have hi : i < a.size := by simp at h1; omega
     simp [h, hi]
  unfold World.freeze
  rw [if_neg (by decide)]
  show ({ w.alloc (.cells C 5) with heap := (w.heap.push (.cells C 5)).modify w.heap.size _ } : World) = _
  rw [hm]
  rfl
 simp [convert, run_underlying Tryz.underlying84, run_underlying Tryz.underlying5, markStringish, hsh]
 exact hfr
theorem seal_code (w : World) : Code8 (w.alloc (.cells #[.int .u8 115, .int .u8 101, .int .u8 97, .int .u8 108] 5 (4, 5))) (some ⟨w.heap.size, 0, none⟩) 4 sealF := code8_of (fun i hi => by
 rw [Nat.zero_add, World.cell?_alloc_mark]
 rcases (show i = 0 ∨ i = 1 ∨ i = 2 ∨ i = 3 by omega) with rfl | rfl | rfl | rfl <;> (simp [sealF]))
theorem keys_code (w : World) : Code8 (w.alloc (.cells #[.int .u8 107, .int .u8 101, .int .u8 121, .int .u8 115] 5 (4, 5))) (some ⟨w.heap.size, 0, none⟩) 4 keysF := code8_of (fun i hi => by
 rw [Nat.zero_add, World.cell?_alloc_mark]
 rcases (show i = 0 ∨ i = 1 ∨ i = 2 ∨ i = 3 by omega) with rfl | rfl | rfl | rfl <;> (simp [keysF]))
def secS (k : ByteArray) : ByteArray := macS 4 sealF 32 (strB k)
def pairF (k : ByteArray) : Nat → Nat := Sha.drawnF (Sha.keyF 32 (strB (secS k))) 4 keysF
theorem pairF_lt (k : ByteArray) (i : Nat) : pairF k i < 256 := Sha.drawnF_lt _ _ _ _
theorem secS_size (k : ByteArray) : (secS k).size = 32 := macS_size _ _ _ _
def encS (k : ByteArray) : ByteArray := kstr (pairF k) 0 32
def tagS (k : ByteArray) : ByteArray := kstr (pairF k) 32 32
theorem encS_size (k : ByteArray) : (encS k).size = 32 := kstr_size _ _ _
theorem tagS_size (k : ByteArray) : (tagS k).size = 32 := kstr_size _ _ _
end Go.Proofs.YtboekhegbachpaaGreatDoor
namespace Go.Proofs.YtboekhegbachpaaGreatDoor
open Go.ChangeShapes Go.WideShapes Go.ChangeAt Go.RowKit
theorem Row8.drewK {w : World} {b n : Nat} {t : TypeId} {f : Nat → Nat} (h : Row8 w b t n f) : Row8 w.drew b t n f := h
theorem Tryz.infoKp : (Tryz.prog.info? 117).map (fun i => (i.zero, i.size)) = some (some (.agg (Array.replicate 64 (.int .u8 0))), 64) := by kernel_rfl
theorem Tryz.zeroKp : ∀ w, (zeroValue 117).run Tryz.prog w = .ok (.agg (Array.replicate 64 (.int .u8 0))) w := (zero_of_info Tryz.infoKp).1
theorem Tryz.sizeKp : (Tryz.prog.info? 117).map (·.size) = some 64 := by kernel_rfl
set_option maxRecDepth 100000 in
set_option maxHeartbeats 2000000 in
theorem keysOf_any (k : ByteArray) (hk : k.size = 32) (w : World) (ht : Tabs w) :
  Calls Tryz.prog 77 #[.string k] w fun e w' => e = .returned (.agg (bA 64 (pairF k))) ∧ Below w.heap.size w w' := by
 have z1 := Tryz.zeroKp
 have SZ : Hid ((Tryz.prog.info? 5).map (·.size) = some 1) := size8
 have NM1 : Hid (∀ (b c : Nat) (w : World), Code8 w (some ⟨b, 0, none⟩) 4 sealF → Tabs w → Calls Tryz.prog 87 #[.slice (some ⟨b, 0, none⟩) 4 c] w fun e w' => e = .returned (.agg (bA 64 (Sha.keyF 4 sealF))) ∧ Below w.heap.size w w') := fun b c w h ht => newMacKey_any b 0 4 c sealF sealF_lt (by omega) w h ht
 have NM2 : Hid (∀ (b c : Nat) (w : World), Code8 w (some ⟨b, 0, none⟩) 32 (strB (secS k)) → Tabs w → Calls Tryz.prog 87 #[.slice (some ⟨b, 0, none⟩) 32 c] w fun e w' => e = .returned (.agg (bA 64 (Sha.keyF 32 (strB (secS k))))) ∧ Below w.heap.size w w') := fun b c w h ht => newMacKey_any b 0 32 c _ (strB_lt _) (by omega) w h ht
 have MA : Hid (∀ (b c : Nat) (w : World), Code8 w (some ⟨b, 0, none⟩) 32 (strB k) → Tabs w → Calls Tryz.prog 88 #[.agg (bA 64 (Sha.keyF 4 sealF)), .slice (some ⟨b, 0, none⟩) 32 c] w fun e w' => e = .returned (.string (secS k)) ∧ Below w.heap.size w w') := fun b c w h ht => mac_any (Sha.keyF 4 sealF) (Sha.keyF_lt sealF_lt) b 0 32 c (strB k) (strB_lt k) (by omega) w h ht
 have DR : Hid (∀ (b c : Nat) (w : World), Code8 w (some ⟨b, 0, none⟩) 4 keysF → Tabs w → Calls Tryz.prog 89 #[.agg (bA 64 (Sha.keyF 32 (strB (secS k)))), .slice (some ⟨b, 0, none⟩) 4 c, .int .i64 64] w fun e w' => e = .returned (.string (kstr (pairF k) 0 64)) ∧ Below w.heap.size w w') := fun b c w h ht => drawn_any (Sha.keyF 32 (strB (secS k))) (Sha.keyF_lt (strB_lt _)) b 0 4 c 64 keysF keysF_lt (by omega) (by omega) w h ht
 have hss : (secS k).size = 32 := secS_size k
 have lG : ∀ i, pairF k i < 256 := pairF_lt k
 generalize pairF k = G at *
 generalize secS k = SE at *
 generalize bA 64 (Sha.keyF 4 sealF) = K1 at *
 generalize bA 64 (Sha.keyF 32 (strB SE)) = K2 at *
 have HT : Hid (Tabs w) := ht
 have hbs : (kstr G 0 64).size = 64 := kstr_size _ _ _
 have hx1 : (kstr G 0 64).extract 0 32 = kstr G 0 32 := by
  have := kstr_extract (kstr G 0 64) 0 32 (by rw [hbs]; omega)
  rw [Nat.zero_add] at this
  rw [this]
  exact kstr_congr (fun i hi => by rw [Nat.zero_add, strB_kstr _ 0 64 i (by rw [Nat.zero_add]; exact lG _) (by omega), Nat.zero_add])
 have hx2 : (kstr G 0 64).extract 32 64 = kstr G 32 32 := by
  have := kstr_extract (kstr G 0 64) 32 32 (by rw [hbs]; omega)
  rw [this]
  exact kstr_congr (fun i hi => by rw [strB_kstr _ 0 64 (32 + i) (by rw [Nat.zero_add]; exact lG _) (by omega), Nat.zero_add])
 clear ht
 go_enter Tryz.func77, Tryz.ntmps77
 go_upto_region 1 with fail
 have A0 : Below w.heap.size w (w.alloc (.cells (Array.replicate 64 (.int .u8 0)) 117)) := (Below.refl _ _).alloc (Nat.le_refl _) _
 have R0 : Hid (Row8 (w.alloc (.cells (Array.replicate 64 (.int .u8 0)) 117)) w.heap.size 117 64 (fun _ => 0)) := Row8.zerosAt rfl _ _
 have B0 : Hid (Below w.heap.size w (w.alloc (.cells (Array.replicate 64 (.int .u8 0)) 117))) := A0
 generalize w.alloc (.cells (Array.replicate 64 (.int .u8 0)) 117) = w0 at *
 have hcv1 := conv_rowS w0 #[.int .u8 115, .int .u8 101, .int .u8 97, .int .u8 108] 4 4
 have AA : Below w0.heap.size w0 (w0.alloc (.cells #[.int .u8 115, .int .u8 101, .int .u8 97, .int .u8 108] 5 (4, 5))) := (Below.refl _ _).alloc (Nat.le_refl _) _
 have HAA : Hid _ := AA
 have HT1 : Hid (Tabs (w0.alloc (.cells #[.int .u8 115, .int .u8 101, .int .u8 97, .int .u8 108] 5 (4, 5)))) := (HT.out.below A0).below AA
 clear AA A0
 go_wp2_with fail
 refine (NM1.out w0.heap.size 4 _ (seal_code w0) HT1.out).mono ?_
 rintro e w1 ⟨rfl, hb1⟩
 have B1 : Hid (Below w.heap.size w w1) := B0.out.trans ((HAA.out.trans (hb1.mono HAA.out.size)).mono B0.out.size)
 have R1 : Hid (Row8 w1 w.heap.size 117 64 (fun _ => 0)) := R0.out.below (HAA.out.trans (hb1.mono HAA.out.size))
 clear hb1 HAA HT1 R0 B0 hcv1 NM1
 generalize w0.heap.size = b0 at *
 obtain ⟨w2, c2, hcv2, hk2, hb2, _⟩ := bytesOfM k w1
 rw [hk] at hcv2 hk2
 have HK2 : Hid (Code8 w2 (some ⟨w1.heap.size, 0, none⟩) 32 (strB k)) := hk2
 have B2 : Hid (Below w.heap.size w w2) := B1.out.trans (hb2.mono B1.out.size)
 have R2 : Hid (Row8 w2 w.heap.size 117 64 (fun _ => 0)) := R1.out.below hb2
 clear hk2 hb2 B1 R1
 generalize w1.heap.size = b1 at *
 go_wp2_with fail
 refine (MA.out b1 c2 _ HK2.out (HT.out.below B2.out)).mono ?_
 rintro e w3 ⟨rfl, hb3⟩
 have B3 : Hid (Below w.heap.size w w3) := B2.out.trans (hb3.mono B2.out.size)
 have R3 : Hid (Row8 w3 w.heap.size 117 64 (fun _ => 0)) := R2.out.below hb3
 clear hb3 B2 R2 HK2 hcv2 MA
 obtain ⟨w4, c4, hcv4, hk4, hb4, _⟩ := bytesOfM SE w3
 rw [hss] at hcv4 hk4
 have HK4 : Hid (Code8 w4 (some ⟨w3.heap.size, 0, none⟩) 32 (strB SE)) := hk4
 have B4 : Hid (Below w.heap.size w w4) := B3.out.trans (hb4.mono B3.out.size)
 have R4 : Hid (Row8 w4 w.heap.size 117 64 (fun _ => 0)) := R3.out.below hb4
 clear hk4 hb4 B3 R3
 generalize w3.heap.size = b3 at *
 go_wp2_with fail
 refine (NM2.out b3 c4 _ HK4.out (HT.out.below B4.out)).mono ?_
 rintro e w5 ⟨rfl, hb5⟩
 have B5 : Hid (Below w.heap.size w w5) := B4.out.trans (hb5.mono B4.out.size)
 have R5 : Hid (Row8 w5 w.heap.size 117 64 (fun _ => 0)) := R4.out.below hb5
 clear hb5 B4 R4 HK4 hcv4 NM2
 have hcv5 := conv_rowS w5 #[.int .u8 107, .int .u8 101, .int .u8 121, .int .u8 115] 4 4
 have AA : Below w5.heap.size w5 (w5.alloc (.cells #[.int .u8 107, .int .u8 101, .int .u8 121, .int .u8 115] 5 (4, 5))) := (Below.refl _ _).alloc (Nat.le_refl _) _
 have B6 : Hid (Below w.heap.size w (w5.alloc (.cells #[.int .u8 107, .int .u8 101, .int .u8 121, .int .u8 115] 5 (4, 5)))) := B5.out.trans (AA.mono B5.out.size)
 have R6 : Hid (Row8 (w5.alloc (.cells #[.int .u8 107, .int .u8 101, .int .u8 121, .int .u8 115] 5 (4, 5))) w.heap.size 117 64 (fun _ => 0)) := R5.out.below AA
 clear AA B5 R5
 go_wp2_with fail
 refine (DR.out w5.heap.size 4 _ (keys_code w5) (HT.out.below B6.out)).mono ?_
 rintro e w7 ⟨rfl, hb7⟩
 have B7 : Hid (Below w.heap.size w w7) := B6.out.trans (hb7.mono B6.out.size)
 have R7 : Hid (Row8 w7 w.heap.size 117 64 (fun _ => 0)) := R6.out.below hb7
 clear hb7 B6 R6 hcv5 DR HT
 generalize hBO : kstr G 0 64 = BO at *
 have hS1 : (kstr G 0 32).size = 32 := kstr_size _ _ _
 have hS2 : (kstr G 32 32).size = 32 := kstr_size _ _ _
 have HE1 : Hid (∀ i, i < 32 → strB (kstr G 0 32) i = G i) := fun i hi => by rw [strB_kstr _ 0 32 i (by rw [Nat.zero_add]; exact lG _) hi, Nat.zero_add]
 have HE2 : Hid (∀ i, i < 32 → strB (kstr G 32 32) i = G (32 + i)) := fun i hi => by rw [strB_kstr _ 32 32 i (lG _) hi]
 clear hBO lG
 generalize kstr G 0 32 = S1 at *
 generalize kstr G 32 32 = S2 at *
 generalize w5.heap.size = b5 at *
 have Q8 : Hid (Row8 (w7.alloc (.cells (Array.replicate 64 (.int .u8 0)) 117)) w7.heap.size 117 64 (fun _ => 0)) := Row8.zerosAt rfl _ _
 have P8 : Hid (Row8 (w7.alloc (.cells (Array.replicate 64 (.int .u8 0)) 117)) w.heap.size 117 64 (fun _ => 0)) := R7.out.alloc _
 have B8 : Hid (Below w.heap.size w (w7.alloc (.cells (Array.replicate 64 (.int .u8 0)) 117))) := B7.out.alloc B7.out.size _
 have hq : w.heap.size < w7.heap.size := R7.out.lt
 go_upto_region 4 with fail
 generalize w7.alloc (.cells (Array.replicate 64 (.int .u8 0)) 117) = w8 at *
 generalize w7.heap.size = q at *
 clear B7 R7
 refine wp_region_noPanic ?_
 refine wp_region_held_drew (S := fun _ => True) (by kernel_rfl) trivial (fun _ => ?_)
 refine wpAnyH_take (i := 0) (v := .pointer (some ⟨q, 0, none⟩)) rfl (by kernel_rfl) (by kernel_rfl) (by kernel_rfl) (fun _ _ _ h => h) (Or.inl ⟨by rfl, ?_⟩) trivial ?_
 ·intro w' hSw; go_simp
 change wpAnyH _ _ _ _ _ _ _ { tmps := #[_,_,_,_,_,_,_,_,_,_,_,_,_,_,_,_,_,_,_,_,_,_,_,_,_,_,_,_,_], defers := [] } _
 refine wpAnyH_take (i := 1) (v := .slice (some ⟨q, 0, none⟩) 32 32) rfl (by kernel_rfl) (by kernel_rfl) (by kernel_rfl) (fun _ _ _ h => h) (Or.inl ⟨by rfl, ?_⟩) trivial ?_
 ·intro w' hSw; go_simp
 change wpAnyH _ _ _ _ _ _ _ { tmps := #[_,_,_,_,_,_,_,_,_,_,_,_,_,_,_,_,_,_,_,_,_,_,_,_,_,_,_,_,_], defers := [] } _
 refine wpAnyH_take (i := 2) (v := .string BO) rfl (by kernel_rfl) (by kernel_rfl) (by kernel_rfl) (fun _ _ _ h => h) (Or.inl ⟨by rfl, ?_⟩) trivial ?_
 ·intro w' hSw; go_simp
 change wpAnyH _ _ _ _ _ _ _ { tmps := #[_,_,_,_,_,_,_,_,_,_,_,_,_,_,_,_,_,_,_,_,_,_,_,_,_,_,_,_,_], defers := [] } _
 refine wpAnyH_take (i := 3) (v := .string S1) rfl (by kernel_rfl) (by kernel_rfl) (by kernel_rfl) (fun _ _ _ h => h) (Or.inl ⟨by rfl, ?_⟩) trivial ?_
 ·intro w' hSw; go_simp
 change wpAnyH _ _ _ _ _ _ _ { tmps := #[_,_,_,_,_,_,_,_,_,_,_,_,_,_,_,_,_,_,_,_,_,_,_,_,_,_,_,_,_], defers := [] } _
 have Qd8 : Row8 w8.drew q 117 64 (fun _ => 0) := Q8.out.drewK
 have Pd8 : Row8 w8.drew w.heap.size 117 64 (fun _ => 0) := P8.out.drewK
 have CP : ∀ ty, (Builtin.copy_ #[84, 9] ty #[.slice (some ⟨q, 0, none⟩) 32 32, .string S1]).run Tryz.prog w8.drew = .ok (goInt 32) (w8.drew.setCells q 0 (bv 32 (strB S1))) := fun ty => by
  have h := run_copy_leM (P := Tryz.prog) w8.drew 84 9 ty 5 q 0 32 32 S1 (bv 32 (strB S1)) Tryz.underlying84 SZ.out (by omega) (bv_textM S1 32 (by omega)) (fun j hj => by rw [bv_length] at hj; have := (Qd8.there (0 + j) (by omega)).1; rwa [Nat.zero_add] at this) (fun j hj => by rw [bv_length] at hj; have := (Qd8.there (0 + j) (by omega)).2; rwa [Nat.zero_add] at this)
  rw [bv_length] at h
  exact h
 have Q9 : Hid (Row8 (w8.drew.setCells q 0 (bv 32 (strB S1))) q 117 64 (fun i => if i < 32 then G i else 0)) := (rowIs_setCells (bv 32 (strB S1)) 0 w8.drew _ Qd8).congr (fun i hi => by
  rw [bv_length]
  show _ = Value.int .u8 (((if i < 32 then G i else 0) : Nat) : Int)
  by_cases h : i < 32
  ·rw [if_pos (by omega), Nat.sub_zero, List.getD_eq_getElem?_getD, bv_at h, if_pos h, HE1.out i h]; rfl
  ·rw [if_neg (by omega), if_neg h])
 have P9 : Hid (Row8 (w8.drew.setCells q 0 (bv 32 (strB S1))) w.heap.size 117 64 (fun _ => 0)) := Pd8.storedOther (by omega) _ _
 have B9 : Hid (Below w.heap.size w (w8.drew.setCells q 0 (bv 32 (strB S1)))) := below_setCells (by omega) _ _ _ B8.out.drew
 refine wpAnyH_ready (rs := [4]) (by kernel_rfl) (by simp) ?_
 refine AllReadyH.cons rfl (fun KK hK => ?_) AllReadyH.nil
 go_simp
 refine hK.out _ _ trivial (fun _ => ?_)
 clear hK KK CP Q8 P8 B8 Qd8 Pd8
 generalize w8.drew.setCells q 0 (bv 32 (strB S1)) = w9 at *
 change wpAnyH _ _ _ _ _ _ _ { tmps := #[_,_,_,_,_,_,_,_,_,_,_,_,_,_,_,_,_,_,_,_,_,_,_,_,_,_,_,_,_], defers := [] } _
 refine wpAnyH_done (by kernel_rfl) ?_ _
 refine NoPanic.normal ?_
 go_upto_region 5 with fail
 refine wp_region_noPanic ?_
 refine wp_region_held_drew (S := fun _ => True) (by kernel_rfl) trivial (fun _ => ?_)
 refine wpAnyH_take (i := 0) (v := .pointer (some ⟨q, 32, none⟩)) rfl (by kernel_rfl) (by kernel_rfl) (by kernel_rfl) (fun _ _ _ h => h) (Or.inl ⟨by rfl, ?_⟩) trivial ?_
 ·intro w' hSw; go_simp
 change wpAnyH _ _ _ _ _ _ _ { tmps := #[_,_,_,_,_,_,_,_,_,_,_,_,_,_,_,_,_,_,_,_,_,_,_,_,_,_,_,_,_], defers := [] } _
 refine wpAnyH_take (i := 1) (v := .slice (some ⟨q, 32, none⟩) 32 32) rfl (by kernel_rfl) (by kernel_rfl) (by kernel_rfl) (fun _ _ _ h => h) (Or.inl ⟨by rfl, ?_⟩) trivial ?_
 ·intro w' hSw; go_simp
 change wpAnyH _ _ _ _ _ _ _ { tmps := #[_,_,_,_,_,_,_,_,_,_,_,_,_,_,_,_,_,_,_,_,_,_,_,_,_,_,_,_,_], defers := [] } _
 refine wpAnyH_take (i := 2) (v := .string BO) rfl (by kernel_rfl) (by kernel_rfl) (by kernel_rfl) (fun _ _ _ h => h) (Or.inl ⟨by rfl, ?_⟩) trivial ?_
 ·intro w' hSw; go_simp
 change wpAnyH _ _ _ _ _ _ _ { tmps := #[_,_,_,_,_,_,_,_,_,_,_,_,_,_,_,_,_,_,_,_,_,_,_,_,_,_,_,_,_], defers := [] } _
 refine wpAnyH_take (i := 3) (v := .string S2) rfl (by kernel_rfl) (by kernel_rfl) (by kernel_rfl) (fun _ _ _ h => h) (Or.inl ⟨by rfl, ?_⟩) trivial ?_
 ·intro w' hSw; go_simp
 change wpAnyH _ _ _ _ _ _ _ { tmps := #[_,_,_,_,_,_,_,_,_,_,_,_,_,_,_,_,_,_,_,_,_,_,_,_,_,_,_,_,_], defers := [] } _
 have Qd9 : Row8 w9.drew q 117 64 (fun i => if i < 32 then G i else 0) := Q9.out.drewK
 have Pd9 : Row8 w9.drew w.heap.size 117 64 (fun _ => 0) := P9.out.drewK
 have CP : ∀ ty, (Builtin.copy_ #[84, 9] ty #[.slice (some ⟨q, 32, none⟩) 32 32, .string S2]).run Tryz.prog w9.drew = .ok (goInt 32) (w9.drew.setCells q 32 (bv 32 (strB S2))) := fun ty => by
  have h := run_copy_leM (P := Tryz.prog) w9.drew 84 9 ty 5 q 32 32 32 S2 (bv 32 (strB S2)) Tryz.underlying84 SZ.out (by omega) (bv_textM S2 32 (by omega)) (fun j hj => by rw [bv_length] at hj; have := (Qd9.there (32 + j) (by omega)).1; rwa [Nat.zero_add] at this) (fun j hj => by rw [bv_length] at hj; have := (Qd9.there (32 + j) (by omega)).2; rwa [Nat.zero_add] at this)
  rw [bv_length] at h
  exact h
 have Q10 : Hid (Row8 (w9.drew.setCells q 32 (bv 32 (strB S2))) q 117 64 G) := (rowIs_setCells (bv 32 (strB S2)) 32 w9.drew _ Qd9).congr (fun i hi => by
  rw [bv_length]
  show (if 32 ≤ i ∧ i < 32 + 32 then _ else Value.int .u8 (((if i < 32 then G i else 0) : Nat) : Int)) = _
  by_cases h : 32 ≤ i
  ·rw [if_pos (by omega), List.getD_eq_getElem?_getD, bv_at (by omega), HE2.out (i - 32) (by omega), show 32 + (i - 32) = i from by omega]; rfl
  ·rw [if_neg (by omega), if_pos (by omega)])
 have P10 : Hid (Row8 (w9.drew.setCells q 32 (bv 32 (strB S2))) w.heap.size 117 64 (fun _ => 0)) := Pd9.storedOther (by omega) _ _
 have B10 : Hid (Below w.heap.size w (w9.drew.setCells q 32 (bv 32 (strB S2)))) := below_setCells (by omega) _ _ _ B9.out.drew
 refine wpAnyH_ready (rs := [4]) (by kernel_rfl) (by simp) ?_
 refine AllReadyH.cons rfl (fun KK hK => ?_) AllReadyH.nil
 go_simp
 refine hK.out _ _ trivial (fun _ => ?_)
 clear hK KK CP Q9 P9 B9 Qd9 Pd9
 generalize w9.drew.setCells q 32 (bv 32 (strB S2)) = w10 at *
 change wpAnyH _ _ _ _ _ _ _ { tmps := #[_,_,_,_,_,_,_,_,_,_,_,_,_,_,_,_,_,_,_,_,_,_,_,_,_,_,_,_,_], defers := [] } _
 refine wpAnyH_done (by kernel_rfl) ?_ _
 refine NoPanic.normal ?_
 go_upto_region 6 with fail
 refine wp_region_lit ?_
 refine wpList_load_mid rfl 117 (.tmp 5) rfl q 0 rfl (bv 64 G) _ Q10.out.range Tryz.underlying117 rfl (by rw [bv_length]; exact Tryz.sizeKp) ?_
 refine wpList_store_mid rfl 117 (.tmp 2) (.tmp 28) rfl w.heap.size 0 (bA 64 G) rfl rfl (by rw [bA_size]; exact P10.out.there) (by rw [bA_size]; exact Tryz.sizeKp) (bA_one _ _) ?_
 rw [bA_toList]
 have L : Hid ((loadVar 117 ⟨w.heap.size, 0, none⟩).run Tryz.prog (w10.setCells (w.heap.size) 0 (bv 64 G)) = .ok (.agg (bA 64 G)) (w10.setCells (w.heap.size) 0 (bv 64 G))) := (P10.out.stored _).load Tryz.underlying117 rfl Tryz.sizeKp
 have B : Hid (Below w.heap.size w (w10.setCells (w.heap.size) 0 (bv 64 G))) := below_setCells (Nat.le_refl _) _ _ _ B10.out
 have eA : (bv 64 G).toArray = bA 64 G := rfl
 rw [eA]
 generalize w10.setCells (w.heap.size) 0 (bv 64 G) = wf at *
 generalize hA : bA 64 G = AA at *
 have HA : Hid (bA 64 G = AA) := hA
 clear hA eA hx1 hx2 hbs hS1 hS2 hss hk z1 hq Q10 P10 B10 HE1 HE2 SZ
 go_wp2
 rw [HA.out]
 change bodyPost _ _ _ _ { tmps := #[_, _, _, _, _, _, _, _, _, _, _, _, _, _, _, _, _, _, _, _, _, _, _, _, _, _, _, _, _], defers := [] } _
 exact bodyPost_ret (v := .agg AA) (results_cell_one (b := w.heap.size) (o := 0) Tryz.results77 _ _ _ rfl L.out) rfl ⟨rfl, B.out⟩
end Go.Proofs.YtboekhegbachpaaGreatDoor
namespace Go.Proofs.YtboekhegbachpaaGreatDoor
open Go.ChangeShapes Go.WideShapes Go.ChangeAt Go.RowKit
theorem onlyB_setCellsK {b : Nat} {a : World} (vs : List Value) : ∀ (o : Nat) (w : World), OnlyB b a w → OnlyB b a (w.setCells b o vs) := by
 induction vs with
 | nil => intro o w h; exact h
 | cons v vs ih => intro o w h; exact ih (o + 1) _ (h.setCell o v)
theorem zeros_one : (Array.replicate 64 (Value.int .u8 0)).all (·.oneCell') = true := by kernel_rfl
set_option maxRecDepth 100000 in
theorem forget_deferred (b : Nat) (u : FrameMode) (w : World) (hth : w.there b 0 64) :
  CallsD Tryz.prog 78 #[.pointer (some ⟨b, 0, none⟩)] u w fun e u' w' => u' = u ∧ (e = .returned (.tuple #[]) ∧ OnlyB b w w') := by
 have z1 := Tryz.zeroKp
 have zs : Hid ((Array.replicate 64 (Value.int .u8 0)).size = 64) := Array.size_replicate
 have zo : Hid ((Array.replicate 64 (Value.int .u8 0)).all (·.oneCell') = true) := zeros_one
 generalize Array.replicate 64 (Value.int .u8 0) = Z at *
 have TH : Hid (w.there b 0 Z.size) := by show w.there b 0 Z.size; rw [zs.out]; exact hth
 have SZ : Hid ((Tryz.prog.info? 117).map (·.size) = some Z.size) := by show _ = _; rw [zs.out]; exact Tryz.sizeKp
 have O : Hid (OnlyB b w (w.setCells b 0 Z.toList)) := onlyB_setCellsK _ _ _ (OnlyB.refl _ _)
 clear hth
 go_enter_d Tryz.func78, Tryz.ntmps78
 go_wp2_with (refine wpList_store_mid rfl 117 (.tmp 4) (.tmp 3) rfl b 0 Z rfl rfl TH.out SZ.out zo.out ?_; generalize w.setCells b 0 Z.toList = wf at *)
 go_end0
 exact ⟨rfl, O.out⟩
end Go.Proofs.YtboekhegbachpaaGreatDoor
