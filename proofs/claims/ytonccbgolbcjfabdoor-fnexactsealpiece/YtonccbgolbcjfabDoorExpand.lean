/-
  The contract of (impl.macKey).drawn, impl.HkdfExpand.
-/
import Derived.Test.YtonccbgolbcjfabDoorMac
import Derived.Test.YtonccbgolbcjfabDoorPadS
namespace Go.Proofs.YtonccbgolbcjfabDoor
open Go.ChangeShapes Go.WideShapes Go.ChangeAt Go.RowKit
/-- The block ahead: none, or 32 bytes. -/
def BlkAt (w : World) (i : Nat) (v : Value) (F : Nat → Nat) : Prop := ∃ (a : Option Addr) (n c : Nat), v = .slice a n c ∧ (n = if i = 0 then 0 else 32) ∧ Code8 w a n F ∧ ((a = none ∧ n = 0 ∧ c = 0) ∨ ∃ b, a = some ⟨b, 0, none⟩)
theorem BlkAt.below {w w' : World} {i : Nat} {v : Value} {F : Nat → Nat} (h : BlkAt w i v F) (hb : Below w.heap.size w w') : BlkAt w' i v F := by
  obtain ⟨a, n, c, h1, h2, h3, h4⟩ := h
  exact ⟨a, n, c, h1, h2, h3.below hb, h4⟩
theorem cat3 (n0 n1 n2 : Nat) (f0 f1 f2 : Nat → Nat) : catF (fun k => if k = 0 then n0 else if k = 1 then n1 else n2) (fun k => if k = 0 then f0 else if k = 1 then f1 else f2) 3 = Sha.cat n0 f0 (Sha.cat n1 f1 f2) := by
  show Sha.cat (0 + n0 + n1) (Sha.cat (0 + n0) (Sha.cat 0 (fun _ => 0) f0) f1) f2 = _
  funext j
  unfold Sha.cat
  simp only [Nat.zero_add, Nat.not_lt_zero, if_false, Nat.sub_zero]
  by_cases h0 : j < n0
  · rw [if_pos (by omega), if_pos h0, if_pos h0]
  · rw [if_neg h0]
    by_cases h1 : j < n0 + n1
    · rw [if_pos h1, if_neg h0, if_pos (by omega)]
    · rw [if_neg h1, if_neg h0, if_neg (show ¬ j - n0 < n1 by omega), show j - n0 - n1 = j - (n0 + n1) from by omega]
theorem concat3_any (a0 : Option Addr) (n0 c0 b1 o1 n1 c1 b2 o2 n2 c2 : Nat) (f0 f1 f2 : Nat → Nat) (hnil : (a0 = none ∧ n0 = 0 ∧ c0 = 0) ∨ ∃ b, a0 = some ⟨b, 0, none⟩) (h1 : 1 ≤ n2) (h2 : n0 + n1 + n2 ≤ 1000000) (w wb : World) (hwb : wb = w.alloc (.cells #[.slice a0 n0 c0, .slice (some ⟨b1, o1, none⟩) n1 c1, .slice (some ⟨b2, o2, none⟩) n2 c2] 30)) (k0 : Code8 w a0 n0 f0) (k1 : Code8 w (some ⟨b1, o1, none⟩) n1 f1) (k2 : Code8 w (some ⟨b2, o2, none⟩) n2 f2) :
    Calls Tryd.prog 39 #[.slice (some ⟨w.heap.size, 0, none⟩) 3 3] wb fun e w' => (∃ g c, e = .returned (.slice (some ⟨g, 0, none⟩) (n0 + n1 + n2) c) ∧ Own8 w' g (n0 + n1 + n2) (Sha.cat n0 f0 (Sha.cat n1 f1 f2))) ∧ Below w.heap.size w w' := by
  have hA : Below w.heap.size w wb := by rw [hwb]; exact (Below.refl _ _).alloc (Nat.le_refl _) _
  have P : Parts wb w.heap.size 3 (fun k => if k = 0 then a0 else if k = 1 then some ⟨b1, o1, none⟩ else some ⟨b2, o2, none⟩) (fun k => if k = 0 then n0 else if k = 1 then n1 else n2) (fun k => if k = 0 then c0 else if k = 1 then c1 else c2) (fun k => if k = 0 then f0 else if k = 1 then f1 else f2) := by
    refine ⟨fun k hk => ?_, fun k hk => ?_, fun k hk => ?_⟩
    · rw [hwb, cell3 _ _ _ _ _ k hk]
      rcases (show k = 0 ∨ k = 1 ∨ k = 2 by omega) with rfl | rfl | rfl <;> simp
    · rcases (show k = 0 ∨ k = 1 ∨ k = 2 by omega) with rfl | rfl | rfl
      · exact k0.below hA
      · exact k1.below hA
      · exact k2.below hA
    · rcases (show k = 0 ∨ k = 1 ∨ k = 2 by omega) with rfl | rfl | rfl
      · rcases hnil with h | ⟨b, hb⟩
        · exact .inl h
        · exact .inr ⟨b, 0, hb⟩
      · exact .inr ⟨_, _, rfl⟩
      · exact .inr ⟨_, _, rfl⟩
  have hN : catN (fun k => if k = 0 then n0 else if k = 1 then n1 else n2) 3 = n0 + n1 + n2 := by show 0 + n0 + n1 + n2 = _; omega
  have := concatN_any w.heap.size 3 _ _ _ _ (by omega) (by rw [hN]; omega) (by rw [hN]; omega) _ P
  rw [hN, cat3] at this
  refine this.mono ?_
  rintro e w' ⟨⟨g, cc, rfl, ho⟩, hb'⟩
  obtain ⟨g', c', _, e', h8⟩ := own8_of_own ho (by intro e; cases e)
  cases e'
  exact ⟨⟨g, cc, rfl, h8⟩, hA.trans (hb'.mono hA.size)⟩
set_option maxRecDepth 100000 in
theorem run_convert_nil (w : World) : (convert 30 9 (.slice none 0 0)).run Tryd.prog w = .ok (.string ⟨#[]⟩) w := by
  rfl
/-- What a step of drawn keeps. -/
def DSt (w0 w' : World) (K : Nat → Nat) : Prop := Row8 w' w0.heap.size 58 64 K ∧ Below w0.heap.size w0 w'
theorem DSt.below {w0 w' w'' : World} {K : Nat → Nat} (h : DSt w0 w' K) (hb : Below w'.heap.size w' w'') : DSt w0 w'' K := ⟨h.1.below hb, h.2.trans (hb.mono h.2.size)⟩
set_option maxRecDepth 100000 in
set_option maxHeartbeats 4000000 in
theorem drawn_any (K : Nat → Nat) (hK : ∀ i, K i < 256) (b o m c n : Nat) (g : Nat → Nat) (hg : ∀ i, g i < 256) (hm : m ≤ 65536) (hn : n ≤ 8160) (w : World) (h : Code8 w (some ⟨b, o, none⟩) m g) (ht : Tabs w) :
    Calls Tryd.prog 36 #[.agg (bA 64 K), .slice (some ⟨b, o, none⟩) m c, .int .i64 (n : Int)] w fun e w' => e = .returned (.string (kstr (Sha.drawnF K m g) 0 n)) ∧ Below w.heap.size w w' := by
  obtain ⟨i0, hi⟩ := info_parts Tryd.info8
  have HI : Hid (Tryd.prog.info? 5 = some i0 ∧ i0.zero = some (.int .u8 0) ∧ i0.size = 1 ∧ i0.bytes = 1) := hi
  have MC : Hid (∀ (i g' c : Nat) (w' : World), Own8 w' g' ((if i = 0 then 0 else 32) + m + 1) (Sha.cat (if i = 0 then 0 else 32) (Sha.drawnB K m g i) (Sha.cat m g (fun _ => (i + 1) % 256))) → Tabs w' → Calls Tryd.prog 35 #[.agg (bA 64 K), .slice (some ⟨g', 0, none⟩) ((if i = 0 then 0 else 32) + m + 1) c] w' fun e w'' => e = .returned (.string (kstr (Sha.drawnB K m g (i + 1)) 0 32)) ∧ Below w'.heap.size w' w'') := fun i g' c w' h8 ht => by
    have lB : ∀ j, Sha.drawnB K m g i j < 256 := by
      cases i with
      | zero => intro j; show 0 < 256; omega
      | succ i => intro j; exact Sha.mac_lt _ _ _ _
    exact mac_any K hK g' 0 _ c _ (Sha.cat_lt lB (Sha.cat_lt hg (fun _ => Nat.mod_lt _ (by omega)))) (by split <;> omega) w' h8.code ht
  have HC : Hid (Code8 w (some ⟨b, o, none⟩) m g) := h
  have HT : Hid (Tabs w) := ht
  have D0 : Hid (DSt w (w.alloc (.cells (bA 64 K) 58)) K) := ⟨Row8.boxedAt rfl _ _ _, (Below.refl _ _).alloc (Nat.le_refl _) _⟩
  have S0 : Hid (w.heap.size + 1 ≤ (w.alloc (.cells (bA 64 K) 58)).heap.size) := by show _ ≤ _; simp
  have EA : Hid ((bv 64 K).toArray = bA 64 K) := rfl
  have N0 : Hid ((w.alloc (.cells (bA 64 K) 58)).ownsRow (w.heap.size + 1) 5 1 (.slice none 0 0) 0 (bv 0 (Sha.drawnF K m g))) := ⟨rfl, .inl ⟨rfl, rfl⟩⟩
  clear h ht hg hK hi
  generalize bA 64 K = KA at *
  go_enter Tryd.func36, Tryd.ntmps36
  go_wp2
  generalize w.alloc (.cells KA 58) = w0 at *
  go_loopw [7, 8, 9] (fun s t i wr => ∃ (q : Nat) (a : Option Addr) (cc : Nat) (a2 : Option Addr) (n2 c2 : Nat), q ≤ 255 ∧ i = .int .i64 ((q + 1 : Nat) : Int) ∧ s = .slice a (32 * q) cc ∧ t = .slice a2 n2 c2 ∧ (n2 = if q = 0 then 0 else 32) ∧ Code8 wr a2 n2 (Sha.drawnB K m g q) ∧ ((a2 = none ∧ n2 = 0 ∧ c2 = 0) ∨ ∃ b, a2 = some ⟨b, 0, none⟩) ∧ wr.ownsRow (w.heap.size + 1) 5 1 (.slice a (32 * q) cc) (32 * q) (bv (32 * q) (Sha.drawnF K m g)) ∧ DSt w wr K ∧ w.heap.size + 1 ≤ wr.heap.size) (fun s _ _ _ => 9000 - lenH s)
  case atStart => exact ⟨0, none, 0, none, 0, 0, by omega, rfl, rfl, rfl, rfl, code8_zero _ _ _, .inl ⟨rfl, rfl, rfl⟩, N0.out, D0.out, S0.out⟩
  case round =>
    clear N0 D0 S0
    obtain ⟨q, a, cc, a2, n2, c2, hq, rfl, rfl, rfl, hn2, hk2, hnil2, hown, hd, hsz⟩ := hrel
    have HO : Hid (wr.ownsRow (w.heap.size + 1) 5 1 (.slice a (32 * q) cc) (32 * q) (bv (32 * q) (Sha.drawnF K m g))) := hown
    have HD : Hid (DSt w wr K) := hd
    have HK2 : Hid (Code8 wr a2 n2 (Sha.drawnB K m g q)) := hk2
    have HN2 : Hid (n2 = if q = 0 then 0 else 32) := hn2
    have HNL : Hid ((a2 = none ∧ n2 = 0 ∧ c2 = 0) ∨ ∃ b, a2 = some ⟨b, 0, none⟩) := hnil2
    have hn32 : n2 ≤ 32 := by rw [hn2]; split <;> omega
    clear hown hd hk2 hn2 hnil2
    by_cases hlt : 32 * q < n
    · have hlt' : ((32 * q : Nat) : Int) < (n : Int) := by omega
      obtain ⟨L, hL⟩ : ∃ L, L = 32 * q := ⟨_, rfl⟩
      have HL : Hid (L = 32 * q) := hL
      rw [← hL] at HO hlt' ⊢
      clear hL
      obtain ⟨X, hX⟩ : ∃ X, X = (q + 1) % 256 := ⟨_, rfl⟩
      have eX : ((q + 1 : Nat) : Int) % 256 = (X : Int) := by omega
      have eX2 : ((q : Int) + 1) % 256 = (X : Int) := by omega
      have wX : IntKind.u8.wrap ((q + 1 : Nat) : Int) = (X : Int) := by show ((q + 1 : Nat) : Int) % 256 = _; omega
      have wX2 : IntKind.u8.wrap ((q : Int) + 1) = (X : Int) := by show ((q : Int) + 1) % 256 = _; omega
      have hqb : q ≤ 254 := by omega
      have MQ : Hid (∀ (g' c : Nat) (w' : World), Own8 w' g' (n2 + m + 1) (Sha.cat n2 (Sha.drawnB K m g q) (Sha.cat m g (fun _ => X))) → Tabs w' → Calls Tryd.prog 35 #[.agg KA, .slice (some ⟨g', 0, none⟩) (n2 + m + 1) c] w' fun e w'' => e = .returned (.string (kstr (Sha.drawnB K m g (q + 1)) 0 32)) ∧ Below w'.heap.size w' w'') := fun g' c w' h8 ht => by
        have := MC.out q g' c w' (by rw [← HN2.out, ← hX]; exact h8) ht
        rw [← HN2.out] at this
        exact this
      clear hX MC
      go_upto_region 5 with fail
      have H : DSt w wr.drew K := ⟨HD.out.1, HD.out.2.drew⟩
      refine wp_region_noPanic ?_
      refine wp_region_held_drew (S := fun w' => DSt w w' K) (by kernel_rfl) H (fun _ => ?_)
      have HOd : Hid (wr.drew.ownsRow (w.heap.size + 1) 5 1 (.slice a L cc) L (bv L (Sha.drawnF K m g))) := HO.out
      have HKd : Hid (Code8 wr.drew a2 n2 (Sha.drawnB K m g q)) := HK2.out
      have hszd : w.heap.size + 1 ≤ wr.drew.heap.size := hsz
      clear HO HK2 HD hsz
      generalize wr.drew = wd at *
      refine wpAnyH_take (i := 0) (v := .agg (bv 64 K).toArray) rfl (by kernel_rfl) (by kernel_rfl) (by kernel_rfl) (fun _ _ _ h => h) (yieldsIf_load_mid (by rfl) 58 (.tmp 3) rfl w.heap.size 0 rfl (bv 64 K) _ (fun w h => h.1.range) Tryd.underlying58 rfl (by rw [bv_length]; exact Tryd.sizeMk)) H ?_
      rw [EA.out]
      change wpAnyH _ _ _ _ _ _ _ { tmps := #[_, _, _, _, _, _, _, _, _, _, _, _, _, _, _, _, _, _, _, _, _, _, _, _, _, _, _, _, _, _, _, _, _], defers := [] } _
      refine wpAnyH_take (i := 1) (v := .slice a2 n2 c2) rfl (by kernel_rfl) (by kernel_rfl) (by kernel_rfl) (fun _ _ _ h => h) (Or.inl ⟨by rfl, ?_⟩) H ?_
      · intro wq hSq; go_simp
      change wpAnyH _ _ _ _ _ _ _ { tmps := #[_, _, _, _, _, _, _, _, _, _, _, _, _, _, _, _, _, _, _, _, _, _, _, _, _, _, _, _, _, _, _, _, _], defers := [] } _
      refine wpAnyH_take (i := 2) (v := .slice (some ⟨b, o, none⟩) m c) rfl (by kernel_rfl) (by kernel_rfl) (by kernel_rfl) (fun _ _ _ h => h) (Or.inl ⟨by rfl, ?_⟩) H ?_
      · intro wq hSq; go_simp
      change wpAnyH _ _ _ _ _ _ _ { tmps := #[_, _, _, _, _, _, _, _, _, _, _, _, _, _, _, _, _, _, _, _, _, _, _, _, _, _, _, _, _, _, _, _, _], defers := [] } _
      refine wpAnyH_take (i := 3) (v := .int .i64 ((q + 1 : Nat) : Int)) rfl (by kernel_rfl) (by kernel_rfl) (by kernel_rfl) (fun _ _ _ h => h) (Or.inl ⟨by rfl, ?_⟩) H ?_
      · intro wq hSq; go_simp
      change wpAnyH _ _ _ _ _ _ _ { tmps := #[_, _, _, _, _, _, _, _, _, _, _, _, _, _, _, _, _, _, _, _, _, _, _, _, _, _, _, _, _, _, _, _, _], defers := [] } _
      refine wpAnyH_take (i := 4) (v := .int .u8 (X : Int)) rfl (by kernel_rfl) (by kernel_rfl) (by kernel_rfl) (fun _ _ _ h => h) (Or.inl ⟨by rfl, ?_⟩) H ?_
      · intro wq hSq; go_simp
      change wpAnyH _ _ _ _ _ _ _ { tmps := #[_, _, _, _, _, _, _, _, _, _, _, _, _, _, _, _, _, _, _, _, _, _, _, _, _, _, _, _, _, _, _, _, _], defers := [] } _
      have BX : Below wd.heap.size wd (wd.alloc (.cells #[.int .u8 (X : Int)] 5)) := (Below.refl _ _).alloc (Nat.le_refl _) _
      have KX : Code8 (wd.alloc (.cells #[.int .u8 (X : Int)] 5)) (some ⟨wd.heap.size, 0, none⟩) 1 (fun _ => X) := fun i hi => ⟨_, 0, rfl, by rw [show 0 + i = 0 from by omega]; simp⟩
      refine wpAnyH_ready (rs := [5]) (by kernel_rfl) (by simp) ?_
      refine AllReadyH.cons rfl (fun KK hK => ?_) AllReadyH.nil
      go_simp
      replace H := DSt.below H BX
      refine hK.out _ _ H (fun _ => ?_)
      clear hK KK
      have HO5 : Hid ((wd.alloc (.cells #[.int .u8 (X : Int)] 5)).ownsRow (w.heap.size + 1) 5 1 (.slice a L cc) L (bv L (Sha.drawnF K m g))) := ownsRow_below8 HOd.out BX
      have HK5 : Hid (Code8 (wd.alloc (.cells #[.int .u8 (X : Int)] 5)) a2 n2 (Sha.drawnB K m g q)) := HKd.out.below BX
      have HX5 : Hid (Code8 (wd.alloc (.cells #[.int .u8 (X : Int)] 5)) (some ⟨wd.heap.size, 0, none⟩) 1 (fun _ => X)) := KX
      have hsz5 : w.heap.size + 1 ≤ (wd.alloc (.cells #[.int .u8 (X : Int)] 5)).heap.size := Nat.le_trans hszd BX.size
      clear BX KX HOd HKd hszd
      generalize wd.alloc (.cells #[.int .u8 (X : Int)] 5) = w5 at *
      generalize wd.heap.size = bX at *
      change wpAnyH _ _ _ _ _ _ _ { tmps := #[_, _, _, _, _, _, _, _, _, _, _, _, _, _, _, _, _, _, _, _, _, _, _, _, _, _, _, _, _, _, _, _, _], defers := [] } _
      have HI5 : Hid (Code8 w5 (some ⟨b, o, none⟩) m g) := HC.out.below H.2
      have CC : Hid (Calls Tryd.prog 39 #[.slice (some ⟨w5.heap.size, 0, none⟩) 3 3] (w5.alloc (.cells #[.slice a2 n2 c2, .slice (some ⟨b, o, none⟩) m c, .slice (some ⟨bX, 0, none⟩) 1 1] 30)) fun e w' => (∃ g' c, e = .returned (.slice (some ⟨g', 0, none⟩) (n2 + m + 1) c) ∧ Own8 w' g' (n2 + m + 1) (Sha.cat n2 (Sha.drawnB K m g q) (Sha.cat m g (fun _ => X)))) ∧ Below w5.heap.size w5 w') := concat3_any a2 n2 c2 b o m c bX 0 1 1 _ g (fun _ => X) HNL.out (by omega) (by omega) w5 _ rfl HK5.out HI5.out HX5.out
      refine wpAnyH_ready (rs := [6]) (by kernel_rfl) (by simp) ?_
      refine AllReadyH.cons rfl (fun KK hK => ?_) AllReadyH.nil
      go_simp
      refine hK.out _ _ (DSt.below H ((Below.refl _ _).alloc (Nat.le_refl _) _)) (fun _ => ?_)
      clear hK KK
      change wpAnyH _ _ _ _ _ _ _ { tmps := #[_, _, _, _, _, _, _, _, _, _, _, _, _, _, _, _, _, _, _, _, _, _, _, _, _, _, _, _, _, _, _, _, _], defers := [] } _
      refine wpAnyH_ready (rs := [7]) (by kernel_rfl) (by simp) ?_
      refine AllReadyH.cons rfl (fun KK hK => ?_) AllReadyH.nil
      go_simp
      refine CC.out.mono ?_
      rintro e w6 ⟨⟨g6, c6, rfl, ho6⟩, hb6⟩
      replace H := DSt.below H hb6
      have HO6 : Hid (w6.ownsRow (w.heap.size + 1) 5 1 (.slice a L cc) L (bv L (Sha.drawnF K m g))) := ownsRow_below8 HO5.out hb6
      have hsz6 : w.heap.size + 1 ≤ w6.heap.size := Nat.le_trans hsz5 hb6.size
      refine hK.out _ _ H (fun _ => ?_)
      clear hK KK hb6 CC HO5 HK5 HX5 HI5 hsz5
      change wpAnyH _ _ _ _ _ _ _ { tmps := #[_, _, _, _, _, _, _, _, _, _, _, _, _, _, _, _, _, _, _, _, _, _, _, _, _, _, _, _, _, _, _, _, _], defers := [] } _
      refine wpAnyH_ready (rs := [8]) (by kernel_rfl) (by simp) ?_
      refine AllReadyH.cons rfl (fun KK hK => ?_) AllReadyH.nil
      go_simp
      refine (MQ.out g6 c6 _ ho6 (HT.out.below H.2)).mono ?_
      rintro e w7 ⟨rfl, hb7⟩
      replace H := DSt.below H hb7
      have HO7 : Hid (w7.ownsRow (w.heap.size + 1) 5 1 (.slice a L cc) L (bv L (Sha.drawnF K m g))) := ownsRow_below8 HO6.out hb7
      have hsz7 : w.heap.size + 1 ≤ w7.heap.size := Nat.le_trans hsz6 hb7.size
      refine hK.out _ _ H (fun _ => ?_)
      clear hK KK hb7 HO6 hsz6 ho6 MQ
      change wpAnyH _ _ _ _ _ _ _ { tmps := #[_, _, _, _, _, _, _, _, _, _, _, _, _, _, _, _, _, _, _, _, _, _, _, _, _, _, _, _, _, _, _, _, _], defers := [] } _
      obtain ⟨R, hR⟩ : ∃ R, R = kstr (Sha.drawnB K m g (q + 1)) 0 32 := ⟨_, rfl⟩
      have hRs : R.size = 32 := by rw [hR]; exact kstr_size _ _ _
      have HRs : Hid (∀ j, j < 32 → strB R j = Sha.drawnB K m g (q + 1) j) := fun j hj => by
        rw [hR, strB_kstr _ 0 32 j (by rw [Nat.zero_add]; exact Sha.mac_lt _ _ _ _) hj, Nat.zero_add]
      rw [← hR]
      clear hR
      obtain ⟨w8, c8, hcv, hk8, hb8, _⟩ := bytesOfM R w7
      rw [hRs] at hcv hk8
      refine wpAnyH_ready (rs := [9]) (by kernel_rfl) (by simp) ?_
      refine AllReadyH.cons rfl (fun KK hK => ?_) AllReadyH.nil
      go_simp
      replace H := DSt.below H hb8
      have HO8 : Hid (w8.ownsRow (w.heap.size + 1) 5 1 (.slice a L cc) L (bv L (Sha.drawnF K m g))) := ownsRow_below8 HO7.out hb8
      have HK8 : Hid (Code8 w8 (some ⟨w7.heap.size, 0, none⟩) 32 (Sha.drawnB K m g (q + 1))) := hk8.congr HRs.out
      have hsz8 : w.heap.size + 1 ≤ w8.heap.size := Nat.le_trans hsz7 hb8.size
      have HOB : Hid (∀ k, (Value.slice a L cc).ownBlock = some k → k < w7.heap.size) := fun k hk => (HO7.out.lt k hk).2
      refine hK.out _ _ H (fun _ => ?_)
      clear hK KK hb8 HO7 hcv hk8
      generalize w7.heap.size = b8 at *
      change wpAnyH _ _ _ _ _ _ _ { tmps := #[_, _, _, _, _, _, _, _, _, _, _, _, _, _, _, _, _, _, _, _, _, _, _, _, _, _, _, _, _, _, _, _, _], defers := [] } _
      refine wpAnyH_take (i := 10) (v := .slice (some ⟨b8, 0, none⟩) 32 c8) rfl (by kernel_rfl) (by kernel_rfl) (by kernel_rfl) (fun _ _ _ h => h) (Or.inl ⟨by rfl, ?_⟩) H ?_
      · intro wq hSq; go_simp
      change wpAnyH _ _ _ _ _ _ _ { tmps := #[_, _, _, _, _, _, _, _, _, _, _, _, _, _, _, _, _, _, _, _, _, _, _, _, _, _, _, _, _, _, _, _, _], defers := [] } _
      refine wpAnyH_done (by kernel_rfl) ?_ _
      refine NoPanic.normal ?_
      have HD8 : Hid (DSt w w8 K) := H
      clear H
      go_wp2_with (at_builtin; refine wpList_append_own _ rfl _ _ 30 rfl (w.heap.size + 1) 5 i0 (.int .u8 0) 1 1 Tryd.underlying30 HI.out.1 HI.out.2.1 HI.out.2.2.1 HI.out.2.2.2 rfl (by decide) (.slice a L cc) L _ rfl HO8.out ⟨b8, 0, none⟩ 32 c8 (bv 32 (Sha.drawnB K m g (q + 1))) rfl (by rw [bv_length]) (bv_news HK8.out) (bv_one _ _) (by unfold maxLen; omega) (by omega) hsz8 ?_)
      intro v' w9 hown hgrow hnil
      have BG : Below (w.heap.size + 1) w8 w9 := grown_below HO8.out hgrow hsz8
      have EB : bv L (Sha.drawnF K m g) ++ bv 32 (Sha.drawnB K m g (q + 1)) = bv (L + 32) (Sha.drawnF K m g) := by
        rw [bv_append]
        refine bv_congr (fun i hi => ?_)
        have hL := HL.out
        by_cases hi2 : i < L
        · rw [if_pos hi2]
        · rw [if_neg hi2]
          unfold Sha.drawnF
          rw [show i / 32 + 1 = q + 1 from by omega, show i % 32 = i - L from by omega]
      rw [EB] at hown
      have hne : v' ≠ .slice none 0 0 := fun h => by
        have := hown.1
        subst h
        rcases hown.2 with ⟨_, h0⟩ | ⟨g', cap', cur, h0, _⟩
        · omega
        · cases h0
      obtain ⟨g9, c9, hgc9, rfl, -⟩ := own8_of_own hown hne
      have HO9 : Hid (w9.ownsRow (w.heap.size + 1) 5 1 (.slice (some ⟨g9, 0, none⟩) (L + 32) c9) (L + 32) (bv (L + 32) (Sha.drawnF K m g))) := hown
      have hb8lt : b8 < w8.heap.size := HK8.out.lt _ (by omega) rfl
      have HK9 : Hid (Code8 w9 (some ⟨b8, 0, none⟩) 32 (Sha.drawnB K m g (q + 1))) := HK8.out.grown hgrow (fun e => absurd (HOB.out b8 e.symm) (by omega))
      have HD9 : Hid (DSt w w9 K) := ⟨World.rowIs.of_block HD8.out.1 (BG.block _ (by omega)), HD8.out.2.trans (BG.mono (by omega))⟩
      have HS9 : Hid (w.heap.size + 1 ≤ w9.heap.size) := Nat.le_trans hsz8 BG.size
      have HL2 : Hid (32 * (q + 1) = L + 32) := by show _ = _; have := HL.out; omega
      clear hown hgrow hnil BG HO8 HK8 HD8 EB hne HOB
      go_wp2
      go_roundw
      case rel => exact ⟨q + 1, some ⟨g9, 0, none⟩, c9, some ⟨b8, 0, none⟩, 32, c8, by omega, by go_num, by rw [HL2.out], rfl, by rw [if_neg (by omega)], HK9.out, .inr ⟨b8, rfl⟩, by rw [HL2.out]; exact HO9.out, HD9.out, HS9.out⟩
      case measure => simp [lenH]; have := HL.out; omega
    · have hlt' : ¬ ((32 * q : Nat) : Int) < (n : Int) := by omega
      clear MC HK2 HN2 HNL HC HT
      rcases Nat.eq_zero_or_pos q with rfl | hq0
      · obtain rfl : n = 0 := by omega
        have HBB : Hid (Below w.heap.size w wr) := HD.out.2
        have HK0 : Hid (kstr (Sha.drawnF K m g) 0 0 = ⟨#[]⟩) := rfl
        rcases HO.out.2 with ⟨h0, _⟩ | ⟨g9, c9, cur, h0, _⟩
        · cases h0
          have cv : (convert 30 9 (.slice none 0 0)).run Tryd.prog wr = .ok (.string ⟨#[]⟩) wr := run_convert_nil wr
          clear HO HD
          go_wp2
          go_ret
          exact ⟨by rw [HK0.out]; rfl, HBB.out⟩
        · cases h0
          have cv : (convert 30 9 (.slice (some ⟨g9, 0, none⟩) 0 cc)).run Tryd.prog wr = .ok (.string ⟨#[]⟩) wr := kstr_of_code (c := cc) (code8_of (f := fun _ => 0) (fun i hi => absurd hi (by omega)))
          clear HO HD
          go_wp2
          go_ret
          exact ⟨by rw [HK0.out]; rfl, HBB.out⟩
      · obtain ⟨g9, c9, ⟨hg9, hc9⟩, e9, ho9⟩ := own8_of_owned HO.out (by omega)
        cases e9
        have cv := kstr_of_code (c := cc) (ho9.part (n' := n) (by omega)).code
        have x1 : (n : Int) ≤ (cc : Int) := by omega
        have x0 : (0 : Int) ≤ (n : Int) := by omega
        have HBB : Hid (Below w.heap.size w wr) := HD.out.2
        generalize hRR : kstr (Sha.drawnF K m g) 0 n = RR at cv
        have HRR : Hid (kstr (Sha.drawnF K m g) 0 n = RR) := hRR
        clear hRR HO ho9 HD hg9
        go_wp2
        go_ret
        exact ⟨by rw [HRR.out]; rfl, HBB.out⟩
end Go.Proofs.YtonccbgolbcjfabDoor
