/-
  The contract of impl.unchained.
-/
import Derived.Test.YtggnaohigiakeaaCbc
import Derived.Test.YtggnaohigiakeaaDecrypt
namespace Go.Proofs.Ytggnaohigiakeaa
open Go.ChangeShapes Go.WideShapes Go.ChangeAt Go.RowKit
/-- The block ahead of block i. -/
def prevB (iv c : Nat → Nat) (i j : Nat) : Nat := if i = 0 then iv j else c (16 * (i - 1) + j)
theorem mkRoom (n : Nat) (hn : n ≤ 10000000) (w : World) : ∃ w', (Instr.makeSlice 22 (.int .i64 0) (.int .i64 (n : Int))).run Try.prog w = .ok (.slice (some ⟨w.heap.size, 0, none⟩) 0 n) w' ∧ w'.ownsRow w.heap.size 5 1 (.slice (some ⟨w.heap.size, 0, none⟩) 0 n) 0 [] ∧ Below w.heap.size w w' := by
  obtain ⟨i0, hi, hz, hs, hb⟩ := info_parts Try.info8
  have hr := run_make (P := Try.prog) w 22 5 i0 (.int .u8 0) Try.underlying22 hi hz .i64 .i64 0 (n : Int) (Int.le_refl _) (by omega) (by rw [hb]; omega) (by omega)
  simp only [Int.toNat_natCast, hs, Nat.mul_one] at hr
  refine ⟨_, hr, World.ownsRow_made w _ n (Nat.le_refl _) (by unfold maxLen; omega) ?_, (Below.refl _ _).alloc (Nat.le_refl _) _⟩
  rw [size_madeCells]
  omega
/-- What unchained's steps keep. -/
def UNC (w0 : World) (Cb m bb ab B0 : Nat) (K X Y : Nat → Nat) (v : Value) (q : Nat) (xs : List Value) (w' : World) : Prop := Row8 w' bb 44 16 X ∧ Row8 w' ab 44 16 Y ∧ CiphAt w' Cb m K ∧ w'.ownsRow B0 5 1 v q xs ∧ Below w0.heap.size w0 w'
theorem UNC.below {w0 w' w'' : World} {Cb m bb ab B0 : Nat} {K X Y : Nat → Nat} {v : Value} {q : Nat} {xs : List Value} (h : UNC w0 Cb m bb ab B0 K X Y v q xs w') (hb : Below w'.heap.size w' w'') : UNC w0 Cb m bb ab B0 K X Y v q xs w'' :=
  ⟨h.1.below hb, h.2.1.below hb, h.2.2.1.below hb, ownsRow_below8 h.2.2.2.1 hb, h.2.2.2.2.trans (hb.mono h.2.2.2.2.size)⟩
theorem UNC.drew {w0 w' : World} {Cb m bb ab B0 : Nat} {K X Y : Nat → Nat} {v : Value} {q : Nat} {xs : List Value} (h : UNC w0 Cb m bb ab B0 K X Y v q xs w') : UNC w0 Cb m bb ab B0 K X Y v q xs w'.drew := ⟨h.1, h.2.1, h.2.2.1, h.2.2.2.1, h.2.2.2.2.drew⟩
theorem ownsRow_ne {w w' : World} {c base : Nat} {e : TypeId} {size : Nat} {v : Value} {n : Nat} {xs : List Value} (h : w.ownsRow base e size v n xs) (ho : OnlyB c w w') (hne : ∀ k, v.ownBlock = some k → k ≠ c) : w'.ownsRow base e size v n xs := by
  obtain ⟨hl, h0 | ⟨g, cap, cur, hv, h1, hh, h2⟩⟩ := h
  · exact ⟨hl, .inl h0⟩
  · refine ⟨hl, .inr ⟨g, cap, cur, hv, h1, ?_, h2⟩⟩
    rw [ho.block g ?_ (hne g (by rw [hv]; rfl))]
    · exact hh
    · rcases Nat.lt_or_ge g w.heap.size with k | k
      · exact k
      · rw [Array.getElem?_eq_none k] at hh; cases hh
theorem unc_store {w0 w' : World} {Cb m bb ab B0 pb : Nat} {K X Y : Nat → Nat} {v : Value} {q : Nat} {xs : List Value} (h : UNC w0 Cb m bb ab B0 K X Y v q xs w') (hz : Row8 w' pb 44 16 (fun _ => 0)) (h1 : bb < pb) (h2 : ab < pb) (h3 : Cb < pb) (h4 : w0.heap.size ≤ pb) (h5 : ∀ k, v.ownBlock = some k → k ≠ pb) (G : Nat → Nat) :
    UNC w0 Cb m bb ab B0 K X Y v q xs (w'.setCells pb 0 (bv 16 G)) ∧ Row8 (w'.setCells pb 0 (bv 16 G)) pb 44 16 G ∧ w'.heap.size ≤ (w'.setCells pb 0 (bv 16 G)).heap.size := by
  have X1 : OnlyB pb w' (w'.setCells pb 0 (bv 16 G)) := onlyB_setCells _ _ _ (OnlyB.refl _ _)
  exact ⟨⟨h.1.onlyB X1 (by omega), h.2.1.onlyB X1 (by omega), h.2.2.1.onlyBe X1 (by omega), ownsRow_ne h.2.2.2.1 X1 h5, h.2.2.2.2.trans (X1.toBelow h4 h.2.2.2.2.size)⟩, hz.stored G, X1.size⟩
/-- What holds where a block more begins: i blocks are done. -/
def UnJ (w0 : World) (Cb m ab B0 n : Nat) (K iv c : Nat → Nat) (b o : Nat) (a' : Act) (w' : World) : Prop := ∃ (i gb gc : Nat) (ra : Option Addr) (L cr : Nat) (u0 u1 u2 u3 u5 u6 u10 u11 u12 u13 u14 u15 u16 u17 u18 u19 u20 u21 u22 u23 u24 u25 u26 u27 u28 u29 u30 u31 u32 u33 u34 u35 : Value), a' = { tmps := #[u0, u1, u2, u3, .pointer (some ⟨ab, 0, none⟩), u5, u6, .pointer (some ⟨Cb, 0, none⟩), .slice (some ⟨gb, 0, none⟩) (16 * i) gc, .slice ra L cr, u10, u11, u12, u13, u14, u15, u16, u17, u18, u19, u20, u21, u22, u23, u24, u25, u26, u27, u28, u29, u30, u31, u32, u33, u34, u35], defers := [] } ∧
  L = n - 16 * i ∧ 16 * i ≤ n ∧ (16 * i < n → ra = some ⟨b, o + 16 * i, none⟩) ∧ L ≤ cr ∧ w'.ownsRow B0 5 1 (.slice (some ⟨gb, 0, none⟩) (16 * i) gc) (16 * i) (bv (16 * i) (cbcD K m iv c)) ∧ Row8 w' ab 44 16 (prevB iv c i) ∧ CiphAt w' Cb m K ∧ Below w0.heap.size w0 w' ∧ B0 ≤ w'.heap.size
set_option maxRecDepth 100000 in
set_option maxHeartbeats 4000000 in
theorem unchained_any (k : ByteArray) (kn b o n cp : Nat) (iv c : Nat → Nat) (hkn : kn = 4 ∨ kn = 8) (hk : k.size = kn * 4) (hn : n ≤ 65536) (hn16 : n % 16 = 0) (hncp : n ≤ cp) (hi : ∀ j, iv j < 256) (hc : ∀ i, c i < 256) (w : World) (h : Code8 w (some ⟨b, o, none⟩) n c) :
    Calls Try.prog 43 #[.string k, .agg (bA 16 iv), .slice (some ⟨b, o, none⟩) n cp] w fun e w' => RetB w w' e n (cbcD (Gf.ws (strB k) kn (3 * kn + 28)) (kn + 6) iv c) ∧ Below w.heap.size w w' := by
  obtain ⟨i0, hi0⟩ := info_parts Try.info8
  have HI : Hid (Try.prog.info? 5 = some i0 ∧ i0.zero = some (.int .u8 0) ∧ i0.size = 1 ∧ i0.bytes = 1) := hi0
  have NC : Hid (∀ w : World, Calls Try.prog 35 #[.string k] w fun e w' => e = .returned (.agg (cA (kn + 6) (Gf.ws (strB k) kn (3 * kn + 28)))) ∧ Below w.heap.size w w') := newCipher_any k kn hkn hk
  have LW : Hid (∀ j, Gf.ws (strB k) kn (3 * kn + 28) j < 256) := Gf.ws_lt (strB_lt k) _
  generalize Gf.ws (strB k) kn (3 * kn + 28) = W at *
  obtain ⟨m, hm⟩ : ∃ m, m = kn + 6 := ⟨_, rfl⟩
  have hm1 : 1 ≤ m := by omega
  have hm2 : m ≤ 14 := by omega
  rw [← hm] at NC ⊢
  have LI : Hid (∀ j, iv j < 256) := hi
  have LC : Hid (∀ j, c j < 256) := hc
  have LV : Hid (∀ i j, prevB iv c i j < 256) := fun i j => by
    show (if i = 0 then iv j else c (16 * (i - 1) + j)) < 256
    split
    · exact hi j
    · exact hc _
  obtain ⟨Z, z0, hZ, -⟩ := Try.zeroC
  have S2 : Hid ((Try.prog.info? 49).map (·.size) = some (cA m W).size) := by rw [cA_size]; exact Try.sizeC
  have O2 : Hid ((cA m W).all (·.oneCell') = true) := cA_one _ _
  have hLen : (cA m W).toList.length = 769 := cA_len _ _
  have hAt : Hid (∀ k, k < 769 → (cA m W).toList[k]? = some (cf m W k)) := fun k hk => by
    have := cA_at (n := m) (K := W) hk
    rwa [← Array.getElem?_toList] at this
  have HSZ : Hid ((cA m W).size = 769) := cA_size _ _
  generalize cA m W = CA at *
  have HC : Hid (Code8 w (some ⟨b, o, none⟩) n c) := h
  clear h hc hi hkn hk hm hi0
  go_enter Try.func43, Try.ntmps43
  go_wp2
  refine wp_scope_label 0 (fun a' w' => ∃ Cb ab B0, (Cb < B0 ∧ ab < B0 ∧ w.heap.size ≤ ab ∧ w.heap.size ≤ Cb ∧ Cb ≠ ab) ∧ UnJ w Cb m ab B0 n W iv c b o a' w') (fun a' _ => lenOf (a'.tmps.getD 9 undef)) rfl ?_ ?_
  · rintro a' wr ⟨Cb, ab, B0, ⟨hCB, haB, hwa, hwC, hCa⟩, i, gb, gc, ra, L, cr, u0, u1, u2, u3, u5, u6, u10, u11, u12, u13, u14, u15, u16, u17, u18, u19, u20, u21, u22, u23, u24, u25, u26, u27, u28, u29, u30, u31, u32, u33, u34, u35, rfl, hL, hi, hra, hcr, hown, hr, hC, hB, hB0⟩
    have HO : Hid (wr.ownsRow B0 5 1 (.slice (some ⟨gb, 0, none⟩) (16 * i) gc) (16 * i) (bv (16 * i) (cbcD W m iv c))) := hown
    have HR : Hid (Row8 wr ab 44 16 (prevB iv c i)) := hr
    have CC : Hid (CiphAt wr Cb m W) := hC
    have HB : Hid (Below w.heap.size w wr) := hB
    clear hown hr hC hB
    clear NC S2 O2 hLen hAt HSZ z0 hZ
    by_cases hlt : 16 * i < n
    · have era := hra hlt
      subst era
      have hMi : 16 * i + 16 ≤ n := by omega
      have hb : b < w.heap.size := HC.out.lt _ (by omega) rfl
      have eL : ((L : Int) == 0) = false := by rw [beq_eq_false_iff_ne]; omega
      have xc : (16 : Int) ≤ (cr : Int) := by omega
      have xL : (16 : Int) ≤ (L : Int) := by omega
      obtain ⟨X, hX⟩ : ∃ X : Nat → Nat, X = fun j => c (16 * i + j) := ⟨_, rfl⟩
      have lX : Hid (∀ j, X j < 256) := fun j => by rw [hX]; exact LC.out _
      obtain ⟨S, hS⟩ : ∃ S, S = kstr X 0 16 := ⟨_, rfl⟩
      have hcv : ∀ cap, (convert 22 9 (.slice (some ⟨b, o + 16 * i, none⟩) 16 cap)).run Try.prog wr = .ok (.string S) wr := fun cap => by
        rw [hS]
        refine kstr_of_code (code8_of (fun j hj => ?_))
        rw [HB.out.cell (p := ⟨b, o + 16 * i + j, none⟩) hb, hX, Nat.add_assoc]
        exact HC.out.at (by omega)
      have SO : Hid (∀ w : World, Calls Try.prog 41 #[.string S] w fun e w' => e = .returned (.agg (bA 16 X)) ∧ Below w.heap.size w w') := fun w => by
        have := stateOf_le S (by rw [hS, kstr_size]; exact Nat.le_refl _) w
        rwa [hS, bA_same (same_strB (fun j _ => lX.out j)), ← hS] at this
      have DE : Hid (∀ w : World, CiphAt w Cb m W → Calls Try.prog 65 #[.pointer (some ⟨Cb, 0, none⟩), .agg (bv 16 X).toArray] w fun e w' => e = .returned (.agg (bA 16 (Gf.dec W m X))) ∧ Below w.heap.size w w') := fun w h => decrypt_any Cb m W X (fun j _ => lX.out j) LW.out hm1 hm2 w h
      have AD : Hid (∀ w : World, Calls Try.prog 44 #[.agg (bA 16 (Gf.dec W m X)), .agg (bv 16 (prevB iv c i)).toArray] w fun e w' => e = .returned (.agg (bA 16 (fun j => Gf.dec W m X j ^^^ prevB iv c i j))) ∧ Below w.heap.size w w') := added_any _ _ (fun j hj => Gf.dec_lt LW.out (fun j _ => lX.out j) j hj) (fun j _ => LV.out i j)
      have HPl : Hid (∀ j, j < 16 → Gf.dec W m X j ^^^ prevB iv c i j = cbcD W m iv c (16 * i + j)) := fun j hj => by
        unfold cbcD
        rw [show (16 * i + j) / 16 = i from by omega, show (16 * i + j) % 16 = j from by omega, hX]
        congr 1
        unfold prevB
        by_cases e : i = 0
        · subst e
          rw [if_pos rfl, if_pos (by omega), show 16 * 0 + j = j from by omega]
        · rw [if_neg e, if_neg (by omega), show 16 * (i - 1) + j = 16 * i + j - 16 from by omega]
      have HPv : Hid (prevB iv c (i + 1) = X) := by
        show prevB iv c (i + 1) = X
        rw [hX]
        funext j
        unfold prevB
        rw [if_neg (by omega)]
        rfl
      have HL : Hid (L - 16 = n - 16 * (i + 1)) := by show L - 16 = _; omega
      have SA : Hid ((Try.prog.info? 44).map (·.size) = some (bA 16 X).size) := by rw [bA_size]; exact Try.sizeSt
      have OA : Hid ((bA 16 X).all (·.oneCell') = true) := bA_one _ _
      have TL : Hid ((bA 16 X).toList = bv 16 X) := bA_toList _ _
      have BS : Hid ((bA 16 X).size = 16) := bA_size _ _
      generalize bA 16 X = XA at *
      generalize prevB iv c i = Y at *
      clear hX hS hra hL LC LI LV
      go_wp2_with fail
      refine (SO.out _).mono ?_
      rintro e w1 ⟨rfl, hb1⟩
      have Z1 : Hid (Row8 (w1.alloc (.cells z16 44)) w1.heap.size 44 16 (fun _ => 0)) := Row8.z16At rfl _
      have hw1 : wr.heap.size ≤ w1.heap.size := hb1.size
      have hab1 := HR.out.lt
      have hgbr := (HO.out.lt gb rfl).2
      have U0 : UNC w Cb m w1.heap.size ab B0 W X Y (.slice (some ⟨gb, 0, none⟩) (16 * i) gc) (16 * i) (bv (16 * i) (cbcD W m iv c)) ((w1.alloc (.cells z16 44)).setCells w1.heap.size 0 (bv 16 X)) := by
        have X1 : OnlyB w1.heap.size (w1.alloc (.cells z16 44)) ((w1.alloc (.cells z16 44)).setCells w1.heap.size 0 (bv 16 X)) := onlyB_setCells _ _ _ (OnlyB.refl _ _)
        have Bz : Below wr.heap.size wr (w1.alloc (.cells z16 44)) := hb1.alloc hw1 _
        have Bx : Below wr.heap.size wr ((w1.alloc (.cells z16 44)).setCells w1.heap.size 0 (bv 16 X)) := Bz.trans (X1.toBelow hw1 (by simp; omega))
        exact ⟨Z1.out.stored _, HR.out.below Bx, CC.out.below Bx, ownsRow_below8 HO.out Bx, HB.out.trans (Bx.mono HB.out.size)⟩
      have hB01 : B0 ≤ ((w1.alloc (.cells z16 44)).setCells w1.heap.size 0 (bv 16 X)).heap.size := by
        have X1 : OnlyB w1.heap.size (w1.alloc (.cells z16 44)) ((w1.alloc (.cells z16 44)).setCells w1.heap.size 0 (bv 16 X)) := onlyB_setCells _ _ _ (OnlyB.refl _ _)
        have := X1.size
        simp at this
        omega
      have hB0bb : B0 ≤ w1.heap.size := Nat.le_trans hB0 hw1
      have HU0 : Hid (UNC w Cb m w1.heap.size ab B0 W X Y (.slice (some ⟨gb, 0, none⟩) (16 * i) gc) (16 * i) (bv (16 * i) (cbcD W m iv c)) ((w1.alloc (.cells z16 44)).setCells w1.heap.size 0 (bv 16 X))) := U0
      clear U0 hb1 HO HR CC HB SO hcv
      unfold z16 at Z1 HU0 hB01
      go_upto_region 7 with (refine wpList_store_mid rfl 44 (.tmp 10) (.tmp 25) rfl w1.heap.size 0 XA rfl rfl (by rw [BS.out]; exact Z1.out.there) SA.out OA.out ?_)
      rw [TL.out]
      generalize (w1.alloc (.cells #[.int .u8 0, .int .u8 0, .int .u8 0, .int .u8 0, .int .u8 0, .int .u8 0, .int .u8 0, .int .u8 0, .int .u8 0, .int .u8 0, .int .u8 0, .int .u8 0, .int .u8 0, .int .u8 0, .int .u8 0, .int .u8 0] 44)).setCells w1.heap.size 0 (bv 16 X) = w2 at *
      generalize hbb : w1.heap.size = bb at *
      clear SA OA TL BS Z1
      have H : UNC w Cb m bb ab B0 W X Y (.slice (some ⟨gb, 0, none⟩) (16 * i) gc) (16 * i) (bv (16 * i) (cbcD W m iv c)) w2.drew := HU0.out.drew
      generalize hOUT : bv (16 * i) (cbcD W m iv c) = OUT at *
      have HOUT : Hid (bv (16 * i) (cbcD W m iv c) = OUT) := hOUT
      clear hOUT
      dsimp only [Act.put]
      go_cut [11] (fun v wx => ∃ pb, v = .pointer (some ⟨pb, 0, none⟩) ∧ Row8 wx pb 44 16 (fun j => Gf.dec W m X j ^^^ Y j) ∧ bb < pb ∧ UNC w Cb m bb ab B0 W X Y (.slice (some ⟨gb, 0, none⟩) (16 * i) gc) (16 * i) OUT wx ∧ B0 ≤ wx.heap.size)
      case first =>
        have hbase : max B0 (bb + 1) ≤ w2.drew.heap.size := by have h1 := H.1.lt; have h2 : B0 ≤ w2.drew.heap.size := hB01; omega
        refine wp_region_noPanic ?_
        refine wp_region_held_drew (S := fun w' => UNC w Cb m bb ab B0 W X Y (.slice (some ⟨gb, 0, none⟩) (16 * i) gc) (16 * i) OUT w') (by kernel_rfl) H (fun _ => ?_)
        refine wpAnyH_take (i := 0) (v := .agg (bv 16 X).toArray) rfl (by kernel_rfl) (by kernel_rfl) (by kernel_rfl) (fun _ _ _ h => h) (yieldsIf_load_mid (by rfl) 44 (.tmp 10) rfl bb 0 rfl (bv 16 X) _ (fun w h => h.1.range) Try.underlying44 rfl (by rw [bv_length]; exact Try.sizeSt)) H ?_
        change wpAnyH _ _ _ _ _ _ _ { tmps := #[_, _, _, _, _, _, _, _, _, _, _, _, _, _, _, _, _, _, _, _, _, _, _, _, _, _, _, _, _, _, _, _, _, _, _, _], defers := [] } _
        refine wpAnyH_take (i := 2) (v := .agg (bv 16 Y).toArray) rfl (by kernel_rfl) (by kernel_rfl) (by kernel_rfl) (fun _ _ _ h => h) (yieldsIf_load_mid (by rfl) 44 (.tmp 4) rfl ab 0 rfl (bv 16 Y) _ (fun w h => h.2.1.range) Try.underlying44 rfl (by rw [bv_length]; exact Try.sizeSt)) H ?_
        change wpAnyH _ _ _ _ _ _ _ { tmps := #[_, _, _, _, _, _, _, _, _, _, _, _, _, _, _, _, _, _, _, _, _, _, _, _, _, _, _, _, _, _, _, _, _, _, _, _], defers := [] } _
        refine wpAnyH_ready (rs := [1, 4]) (by kernel_rfl) (by simp) ?_
        refine AllReadyH.cons rfl (fun KK hK => ?_) (AllReadyH.cons rfl (fun KK hK => ?_) AllReadyH.nil)
        · have HSb := hbase
          go_simp
          refine (DE.out _ H.2.2.1).mono ?_
          rintro e w3 ⟨rfl, hb3⟩
          replace H := UNC.below H hb3
          have hs3 := Nat.le_trans HSb hb3.size
          refine hK.out _ _ H (fun _ => ?_)
          clear hK KK hb3
          change wpAnyH _ _ _ _ _ _ _ { tmps := #[_, _, _, _, _, _, _, _, _, _, _, _, _, _, _, _, _, _, _, _, _, _, _, _, _, _, _, _, _, _, _, _, _, _, _, _], defers := [] } _
          refine wpAnyH_ready (rs := [3, 4]) (by kernel_rfl) (by simp) ?_
          refine AllReadyH.cons rfl (fun KK hK => ?_) (AllReadyH.cons rfl (fun KK hK => ?_) AllReadyH.nil)
          · go_simp
            refine (AD.out _).mono ?_
            rintro e w4 ⟨rfl, hb4⟩
            replace H := UNC.below H hb4
            have hs4 := Nat.le_trans hs3 hb4.size
            refine hK.out _ _ H (fun _ => ?_)
            clear hK KK hb4
            change wpAnyH _ _ _ _ _ _ _ { tmps := #[_, _, _, _, _, _, _, _, _, _, _, _, _, _, _, _, _, _, _, _, _, _, _, _, _, _, _, _, _, _, _, _, _, _, _, _], defers := [] } _
            refine wpAnyH_ready (rs := [4]) (by kernel_rfl) (by simp) ?_
            refine AllReadyH.cons rfl (fun KK hK => ?_) AllReadyH.nil
            go_simp
            have hgp : gb < w4.heap.size := (H.2.2.2.1.lt gb rfl).2
            have hpB : B0 ≤ w4.heap.size := by have h9 : max B0 (bb + 1) ≤ w4.heap.size := hs4; omega
            replace H : UNC w Cb m bb ab B0 W X Y (.slice (some ⟨gb, 0, none⟩) (16 * i) gc) (16 * i) OUT ((w4.alloc (.cells #[.int .u8 0, .int .u8 0, .int .u8 0, .int .u8 0, .int .u8 0, .int .u8 0, .int .u8 0, .int .u8 0, .int .u8 0, .int .u8 0, .int .u8 0, .int .u8 0, .int .u8 0, .int .u8 0, .int .u8 0, .int .u8 0] 44))) := UNC.below H ((Below.refl _ _).alloc (Nat.le_refl _) _)
            have HZ : Row8 ((w4.alloc (.cells #[.int .u8 0, .int .u8 0, .int .u8 0, .int .u8 0, .int .u8 0, .int .u8 0, .int .u8 0, .int .u8 0, .int .u8 0, .int .u8 0, .int .u8 0, .int .u8 0, .int .u8 0, .int .u8 0, .int .u8 0, .int .u8 0] 44))) w4.heap.size 44 16 (fun _ => 0) := Row8.z16At (w := w4) rfl _
            have hsA : w4.heap.size < ((w4.alloc (.cells #[.int .u8 0, .int .u8 0, .int .u8 0, .int .u8 0, .int .u8 0, .int .u8 0, .int .u8 0, .int .u8 0, .int .u8 0, .int .u8 0, .int .u8 0, .int .u8 0, .int .u8 0, .int .u8 0, .int .u8 0, .int .u8 0] 44))).heap.size := by simp
            have hbp : bb < w4.heap.size := by have h9 : max B0 (bb + 1) ≤ w4.heap.size := hs4; omega
            have hB0A : B0 ≤ ((w4.alloc (.cells #[.int .u8 0, .int .u8 0, .int .u8 0, .int .u8 0, .int .u8 0, .int .u8 0, .int .u8 0, .int .u8 0, .int .u8 0, .int .u8 0, .int .u8 0, .int .u8 0, .int .u8 0, .int .u8 0, .int .u8 0, .int .u8 0] 44))).heap.size := Nat.le_trans hpB (Nat.le_of_lt hsA)
            refine hK.out _ _ H (fun _ => ?_)
            clear hK KK
            change wpAnyH _ _ _ _ _ _ _ { tmps := #[_, _, _, _, _, _, _, _, _, _, _, _, _, _, _, _, _, _, _, _, _, _, _, _, _, _, _, _, _, _, _, _, _, _, _, _], defers := [] } _
            generalize (w4.alloc (.cells #[.int .u8 0, .int .u8 0, .int .u8 0, .int .u8 0, .int .u8 0, .int .u8 0, .int .u8 0, .int .u8 0, .int .u8 0, .int .u8 0, .int .u8 0, .int .u8 0, .int .u8 0, .int .u8 0, .int .u8 0, .int .u8 0] 44)) = wA at *
            generalize w4.heap.size = pb at *
            have hBw := hB0A
            refine wpAnyH_ready (rs := [5]) (by kernel_rfl) (by simp) ?_
            refine AllReadyH.cons rfl (fun KK hK => ?_) AllReadyH.nil
            rw [if_pos (by rfl)]
            refine wp_store_mid 44 (.tmp 11) (.tmp 29) rfl pb 0 (bA 16 (fun j => Gf.dec W m X j ^^^ Y j)) rfl rfl (by rw [bA_size]; exact HZ.there) (by rw [bA_size]; exact Try.sizeSt) (bA_one _ _) ?_
            rw [bA_toList]
            obtain ⟨H', HZ', hz'⟩ := unc_store H HZ hbp (by omega) (by omega) (by omega) (fun k hk => by simp [Value.ownBlock] at hk; omega) (fun j => Gf.dec W m X j ^^^ Y j)
            refine hK.out _ _ H' (fun _ => ?_)
            clear hK KK
            refine wpAnyH_done (by kernel_rfl) ?_ _
            refine NoPanic.normal ?_
            change Exit.then _ _ Exit.normal { tmps := #[_, _, _, _, _, _, _, _, _, _, _, _, _, _, _, _, _, _, _, _, _, _, _, _, _, _, _, _, _, _, _, _, _, _, _, _], defers := [] } _
            generalize (wA.setCells pb 0 (bv 16 (fun j => Gf.dec W m X j ^^^ Y j))) = wF at *
            generalize (bv 16 X).toArray = q1
            generalize (bv 16 Y).toArray = q2
            generalize bA 16 (Gf.dec W m X) = q3
            generalize bA 16 (fun j => Gf.dec W m X j ^^^ Y j) = q4
            go_wp2_with fail
            go_meet
            exact ⟨pb, rfl, HZ', hbp, H', Nat.le_trans hBw hz'⟩
          · go_simp
            have hgp : gb < w3.heap.size := (H.2.2.2.1.lt gb rfl).2
            have hpB : B0 ≤ w3.heap.size := by have h9 : max B0 (bb + 1) ≤ w3.heap.size := hs3; omega
            replace H : UNC w Cb m bb ab B0 W X Y (.slice (some ⟨gb, 0, none⟩) (16 * i) gc) (16 * i) OUT ((w3.alloc (.cells #[.int .u8 0, .int .u8 0, .int .u8 0, .int .u8 0, .int .u8 0, .int .u8 0, .int .u8 0, .int .u8 0, .int .u8 0, .int .u8 0, .int .u8 0, .int .u8 0, .int .u8 0, .int .u8 0, .int .u8 0, .int .u8 0] 44))) := UNC.below H ((Below.refl _ _).alloc (Nat.le_refl _) _)
            have HZ : Row8 ((w3.alloc (.cells #[.int .u8 0, .int .u8 0, .int .u8 0, .int .u8 0, .int .u8 0, .int .u8 0, .int .u8 0, .int .u8 0, .int .u8 0, .int .u8 0, .int .u8 0, .int .u8 0, .int .u8 0, .int .u8 0, .int .u8 0, .int .u8 0] 44))) w3.heap.size 44 16 (fun _ => 0) := Row8.z16At (w := w3) rfl _
            have hsA : w3.heap.size < ((w3.alloc (.cells #[.int .u8 0, .int .u8 0, .int .u8 0, .int .u8 0, .int .u8 0, .int .u8 0, .int .u8 0, .int .u8 0, .int .u8 0, .int .u8 0, .int .u8 0, .int .u8 0, .int .u8 0, .int .u8 0, .int .u8 0, .int .u8 0] 44))).heap.size := by simp
            have hbp : bb < w3.heap.size := by have h9 : max B0 (bb + 1) ≤ w3.heap.size := hs3; omega
            have hB0A : B0 ≤ ((w3.alloc (.cells #[.int .u8 0, .int .u8 0, .int .u8 0, .int .u8 0, .int .u8 0, .int .u8 0, .int .u8 0, .int .u8 0, .int .u8 0, .int .u8 0, .int .u8 0, .int .u8 0, .int .u8 0, .int .u8 0, .int .u8 0, .int .u8 0] 44))).heap.size := Nat.le_trans hpB (Nat.le_of_lt hsA)
            refine hK.out _ _ H (fun _ => ?_)
            clear hK KK
            change wpAnyH _ _ _ _ _ _ _ { tmps := #[_, _, _, _, _, _, _, _, _, _, _, _, _, _, _, _, _, _, _, _, _, _, _, _, _, _, _, _, _, _, _, _, _, _, _, _], defers := [] } _
            generalize (w3.alloc (.cells #[.int .u8 0, .int .u8 0, .int .u8 0, .int .u8 0, .int .u8 0, .int .u8 0, .int .u8 0, .int .u8 0, .int .u8 0, .int .u8 0, .int .u8 0, .int .u8 0, .int .u8 0, .int .u8 0, .int .u8 0, .int .u8 0] 44)) = wA at *
            generalize w3.heap.size = pb at *
            have hBw0 := hB0A
            refine wpAnyH_ready (rs := [3]) (by kernel_rfl) (by simp) ?_
            refine AllReadyH.cons rfl (fun KK hK => ?_) AllReadyH.nil
            go_simp
            refine (AD.out _).mono ?_
            rintro e w4 ⟨rfl, hb4⟩
            replace H := UNC.below H hb4
            replace HZ := Row8.below HZ hb4
            have hs4 := Nat.le_trans hBw0 hb4.size
            refine hK.out _ _ H (fun _ => ?_)
            clear hK KK hb4
            change wpAnyH _ _ _ _ _ _ _ { tmps := #[_, _, _, _, _, _, _, _, _, _, _, _, _, _, _, _, _, _, _, _, _, _, _, _, _, _, _, _, _, _, _, _, _, _, _, _], defers := [] } _
            have hBw := hs4
            refine wpAnyH_ready (rs := [5]) (by kernel_rfl) (by simp) ?_
            refine AllReadyH.cons rfl (fun KK hK => ?_) AllReadyH.nil
            rw [if_pos (by rfl)]
            refine wp_store_mid 44 (.tmp 11) (.tmp 29) rfl pb 0 (bA 16 (fun j => Gf.dec W m X j ^^^ Y j)) rfl rfl (by rw [bA_size]; exact HZ.there) (by rw [bA_size]; exact Try.sizeSt) (bA_one _ _) ?_
            rw [bA_toList]
            obtain ⟨H', HZ', hz'⟩ := unc_store H HZ hbp (by omega) (by omega) (by omega) (fun k hk => by simp [Value.ownBlock] at hk; omega) (fun j => Gf.dec W m X j ^^^ Y j)
            refine hK.out _ _ H' (fun _ => ?_)
            clear hK KK
            refine wpAnyH_done (by kernel_rfl) ?_ _
            refine NoPanic.normal ?_
            change Exit.then _ _ Exit.normal { tmps := #[_, _, _, _, _, _, _, _, _, _, _, _, _, _, _, _, _, _, _, _, _, _, _, _, _, _, _, _, _, _, _, _, _, _, _, _], defers := [] } _
            generalize (wA.setCells pb 0 (bv 16 (fun j => Gf.dec W m X j ^^^ Y j))) = wF at *
            generalize (bv 16 X).toArray = q1
            generalize (bv 16 Y).toArray = q2
            generalize bA 16 (Gf.dec W m X) = q3
            generalize bA 16 (fun j => Gf.dec W m X j ^^^ Y j) = q4
            go_wp2_with fail
            go_meet
            exact ⟨pb, rfl, HZ', hbp, H', Nat.le_trans hBw hz'⟩
        · have HSb := hbase
          go_simp
          have hgp : gb < w2.heap.size := (H.2.2.2.1.lt gb rfl).2
          have hpB : B0 ≤ w2.heap.size := by have h9 : max B0 (bb + 1) ≤ w2.heap.size := HSb; omega
          replace H : UNC w Cb m bb ab B0 W X Y (.slice (some ⟨gb, 0, none⟩) (16 * i) gc) (16 * i) OUT ((w2.alloc (.cells #[.int .u8 0, .int .u8 0, .int .u8 0, .int .u8 0, .int .u8 0, .int .u8 0, .int .u8 0, .int .u8 0, .int .u8 0, .int .u8 0, .int .u8 0, .int .u8 0, .int .u8 0, .int .u8 0, .int .u8 0, .int .u8 0] 44)).drew) := UNC.below H ((Below.refl _ _).alloc (Nat.le_refl _) _)
          have HZ : Row8 ((w2.alloc (.cells #[.int .u8 0, .int .u8 0, .int .u8 0, .int .u8 0, .int .u8 0, .int .u8 0, .int .u8 0, .int .u8 0, .int .u8 0, .int .u8 0, .int .u8 0, .int .u8 0, .int .u8 0, .int .u8 0, .int .u8 0, .int .u8 0] 44)).drew) w2.heap.size 44 16 (fun _ => 0) := Row8.z16At (w := w2) rfl _
          have hsA : w2.heap.size < ((w2.alloc (.cells #[.int .u8 0, .int .u8 0, .int .u8 0, .int .u8 0, .int .u8 0, .int .u8 0, .int .u8 0, .int .u8 0, .int .u8 0, .int .u8 0, .int .u8 0, .int .u8 0, .int .u8 0, .int .u8 0, .int .u8 0, .int .u8 0] 44)).drew).heap.size := by simp
          have hbp : bb < w2.heap.size := by have h9 : max B0 (bb + 1) ≤ w2.heap.size := HSb; omega
          have hB0A : B0 ≤ ((w2.alloc (.cells #[.int .u8 0, .int .u8 0, .int .u8 0, .int .u8 0, .int .u8 0, .int .u8 0, .int .u8 0, .int .u8 0, .int .u8 0, .int .u8 0, .int .u8 0, .int .u8 0, .int .u8 0, .int .u8 0, .int .u8 0, .int .u8 0] 44)).drew).heap.size := Nat.le_trans hpB (Nat.le_of_lt hsA)
          refine hK.out _ _ H (fun _ => ?_)
          clear hK KK
          change wpAnyH _ _ _ _ _ _ _ { tmps := #[_, _, _, _, _, _, _, _, _, _, _, _, _, _, _, _, _, _, _, _, _, _, _, _, _, _, _, _, _, _, _, _, _, _, _, _], defers := [] } _
          generalize (w2.alloc (.cells #[.int .u8 0, .int .u8 0, .int .u8 0, .int .u8 0, .int .u8 0, .int .u8 0, .int .u8 0, .int .u8 0, .int .u8 0, .int .u8 0, .int .u8 0, .int .u8 0, .int .u8 0, .int .u8 0, .int .u8 0, .int .u8 0] 44)).drew = wA at *
          generalize w2.heap.size = pb at *
          have hBw0 := hB0A
          refine wpAnyH_ready (rs := [1]) (by kernel_rfl) (by simp) ?_
          refine AllReadyH.cons rfl (fun KK hK => ?_) AllReadyH.nil
          go_simp
          refine (DE.out _ H.2.2.1).mono ?_
          rintro e w3 ⟨rfl, hb3⟩
          replace H := UNC.below H hb3
          replace HZ := Row8.below HZ hb3
          have hs3 := Nat.le_trans hBw0 hb3.size
          refine hK.out _ _ H (fun _ => ?_)
          clear hK KK hb3
          change wpAnyH _ _ _ _ _ _ _ { tmps := #[_, _, _, _, _, _, _, _, _, _, _, _, _, _, _, _, _, _, _, _, _, _, _, _, _, _, _, _, _, _, _, _, _, _, _, _], defers := [] } _
          refine wpAnyH_ready (rs := [3]) (by kernel_rfl) (by simp) ?_
          refine AllReadyH.cons rfl (fun KK hK => ?_) AllReadyH.nil
          go_simp
          refine (AD.out _).mono ?_
          rintro e w4 ⟨rfl, hb4⟩
          replace H := UNC.below H hb4
          replace HZ := Row8.below HZ hb4
          have hs4 := Nat.le_trans hs3 hb4.size
          refine hK.out _ _ H (fun _ => ?_)
          clear hK KK hb4
          change wpAnyH _ _ _ _ _ _ _ { tmps := #[_, _, _, _, _, _, _, _, _, _, _, _, _, _, _, _, _, _, _, _, _, _, _, _, _, _, _, _, _, _, _, _, _, _, _, _], defers := [] } _
          have hBw := hs4
          refine wpAnyH_ready (rs := [5]) (by kernel_rfl) (by simp) ?_
          refine AllReadyH.cons rfl (fun KK hK => ?_) AllReadyH.nil
          rw [if_pos (by rfl)]
          refine wp_store_mid 44 (.tmp 11) (.tmp 29) rfl pb 0 (bA 16 (fun j => Gf.dec W m X j ^^^ Y j)) rfl rfl (by rw [bA_size]; exact HZ.there) (by rw [bA_size]; exact Try.sizeSt) (bA_one _ _) ?_
          rw [bA_toList]
          obtain ⟨H', HZ', hz'⟩ := unc_store H HZ hbp (by omega) (by omega) (by omega) (fun k hk => by simp [Value.ownBlock] at hk; omega) (fun j => Gf.dec W m X j ^^^ Y j)
          refine hK.out _ _ H' (fun _ => ?_)
          clear hK KK
          refine wpAnyH_done (by kernel_rfl) ?_ _
          refine NoPanic.normal ?_
          change Exit.then _ _ Exit.normal { tmps := #[_, _, _, _, _, _, _, _, _, _, _, _, _, _, _, _, _, _, _, _, _, _, _, _, _, _, _, _, _, _, _, _, _, _, _, _], defers := [] } _
          generalize (wA.setCells pb 0 (bv 16 (fun j => Gf.dec W m X j ^^^ Y j))) = wF at *
          generalize (bv 16 X).toArray = q1
          generalize (bv 16 Y).toArray = q2
          generalize bA 16 (Gf.dec W m X) = q3
          generalize bA 16 (fun j => Gf.dec W m X j ^^^ Y j) = q4
          go_wp2_with fail
          go_meet
          exact ⟨pb, rfl, HZ', hbp, H', Nat.le_trans hBw hz'⟩
      case rest =>
        obtain ⟨pb, rfl, hrow, hbp, hU, hB07⟩ := hcut
        clear H HU0 hB01 DE AD
        obtain ⟨hX7, hY7, hC7, hO7, hB7⟩ := hU
        have HX7 : Hid (Row8 wc bb 44 16 X) := hX7
        have HY7 : Hid (Row8 wc ab 44 16 Y) := hY7
        have CC7 : Hid (CiphAt wc Cb m W) := hC7
        have HO7 : Hid (wc.ownsRow B0 5 1 (.slice (some ⟨gb, 0, none⟩) (16 * i) gc) (16 * i) OUT) := hO7
        have HB7 : Hid (Below w.heap.size w wc) := hB7
        have HP7 : Hid (Row8 wc pb 44 16 (fun j => Gf.dec W m X j ^^^ Y j)) := hrow
        have HNW : Hid (Code8 wc (some ⟨pb, 0, none⟩) 16 (fun j => Gf.dec W m X j ^^^ Y j)) := code8_of (fun j hj => by rw [Nat.zero_add]; exact World.rowIs.cell hrow hj)
        have hgb7 := hO7.lt gb rfl
        have hbbB : B0 ≤ bb := hB0bb
        clear hX7 hY7 hC7 hO7 hB7 hrow
        go_upto_region 9 with (at_builtin; refine wpList_append_own _ rfl _ _ 22 rfl B0 5 i0 (.int .u8 0) 1 1 Try.underlying22 HI.out.1 HI.out.2.1 HI.out.2.2.1 HI.out.2.2.2 rfl (by decide) (.slice (some ⟨gb, 0, none⟩) (16 * i) gc) (16 * i) OUT rfl HO7.out ⟨pb, 0, none⟩ 16 16 (bv 16 (fun j => Gf.dec W m X j ^^^ Y j)) rfl (by rw [bv_length]) (bv_news HNW.out) (bv_one _ _) (by unfold maxLen; omega) (by omega) hB07 ?_)
        intro v8 w8 hown8 hgrow8 hnil8
        have X8 : OnlyB gb wc w8 := ⟨hgrow8.os, hgrow8.tape, hgrow8.output, hgrow8.size, fun k hk hn => hgrow8.block k hk (by simp [Value.ownBlock]; exact hn)⟩
        have hgbb : gb < bb := Nat.lt_of_lt_of_le hgbr hw1
        have HX8 : Hid (Row8 w8 bb 44 16 X) := HX7.out.onlyB X8 (by omega)
        have HY8 : Hid (Row8 w8 ab 44 16 Y) := HY7.out.onlyB X8 (by omega)
        have CC8 : Hid (CiphAt w8 Cb m W) := CC7.out.onlyBe X8 (by omega)
        have HB8 : Hid (Below w.heap.size w w8) := HB7.out.trans (X8.toBelow (by omega) HB7.out.size)
        have hB8 : B0 ≤ w8.heap.size := Nat.le_trans hB07 X8.size
        have hown8' : w8.ownsRow B0 5 1 v8 (16 * (i + 1)) (bv (16 * (i + 1)) (cbcD W m iv c)) := by
          have e : OUT ++ bv 16 (fun j => Gf.dec W m X j ^^^ Y j) = bv (16 * (i + 1)) (cbcD W m iv c) := by
            rw [← HOUT.out, bv_append, Nat.mul_add]
            refine bv_congr (fun x hx => ?_)
            by_cases e : x < 16 * i
            · rw [if_pos e]
            · rw [if_neg e]
              have := HPl.out (x - 16 * i) (by omega)
              rwa [show 16 * i + (x - 16 * i) = x from by omega] at this
          rw [← e, Nat.mul_add]; exact hown8
        obtain ⟨gb8, gc8, ⟨hgb8, hgc8⟩, rfl, -⟩ := own8_of_own (n := 16 * (i + 1)) hown8' hnil8
        have X9 : OnlyB ab w8.drew (w8.drew.setCells ab 0 (bv 16 X)) := onlyB_setCells _ _ _ (OnlyB.refl _ _)
        have HX9 : Row8 w8.drew bb 44 16 X := HX8.out
        have HY9 : Row8 w8.drew ab 44 16 Y := HY8.out
        have HX10 : Row8 (w8.drew.setCells ab 0 (bv 16 X)) bb 44 16 X := HX9.onlyB X9 (by omega)
        have HY10 : Hid (Row8 (w8.drew.setCells ab 0 (bv 16 X)) ab 44 16 X) := HY9.stored _
        have CC9 : Hid (CiphAt (w8.drew.setCells ab 0 (bv 16 X)) Cb m W) := CiphAt.onlyBe (w := w8.drew) CC8.out X9 hCa
        have HO9 : Hid ((w8.drew.setCells ab 0 (bv 16 X)).ownsRow B0 5 1 (.slice (some ⟨gb8, 0, none⟩) (16 * (i + 1)) gc8) (16 * (i + 1)) (bv (16 * (i + 1)) (cbcD W m iv c))) := ownsRow_ne (w := w8.drew) hown8' X9 (fun k hk => by simp [Value.ownBlock] at hk; omega)
        have HB9 : Hid (Below w.heap.size w (w8.drew.setCells ab 0 (bv 16 X))) := HB8.out.drew.trans (X9.toBelow hwa HB8.out.drew.size)
        have hB9 : B0 ≤ (w8.drew.setCells ab 0 (bv 16 X)).heap.size := Nat.le_trans hB8 X9.size
        clear hown8 hown8' hgrow8 hnil8 X8 X9 HX7 HY7 CC7 HO7 HB7 HP7 HNW HOUT HPl
        by_cases hc16 : cr = 16
        · have hL16 : L - 16 = 0 := by omega
          go_upto_region 9 with fail
          refine wp_region_noPanic ?_
          refine wp_region_held_drew (S := fun w' => Row8 w' bb 44 16 X) (by kernel_rfl) HX9 (fun _ => ?_)
          refine wpAnyH_take (i := 0) (v := .agg (bv 16 X).toArray) rfl (by kernel_rfl) (by kernel_rfl) (by kernel_rfl) (fun _ _ _ h => h) (yieldsIf_load_mid (by rfl) 44 (.tmp 10) rfl bb 0 rfl (bv 16 X) _ (fun w h => h.range) Try.underlying44 rfl (by rw [bv_length]; exact Try.sizeSt)) HX9 ?_
          change wpAnyH _ _ _ _ _ _ _ { tmps := #[_, _, _, _, _, _, _, _, _, _, _, _, _, _, _, _, _, _, _, _, _, _, _, _, _, _, _, _, _, _, _, _, _, _, _, _], defers := [] } _
          refine wpAnyH_take (i := 1) (v := .slice (some ⟨b, o + 16 * i, none⟩) L cr) rfl (by kernel_rfl) (by kernel_rfl) (by kernel_rfl) (fun _ _ _ h => h) (Or.inl ⟨by rfl, ?_⟩) HX9 ?_
          · intro w hSw; go_simp
          change wpAnyH _ _ _ _ _ _ _ { tmps := #[_, _, _, _, _, _, _, _, _, _, _, _, _, _, _, _, _, _, _, _, _, _, _, _, _, _, _, _, _, _, _, _, _, _, _, _], defers := [] } _
          refine wpAnyH_take (i := 2) (v := .slice (some ⟨b, o + 16 * i, none⟩) (L - 16) (cr - 16)) rfl (by kernel_rfl) (by kernel_rfl) (by kernel_rfl) (fun _ _ _ h => h) (Or.inl ⟨by rfl, ?_⟩) HX9 ?_
          · intro w hSw; go_simp
          change wpAnyH _ _ _ _ _ _ _ { tmps := #[_, _, _, _, _, _, _, _, _, _, _, _, _, _, _, _, _, _, _, _, _, _, _, _, _, _, _, _, _, _, _, _, _, _, _, _], defers := [] } _
          refine wpAnyH_ready (rs := [3]) (by kernel_rfl) (by simp) ?_
          refine AllReadyH.cons rfl (fun KK hK => ?_) AllReadyH.nil
          rw [if_pos (by rfl)]
          refine wp_store_mid 44 (.tmp 4) (.tmp 33) rfl ab 0 (bA 16 X) rfl rfl (by rw [bA_size]; exact HY9.there) (by rw [bA_size]; exact Try.sizeSt) (bA_one _ _) ?_
          rw [bA_toList]
          refine hK.out _ _ HX10 (fun _ => ?_)
          clear hK KK
          change wpAnyH _ _ _ _ _ _ _ { tmps := #[_, _, _, _, _, _, _, _, _, _, _, _, _, _, _, _, _, _, _, _, _, _, _, _, _, _, _, _, _, _, _, _, _, _, _, _], defers := [] } _
          refine wpAnyH_ready (rs := [4]) (by kernel_rfl) (by simp) ?_
          refine AllReadyH.cons rfl (fun KK hK => ?_) AllReadyH.nil
          go_simp
          refine hK.out _ _ HX10 (fun _ => ?_)
          clear hK KK
          refine wpAnyH_done (by kernel_rfl) ?_ _
          refine NoPanic.normal ?_
          change Exit.then _ _ Exit.normal { tmps := #[_, _, _, _, _, _, _, _, _, _, _, _, _, _, _, _, _, _, _, _, _, _, _, _, _, _, _, _, _, _, _, _, _, _, _, _], defers := [] } _
          generalize w8.drew.setCells ab 0 (bv 16 X) = w9 at *
          generalize (bv 16 X).toArray = q1
          go_wp2_with fail
          go_step3
          refine ⟨rfl, ⟨Cb, ab, B0, ⟨hCB, haB, hwa, hwC, hCa⟩, i + 1, gb8, gc8, _, _, _, _, _, _, _, _, _, _, _, _, _, _, _, _, _, _, _, _, _, _, _, _, _, _, _, _, _, _, _, _, _, _, _, rfl, by have := HL.out; omega, by omega, ?_, by omega, HO9.out, ?_, CC9.out, HB9.out, hB9⟩, ?_⟩
          · intro h9; have := HL.out; omega
          · rw [HPv.out]; exact HY10.out
          · show _ < L; simp [lenOf]; omega
        · go_upto_region 9 with fail
          refine wp_region_noPanic ?_
          refine wp_region_held_drew (S := fun w' => Row8 w' bb 44 16 X) (by kernel_rfl) HX9 (fun _ => ?_)
          refine wpAnyH_take (i := 0) (v := .agg (bv 16 X).toArray) rfl (by kernel_rfl) (by kernel_rfl) (by kernel_rfl) (fun _ _ _ h => h) (yieldsIf_load_mid (by rfl) 44 (.tmp 10) rfl bb 0 rfl (bv 16 X) _ (fun w h => h.range) Try.underlying44 rfl (by rw [bv_length]; exact Try.sizeSt)) HX9 ?_
          change wpAnyH _ _ _ _ _ _ _ { tmps := #[_, _, _, _, _, _, _, _, _, _, _, _, _, _, _, _, _, _, _, _, _, _, _, _, _, _, _, _, _, _, _, _, _, _, _, _], defers := [] } _
          refine wpAnyH_take (i := 1) (v := .slice (some ⟨b, o + 16 * i, none⟩) L cr) rfl (by kernel_rfl) (by kernel_rfl) (by kernel_rfl) (fun _ _ _ h => h) (Or.inl ⟨by rfl, ?_⟩) HX9 ?_
          · intro w hSw; go_simp
          change wpAnyH _ _ _ _ _ _ _ { tmps := #[_, _, _, _, _, _, _, _, _, _, _, _, _, _, _, _, _, _, _, _, _, _, _, _, _, _, _, _, _, _, _, _, _, _, _, _], defers := [] } _
          refine wpAnyH_take (i := 2) (v := .slice (some ⟨b, o + 16 * i + 16, none⟩) (L - 16) (cr - 16)) rfl (by kernel_rfl) (by kernel_rfl) (by kernel_rfl) (fun _ _ _ h => h) (Or.inl ⟨by rfl, ?_⟩) HX9 ?_
          · intro w hSw; go_simp
          change wpAnyH _ _ _ _ _ _ _ { tmps := #[_, _, _, _, _, _, _, _, _, _, _, _, _, _, _, _, _, _, _, _, _, _, _, _, _, _, _, _, _, _, _, _, _, _, _, _], defers := [] } _
          refine wpAnyH_ready (rs := [3]) (by kernel_rfl) (by simp) ?_
          refine AllReadyH.cons rfl (fun KK hK => ?_) AllReadyH.nil
          rw [if_pos (by rfl)]
          refine wp_store_mid 44 (.tmp 4) (.tmp 33) rfl ab 0 (bA 16 X) rfl rfl (by rw [bA_size]; exact HY9.there) (by rw [bA_size]; exact Try.sizeSt) (bA_one _ _) ?_
          rw [bA_toList]
          refine hK.out _ _ HX10 (fun _ => ?_)
          clear hK KK
          change wpAnyH _ _ _ _ _ _ _ { tmps := #[_, _, _, _, _, _, _, _, _, _, _, _, _, _, _, _, _, _, _, _, _, _, _, _, _, _, _, _, _, _, _, _, _, _, _, _], defers := [] } _
          refine wpAnyH_ready (rs := [4]) (by kernel_rfl) (by simp) ?_
          refine AllReadyH.cons rfl (fun KK hK => ?_) AllReadyH.nil
          go_simp
          refine hK.out _ _ HX10 (fun _ => ?_)
          clear hK KK
          refine wpAnyH_done (by kernel_rfl) ?_ _
          refine NoPanic.normal ?_
          change Exit.then _ _ Exit.normal { tmps := #[_, _, _, _, _, _, _, _, _, _, _, _, _, _, _, _, _, _, _, _, _, _, _, _, _, _, _, _, _, _, _, _, _, _, _, _], defers := [] } _
          generalize w8.drew.setCells ab 0 (bv 16 X) = w9 at *
          generalize (bv 16 X).toArray = q1
          go_wp2_with fail
          go_step3
          refine ⟨rfl, ⟨Cb, ab, B0, ⟨hCB, haB, hwa, hwC, hCa⟩, i + 1, gb8, gc8, _, _, _, _, _, _, _, _, _, _, _, _, _, _, _, _, _, _, _, _, _, _, _, _, _, _, _, _, _, _, _, _, _, _, _, rfl, by have := HL.out; omega, by omega, ?_, by omega, HO9.out, ?_, CC9.out, HB9.out, hB9⟩, ?_⟩
          · intro _; rw [Nat.mul_add, Nat.add_assoc]
          · rw [HPv.out]; exact HY10.out
          · show _ < L; simp [lenOf]; omega
    · obtain rfl : L = 0 := by omega
      have en : 16 * i = n := by omega
      obtain ⟨gb8, gc8, ⟨hgb8, hgc8⟩, e8, ho8⟩ := own8_of_own (n := 16 * i) HO.out (by intro e; cases e)
      cases e8
      have HO2 : Hid (Own8 wr gb n (cbcD W m iv c)) := by show Own8 wr gb n _; rw [← en]; exact ho8
      have HGC : Hid (n ≤ gc) := by show n ≤ gc; omega
      have hgw : w.heap.size ≤ gb := by omega
      have EN : Hid (16 * i = n) := en
      clear HO HR CC hra hL LI LC LV ho8 en hgc8
      go_wp2
      rw [jump_ret]
      refine bodyPost_ret (v := .slice (some ⟨gb, 0, none⟩) n gc) ?_ rfl ⟨⟨gb, gc, ⟨hgw, HGC.out⟩, rfl, HO2.out⟩, HB.out⟩
      rw [← EN.out]
      exact results_tmp Try.results43 _ _ _
  · intro hp
    have Z1 : Hid (Row8 (w.alloc (.cells (bA 16 iv) 44)) w.heap.size 44 16 iv) := Row8.boxedAt rfl _ _ _
    have Bz : Hid (Below w.heap.size w (w.alloc (.cells (bA 16 iv) 44))) := (Below.refl _ _).alloc (Nat.le_refl _) _
    have hsz0 : (w.alloc (.cells (bA 16 iv) 44)).heap.size = w.heap.size + 1 := by simp
    go_upto_region 1 with fail
    generalize w.alloc (.cells (bA 16 iv) 44) = w0 at *
    generalize bA 16 iv = IA at *
    go_upto_region 2 with (first
      | (go_at_call 35; refine (NC.out _).mono ?_; rintro e w1 ⟨rfl, hb⟩)
      | (refine wpList_store_mid rfl 49 (.tmp 7) (.tmp 13) rfl _ 0 CA rfl rfl ?_ S2.out O2.out ?_))
    · rw [HSZ.out]; exact there_big w1 Z _ hZ
    · have R1 : ((w1.alloc (.cells Z 49)).setCells w1.heap.size 0 CA.toList).rangeAt w1.heap.size 0 CA.toList := World.rangeAt_setCells_same _ _ _ _ (by rw [hLen]; exact there_big w1 Z _ hZ)
      have CC : Hid (CiphAt ((w1.alloc (.cells Z 49)).setCells w1.heap.size 0 CA.toList) w1.heap.size m W) := fun k hk => by
        have := R1 k _ (hAt.out k hk)
        rwa [Nat.zero_add] at this
      have hsz := hb.size
      have B01 : Below w0.heap.size w0 ((w1.alloc (.cells Z 49)).setCells w1.heap.size 0 CA.toList) := below_setCells hsz _ _ _ (hb.alloc hsz _)
      have B1 : Hid (Below w.heap.size w ((w1.alloc (.cells Z 49)).setCells w1.heap.size 0 CA.toList)) := Bz.out.trans (B01.mono Bz.out.size)
      have HR1 : Hid (Row8 ((w1.alloc (.cells Z 49)).setCells w1.heap.size 0 CA.toList) w.heap.size 44 16 iv) := Z1.out.below B01
      rw [hsz0] at hsz
      clear R1 hb NC S2 O2 hLen hAt HSZ z0 hZ HC B01 Z1 Bz hsz0
      generalize (w1.alloc (.cells Z 49)).setCells w1.heap.size 0 CA.toList = wz at *
      generalize w1.heap.size = Cb at *
      obtain ⟨wm, hmk, hom, hbm⟩ := mkRoom n (by omega) wz
      have HOm : Hid (wm.ownsRow wz.heap.size 5 1 (.slice (some ⟨wz.heap.size, 0, none⟩) 0 n) 0 []) := hom
      have CCm : Hid (CiphAt wm Cb m W) := CC.out.below hbm
      have HRm : Hid (Row8 wm w.heap.size 44 16 iv) := HR1.out.below hbm
      have HBm : Hid (Below w.heap.size w wm) := B1.out.trans (hbm.mono B1.out.size)
      have hsm := hbm.size
      have hCz := CC.out.lt
      have haz := HR1.out.lt
      clear hom hbm CC HR1 B1
      go_upto_region 3 with fail
      clear hmk
      generalize wz.heap.size = B0 at *
      go_wp2_with fail
      go_step3
      rename_i hKx
      refine hKx _ _ (hp _ _ ⟨Cb, w.heap.size, B0, ⟨hCz, haz, Nat.le_refl _, by omega, by omega⟩, 0, B0, n, _, _, cp, _, _, _, _, _, _, _, _, _, _, _, _, _, _, _, _, _, _, _, _, _, _, _, _, _, _, _, _, _, _, _, _, rfl, by omega, by omega, fun _ => rfl, by omega, HOm.out, HRm.out.congr (fun j _ => rfl), CCm.out, HBm.out, hsm⟩)
end Go.Proofs.Ytggnaohigiakeaa
