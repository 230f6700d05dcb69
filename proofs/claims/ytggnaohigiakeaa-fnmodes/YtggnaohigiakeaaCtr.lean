/-
  The contract of impl.CtrXor.
-/
import Derived.Test.YtggnaohigiakeaaCounter
import Derived.Deep.RegionWith
namespace Go.Proofs.Ytggnaohigiakeaa
open Go.ChangeShapes Go.WideShapes Go.ChangeAt Go.RowKit
theorem implCtr_no (k s : ByteArray) (a : Option Addr) (n c : Nat) (code : Int) (hc : code ≠ 0) (hf : ∀ w : World, Calls Try.prog 34 #[.string k, .string s, .int .i64 12, .int .i64 (n : Int), .int .i64 65536] w fun e w' => e = .returned (.int .i64 code) ∧ w = w') (w : World) :
    Calls Try.prog 15 #[.string k, .string s, .slice a n c] w fun e w' => e = .returned (.tuple #[.slice none 0 0, .int .i64 code]) ∧ w = w' := by
  have HF : Hid (∀ w : World, Calls Try.prog 34 #[.string k, .string s, .int .i64 12, .int .i64 (n : Int), .int .i64 65536] w fun e w' => e = .returned (.int .i64 code) ∧ w = w') := hf
  have e1 : (code != 0) = true := by rw [bne_iff_ne]; exact hc
  clear hf
  go_enter Try.func15, Try.ntmps15
  go_wp2
  go_step3
  go_wp2_with (go_at_call 34; refine (HF.out _).mono ?_; rintro e w' ⟨rfl, rfl⟩)
  rw [Exit.noGoto_ret]
  go_ret2
  exact ⟨rfl, rfl⟩
theorem CiphAt.onlyB8 {w w' : World} {C m b : Nat} {K : Nat → Nat} (h : CiphAt w C m K) (ho : OnlyB b w w') (hne : C ≠ b) : CiphAt w' C m K := fun k hk => by
  rw [World.cell?_of_block (w := w) (ho.block C h.lt hne)]; exact h k hk
/-- What holds where a block more begins: i blocks are done. -/
def CtrJ (s : ByteArray) (w0 : World) (Cb m ob n C : Nat) (K f : Nat → Nat) (a' : Act) (w' : World) : Prop := ∃ (i : Nat) (ra : Option Addr) (L cr : Nat) (x12 : Int) (u0 u2 u3 u4 u5 u6 u7 u8 u13 u14 u15 u16 u17 u18 u19 u20 u21 u22 u23 u24 u25 u26 u27 u28 u29 u30 u31 u32 u33 u34 u35 u36 u37 u38 u39 u40 u41 u42 u43 u44 u45 u46 u47 : Value), a' = { tmps := #[u0, .string s, u2, u3, u4, u5, u6, u7, u8, .pointer (some ⟨Cb, 0, none⟩), .slice (some ⟨ob, 0, none⟩) n C, .slice ra L cr, .int .u32 x12, u13, u14, u15, u16, u17, u18, u19, u20, u21, u22, u23, u24, u25, u26, u27, u28, u29, u30, u31, u32, u33, u34, u35, u36, u37, u38, u39, u40, u41, u42, u43, u44, u45, u46, u47], defers := [] } ∧
  (L = n - 16 * i ∧ x12 = (i : Int) + 1) ∧ i ≤ 4096 ∧ (16 * i < n → ra = some ⟨ob, 16 * i, none⟩) ∧ L ≤ cr ∧ Own8 w' ob n (fun x => if x < 16 * i then ctrF K m (strB s) f x else f x) ∧ CiphAt w' Cb m K ∧ Below w0.heap.size w0 w'
set_option maxRecDepth 100000 in
set_option maxHeartbeats 4000000 in
theorem implCtr_yes (k s : ByteArray) (kn b o n c : Nat) (f : Nat → Nat) (hkn : kn = 4 ∨ kn = 8) (hk : k.size = kn * 4) (hs : s.size = 12) (hn : n ≤ 65536) (hf : ∀ i, f i < 256) (w : World) (h : Code8 w (some ⟨b, o, none⟩) n f) :
    Calls Try.prog 15 #[.string k, .string s, .slice (some ⟨b, o, none⟩) n c] w fun e w' => RetB2 w w' e n (ctrF (Gf.ws (strB k) kn (3 * kn + 28)) (kn + 6) (strB s) f) (.int .i64 0) ∧ Below w.heap.size w w' := by
  have MF : Hid (∀ w : World, Calls Try.prog 34 #[.string k, .string s, .int .i64 12, .int .i64 (n : Int), .int .i64 65536] w fun e w' => e = .returned (.int .i64 0) ∧ w = w') := mf_ok k s 12 n 65536 (by omega) (by omega) (by omega) (by omega)
  have NC : Hid (∀ w : World, Calls Try.prog 35 #[.string k] w fun e w' => e = .returned (.agg (cA (kn + 6) (Gf.ws (strB k) kn (3 * kn + 28)))) ∧ Below w.heap.size w w') := newCipher_any k kn hkn hk
  have LW : Hid (∀ j, Gf.ws (strB k) kn (3 * kn + 28) j < 256) := Gf.ws_lt (strB_lt k) _
  generalize Gf.ws (strB k) kn (3 * kn + 28) = W at *
  obtain ⟨m, hm⟩ : ∃ m, m = kn + 6 := ⟨_, rfl⟩
  have hm1 : 1 ≤ m := by omega
  have hm2 : m ≤ 14 := by omega
  rw [← hm] at NC ⊢
  have CB : Hid (∀ (i : Nat) (w : World), i < 4294967296 → Calls Try.prog 38 #[.string s, .int .u32 (i : Int)] w fun e w' => e = .returned (.agg (bA 16 (ctrBlk (strB s) i))) ∧ Below w.heap.size w w') := fun i w hi => counterBlock_any s hs i hi w
  have EN : Hid (∀ (C i : Nat) (w : World), CiphAt w C m W → Calls Try.prog 37 #[.pointer (some ⟨C, 0, none⟩), .agg (bA 16 (ctrBlk (strB s) i))] w fun e w' => e = .returned (.agg (bA 16 (Gf.enc W m (ctrBlk (strB s) i)))) ∧ Below w.heap.size w w') := fun C i w h => encrypt_any C m W _ (fun j _ => ctrBlk_lt (strB_lt s) i j) LW.out hm1 hm2 w h
  have CL : Hid (∀ w : World, Code8 w (some ⟨b, o, none⟩) n f → Calls Try.prog 31 #[.slice (some ⟨b, o, none⟩) n c] w fun e w' => RetB w w' e n f ∧ Below w.heap.size w w') := fun w h => clone_any b o n c f (by omega) w h
  obtain ⟨Z, z0, hZ, -⟩ := Try.zeroC
  have S2 : Hid ((Try.prog.info? 49).map (·.size) = some (cA m W).size) := by rw [cA_size]; exact Try.sizeC
  have O2 : Hid ((cA m W).all (·.oneCell') = true) := cA_one _ _
  have hLen : (cA m W).toList.length = 769 := cA_len _ _
  have hAt : Hid (∀ k, k < 769 → (cA m W).toList[k]? = some (cf m W k)) := fun k hk => by
    have := cA_at (n := m) (K := W) hk
    rwa [← Array.getElem?_toList] at this
  have HSZ : Hid ((cA m W).size = 769) := cA_size _ _
  generalize cA m W = CA at *
  have HC : Hid (Code8 w (some ⟨b, o, none⟩) n f) := h
  have HF : Hid (∀ i, f i < 256) := hf
  clear h hf hkn hk hs hm
  go_enter Try.func15, Try.ntmps15
  go_wp2
  refine wp_scope_label 0 (fun a' w' => ∃ Cb ob C, (w.heap.size ≤ ob ∧ Cb < ob) ∧ n ≤ C ∧ CtrJ s w Cb m ob n C W f a' w') (fun a' _ => lenOf (a'.tmps.getD 11 undef)) rfl ?_ ?_
  · rintro a' wr ⟨Cb, ob, C, ⟨hob, hCo⟩, hnC, i, ra, L, cr, x12, u0, u2, u3, u4, u5, u6, u7, u8, u13, u14, u15, u16, u17, u18, u19, u20, u21, u22, u23, u24, u25, u26, u27, u28, u29, u30, u31, u32, u33, u34, u35, u36, u37, u38, u39, u40, u41, u42, u43, u44, u45, u46, u47, rfl, ⟨hL, rfl⟩, hi, hra, hcr, ho, hC, hB⟩
    have HO : Hid (Own8 wr ob n (fun x => if x < 16 * i then ctrF W m (strB s) f x else f x)) := ho
    have CC : Hid (CiphAt wr Cb m W) := hC
    have HB : Hid (Below w.heap.size w wr) := hB
    clear ho hC hB
    by_cases hlt : 16 * i < n
    · have era := hra hlt
      subst era
      obtain ⟨q, hq⟩ : ∃ q, q = min L 16 := ⟨_, rfl⟩
      have hq1 : 1 ≤ q := by omega
      have hq2 : q ≤ 16 := by omega
      have hq3 : q ≤ L := by omega
      have eL : ((L : Int) == 0) = false := by rw [beq_eq_false_iff_ne]; omega
      have eq1 : min (L : Int) 16 = (q : Int) := by omega
      have xq0 : (0 : Int) ≤ (q : Int) := by omega
      have xq1 : (q : Int) ≤ (cr : Int) := by omega
      have xq2 : (q : Int) ≤ (L : Int) := by omega
      have HLQ : Hid (n - 16 * (i + 1) = L - q) := by show n - 16 * (i + 1) = L - q; omega
      have hMq : 16 * i + q ≤ n := by omega
      have CBi : Hid (∀ w : World, Calls Try.prog 38 #[.string s, .int .u32 ((i : Int) + 1)] w fun e w' => e = .returned (.agg (bA 16 (ctrBlk (strB s) (i + 1)))) ∧ Below w.heap.size w w') := fun w => CB.out (i + 1) w (by omega)
      have ENi : Hid (∀ w : World, CiphAt w Cb m W → Calls Try.prog 37 #[.pointer (some ⟨Cb, 0, none⟩), .agg (bA 16 (ctrBlk (strB s) (i + 1)))] w fun e w' => e = .returned (.agg (bA 16 (Gf.enc W m (ctrBlk (strB s) (i + 1))))) ∧ Below w.heap.size w w') := fun w h => EN.out Cb (i + 1) w h
      have HF2 : Hid (∀ x, (if x < 16 * i then ctrF W m (strB s) f x else f x) < 256) := fun x => by
        show (if x < 16 * i then ctrF W m (strB s) f x else f x) < 256
        split
        · exact ctrF_lt LW.out (strB_lt s) HF.out x
        · exact HF.out x
      have AI : Hid (∀ w : World, Own8 w ob n (fun x => if x < 16 * i then ctrF W m (strB s) f x else f x) → Calls Try.prog 36 #[.slice (some ⟨ob, 16 * i, none⟩) q q, .agg (bA 16 (Gf.enc W m (ctrBlk (strB s) (i + 1))))] w fun e w' => e = .returned (.tuple #[]) ∧ Own8 w' ob n (fun x => if x < 16 * (i + 1) then ctrF W m (strB s) f x else f x) ∧ OnlyB ob w w') := fun w h =>
        (addInto_any ob (16 * i) q q n _ _ HF2.out (fun j _ => Gf.enc_lt LW.out (fun j _ => ctrBlk_lt (strB_lt s) _ j) j) hq2 hMq w h).mono fun e w' hh => ⟨hh.1, hh.2.1.congr (fun x hx => by
          by_cases e : 16 * i ≤ x ∧ x < 16 * i + q
          · rw [if_pos e, if_neg (by omega), if_pos (by omega)]
            unfold ctrF ctrK
            rw [show x / 16 + 1 = i + 1 from by omega, show x % 16 = x - 16 * i from by omega]
          · rw [if_neg e]
            by_cases e2 : x < 16 * i
            · rw [if_pos e2, if_pos (by omega)]
            · rw [if_neg e2, if_neg (by omega)]), hh.2.2⟩
      have HOd : Hid (Own8 wr.drew ob n (fun x => if x < 16 * i then ctrF W m (strB s) f x else f x)) := HO.out
      have CCd : Hid (CiphAt wr.drew Cb m W) := CC.out
      have HBd : Hid (Below w.heap.size w wr.drew) := HB.out.drew
      have hi2 : i + 1 ≤ 4096 := by omega
      have xw : IntKind.u32.wrap ((i : Int) + 1 + 1) = (i : Int) + 1 + 1 := IntWalk.u32_in _ ⟨by omega, by omega⟩
      generalize bA 16 (Gf.enc W m (ctrBlk (strB s) (i + 1))) = EA at *
      generalize bA 16 (ctrBlk (strB s) (i + 1)) = BA at *
      have hqq : (L ≤ 16 ∧ q = L) ∨ (¬ L ≤ 16 ∧ q = 16) := by omega
      have HR : Hid (∀ (ra : Option Addr), (ra = some ⟨ob, 16 * i + q, none⟩ ∨ L - q = 0) → (16 * (i + 1) < n → ra = some ⟨ob, 16 * (i + 1), none⟩)) := fun ra hra2 hlt2 => by
        have e1 : q = 16 := by omega
        rcases hra2 with h | h
        · rw [h, e1, Nat.mul_add]
        · omega
      have hcrq : L - q ≤ cr - q := by omega
      clear hra hq hL CL EN CB LW HF HF2 HO CC HB HC NC MF S2 O2 hLen hAt HSZ z0 hZ eq1
      go_upto_region 9 with fail
      go_cut [13] (fun v wx => v = .int .i64 (q : Int) ∧ wx = wr)
      case first =>
        rcases hqq with ⟨h16, rfl⟩ | ⟨h16, rfl⟩
        · have x16 : (q : Int) ≤ 16 := by omega
          go_wp2_with fail
          go_meet
          exact ⟨rfl, rfl⟩
        · have x16 : ¬ (L : Int) ≤ 16 := by omega
          go_wp2_with fail
          go_meet
          exact ⟨rfl, rfl⟩
      case rest =>
      obtain ⟨rfl, rfl⟩ := hcut
      clear hqq
      go_wp2_with fail
      go_region_with (first
        | (go_at_call 38; refine (CBi.out _).mono ?_; rintro e w1 ⟨rfl, hb1⟩)
        | (go_at_call 37; refine (ENi.out _ ?_).mono ?_; exact CCd.out.below hb1; rintro e w2 ⟨rfl, hb2⟩)
        | (go_at_call 36; refine (AI.out _ ?_).mono ?_; exact (HOd.out.below hb1).below hb2; rintro e w3 ⟨rfl, ho3, hb3⟩))
      have CC3 : Hid (CiphAt w3 Cb m W) := ((CCd.out.below hb1).below hb2).onlyB8 hb3 (by omega)
      have B2' : Below w.heap.size w w2 := (HBd.out.trans (hb1.mono HBd.out.size)).trans (hb2.mono (HBd.out.trans (hb1.mono HBd.out.size)).size)
      have HB3 : Hid (Below w.heap.size w w3) := B2'.trans (hb3.toBelow hob B2'.size)
      have HO3 : Hid (Own8 w3 ob n (fun x => if x < 16 * (i + 1) then ctrF W m (strB s) f x else f x)) := ho3
      clear hb1 hb2 hb3 ho3 B2' CCd HBd HOd CBi ENi AI
      go_wp2
      all_goals
        go_step3
        refine ⟨rfl, ⟨Cb, ob, C, ⟨hob, hCo⟩, hnC, i + 1, _, _, _, _, _, _, _, _, _, _, _, _, _, _, _, _, _, _, _, _, _, _, _, _, _, _, _, _, _, _, _, _, _, _, _, _, _, _, _, _, _, _, _, _, _, _, _, rfl, ⟨?_, ?_⟩, hi2, HR.out _ ?_, ?_, HO3.out, CC3.out, HB3.out⟩, ?_⟩
        · have := HLQ.out; omega
        · omega
        · first | exact .inl rfl | (right; omega)
        · omega
        · show _ < L; simp [lenOf]; omega
    · have HO2 : Hid (Own8 wr ob n (ctrF W m (strB s) f)) := HO.out.congr (fun x hx => by rw [if_pos (by omega)])
      obtain rfl : L = 0 := by omega
      clear HO CL EN CB HC NC MF S2 O2 hLen hAt HSZ z0 hZ hra hL
      go_wp2
      rw [jump_ret]
      exact bodyPost_ret (results_tmp2 Try.results15 _ _ _) rfl ⟨⟨ob, C, ⟨hob, hnC⟩, rfl, HO2.out⟩, HB.out⟩
  · intro hp
    go_upto_region 5 with (first
      | (go_at_call 34; refine (MF.out _).mono ?_; rintro e w' ⟨rfl, rfl⟩)
      | (go_at_call 35; refine (NC.out _).mono ?_; rintro e w1 ⟨rfl, hb⟩)
      | (refine wpList_store_mid rfl 49 (.tmp 9) (.tmp 23) rfl _ 0 CA rfl rfl ?_ S2.out O2.out ?_))
    · rw [HSZ.out]; exact there_big w1 Z _ hZ
    · have R1 : ((w1.alloc (.cells Z 49)).setCells w1.heap.size 0 CA.toList).rangeAt w1.heap.size 0 CA.toList := World.rangeAt_setCells_same _ _ _ _ (by rw [hLen]; exact there_big w1 Z _ hZ)
      have CC : Hid (CiphAt ((w1.alloc (.cells Z 49)).setCells w1.heap.size 0 CA.toList) w1.heap.size m W) := fun k hk => by
        have := R1 k _ (hAt.out k hk)
        rwa [Nat.zero_add] at this
      have hsz := hb.size
      have B1 : Hid (Below w.heap.size w ((w1.alloc (.cells Z 49)).setCells w1.heap.size 0 CA.toList)) := below_setCells hsz _ _ _ (hb.alloc hsz _)
      have HC1 : Hid (Code8 ((w1.alloc (.cells Z 49)).setCells w1.heap.size 0 CA.toList) (some ⟨b, o, none⟩) n f) := HC.out.below B1.out
      clear R1 hb NC MF S2 O2 hLen hAt HSZ z0 hZ HC
      generalize (w1.alloc (.cells Z 49)).setCells w1.heap.size 0 CA.toList = wz at *
      generalize w1.heap.size = Cb at *
      go_wp2_with fail
      refine (CL.out _ HC1.out).mono ?_
      rintro e w2 ⟨⟨ob, C, ⟨hob, hnC⟩, rfl, ho⟩, hb2⟩
      have CC2 : Hid (CiphAt w2 Cb m W) := CC.out.below hb2
      have hCz := CC.out.lt
      have B2 : Hid (Below w.heap.size w w2) := B1.out.trans (hb2.mono B1.out.size)
      have HO2 : Hid (Own8 w2 ob n f) := ho
      have hob' : w.heap.size ≤ ob := Nat.le_trans B1.out.size hob
      clear hb2 CC B1 ho HC1
      go_wp2_with fail
      go_step3
      rename_i hKx
      refine hKx _ _ (hp _ _ ⟨Cb, ob, C, ⟨hob', Nat.lt_of_lt_of_le hCz hob⟩, hnC, 0, _, _, C, _, _, _, _, _, _, _, _, _, _, _, _, _, _, _, _, _, _, _, _, _, _, _, _, _, _, _, _, _, _, _, _, _, _, _, _, _, _, _, _, _, _, _, _, rfl, ⟨by omega, by omega⟩, by omega, fun _ => rfl, by omega, HO2.out.congr (fun x hx => by rw [if_neg (by omega)]), CC2.out, B2.out⟩)
end Go.Proofs.Ytggnaohigiakeaa
