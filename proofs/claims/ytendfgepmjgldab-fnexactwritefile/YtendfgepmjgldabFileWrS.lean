/-
  WriteFile of the model (written by tools/mkwrs.py).
-/
import Derived.Test.YtendfgepmjgldabFileWr
namespace Go.Proofs.Ytendfgepmjgldab
open Go.ChangeShapes Go.WideShapes Go.ChangeAt Go.RowKit
set_option linter.unusedVariables false
theorem RowM.set {w : World} {g n cap : Nat} {F : Nat → Nat} (h : RowM w g n cap F) (i x : Nat) (hi : i < n) : RowM (w.setCell ⟨g, i, none⟩ (.int .u8 (x : Nat))) g n cap (fun j => if j = i then x else F j) := by
  have hnc := h.1
  refine ⟨hnc, fun j hj => ?_, fun j hj => ⟨?_, ?_⟩, by simpa using h.2.2.2⟩
  · dsimp only
    by_cases e : j = i
    · subst e
      rw [if_pos rfl]
      exact World.cell?_setCell_same' _ _ _ (h.2.2.1 j (by omega)).1
    · rw [if_neg e, World.cell?_setCell_other _ _ _ _ (fun q => e (by cases q; rfl))]
      exact h.2.1 j hj
  · by_cases e : j = i
    · subst e
      rw [World.cell?_setCell_same' _ _ _ (h.2.2.1 j hj).1]
      rfl
    · rw [World.cell?_setCell_other _ _ _ _ (fun q => e (by cases q; rfl))]
      exact (h.2.2.1 j hj).1
  · rw [World.frozen?_setCell]
    exact (h.2.2.1 j hj).2
/-- The length of a slice. -/
def slLen : Value → Nat
  | .slice _ n _ => n
  | _ => 0
theorem cat_zeros (t : ByteArray) (q : Nat) (h : t.size ≤ q) : ∀ i, i < q + 1 → Sha.cat q (strB t) (fun _ => 0) i = strB t i := fun i hi => by
  unfold Sha.cat
  by_cases e : i < q
  · rw [if_pos e]
  · rw [if_neg e, strB_out t i (by omega)]
theorem paste_step (f : Nat → Nat) (o : Nat) (s : ByteArray) (q : Nat) : ∀ i, (if i = o + q then strB s q else pasteF f o s q i) = pasteF f o s (q + 1) i := fun i => by
  unfold pasteF
  by_cases e : i = o + q
  · subst e
    rw [if_pos rfl, if_pos (by omega), Nat.add_sub_cancel_left]
  · rw [if_neg e]
    by_cases z : o ≤ i ∧ i < o + q
    · rw [if_pos z, if_pos (by omega)]
    · rw [if_neg z, if_neg (by omega)]
set_option maxRecDepth 100000 in
set_option maxHeartbeats 4000000 in
theorem l11Write_any (a : Option Addr) (n c : Nat) (F : Nat → Fi) (p : ByteArray) (k : Int) (s : ByteArray) (hs : FsOk n F) (hp : p.size ≤ 40) (hl : s.size ≤ 65536) (hz : a = none → c = 0) (w : World) (h : Els w 3 a n (fiF F)) :
    Calls Try.prog 44 #[.slice a n c, .string p, .int .i64 k, .string s] w fun e w' => (∃ (a' : Option Addr) (m c' : Nat) (G : Nat → Fi) (cd : Int), e = .returned (.tuple #[.slice a' m c', .int .i64 cd]) ∧ Els w' 3 a' m (fiF G) ∧ (a' = none → c' = 0) ∧ WrP n F p k s m G cd) ∧ Below w.heap.size w w' := by
  have hn := hs.1
  have FN : Hid (Calls Try.prog 59 #[.slice a n c, .string p] w fun e w' => (∃ r : Int, e = .returned (.int .i64 r) ∧ FstIs n F p r) ∧ w' = w) := l11Find_any a n c F p (by omega) w h
  have NW : Hid (∀ w' : World, Below w.heap.size w w' → Calls Try.prog 64 #[.slice a n c, .string p] w' fun e w'' => (∃ x : Int, e = .returned (.int .i64 x) ∧ NewIs n F p x) ∧ w'' = w') := fun w' hb => l11New_any a n c F p hp hn w' (h.below hb)
  have PT : Hid (∀ (t : ByteArray) (w' : World), Below w.heap.size w w' → Calls Try.prog 65 #[.slice a n c, .agg #[.string p, .bool false, .string t]] w' fun e w'' => RetPut n F ⟨p, false, t⟩ w'.heap.size e w'' ∧ Below w'.heap.size w' w'') := fun t w' hb => l11Put_any a n c F ⟨p, false, t⟩ hs.srt hp (by omega) w' (h.below hb)
  have H : Hid (Els w 3 a n (fiF F)) := h
  have HZ : Hid (a = none → c = 0) := hz
  have HS : Hid (FsOk n F) := hs
  clear h hs hz
  go_enter Try.func44, Try.ntmps44
  go_wp2_with fail
  refine (Calls.mono FN.out) ?_
  rintro e w1 ⟨⟨r, rfl, hr⟩, hw⟩
  cases hw
  clear FN
  rcases hr with ⟨rfl, hno⟩ | ⟨j, rfl, hj, ej, hfst⟩
  · have HNO : Hid (¬ ∃ j, j < n ∧ (F j).p = p) := fun ⟨j, hj, e⟩ => hno j hj e
    have HM : Hid (∀ m G c, (((k < 0 ∨ 200 < k + s.size) ∧ c = 4 ∧ m = n ∧ G = F) ∨ (¬ (k < 0 ∨ 200 < k + s.size) ∧ (((¬ ∃ j, j < n ∧ (F j).p = p) ∧ NewIs n F p c ∧ c ≠ 0 ∧ m = n ∧ G = F) ∨ (((∃ j, j < n ∧ (F j).p = p) ∨ NewIs n F p 0) ∧ c = 0 ∧ PutIs n F ⟨p, false, wrT ⟨#[]⟩ k.toNat s⟩ m G)))) → WrP n F p k s m G c) := fun m G c q => ⟨fiZ, .inr ⟨hno, rfl⟩, .inr ⟨rfl, q⟩⟩
    have HT : Hid ((⟨#[]⟩ : ByteArray).size ≤ 200) := by show (0 : Nat) ≤ 200; omega
    clear hno
    obtain ⟨u1, hu1⟩ : ∃ u, u = w.alloc (.cells #[.string p, .bool false, .string ⟨#[]⟩] 45) := ⟨_, rfl⟩
    have X1 : Hid (Box3 u1 w.heap.size 45 (.string p) (.bool false) (.string ⟨#[]⟩)) := by show Box3 _ _ _ _ _ _; rw [hu1]; exact Box3.made _ _ _ _ _
    have B1 : Hid (Below w.heap.size w u1) := by show Below _ _ _; rw [hu1]; exact (Below.refl _ _).alloc (Nat.le_refl _) _
    have S1 : Hid (u1.heap.size = w.heap.size + 1) := by show _ = _; rw [hu1]; simp
    have HU1 : Hid (w.alloc (.cells #[.string p, .bool false, .string ⟨#[]⟩] 45) = u1) := hu1.symm
    clear hu1
    go_upto_region 5 with fail
    rw [HU1.out]
    clear HU1
    have x1 := X1.out.c1
    generalize (⟨#[]⟩ : ByteArray) = t at *
    by_cases h2 : k < 0
    · skip
      have HR : Hid (WrP n F p k s n F 4) := HM.out _ _ _ (.inl ⟨.inl h2, rfl, rfl, rfl⟩)
      clear HM
      go_wp2
      go_ret2
      exact ⟨⟨_, _, _, F, _, rfl, H.out.below B1.out, HZ.out, HR.out⟩, B1.out⟩
    by_cases h3 : 200 < k
    · skip
      have HR : Hid (WrP n F p k s n F 4) := HM.out _ _ _ (.inl ⟨.inr (by omega), rfl, rfl, rfl⟩)
      clear HM
      go_wp2
      go_ret2
      exact ⟨⟨_, _, _, F, _, rfl, H.out.below B1.out, HZ.out, HR.out⟩, B1.out⟩
    have wr2 : IntKind.i64.wrap (k + (s.size : Int)) = k + (s.size : Int) := IntWalk.i64_in _ (by omega)
    by_cases h4 : 200 < k + (s.size : Int)
    · skip
      have HR : Hid (WrP n F p k s n F 4) := HM.out _ _ _ (.inl ⟨.inr h4, rfl, rfl, rfl⟩)
      clear HM
      go_wp2
      go_ret2
      exact ⟨⟨_, _, _, F, _, rfl, H.out.below B1.out, HZ.out, HR.out⟩, B1.out⟩
    obtain ⟨kn, rfl⟩ : ∃ q : Nat, k = (q : Int) := ⟨k.toNat, by omega⟩
    replace HM : Hid (∀ m G c, (((¬ ∃ j, j < n ∧ (F j).p = p) ∧ NewIs n F p c ∧ c ≠ 0 ∧ m = n ∧ G = F) ∨ (((∃ j, j < n ∧ (F j).p = p) ∨ NewIs n F p 0) ∧ c = 0 ∧ PutIs n F ⟨p, false, wrT t kn s⟩ m G)) → WrP n F p (kn : Int) s m G c) := fun m G c q => HM.out m G c (.inr ⟨(by omega), by rw [Int.toNat_natCast]; exact q⟩)
    go_wp2_with fail
    refine (NW.out _ B1.out).mono ?_
    rintro e v2 ⟨⟨x, rfl, hx⟩, hw⟩
    cases hw
    have HW : Hid (NewIs n F p x) := hx
    clear hx NW
    by_cases h5 : x = 0
    · subst h5
      have y2 := X1.out.c2
      obtain ⟨u2, gc, hcv, hrow, hb2⟩ := bytesOfR t u1
      have R2 : Hid (RowM u2 u1.heap.size t.size gc (strB t)) := hrow
      have B2 : Hid (Below u1.heap.size u1 u2) := hb2
      clear hrow hb2 x1
      go_wp2
      go_loopw [13] (fun v wr => ∃ q g cap : Nat, t.size ≤ q ∧ (q = t.size ∨ q ≤ kn + s.size) ∧ v = .slice (some ⟨g, 0, none⟩) q cap ∧ u1.heap.size ≤ g ∧ RowM wr g q cap (strB t) ∧ Below u1.heap.size u1 wr) (fun v _ => kn + s.size - slLen v)
      case atStart => exact ⟨t.size, _, _, Nat.le_refl _, .inl rfl, rfl, Nat.le_refl _, R2.out, B2.out⟩
      case round =>
        obtain ⟨q, g, cap, hq1, hq2, rfl, hg, hrw, hbw⟩ := hrel
        have HR1 : Hid (RowM wr g q cap (strB t)) := hrw
        have HB1 : Hid (Below u1.heap.size u1 wr) := hbw
        have HG1 : Hid (u1.heap.size ≤ g) := hg
        clear hrw hbw hg hcv y2 R2 B2
        by_cases hlt : q < kn + s.size
        · have hlt2 : (q : Int) < (kn : Int) + (s.size : Int) := by omega
          have hA : Below wr.heap.size wr (wr.alloc (.cells #[.int .u8 0] 5)) := (Below.refl _ _).alloc (Nat.le_refl _) _
          obtain ⟨g3, c3, w3, hap, hr3, hb3, hg3⟩ := appendM (wr.alloc (.cells #[.int .u8 0] 5)) u1.heap.size g q cap (strB t) wr.heap.size 0 1 1 (fun _ => 0) HG1.out (Nat.le_trans HB1.out.size hA.size) (by omega) (HR1.out.below hA) (code8_of (fun i hi => by
            obtain rfl : i = 0 := by omega
            simp)) 58
          have HR3 : Hid (RowM w3 g3 (q + 1) c3 (strB t)) := hr3.congr (cat_zeros t q hq1)
          have HB3 : Hid (Below u1.heap.size u1 w3) := (HB1.out.trans (hA.mono HB1.out.size)).trans hb3
          have HG3 : Hid (u1.heap.size ≤ g3) := hg3
          have HQ : Hid (t.size ≤ q + 1 ∧ (q + 1 = t.size ∨ q + 1 ≤ kn + s.size)) := ⟨by omega, .inr (by omega)⟩
          clear hA hr3 hb3 hg3 hq1 hq2 hlt HR1 HB1 HG1
          go_wp2_with (at_builtin; refine Lib.wpList_append_run _ rfl (.tmp 62) (.tmp 63) 58 58 rfl (.slice (some ⟨g, 0, none⟩) q cap) (.slice (some ⟨wr.heap.size, 0, none⟩) 1 1) rfl rfl _ _ hap ?_)
          go_roundw
          case rel => exact ⟨q + 1, g3, c3, HQ.out.1, HQ.out.2, rfl, HG3.out, HR3.out, HB3.out⟩
          case measure => simp [slLen]; omega
        · have hlt2 : ¬ (q : Int) < (kn : Int) + (s.size : Int) := by omega
          obtain rfl : q = max t.size (kn + s.size) := by omega
          obtain ⟨K, hK⟩ : ∃ K, K = max t.size (kn + s.size) := ⟨_, rfl⟩
          rw [← hK] at HR1 hlt2 hq1 hq2 hlt ⊢
          have HWT : Hid (kstr (pasteF (strB t) kn s s.size) 0 K = wrT t kn s) := by show _ = _; unfold wrT; rw [hK]
          have hKs : kn + s.size ≤ K := by omega
          have HP0 : Hid (RowM wr g K cap (pasteF (strB t) kn s 0)) := HR1.out.congr (fun i hi => by unfold pasteF; rw [if_neg (by omega)])
          have hK2 : K ≤ 200 := by have := HT.out; omega
          clear hK hq1 hq2 HR1
          go_wp2
          go_loopw [14] (fun i ws => ∃ q : Nat, q ≤ s.size ∧ i = .int .i64 q ∧ RowM ws g K cap (pasteF (strB t) kn s q) ∧ Below u1.heap.size u1 ws) (fun i _ => s.size - (intOf i).toNat)
          case atStart => exact ⟨0, by omega, rfl, HP0.out, HB1.out⟩
          case round =>
            obtain ⟨q, hq, rfl, hrw, hbw⟩ := hrel
            have HR4 : Hid (RowM wr g K cap (pasteF (strB t) kn s q)) := hrw
            have HB4 : Hid (Below u1.heap.size u1 wr) := hbw
            clear hrw hbw HP0
            by_cases hls : q < s.size
            · have hls2 : (q : Int) < (s.size : Int) := by omega
              have sb := strB_eq s q hls
              obtain ⟨oo, hoo⟩ : ∃ z, z = kn + q := ⟨_, rfl⟩
              have eo : (kn : Int) + (q : Int) = (oo : Int) := by omega
              have wo : IntKind.i64.wrap (oo : Int) = (oo : Int) := IntWalk.i64_in _ (by omega)
              have hoK : oo < K := by omega
              have hoi : (oo : Int) < (K : Int) := by omega
              have co := HR4.out.2.1 oo hoK
              have fo := (HR4.out.2.2.1 oo (Nat.lt_of_lt_of_le hoK HR4.out.1)).2
              have HR5 : Hid (RowM (wr.setCell ⟨g, oo, none⟩ (.int .u8 (strB s q : Nat))) g K cap (pasteF (strB t) kn s (q + 1))) := (HR4.out.set oo _ hoK).congr (fun i hi => by rw [hoo]; exact paste_step _ _ _ _ i)
              have HB5 : Hid (Below u1.heap.size u1 (wr.setCell ⟨g, oo, none⟩ (.int .u8 (strB s q : Nat)))) := HB4.out.setCell HG1.out _
              have q0 : (0 : Int) ≤ (oo : Int) := by omega
              clear hoo HR4 HB4
              go_wp2
              go_roundw
              case rel => exact ⟨q + 1, by omega, by go_num, HR5.out, HB5.out⟩
              case measure => simp [intOf]; omega
            · obtain rfl : q = s.size := by omega
              have hls2 : ¬ (s.size : Int) < (s.size : Int) := by omega
              have cv := kstr_of_code (c := cap) HR4.out.code
              rw [HWT.out] at cv
              have X5 : Hid (Box3 wr w.heap.size 45 (.string p) (.bool false) (.string t)) := X1.out.below HB4.out
              have B5 : Hid (Below w.heap.size w wr) := B1.out.trans (HB4.out.mono B1.out.size)
              have z2 := X5.out.c2
              have f2 := X5.out.fr 2
              generalize wrT t kn s = tt at *
              clear HR4 HB4 HWT
              go_upto_region 21 with fail
              have BX4 : Hid (Box3 (wr.setCell ⟨w.heap.size, 2, none⟩ (.string tt)) w.heap.size 45 (.string p) (.bool false) (.string tt)) := X5.out.set2 _
              have B6 : Hid (Below w.heap.size w (wr.setCell ⟨w.heap.size, 2, none⟩ (.string tt))) := B5.out.setCell (Nat.le_refl _) _
              clear X5 B5 z2 f2 cv
              generalize wr.setCell ⟨w.heap.size, 2, none⟩ (.string tt) = u4 at *
              have x0 := BX4.out.c0
              have x1 := BX4.out.c1
              have x2 := BX4.out.c2
              go_wp2_with fail
              refine (PT.out tt _ B6.out).mono ?_
              rintro e v7 ⟨⟨a7, m7, c7, G, rfl, he, hpt⟩, hb⟩
              have HR : Hid (Els v7 3 a7 m7 (fiF G) ∧ (a7 = none → c7 = 0) ∧ WrP n F p (kn : Int) s m7 G 0) := ⟨he.els, he.zero, HM.out _ _ _ (.inr ⟨.inr HW.out, rfl, hpt⟩)⟩
              have B7 : Hid (Below w.heap.size w v7) := B6.out.trans (hb.mono B6.out.size)
              clear he hpt hb HM PT BX4 B6 x0 x1 x2
              go_wp2
              go_ret2
              exact ⟨⟨_, _, _, G, _, rfl, HR.out⟩, B7.out⟩
    · have g : (x != 0) = true := by simpa using h5
      have HR : Hid (WrP n F p (kn : Int) s n F x) := HM.out _ _ _ (.inl ⟨HNO.out, HW.out, h5, rfl, rfl⟩)
      clear h5 HM
      go_wp2
      go_ret2
      exact ⟨⟨_, _, _, F, _, rfl, H.out.below B1.out, HZ.out, HR.out⟩, B1.out⟩
  · have HE1 : Hid (∃ j, j < n ∧ (F j).p = p) := ⟨j, hj, ej⟩
    have HM : Hid (∀ m G c, (((F j).d = true ∧ c = 17 ∧ m = n ∧ G = F) ∨ ((F j).d = false ∧ (((k < 0 ∨ 200 < k + s.size) ∧ c = 4 ∧ m = n ∧ G = F) ∨ (¬ (k < 0 ∨ 200 < k + s.size) ∧ (((¬ ∃ j, j < n ∧ (F j).p = p) ∧ NewIs n F p c ∧ c ≠ 0 ∧ m = n ∧ G = F) ∨ (((∃ j, j < n ∧ (F j).p = p) ∨ NewIs n F p 0) ∧ c = 0 ∧ PutIs n F ⟨p, false, wrT (F j).t k.toNat s⟩ m G)))))) → WrP n F p k s m G c) := fun m G c q => ⟨F j, .inl ⟨j, hj, ej, rfl⟩, q⟩
    have HT : Hid ((F j).t.size ≤ 200) := (HS.out.2 j hj).1.2.1
    have WB : Below w.heap.size w (w.alloc (.cells #[.string p, .bool false, .string ⟨#[]⟩] 45)) := (Below.refl _ _).alloc (Nat.le_refl _) _
    have BX : Box3 (w.alloc (.cells #[.string p, .bool false, .string ⟨#[]⟩] 45)) w.heap.size 45 (.string p) (.bool false) (.string ⟨#[]⟩) := Box3.made _ _ _ _ _
    obtain ⟨b, off, rfl, hc⟩ := (H.out.below WB).opened (by omega)
    obtain ⟨c0, c1, c2⟩ := Els.fiC hc j hj
    have y0 := BX.c0
    have y1 := BX.c1
    have y2 := BX.c2
    have f0 := BX.fr 0
    have f1 := BX.fr 1
    have f2 := BX.fr 2
    have hlt' : (j : Int) < (n : Int) := by omega
    have h0' : (0 : Int) ≤ (j : Int) := by omega
    have h0'' : ¬ (j : Int) < 0 := by omega
    rw [ej] at c0
    clear WB BX hc ej hfst
    obtain ⟨u1, hu1⟩ : ∃ u, u = w.alloc (.cells #[.string p, .bool (F j).d, .string (F j).t] 45) := ⟨_, rfl⟩
    have X1 : Hid (Box3 u1 w.heap.size 45 (.string p) (.bool (F j).d) (.string (F j).t)) := by show Box3 _ _ _ _ _ _; rw [hu1]; exact Box3.made _ _ _ _ _
    have B1 : Hid (Below w.heap.size w u1) := by show Below _ _ _; rw [hu1]; exact (Below.refl _ _).alloc (Nat.le_refl _) _
    have S1 : Hid (u1.heap.size = w.heap.size + 1) := by show _ = _; rw [hu1]; simp
    have HU1 : Hid (w.alloc (.cells #[.string p, .bool (F j).d, .string (F j).t] 45) = u1) := hu1.symm
    clear hu1
    go_upto_region 5 with fail
    rw [HU1.out]
    clear HU1
    have x1 := X1.out.c1
    clear c0 c1 c2 y0 y1 y2 f0 f1 f2
    generalize (F j).t = t at *
    generalize (F j).d = yd at *
    cases yd with
    | true =>
      have HR : Hid (WrP n F p k s n F 17) := HM.out _ _ _ (.inl ⟨rfl, rfl, rfl, rfl⟩)
      clear HM
      go_wp2
      go_ret2
      exact ⟨⟨_, _, _, F, _, rfl, H.out.below B1.out, HZ.out, HR.out⟩, B1.out⟩
    | false =>
      replace HM : Hid (∀ m G c, (((k < 0 ∨ 200 < k + s.size) ∧ c = 4 ∧ m = n ∧ G = F) ∨ (¬ (k < 0 ∨ 200 < k + s.size) ∧ (((¬ ∃ j, j < n ∧ (F j).p = p) ∧ NewIs n F p c ∧ c ≠ 0 ∧ m = n ∧ G = F) ∨ (((∃ j, j < n ∧ (F j).p = p) ∨ NewIs n F p 0) ∧ c = 0 ∧ PutIs n F ⟨p, false, wrT t k.toNat s⟩ m G)))) → WrP n F p k s m G c) := fun m G c q => HM.out m G c (.inr ⟨rfl, q⟩)
      by_cases h2 : k < 0
      · skip
        have HR : Hid (WrP n F p k s n F 4) := HM.out _ _ _ (.inl ⟨.inl h2, rfl, rfl, rfl⟩)
        clear HM
        go_wp2
        go_ret2
        exact ⟨⟨_, _, _, F, _, rfl, H.out.below B1.out, HZ.out, HR.out⟩, B1.out⟩
      by_cases h3 : 200 < k
      · skip
        have HR : Hid (WrP n F p k s n F 4) := HM.out _ _ _ (.inl ⟨.inr (by omega), rfl, rfl, rfl⟩)
        clear HM
        go_wp2
        go_ret2
        exact ⟨⟨_, _, _, F, _, rfl, H.out.below B1.out, HZ.out, HR.out⟩, B1.out⟩
      have wr2 : IntKind.i64.wrap (k + (s.size : Int)) = k + (s.size : Int) := IntWalk.i64_in _ (by omega)
      by_cases h4 : 200 < k + (s.size : Int)
      · skip
        have HR : Hid (WrP n F p k s n F 4) := HM.out _ _ _ (.inl ⟨.inr h4, rfl, rfl, rfl⟩)
        clear HM
        go_wp2
        go_ret2
        exact ⟨⟨_, _, _, F, _, rfl, H.out.below B1.out, HZ.out, HR.out⟩, B1.out⟩
      obtain ⟨kn, rfl⟩ : ∃ q : Nat, k = (q : Int) := ⟨k.toNat, by omega⟩
      replace HM : Hid (∀ m G c, (((¬ ∃ j, j < n ∧ (F j).p = p) ∧ NewIs n F p c ∧ c ≠ 0 ∧ m = n ∧ G = F) ∨ (((∃ j, j < n ∧ (F j).p = p) ∨ NewIs n F p 0) ∧ c = 0 ∧ PutIs n F ⟨p, false, wrT t kn s⟩ m G)) → WrP n F p (kn : Int) s m G c) := fun m G c q => HM.out m G c (.inr ⟨(by omega), by rw [Int.toNat_natCast]; exact q⟩)
      go_upto_region 13 with fail
      have y2 := X1.out.c2
      obtain ⟨u2, gc, hcv, hrow, hb2⟩ := bytesOfR t u1
      have R2 : Hid (RowM u2 u1.heap.size t.size gc (strB t)) := hrow
      have B2 : Hid (Below u1.heap.size u1 u2) := hb2
      clear hrow hb2 x1
      go_wp2
      go_loopw [13] (fun v wr => ∃ q g cap : Nat, t.size ≤ q ∧ (q = t.size ∨ q ≤ kn + s.size) ∧ v = .slice (some ⟨g, 0, none⟩) q cap ∧ u1.heap.size ≤ g ∧ RowM wr g q cap (strB t) ∧ Below u1.heap.size u1 wr) (fun v _ => kn + s.size - slLen v)
      case atStart => exact ⟨t.size, _, _, Nat.le_refl _, .inl rfl, rfl, Nat.le_refl _, R2.out, B2.out⟩
      case round =>
        obtain ⟨q, g, cap, hq1, hq2, rfl, hg, hrw, hbw⟩ := hrel
        have HR1 : Hid (RowM wr g q cap (strB t)) := hrw
        have HB1 : Hid (Below u1.heap.size u1 wr) := hbw
        have HG1 : Hid (u1.heap.size ≤ g) := hg
        clear hrw hbw hg hcv y2 R2 B2
        by_cases hlt : q < kn + s.size
        · have hlt2 : (q : Int) < (kn : Int) + (s.size : Int) := by omega
          have hA : Below wr.heap.size wr (wr.alloc (.cells #[.int .u8 0] 5)) := (Below.refl _ _).alloc (Nat.le_refl _) _
          obtain ⟨g3, c3, w3, hap, hr3, hb3, hg3⟩ := appendM (wr.alloc (.cells #[.int .u8 0] 5)) u1.heap.size g q cap (strB t) wr.heap.size 0 1 1 (fun _ => 0) HG1.out (Nat.le_trans HB1.out.size hA.size) (by omega) (HR1.out.below hA) (code8_of (fun i hi => by
            obtain rfl : i = 0 := by omega
            simp)) 58
          have HR3 : Hid (RowM w3 g3 (q + 1) c3 (strB t)) := hr3.congr (cat_zeros t q hq1)
          have HB3 : Hid (Below u1.heap.size u1 w3) := (HB1.out.trans (hA.mono HB1.out.size)).trans hb3
          have HG3 : Hid (u1.heap.size ≤ g3) := hg3
          have HQ : Hid (t.size ≤ q + 1 ∧ (q + 1 = t.size ∨ q + 1 ≤ kn + s.size)) := ⟨by omega, .inr (by omega)⟩
          clear hA hr3 hb3 hg3 hq1 hq2 hlt HR1 HB1 HG1
          go_wp2_with (at_builtin; refine Lib.wpList_append_run _ rfl (.tmp 62) (.tmp 63) 58 58 rfl (.slice (some ⟨g, 0, none⟩) q cap) (.slice (some ⟨wr.heap.size, 0, none⟩) 1 1) rfl rfl _ _ hap ?_)
          go_roundw
          case rel => exact ⟨q + 1, g3, c3, HQ.out.1, HQ.out.2, rfl, HG3.out, HR3.out, HB3.out⟩
          case measure => simp [slLen]; omega
        · have hlt2 : ¬ (q : Int) < (kn : Int) + (s.size : Int) := by omega
          obtain rfl : q = max t.size (kn + s.size) := by omega
          obtain ⟨K, hK⟩ : ∃ K, K = max t.size (kn + s.size) := ⟨_, rfl⟩
          rw [← hK] at HR1 hlt2 hq1 hq2 hlt ⊢
          have HWT : Hid (kstr (pasteF (strB t) kn s s.size) 0 K = wrT t kn s) := by show _ = _; unfold wrT; rw [hK]
          have hKs : kn + s.size ≤ K := by omega
          have HP0 : Hid (RowM wr g K cap (pasteF (strB t) kn s 0)) := HR1.out.congr (fun i hi => by unfold pasteF; rw [if_neg (by omega)])
          have hK2 : K ≤ 200 := by have := HT.out; omega
          clear hK hq1 hq2 HR1
          go_wp2
          go_loopw [14] (fun i ws => ∃ q : Nat, q ≤ s.size ∧ i = .int .i64 q ∧ RowM ws g K cap (pasteF (strB t) kn s q) ∧ Below u1.heap.size u1 ws) (fun i _ => s.size - (intOf i).toNat)
          case atStart => exact ⟨0, by omega, rfl, HP0.out, HB1.out⟩
          case round =>
            obtain ⟨q, hq, rfl, hrw, hbw⟩ := hrel
            have HR4 : Hid (RowM wr g K cap (pasteF (strB t) kn s q)) := hrw
            have HB4 : Hid (Below u1.heap.size u1 wr) := hbw
            clear hrw hbw HP0
            by_cases hls : q < s.size
            · have hls2 : (q : Int) < (s.size : Int) := by omega
              have sb := strB_eq s q hls
              obtain ⟨oo, hoo⟩ : ∃ z, z = kn + q := ⟨_, rfl⟩
              have eo : (kn : Int) + (q : Int) = (oo : Int) := by omega
              have wo : IntKind.i64.wrap (oo : Int) = (oo : Int) := IntWalk.i64_in _ (by omega)
              have hoK : oo < K := by omega
              have hoi : (oo : Int) < (K : Int) := by omega
              have co := HR4.out.2.1 oo hoK
              have fo := (HR4.out.2.2.1 oo (Nat.lt_of_lt_of_le hoK HR4.out.1)).2
              have HR5 : Hid (RowM (wr.setCell ⟨g, oo, none⟩ (.int .u8 (strB s q : Nat))) g K cap (pasteF (strB t) kn s (q + 1))) := (HR4.out.set oo _ hoK).congr (fun i hi => by rw [hoo]; exact paste_step _ _ _ _ i)
              have HB5 : Hid (Below u1.heap.size u1 (wr.setCell ⟨g, oo, none⟩ (.int .u8 (strB s q : Nat)))) := HB4.out.setCell HG1.out _
              have q0 : (0 : Int) ≤ (oo : Int) := by omega
              clear hoo HR4 HB4
              go_wp2
              go_roundw
              case rel => exact ⟨q + 1, by omega, by go_num, HR5.out, HB5.out⟩
              case measure => simp [intOf]; omega
            · obtain rfl : q = s.size := by omega
              have hls2 : ¬ (s.size : Int) < (s.size : Int) := by omega
              have cv := kstr_of_code (c := cap) HR4.out.code
              rw [HWT.out] at cv
              have X5 : Hid (Box3 wr w.heap.size 45 (.string p) (.bool false) (.string t)) := X1.out.below HB4.out
              have B5 : Hid (Below w.heap.size w wr) := B1.out.trans (HB4.out.mono B1.out.size)
              have z2 := X5.out.c2
              have f2 := X5.out.fr 2
              generalize wrT t kn s = tt at *
              clear HR4 HB4 HWT
              go_upto_region 21 with fail
              have BX4 : Hid (Box3 (wr.setCell ⟨w.heap.size, 2, none⟩ (.string tt)) w.heap.size 45 (.string p) (.bool false) (.string tt)) := X5.out.set2 _
              have B6 : Hid (Below w.heap.size w (wr.setCell ⟨w.heap.size, 2, none⟩ (.string tt))) := B5.out.setCell (Nat.le_refl _) _
              clear X5 B5 z2 f2 cv
              generalize wr.setCell ⟨w.heap.size, 2, none⟩ (.string tt) = u4 at *
              have x0 := BX4.out.c0
              have x1 := BX4.out.c1
              have x2 := BX4.out.c2
              go_wp2_with fail
              refine (PT.out tt _ B6.out).mono ?_
              rintro e v7 ⟨⟨a7, m7, c7, G, rfl, he, hpt⟩, hb⟩
              have HR : Hid (Els v7 3 a7 m7 (fiF G) ∧ (a7 = none → c7 = 0) ∧ WrP n F p (kn : Int) s m7 G 0) := ⟨he.els, he.zero, HM.out _ _ _ (.inr ⟨.inl HE1.out, rfl, hpt⟩)⟩
              have B7 : Hid (Below w.heap.size w v7) := B6.out.trans (hb.mono B6.out.size)
              clear he hpt hb HM PT BX4 B6 x0 x1 x2
              go_wp2
              go_ret2
              exact ⟨⟨_, _, _, G, _, rfl, HR.out⟩, B7.out⟩
set_option maxRecDepth 100000 in
set_option maxHeartbeats 2000000 in
theorem specWr_any (a : Option Addr) (n c : Nat) (F : Nat → Fi) (p : ByteArray) (k : Int) (s : ByteArray) (hsz : ∀ i, i < n → (F i).p.size ≤ 1048576) (hnn : n ≤ 1048576) (hpz : p.size ≤ 1048576) (hsz2 : s.size ≤ 1048576) (hsl : SlP a n c) (w : World) (h : Els w 3 a n (fiF F)) :
    Calls Try.prog 18 #[.slice a n c, .string p, .int .i64 k, .string s] w fun e w' => (∃ m G cd, WrIs n F p k s m G cd ∧ RetFs m G cd w.heap.size e w') ∧ Below w.heap.size w w' := by
  have L0 : Hid (∀ w : World, EO (w.alloc (.cells #[] 45)) w.heap.size 45 3 (.slice (some ⟨w.heap.size, 0, none⟩) 0 0) 0 (fiF F)) := fun w => EO.lit w w.heap.size _ 3 (Nat.le_refl _) _
  by_cases hl : 4096 < n ∨ 65536 < p.size
  · have HX : Hid (WrIs n F p k s 0 F 2) := by
      by_cases z : 65536 < s.size
      · exact .inl ⟨z, rfl, rfl⟩
      · exact .inr ⟨z, .inl ⟨.inl ⟨hl.imp id (fun q => ⟨0, by omega, q⟩), rfl⟩, by decide, rfl⟩⟩
    by_cases h0 : 4096 < n
    · have g0 : (4096 : Int) < (n : Int) := by omega
      clear h hsz hl
      go_enter Try.func18, Try.ntmps18
      go_wp2
      go_ret2
      exact ⟨⟨0, F, 2, HX.out, ⟨_, _, rfl, L0.out w⟩⟩, (Below.refl _ _).alloc (Nat.le_refl _) _⟩
    · have g0 : ¬ (4096 : Int) < (n : Int) := by omega
      have g1 : (65536 : Int) < (p.size : Int) := by rcases hl with q | q <;> omega
      clear h hsz hl
      go_enter Try.func18, Try.ntmps18
      go_wp2
      go_ret2
      exact ⟨⟨0, F, 2, HX.out, ⟨_, _, rfl, L0.out w⟩⟩, (Below.refl _ _).alloc (Nat.le_refl _) _⟩
  · have g0 : ¬ (4096 : Int) < (n : Int) := fun q => hl (.inl (by omega))
    have g1 : ¬ (65536 : Int) < (p.size : Int) := fun q => hl (.inr (by omega))
    by_cases hls : 65536 < s.size
    · have HX : Hid (WrIs n F p k s 0 F 2) := .inl ⟨hls, rfl, rfl⟩
      have g2 : (65536 : Int) < (s.size : Int) := by omega
      clear h hsz hl
      go_enter Try.func18, Try.ntmps18
      go_wp2
      go_ret2
      exact ⟨⟨0, F, 2, HX.out, ⟨_, _, rfl, L0.out w⟩⟩, (Below.refl _ _).alloc (Nat.le_refl _) _⟩
    have g2 : ¬ (65536 : Int) < (s.size : Int) := by omega
    have HSL : Hid (¬ 65536 < s.size) := hls
    clear hls
    have CD : Hid (Calls Try.prog 36 #[.slice a n c, .string p] w fun e w' => (∃ x : Int, e = .returned (.int .i64 x) ∧ FtIs n F 1 (fun _ => p) x) ∧ Below w.heap.size w w') := l11Code_any a n c F p hsz hnn hpz w h
    have H : Hid (Els w 3 a n (fiF F)) := h
    clear h hsz hl
    go_enter Try.func18, Try.ntmps18
    go_wp2_with fail
    refine (Calls.mono CD.out) ?_
    rintro e v1 ⟨⟨x, rfl, hx⟩, hb⟩
    have B1 : Hid (Below w.heap.size w v1) := hb
    have HX : Hid (FtIs n F 1 (fun _ => p) x) := hx
    clear hx hb CD
    by_cases h0 : x = 0
    · subst h0
      obtain ⟨ho, hp, hn4, -⟩ := HX.out.ok
      have MK : Hid (∀ w' : World, Below w.heap.size w w' → Calls Try.prog 44 #[.slice a n c, .string p, .int .i64 k, .string s] w' fun e w'' => (∃ (a' : Option Addr) (m c' : Nat) (G : Nat → Fi) (cd : Int), e = .returned (.tuple #[.slice a' m c', .int .i64 cd]) ∧ Els w'' 3 a' m (fiF G) ∧ (a' = none → c' = 0) ∧ WrP n F p k s m G cd) ∧ Below w'.heap.size w' w'') := fun w' hb => l11Write_any a n c F p k s ho (hp 0 (by omega)).1 (by have := HSL.out; omega) hsl.z w' (H.out.below hb)
      have hn12 := ho.1
      clear ho hp hn4
      go_wp2_with fail
      refine (MK.out _ B1.out).mono ?_
      rintro e v2 ⟨⟨a', m, c', G, cd, rfl, hE, hz', hM⟩, hb⟩
      have hml := hM.le
      have HM : Hid (WrIs n F p k s m G cd) := .inr ⟨HSL.out, .inr ⟨HX.out, hM⟩⟩
      obtain ⟨a3, c3, v3, hr, ho3, hb3⟩ := ownAll (by omega) hE hz'
      have B3 : Hid (Below w.heap.size w v3) := (B1.out.trans (hb.mono B1.out.size)).trans (hb3.mono (by have := B1.out.size; have := hb.size; omega))
      have O3 : Hid (EO v3 w.heap.size 45 3 (.slice a3 m c3) m (fiF G)) := ho3.mono (by have := B1.out.size; have := hb.size; omega)
      clear hE hz' hM hb ho3 hb3 MK B1 HX L0
      go_wp2_with (at_builtin; refine Lib.wpList_append_run _ rfl (.tmp 41) (.tmp 42) 25 25 rfl (.slice (some ⟨v2.heap.size, 0, none⟩) 0 0) (.slice a' m c') rfl rfl _ _ (hr _) ?_)
      go_ret2
      exact ⟨⟨m, G, cd, HM.out, ⟨_, _, rfl, O3.out⟩⟩, B3.out⟩
    · have g : (x != 0) = true := by simpa using h0
      have HM : Hid (WrIs n F p k s 0 F x) := .inr ⟨HSL.out, .inl ⟨HX.out, h0, rfl⟩⟩
      have L1 : Hid (EO (v1.alloc (.cells #[] 45)) w.heap.size 45 3 (.slice (some ⟨v1.heap.size, 0, none⟩) 0 0) 0 (fiF F)) := (L0.out v1).mono B1.out.size
      clear h0 HX
      go_wp2
      go_ret2
      exact ⟨⟨0, F, x, HM.out, ⟨_, _, rfl, L1.out⟩⟩, B1.out.alloc B1.out.size _⟩
end Go.Proofs.Ytendfgepmjgldab
