/-
  movedPath and moveFault of the program.
-/
import Derived.Test.YtglfhajfbdjjcaaFileMvM
import Derived.Test.YtglfhajfbdjjcaaFileRm
import Derived.Test.YtglfhajfbdjjcaaBelowN
namespace Go.Proofs.Ytglfhajfbdjjcaa
open Go.ChangeShapes Go.WideShapes Go.ChangeAt Go.RowKit Go.Shelf
set_option linter.unusedVariables false
attribute [local go_sem] Oper.semAt_some
theorem mvT_self (fr tp : ByteArray) : mvT fr tp fr = tp := by
  rw [mvT_yes (.inl rfl)]
  refine toL_inj ?_
  rw [toL_app, toL_ext, List.take_of_length_le (by rw [toL_len]; exact Nat.le_refl _), List.drop_of_length_le (by rw [toL_len]; exact Nat.le_refl _), List.append_nil]
theorem mvT_below {fr tp p : ByteArray} (h : HasPre p (fr ++ ⟨#[47]⟩)) : mvT fr tp p = (tp ++ ⟨#[47]⟩) ++ p.extract (fr ++ ⟨#[47]⟩).size p.size := by
  rw [mvT_yes (.inr h)]
  obtain ⟨r, rfl⟩ := hasPre_ex.1 h
  have e1 : List.take (fr ++ ⟨#[47]⟩ ++ r).size (fr ++ ⟨#[47]⟩ ++ r).data.toList = (fr ++ ⟨#[47]⟩ ++ r).data.toList := List.take_of_length_le (by rw [toL_len]; exact Nat.le_refl _)
  have eR : (fr ++ ⟨#[47]⟩ ++ r).extract (fr ++ ⟨#[47]⟩).size (fr ++ ⟨#[47]⟩ ++ r).size = r := toL_inj (by rw [toL_ext, e1, toL_app (fr ++ ⟨#[47]⟩) r, ← toL_len (fr ++ ⟨#[47]⟩), List.drop_left])
  have eL : (fr ++ ⟨#[47]⟩ ++ r).extract fr.size (fr ++ ⟨#[47]⟩ ++ r).size = ⟨#[47]⟩ ++ r := toL_inj (by rw [toL_ext, e1, toL_app, toL_app, toL_app, List.append_assoc, ← toL_len fr, List.drop_left])
  rw [eL, eR, ByteArray.append_assoc]
set_option maxRecDepth 100000 in
theorem hasPrefix_any (s t : ByteArray) (w : World) : Calls Try.prog 105 #[.string s, .string t] w fun e w' => Says e (HasPre s t) ∧ w = w' := by
  have HP : Hid (Calls Try.prog 126 #[.string s, .string t] w fun e w' => Says e (HasPre s t) ∧ w' = w) := hasPre_any s t w
  go_enter Try.func105, Try.ntmps105
  go_wp2_with fail
  refine (Calls.mono HP.out) ?_
  rintro e w' ⟨⟨b, rfl, hb⟩, hw⟩
  have HB : Hid ((b = true ↔ HasPre s t) ∧ w' = w) := ⟨hb, hw⟩
  clear hb hw HP
  go_wp2
  go_ret
  exact ⟨⟨b, rfl, HB.out.1⟩, HB.out.2.symm⟩
set_option maxRecDepth 100000 in
set_option maxHeartbeats 1000000 in
theorem movedPath_any (p fr tp : ByteArray) (hp : p.size ≤ 1048576) (hf : fr.size ≤ 1048576) (ht : tp.size ≤ 1048576) (w : World) :
    Calls Try.prog 67 #[.string p, .string fr, .string tp] w fun e w' => e = .returned (.string (mvT fr tp p)) ∧ w = w' := by
  have HC : Hid (Calls Try.prog 94 #[.string p, .string (fr ++ ⟨#[47]⟩)] w fun e w' => CutP p (fr ++ ⟨#[47]⟩) e ∧ w' = w) := cutPre_any p _ w
  have f1 : fr.size + 1 ≤ 9223372036854775807 := by omega
  have f2 : tp.size + 1 ≤ 9223372036854775807 := by omega
  have HB : Hid (HasPre p (fr ++ ⟨#[47]⟩) → mvT fr tp p = (tp ++ ⟨#[47]⟩) ++ p.extract (fr ++ ⟨#[47]⟩).size p.size) := mvT_below
  have HS : Hid (p = fr → mvT fr tp p = tp) := fun e => by rw [e]; exact mvT_self fr tp
  have HN : Hid (p ≠ fr → ¬ HasPre p (fr ++ ⟨#[47]⟩) → mvT fr tp p = p) := fun e h => mvT_no (fun q => q.elim e h)
  have sz : (tp ++ (⟨#[47]⟩ : ByteArray)).size + (p.extract (fr ++ ⟨#[47]⟩).size p.size).size ≤ 9223372036854775807 := by rw [size_slM, ByteArray.size_extract]; omega
  generalize mvT fr tp p = R at *
  go_enter Try.func67, Try.ntmps67
  go_wp2_with fail
  refine (Calls.mono HC.out) ?_
  rintro e w' ⟨hcp, hw⟩
  have HW : Hid (w = w') := hw.symm
  clear hw HC
  rcases hcp with ⟨hpre, rfl⟩ | ⟨hpre, rfl⟩
  · have hb := HB.out hpre
    have HBB : Hid (R = (tp ++ ⟨#[47]⟩) ++ p.extract (fr ++ ⟨#[47]⟩).size p.size) := hb
    clear hb HB HN hpre
    generalize p.extract (fr ++ ⟨#[47]⟩).size p.size = X at *
    by_cases e : p = fr
    · subst e
      have r : (p.toList == p.toList) = true := by simp
      have HR : Hid (R = tp) := HS.out rfl
      clear HS HBB
      go_wp2
      go_ret
      exact ⟨by rw [HR.out]; rfl, HW.out⟩
    · have r := textNe e
      clear HS e
      go_wp2
      go_ret
      exact ⟨by rw [HBB.out]; rfl, HW.out⟩
  · have HNN : Hid (p ≠ fr → R = p) := fun e => HN.out e hpre
    clear HB HN hpre sz
    by_cases e : p = fr
    · subst e
      have r : (p.toList == p.toList) = true := by simp
      have HR : Hid (R = tp) := HS.out rfl
      clear HS HNN
      go_wp2
      go_ret
      exact ⟨by rw [HR.out]; rfl, HW.out⟩
    · have r := textNe e
      have HR : Hid (R = p) := HNN.out e
      clear HS HNN e
      go_wp2
      go_ret
      exact ⟨by rw [HR.out]; rfl, HW.out⟩
def AllM {n : Nat} (F : Nat → Fi) (fr tp : ByteArray) (pre : List {i : Nat // i < n}) : Prop := ∀ x ∈ pre, tp.size + 1 + ((F x.1).p.size - (fr.size + 1)) ≤ 40
def SomeM {n : Nat} (F : Nat → Fi) (fr tp : ByteArray) (pre : List {i : Nat // i < n}) : Prop := ∃ x ∈ pre, 40 < tp.size + 1 + ((F x.1).p.size - (fr.size + 1))
def rsM (F : Nat → Fi) (fr : ByteArray) (i : Nat) : ByteArray := (F i).p.extract (fr.size + 1) (F i).p.size
theorem ahead_sl {fr : ByteArray} (h : 0 < fr.size) : aheadT fr = fr ++ ⟨#[47]⟩ := by unfold aheadT; rw [if_neg (by omega)]
theorem rsM_eq {F : Nat → Fi} {fr : ByteArray} {i : Nat} (h : 0 < fr.size) : (F i).p.extract (aheadT fr).size (F i).p.size = rsM F fr i := by rw [ahead_sl h, size_slM]; rfl
theorem rsM_size (F : Nat → Fi) (fr : ByteArray) (i : Nat) : (rsM F fr i).size = (F i).p.size - (fr.size + 1) := by unfold rsM; rw [ByteArray.size_extract]; omega
/-- What moveFault answers. -/
def MfIs (n : Nat) (F : Nat → Fi) (fr tp : ByteArray) (k : Nat) (c : Int) : Prop :=
  (HasPre tp (fr ++ ⟨#[47]⟩) ∧ c = 15) ∨ (¬ HasPre tp (fr ++ ⟨#[47]⟩) ∧
    ((DirIs n F (par tp) c ∧ c ≠ 0) ∨ (DirIs n F (par tp) 0 ∧
      (((∃ j, j < n ∧ (F j).p = tp ∧ ((F j).d = true ∨ (F k).d = true)) ∧ c = 9) ∨ ((¬ ∃ j, j < n ∧ (F j).p = tp ∧ ((F j).d = true ∨ (F k).d = true)) ∧
        (((∃ i, i < n ∧ HasPre (F i).p (fr ++ ⟨#[47]⟩) ∧ 40 < tp.size + ((F i).p.size - fr.size)) ∧ c = 16) ∨ ((¬ ∃ i, i < n ∧ HasPre (F i).p (fr ++ ⟨#[47]⟩) ∧ 40 < tp.size + ((F i).p.size - fr.size)) ∧ c = 0)))))))
theorem blwN_mem {F : Nat → Fi} {h : ByteArray} {n : Nat} {x : {i : Nat // i < n}} : ∀ {k : Nat}, x ∈ blwN F h n k ↔ x.1 < k ∧ HasPre (F x.1).p h
  | 0 => by simp [blwN]
  | k + 1 => by
    have ih := blwN_mem (F := F) (h := h) (x := x) (k := k)
    by_cases hk : k < n
    · by_cases hp : HasPre (F k).p h
      · rw [blwN_yes hk hp, List.mem_append, ih, List.mem_singleton]
        constructor
        · rintro (⟨a, b⟩ | rfl)
          · exact ⟨by omega, b⟩
          · exact ⟨by show k < k + 1; omega, hp⟩
        · rintro ⟨a, b⟩
          by_cases e : x.1 = k
          · right; exact Subtype.ext e
          · left; exact ⟨by omega, b⟩
      · rw [blwN_no hp, ih]
        constructor
        · rintro ⟨a, b⟩; exact ⟨by omega, b⟩
        · rintro ⟨a, b⟩
          refine ⟨?_, b⟩
          rcases Nat.lt_or_ge x.1 k with q | q
          · exact q
          · have : x.1 = k := by omega
            rw [this] at b
            exact absurd b hp
    · have hx := x.2
      rw [blwN, dif_neg hk, List.append_nil, ih]
      constructor
      · rintro ⟨a, b⟩; exact ⟨by omega, b⟩
      · rintro ⟨a, b⟩; exact ⟨by omega, b⟩
set_option maxRecDepth 100000 in
set_option maxHeartbeats 8000000 in
theorem moveFault_any (a : Option Addr) (n c : Nat) (F : Nat → Fi) (fr tp : ByteArray) (k : Nat) (ho : FsOk n F) (hfr : PathOk fr) (htp : PathOk tp) (hk : k < n) (ek : (F k).p = fr) (w : World) (h : Els w 3 a n (fiF F)) :
    Calls Try.prog 64 #[.slice a n c, .string fr, .string tp] w fun e w' => (∃ x : Int, e = .returned (.int .i64 x) ∧ MfIs n F fr tp k x) ∧ Below w.heap.size w w' := by
  refine (callsIn_wide (n := 3)).1 ?_
  have hs := ho.srt
  have hn := ho.1
  have hpp : (par tp).size ≤ 40 := by have := htp.1; have := lastTo_le tp tp.size; unfold par; rw [ByteArray.size_extract]; omega
  obtain ⟨v1, hv1⟩ : ∃ v, v = (w.alloc (.cells #[.string tp] 9)).alloc (.cells #[.int .i64 0] 3) := ⟨_, rfl⟩
  have A1 : Hid (Below w.heap.size w v1) := by show Below _ _ _; rw [hv1]; exact ((Below.refl _ _).alloc (Nat.le_refl _) _).alloc (by simp) _
  have P1 : Hid (Bx1 v1 w.heap.size (.string tp)) := by show Bx1 _ _ _; rw [hv1]; exact (Bx1.new w _ _).alloc _
  have R1 : Hid (Bx1 v1 (w.heap.size + 1) (.int .i64 0)) := by show Bx1 _ _ _; rw [hv1]; have := Bx1.new (w.alloc (.cells #[.string tp] 9)) (.int .i64 0) 3; rw [World.size_alloc] at this; exact this
  have S1 : Hid (v1.heap.size = w.heap.size + 2) := by show _ = _; rw [hv1]; simp
  have HV : Hid ((w.alloc (.cells #[.string tp] 9)).alloc (.cells #[.int .i64 0] 3) = v1) := hv1.symm
  have H : Hid (Els w 3 a n (fiF F)) := h
  have HP : Hid (∀ u : World, CallsIn Fence.wide 2 Try.prog 105 #[.string tp, .string (fr ++ ⟨#[47]⟩)] u fun e w' => Says e (HasPre tp (fr ++ ⟨#[47]⟩)) ∧ u = w') := fun u => callsIn_wide.2 (hasPrefix_any _ _ u)
  have PA : Hid (∀ u : World, CallsIn Fence.wide 2 Try.prog 79 #[.string tp] u fun e w' => e = .returned (.string (par tp)) ∧ u = w') := fun u => callsIn_wide.2 ((parentOf_any tp (by have := htp.1; omega) u).mono fun _ _ z => ⟨z.1, z.2.symm⟩)
  have DF : Hid (∀ u : World, Below w.heap.size w u → CallsIn Fence.wide 2 Try.prog 51 #[.slice a n c, .string (par tp)] u fun e w' => (∃ x : Int, e = .returned (.int .i64 x) ∧ DirIs n F (par tp) x) ∧ Below u.heap.size u w') := fun u hb => callsIn_wide.2 (dirFault_any a n c F (par tp) hs hpp (by omega) u (h.below hb))
  have TH : Hid (∀ u : World, Below w.heap.size w u → CallsIn Fence.wide 2 Try.prog 63 #[.slice a n c, .string tp] u fun e w' => Says e (∃ j, j < n ∧ (F j).p = tp) ∧ Below u.heap.size u w') := fun u hb => callsIn_wide.2 (isThere_any a n c F tp hs htp.1 (by omega) u (h.below hb))
  have FD : Hid (∀ (q : ByteArray) (u : World), q.size ≤ 40 → Below w.heap.size w u → CallsIn Fence.wide 2 Try.prog 73 #[.slice a n c, .string q, .func (.func 70) #[] #[]] u fun e w' => (∃ y : Fi, e = .returned (.agg #[.string y.p, .bool y.d, .string y.t]) ∧ FindIs n F q y) ∧ Below u.heap.size u w') := fun q u hq hb => callsIn_wide.2 (findF_any a n c F q hs hq (by omega) u (h.below hb))
  have BL : Hid (∀ u : World, CallsIn Fence.wide 2 Try.prog 52 #[.slice a n c, .string fr] u fun e w'' => e = .returned (.func (.func 93) #[] #[.pointer (some ⟨u.heap.size + 1, 0, none⟩), .pointer (some ⟨u.heap.size, 0, none⟩)]) ∧ w'' = (u.alloc (.cells #[.slice a n c] 26)).alloc (.cells #[.string fr] 9)) := fun u => callsIn_wide.2 (below_any a n c fr u)
  have HZ : Hid (fr.size ≤ 40 ∧ tp.size ≤ 40 ∧ 0 < fr.size) := ⟨hfr.1, htp.1, pathOk_pos hfr⟩
  have HKK : Hid (k < n ∧ (F k).p = fr ∧ n ≤ 12 ∧ Srt n F ∧ ∀ i, i < n → (F i).p.size ≤ 40) := ⟨hk, ek, hn, hs, fun i hi => (hs.ok i hi).1⟩
  have fz : fr.size + 1 ≤ 9223372036854775807 := by have := hfr.1; omega
  clear h ho hfr htp hk ek hs hpp hv1
  refine callsIn_of_wp_marks Try.func64 rfl trivial ?_ rfl
  simp only [Try.ntmps64, List.size_toArray, List.length_cons, List.length_nil, Nat.reduceAdd, Nat.reduceSub, Array.replicate_succ, Array.replicate_zero, List.push_toArray, List.append_toArray, List.nil_append, List.cons_append]
  have pc := P1.out.1
  rw [← HV.out] at pc
  gi_wp2_with fail
  rw [HV.out]
  clear pc HV
  refine ⟨trivial, (HP.out _).mono ?_⟩
  rintro e _ ⟨⟨b, rfl, hb⟩, rfl⟩
  have HB1 : Hid (b = true ↔ HasPre tp (fr ++ ⟨#[47]⟩)) := hb
  clear hb HP
  cases b with
  | true =>
    have HM : Hid (MfIs n F fr tp k 15) := .inl ⟨HB1.out.1 rfl, rfl⟩
    have r0 := R1.out.1
    have r1 := R1.out.2
    clear HB1
    gi_wp2
    have X1 := (R1.out.set (.int .i64 15)).1
    exact ⟨.int .i64 15, by simp [results, Try.f64, go_sem, X1], ⟨_, rfl, HM.out⟩, A1.out.setCell (p := ⟨w.heap.size + 1, 0, none⟩) (by simp) _⟩
  | false =>
    have HN1 : Hid (¬ HasPre tp (fr ++ ⟨#[47]⟩)) := fun q => by have := HB1.out.2 q; cases this
    clear HB1
    have pc := P1.out.1
    gi_wp2_with fail
    refine ⟨trivial, (PA.out _).mono ?_⟩
    rintro e _ ⟨rfl, rfl⟩
    clear PA pc
    gi_wp2_with fail
    refine ⟨trivial, (DF.out _ A1.out).mono ?_⟩
    rintro e v2 ⟨⟨x, rfl, hx⟩, hb⟩
    have B2 : Hid (Below w.heap.size w v2) := A1.out.trans (hb.mono A1.out.size)
    have P2 : Hid (Bx1 v2 w.heap.size (.string tp)) := P1.out.below hb
    have R2 : Hid (Bx1 v2 (w.heap.size + 1) (.int .i64 0)) := R1.out.below hb
    have S2 : Hid (w.heap.size + 2 ≤ v2.heap.size) := by have := hb.size; have := S1.out; show _ ≤ _; omega
    have HD : Hid (DirIs n F (par tp) x) := hx
    clear hx hb DF A1 P1 R1 S1
    by_cases h0 : x = 0
    · subst h0
      have pc := P2.out.1
      gi_wp2_with fail
      refine ⟨trivial, (TH.out _ B2.out).mono ?_⟩
      rintro e v3 ⟨⟨y, rfl, hy⟩, hb⟩
      have B3 : Hid (Below w.heap.size w v3) := B2.out.trans (hb.mono B2.out.size)
      have P3 : Hid (Bx1 v3 w.heap.size (.string tp)) := P2.out.below hb
      have R3 : Hid (Bx1 v3 (w.heap.size + 1) (.int .i64 0)) := R2.out.below hb
      have S3 : Hid (w.heap.size + 2 ≤ v3.heap.size) := by have := hb.size; have := S2.out; show _ ≤ _; omega
      have HY : Hid (y = true ↔ ∃ j, j < n ∧ (F j).p = tp) := hy
      clear hy hb TH B2 P2 R2 S2 pc
--@@LOOP
      cases y with
      | false =>
        have HNT : Hid (¬ ∃ j, j < n ∧ (F j).p = tp ∧ ((F j).d = true ∨ (F k).d = true)) := fun ⟨j, hj, e, _⟩ => by have := HY.out.2 ⟨j, hj, e⟩; cases this
        clear HY FD
        have BV : Hid (Below w.heap.size w v3) := B3.out
        have PV : Hid (Bx1 v3 w.heap.size (.string tp)) := P3.out
        have RV : Hid (Bx1 v3 (w.heap.size + 1) (.int .i64 0)) := R3.out
        have SV : Hid (w.heap.size + 2 ≤ v3.heap.size) := S3.out
        have pcl := True.intro
        clear B3 P3 R3 S3
        gi_wp2_with fail
        refine ⟨trivial, ?_⟩
        gi_wp2_with fail
        · rename_i h1 h2; exact absurd h1 (by simp [undef])
        · rename_i h1 h2; exact absurd h1 (by simp [undef])
        refine ⟨trivial, ?_⟩
        gi_wp2_with fail
        refine ⟨trivial, (BL.out _).mono ?_⟩
        rintro e v6 ⟨rfl, hv6⟩
        have hb6 : Below v3.heap.size v3 v6 := by rw [hv6]; exact ((Below.refl _ _).alloc (Nat.le_refl _) _).alloc (by simp) _
        have L6 : Bx1 v6 v3.heap.size (.slice a n c) := by rw [hv6]; exact (Bx1.new _ _ _).alloc _
        have M6 : Bx1 v6 (v3.heap.size + 1) (.string fr) := by rw [hv6]; have := Bx1.new (v3.alloc (.cells #[.slice a n c] 26)) (.string fr) 9; rw [World.size_alloc] at this; exact this
        have s6 : v6.heap.size = v3.heap.size + 2 := by rw [hv6]; simp
        have B6 : Hid (Below w.heap.size w v6) := BV.out.trans (hb6.mono BV.out.size)
        have P6 : Hid (Bx1 v6 w.heap.size (.string tp)) := PV.out.below hb6
        have R6 : Hid (Bx1 v6 (w.heap.size + 1) (.int .i64 0)) := RV.out.below hb6
        have HQ : Hid (∀ g, (g = v3.heap.size ∨ g = v3.heap.size + 1 ∨ g < w.heap.size) → g < v6.heap.size ∧ g ≠ w.heap.size + 1) := fun g hg => by have h1 := SV.out; have h2 := s6; rcases hg with rfl | rfl | hg <;> omega
        clear s6
        have SQ := below_stopsN (fun g => g = v3.heap.size ∨ g = v3.heap.size + 1 ∨ g < w.heap.size) (v3.heap.size + 1) v3.heap.size a n c F fr v6 (3 - 1) M6.1 L6.1 (H.out.below B6.out) (.inr (.inl rfl)) (.inl rfl) (fun hn0 q e => by
            obtain ⟨b', off', e', hc⟩ := H.out 0 hn0
            have hlt := strBlock (hc 0 (by omega))
            rw [e'] at e
            cases e
            exact .inr (.inr hlt)) (by omega) HZ.out.1 (fun g hg => (HQ.out g hg).1)
        clear hb6 L6 M6 hv6 BV PV RV BL pcl
        gi_wp2_with fail
        refine wpIn_rangeFunc_ownF rfl (by omega) (gf := 93) (lb := #[.pointer (some ⟨v3.heap.size + 1, 0, none⟩), .pointer (some ⟨v3.heap.size, 0, none⟩)]) rfl trivial (enters_of Try.func93 (by kernel_rfl) rfl)
          SQ KpQ.tr (fun W l o o' hl hh _ _ => KpQ.put (w := v6) (fun g hg => (HQ.out g hg).1) W l o o' hl hh) (Below.refl _ _) (fun _ => rfl)
          (fun (pre : List {i : Nat // i < n}) W => AllM F fr tp pre ∧ Below v6.heap.size v6 W)
          (fun cc (pre : List {i : Nat // i < n}) W => ((cc = .ret ∧ SomeM F fr tp pre) ∧ Bx1 W (w.heap.size + 1) (.int .i64 16)) ∧ Below w.heap.size w W)
          (OwnFrom.and (ownFrom_pure _ (fun (pre : List {i : Nat // i < n}) => AllM F fr tp pre)) (ownFrom_below (Nat.le_refl _) (Nat.le_refl _)))
          (fun cc => OwnFrom.and (OwnFrom.and (ownFrom_pure _ (fun (pre : List {i : Nat // i < n}) => cc = .ret ∧ SomeM F fr tp pre)) (Own.from (bx1_own _ _) _)) (ownFrom_below (Nat.le_refl _) B6.out.size))
          ⟨(fun x hx => by cases hx), Below.refl _ _⟩
          (fun x => { tmps := #[.slice a n c, .string fr, .string tp, undef, undef, .pointer (some ⟨w.heap.size, 0, none⟩), .pointer (some ⟨w.heap.size + 1, 0, none⟩), .int .i64 0, .string (rsM F fr x.1), .string tp, .string fr, .string (fr ++ ⟨#[47]⟩), .bool false, .slice a n c, .string tp, .string (par tp), .int .i64 0, .int .i64 0, .bool false, undef, .slice a n c, .string tp, .bool false, .bool false, undef, undef, undef, undef, undef, undef, undef, undef, undef, undef, .bool false, .slice a n c, .string fr, .func (.func 93) #[] #[.pointer (some ⟨v3.heap.size + 1, 0, none⟩), .pointer (some ⟨v3.heap.size, 0, none⟩)], .string (rsM F fr x.1), .agg #[.string (F x.1).p, .bool (F x.1).d, .string (F x.1).t], undef, undef, undef, undef, undef, undef, undef], defers := [] }) ?assign ?body ?done ?stop
        case assign =>
          intro l x W K hK
          simp only [encN, encB]
          have HR : Hid ((F x.1).p.extract (aheadT fr).size (F x.1).p.size = rsM F fr x.1) := rsM_eq HZ.out.2.2
          rw [HR.out]
          gi_wp2
          simpa using hK
        case body =>
          rintro l pre x W ⟨hpre, hB⟩ _
          have xz : (F x.1).p.size ≤ 40 := HKK.out.2.2.2.2 x.1 x.2
          have rz : (rsM F fr x.1).size = (F x.1).p.size - (fr.size + 1) := rsM_size _ _ _
          have hz := HZ.out
          have p1 := (P6.out.below hB).1
          have r0 := (R6.out.below hB).1
          have r1 := (R6.out.below hB).2
          have RW : Hid (Bx1 W (w.heap.size + 1) (.int .i64 0)) := R6.out.below hB
          have BW : Hid (Below w.heap.size w W) := B6.out.trans (hB.mono B6.out.size)
          have HPR : Hid (AllM F fr tp pre) := hpre
          have HBv : Hid (Below v6.heap.size v6 W) := hB
          have HRZ : Hid ((rsM F fr x.1).size = (F x.1).p.size - (fr.size + 1)) := rz
          clear hpre hB SQ
          dsimp only
          generalize rsM F fr x.1 = R at *
          have rl : R.size ≤ 40 := by omega
          have tl := hz.2.1
          clear hz rz
          by_cases hlong : 40 < tp.size + 1 + R.size
          · have g1 : (40 : Int) < (tp.size : Int) + 1 + (R.size : Int) := by omega
            have HL : Hid (40 < tp.size + 1 + ((F x.1).p.size - (fr.size + 1))) := by have := HRZ.out; show _ < _; omega
            clear HRZ
            gi_wp2
            exact ⟨KeepsOthers.setCell _ _ _, ⟨⟨rfl, x, by simp, HL.out⟩, RW.out.set _⟩, BW.out.setCell (p := ⟨w.heap.size + 1, 0, none⟩) (by simp) _⟩
          · have g1 : ¬ (40 : Int) < (tp.size : Int) + 1 + (R.size : Int) := by omega
            have HL : Hid (tp.size + 1 + ((F x.1).p.size - (fr.size + 1)) ≤ 40) := by have := HRZ.out; show _ ≤ _; omega
            clear HRZ
            gi_wp2
            refine ⟨KeepsOthers.refl _, KpQ.refl _ _, fun y hy => ?_, HBv.out⟩
            rcases List.mem_append.1 hy with q | q
            · exact HPR.out y q
            · obtain rfl := List.mem_singleton.1 q
              exact HL.out
        case stop =>
          rintro D cc pre W hD hpre ⟨⟨⟨rfl, x, hx, hlong⟩, q1⟩, hB⟩ hK
          have HM : Hid (MfIs n F fr tp k 16) := by
            refine .inr ⟨HN1.out, .inr ⟨HD.out, .inr ⟨HNT.out, .inl ⟨?_, rfl⟩⟩⟩⟩
            have hm := (blwN_mem (k := n)).1 (hpre.subset hx)
            have hp := hm.2
            rw [ahead_sl HZ.out.2.2] at hp
            have h1 := hp.1
            rw [size_slM] at h1
            exact ⟨x.1, x.2, hp, by omega⟩
          clear hx hlong hpre SQ
          gi_wp2
          refine ⟨by simp, .inl ⟨_, _, rfl, run_takeDeferred hK, ?_⟩⟩
          have X1 := (q1.putO (.deferred none) hK rfl).1
          exact ⟨.int .i64 16, by simp [results, Try.f64, go_sem, X1], ⟨_, rfl, HM.out⟩, hB.trans (belowK_b (w := w) (Nat.le_refl _) W D _ _ (by have := B6.out.size; omega) hK rfl rfl)⟩
        case done =>
          rintro D xs W hD hxs ⟨hall, hB⟩ hK
          have HM : Hid (MfIs n F fr tp k 0) := by
            refine .inr ⟨HN1.out, .inr ⟨HD.out, .inr ⟨HNT.out, .inr ⟨?_, rfl⟩⟩⟩⟩
            rintro ⟨i, hi, hp, hl⟩
            subst hxs
            have h1 := hp.1
            rw [size_slM] at h1
            have := hall ⟨i, hi⟩ ((blwN_mem (k := n)).2 ⟨hi, by rw [ahead_sl HZ.out.2.2]; exact hp⟩)
            simp only at this
            omega
          have RW : Hid (Bx1 W (w.heap.size + 1) (.int .i64 0)) := R6.out.below hB
          have BW : Hid (Below w.heap.size w W) := B6.out.trans (hB.mono B6.out.size)
          have r0 := RW.out.1
          have r1 := RW.out.2
          have HK0 : Hid (W.heap[D]? = some (.deferred (some []))) := hK
          clear hall hxs hB hK SQ
          gi_wp2
          have K3 := (KeepsOthers.setCell W ⟨w.heap.size + 1, 0, none⟩ (.int .i64 0)).same D _ HK0.out rfl
          refine ⟨by simp, .inl ⟨_, _, rfl, run_takeDeferred K3, ?_⟩⟩
          have X1 := ((RW.out.set (.int .i64 0)).putO (.deferred none) K3 rfl).1
          exact ⟨.int .i64 0, by simp [results, Try.f64, go_sem, X1], ⟨_, rfl, HM.out⟩, (BW.out.setCell (p := ⟨w.heap.size + 1, 0, none⟩) (by simp) _).trans (belowK_b (w := w) (Nat.le_refl _) _ D _ _ (by have := B6.out.size; omega) K3 rfl rfl)⟩
      | true =>
        have HJ : Hid (∃ j, j < n ∧ (F j).p = tp) := HY.out.1 rfl
        have HF1 : Hid (∀ (p : ByteArray) (d : Bool) (t : ByteArray) (w : World), (Instr.field 33 (.agg #[.string p, .bool d, .string t]) 1).run Try.prog w = .ok (.bool d) w) := fieldFi1
        clear HY
        gi_wp2_with fail
        refine ⟨trivial, (FD.out fr _ HZ.out.1 B3.out).mono ?_⟩
        rintro e v4 ⟨⟨y1, rfl, hy1⟩, hb⟩
        have B4 : Hid (Below w.heap.size w v4) := B3.out.trans (hb.mono B3.out.size)
        have P4 : Hid (Bx1 v4 w.heap.size (.string tp)) := P3.out.below hb
        have R4 : Hid (Bx1 v4 (w.heap.size + 1) (.int .i64 0)) := R3.out.below hb
        have S4 : Hid (w.heap.size + 2 ≤ v4.heap.size) := by have := hb.size; have := S3.out; show _ ≤ _; omega
        have HY1 : Hid (y1 = F k) := by
          show y1 = F k
          rcases hy1 with ⟨j, hj, e, rfl⟩ | ⟨hno, _⟩
          · rw [HKK.out.2.2.2.1.uniq hj HKK.out.1 (e.trans HKK.out.2.1.symm)]
          · exact absurd HKK.out.2.1 (hno k HKK.out.1)
        have ff1 := HF1.out y1.p y1.d y1.t
        clear hy1 hb B3 P3 R3 S3
        obtain ⟨q1, d1, t1⟩ := y1
        dsimp only at *
        cases d1 with
        | true =>
          have HM : Hid (MfIs n F fr tp k 9) := by
            obtain ⟨j, hj, e⟩ := HJ.out
            exact .inr ⟨HN1.out, .inr ⟨HD.out, .inl ⟨⟨j, hj, e, .inr (by rw [← HY1.out])⟩, rfl⟩⟩⟩
          have r0 := R4.out.1
          have r1 := R4.out.2
          clear HY1 HJ FD HF1
          gi_wp2_with fail
          refine ⟨trivial, ?_⟩
          gi_wp2
          have X1 := (R4.out.set (.int .i64 9)).1
          exact ⟨.int .i64 9, by simp [results, Try.f64, go_sem, X1], ⟨_, rfl, HM.out⟩, B4.out.setCell (p := ⟨w.heap.size + 1, 0, none⟩) (by simp) _⟩
        | false =>
          have HDK : Hid ((F k).d = false) := by show _ = _; rw [← HY1.out]
          have pcl := P4.out.1
          clear HY1
          gi_wp2_with fail
          refine ⟨trivial, (FD.out tp _ HZ.out.2.1 B4.out).mono ?_⟩
          rintro e v5 ⟨⟨y2, rfl, hy2⟩, hb⟩
          have BV : Hid (Below w.heap.size w v5) := B4.out.trans (hb.mono B4.out.size)
          have PV : Hid (Bx1 v5 w.heap.size (.string tp)) := P4.out.below hb
          have RV : Hid (Bx1 v5 (w.heap.size + 1) (.int .i64 0)) := R4.out.below hb
          have SV : Hid (w.heap.size + 2 ≤ v5.heap.size) := by have := hb.size; have := S4.out; show _ ≤ _; omega
          have HY2 : Hid (∃ j, j < n ∧ (F j).p = tp ∧ y2 = F j) := by
            rcases hy2 with h | ⟨hno, _⟩
            · exact h
            · obtain ⟨j, hj, e⟩ := HJ.out
              exact absurd e (hno j hj)
          have ff2 := HF1.out y2.p y2.d y2.t
          clear hy2 hb B4 P4 R4 S4 FD HF1 HJ
          obtain ⟨q2, d2, t2⟩ := y2
          dsimp only at *
          cases d2 with
          | true =>
            have HM : Hid (MfIs n F fr tp k 9) := by
              obtain ⟨j, hj, e, ey⟩ := HY2.out
              exact .inr ⟨HN1.out, .inr ⟨HD.out, .inl ⟨⟨j, hj, e, .inl (by rw [← ey])⟩, rfl⟩⟩⟩
            have r0 := RV.out.1
            have r1 := RV.out.2
            clear HY2 HDK
            gi_wp2
            have X1 := (RV.out.set (.int .i64 9)).1
            exact ⟨.int .i64 9, by simp [results, Try.f64, go_sem, X1], ⟨_, rfl, HM.out⟩, BV.out.setCell (p := ⟨w.heap.size + 1, 0, none⟩) (by simp) _⟩
          | false =>
            have HNT : Hid (¬ ∃ j, j < n ∧ (F j).p = tp ∧ ((F j).d = true ∨ (F k).d = true)) := fun ⟨j, hj, e, hd⟩ => by
              obtain ⟨j2, hj2, e2, ey⟩ := HY2.out
              obtain rfl := HKK.out.2.2.2.1.uniq hj hj2 (e.trans e2.symm)
              rcases hd with q | q
              · rw [← ey] at q; cases q
              · rw [HDK.out] at q; cases q
            clear HY2 HDK
            gi_wp2_with fail
            refine ⟨trivial, (BL.out _).mono ?_⟩
            rintro e v6 ⟨rfl, hv6⟩
            have hb6 : Below v5.heap.size v5 v6 := by rw [hv6]; exact ((Below.refl _ _).alloc (Nat.le_refl _) _).alloc (by simp) _
            have L6 : Bx1 v6 v5.heap.size (.slice a n c) := by rw [hv6]; exact (Bx1.new _ _ _).alloc _
            have M6 : Bx1 v6 (v5.heap.size + 1) (.string fr) := by rw [hv6]; have := Bx1.new (v5.alloc (.cells #[.slice a n c] 26)) (.string fr) 9; rw [World.size_alloc] at this; exact this
            have s6 : v6.heap.size = v5.heap.size + 2 := by rw [hv6]; simp
            have B6 : Hid (Below w.heap.size w v6) := BV.out.trans (hb6.mono BV.out.size)
            have P6 : Hid (Bx1 v6 w.heap.size (.string tp)) := PV.out.below hb6
            have R6 : Hid (Bx1 v6 (w.heap.size + 1) (.int .i64 0)) := RV.out.below hb6
            have HQ : Hid (∀ g, (g = v5.heap.size ∨ g = v5.heap.size + 1 ∨ g < w.heap.size) → g < v6.heap.size ∧ g ≠ w.heap.size + 1) := fun g hg => by have h1 := SV.out; have h2 := s6; rcases hg with rfl | rfl | hg <;> omega
            clear s6
            have SQ := below_stopsN (fun g => g = v5.heap.size ∨ g = v5.heap.size + 1 ∨ g < w.heap.size) (v5.heap.size + 1) v5.heap.size a n c F fr v6 (3 - 1) M6.1 L6.1 (H.out.below B6.out) (.inr (.inl rfl)) (.inl rfl) (fun hn0 q e => by
                obtain ⟨b', off', e', hc⟩ := H.out 0 hn0
                have hlt := strBlock (hc 0 (by omega))
                rw [e'] at e
                cases e
                exact .inr (.inr hlt)) (by omega) HZ.out.1 (fun g hg => (HQ.out g hg).1)
            clear hb6 L6 M6 hv6 BV PV RV BL pcl
            gi_wp2_with fail
            refine wpIn_rangeFunc_ownF rfl (by omega) (gf := 93) (lb := #[.pointer (some ⟨v5.heap.size + 1, 0, none⟩), .pointer (some ⟨v5.heap.size, 0, none⟩)]) rfl trivial (enters_of Try.func93 (by kernel_rfl) rfl)
              SQ KpQ.tr (fun W l o o' hl hh _ _ => KpQ.put (w := v6) (fun g hg => (HQ.out g hg).1) W l o o' hl hh) (Below.refl _ _) (fun _ => rfl)
              (fun (pre : List {i : Nat // i < n}) W => AllM F fr tp pre ∧ Below v6.heap.size v6 W)
              (fun cc (pre : List {i : Nat // i < n}) W => ((cc = .ret ∧ SomeM F fr tp pre) ∧ Bx1 W (w.heap.size + 1) (.int .i64 16)) ∧ Below w.heap.size w W)
              (OwnFrom.and (ownFrom_pure _ (fun (pre : List {i : Nat // i < n}) => AllM F fr tp pre)) (ownFrom_below (Nat.le_refl _) (Nat.le_refl _)))
              (fun cc => OwnFrom.and (OwnFrom.and (ownFrom_pure _ (fun (pre : List {i : Nat // i < n}) => cc = .ret ∧ SomeM F fr tp pre)) (Own.from (bx1_own _ _) _)) (ownFrom_below (Nat.le_refl _) B6.out.size))
              ⟨(fun x hx => by cases hx), Below.refl _ _⟩
              (fun x => { tmps := #[.slice a n c, .string fr, .string tp, undef, undef, .pointer (some ⟨w.heap.size, 0, none⟩), .pointer (some ⟨w.heap.size + 1, 0, none⟩), .int .i64 0, .string (rsM F fr x.1), .string tp, .string fr, .string (fr ++ ⟨#[47]⟩), .bool false, .slice a n c, .string tp, .string (par tp), .int .i64 0, .int .i64 0, .bool false, undef, .slice a n c, .string tp, .bool true, .bool true, .slice a n c, .string fr, .agg #[.string q1, .bool false, .string t1], .bool false, .bool false, .slice a n c, .string tp, .agg #[.string q2, .bool false, .string t2], .bool false, .bool false, .bool false, .slice a n c, .string fr, .func (.func 93) #[] #[.pointer (some ⟨v5.heap.size + 1, 0, none⟩), .pointer (some ⟨v5.heap.size, 0, none⟩)], .string (rsM F fr x.1), .agg #[.string (F x.1).p, .bool (F x.1).d, .string (F x.1).t], undef, undef, undef, undef, undef, undef, undef], defers := [] }) ?assign ?body ?done ?stop
            case assign =>
              intro l x W K hK
              simp only [encN, encB]
              have HR : Hid ((F x.1).p.extract (aheadT fr).size (F x.1).p.size = rsM F fr x.1) := rsM_eq HZ.out.2.2
              rw [HR.out]
              gi_wp2
              simpa using hK
            case body =>
              rintro l pre x W ⟨hpre, hB⟩ _
              have xz : (F x.1).p.size ≤ 40 := HKK.out.2.2.2.2 x.1 x.2
              have rz : (rsM F fr x.1).size = (F x.1).p.size - (fr.size + 1) := rsM_size _ _ _
              have hz := HZ.out
              have p1 := (P6.out.below hB).1
              have r0 := (R6.out.below hB).1
              have r1 := (R6.out.below hB).2
              have RW : Hid (Bx1 W (w.heap.size + 1) (.int .i64 0)) := R6.out.below hB
              have BW : Hid (Below w.heap.size w W) := B6.out.trans (hB.mono B6.out.size)
              have HPR : Hid (AllM F fr tp pre) := hpre
              have HBv : Hid (Below v6.heap.size v6 W) := hB
              have HRZ : Hid ((rsM F fr x.1).size = (F x.1).p.size - (fr.size + 1)) := rz
              clear hpre hB SQ
              dsimp only
              generalize rsM F fr x.1 = R at *
              have rl : R.size ≤ 40 := by omega
              have tl := hz.2.1
              clear hz rz
              by_cases hlong : 40 < tp.size + 1 + R.size
              · have g1 : (40 : Int) < (tp.size : Int) + 1 + (R.size : Int) := by omega
                have HL : Hid (40 < tp.size + 1 + ((F x.1).p.size - (fr.size + 1))) := by have := HRZ.out; show _ < _; omega
                clear HRZ
                gi_wp2
                exact ⟨KeepsOthers.setCell _ _ _, ⟨⟨rfl, x, by simp, HL.out⟩, RW.out.set _⟩, BW.out.setCell (p := ⟨w.heap.size + 1, 0, none⟩) (by simp) _⟩
              · have g1 : ¬ (40 : Int) < (tp.size : Int) + 1 + (R.size : Int) := by omega
                have HL : Hid (tp.size + 1 + ((F x.1).p.size - (fr.size + 1)) ≤ 40) := by have := HRZ.out; show _ ≤ _; omega
                clear HRZ
                gi_wp2
                refine ⟨KeepsOthers.refl _, KpQ.refl _ _, fun y hy => ?_, HBv.out⟩
                rcases List.mem_append.1 hy with q | q
                · exact HPR.out y q
                · obtain rfl := List.mem_singleton.1 q
                  exact HL.out
            case stop =>
              rintro D cc pre W hD hpre ⟨⟨⟨rfl, x, hx, hlong⟩, q1⟩, hB⟩ hK
              have HM : Hid (MfIs n F fr tp k 16) := by
                refine .inr ⟨HN1.out, .inr ⟨HD.out, .inr ⟨HNT.out, .inl ⟨?_, rfl⟩⟩⟩⟩
                have hm := (blwN_mem (k := n)).1 (hpre.subset hx)
                have hp := hm.2
                rw [ahead_sl HZ.out.2.2] at hp
                have h1 := hp.1
                rw [size_slM] at h1
                exact ⟨x.1, x.2, hp, by omega⟩
              clear hx hlong hpre SQ
              gi_wp2
              refine ⟨by simp, .inl ⟨_, _, rfl, run_takeDeferred hK, ?_⟩⟩
              have X1 := (q1.putO (.deferred none) hK rfl).1
              exact ⟨.int .i64 16, by simp [results, Try.f64, go_sem, X1], ⟨_, rfl, HM.out⟩, hB.trans (belowK_b (w := w) (Nat.le_refl _) W D _ _ (by have := B6.out.size; omega) hK rfl rfl)⟩
            case done =>
              rintro D xs W hD hxs ⟨hall, hB⟩ hK
              have HM : Hid (MfIs n F fr tp k 0) := by
                refine .inr ⟨HN1.out, .inr ⟨HD.out, .inr ⟨HNT.out, .inr ⟨?_, rfl⟩⟩⟩⟩
                rintro ⟨i, hi, hp, hl⟩
                subst hxs
                have h1 := hp.1
                rw [size_slM] at h1
                have := hall ⟨i, hi⟩ ((blwN_mem (k := n)).2 ⟨hi, by rw [ahead_sl HZ.out.2.2]; exact hp⟩)
                simp only at this
                omega
              have RW : Hid (Bx1 W (w.heap.size + 1) (.int .i64 0)) := R6.out.below hB
              have BW : Hid (Below w.heap.size w W) := B6.out.trans (hB.mono B6.out.size)
              have r0 := RW.out.1
              have r1 := RW.out.2
              have HK0 : Hid (W.heap[D]? = some (.deferred (some []))) := hK
              clear hall hxs hB hK SQ
              gi_wp2
              have K3 := (KeepsOthers.setCell W ⟨w.heap.size + 1, 0, none⟩ (.int .i64 0)).same D _ HK0.out rfl
              refine ⟨by simp, .inl ⟨_, _, rfl, run_takeDeferred K3, ?_⟩⟩
              have X1 := ((RW.out.set (.int .i64 0)).putO (.deferred none) K3 rfl).1
              exact ⟨.int .i64 0, by simp [results, Try.f64, go_sem, X1], ⟨_, rfl, HM.out⟩, (BW.out.setCell (p := ⟨w.heap.size + 1, 0, none⟩) (by simp) _).trans (belowK_b (w := w) (Nat.le_refl _) _ D _ _ (by have := B6.out.size; omega) K3 rfl rfl)⟩
--@@END
    · have g : (x != 0) = true := by simpa using h0
      have HM : Hid (MfIs n F fr tp k x) := .inr ⟨HN1.out, .inl ⟨HD.out, h0⟩⟩
      have r0 := R2.out.1
      have r1 := R2.out.2
      clear HD h0
      gi_wp2
      have X1 := (R2.out.set (.int .i64 x)).1
      exact ⟨.int .i64 x, by simp [results, Try.f64, go_sem, X1], ⟨_, rfl, HM.out⟩, B2.out.setCell (p := ⟨w.heap.size + 1, 0, none⟩) (by simp) _⟩
end Go.Proofs.Ytglfhajfbdjjcaa
