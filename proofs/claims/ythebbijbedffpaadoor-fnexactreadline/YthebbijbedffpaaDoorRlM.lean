/-
  The reader of lines: word, hasWord, text, number.
-/
import Derived.Test.YthebbijbedffpaaDoorRlT
import Derived.Test.YthebbijbedffpaaDoorEls
namespace Go.Proofs.YthebbijbedffpaaDoor
open Go.ChangeShapes Go.WideShapes Go.ChangeAt Go.RowKit
set_option linter.unusedVariables false
/-- A reader of the line s, that looks from o on. -/
def LnR (w : World) (q : Nat) (s : ByteArray) (o : Nat) (wr : Bool) : Prop := Box2 w q 37 (.string (s.extract o s.size)) (.bool wr)
/-- Where it looks behind a word. -/
def wN (s : ByteArray) (o : Nat) : Nat := we s (nb s o) + 1
def wW (s : ByteArray) (o : Nat) : ByteArray := s.extract (nb s o) (we s (nb s o))
def hasW (s : ByteArray) (o : Nat) : Bool := decide (nb s o < s.size)
theorem wW_out {s : ByteArray} {o : Nat} (h : hasW s o = false) : wW s o = ⟨#[]⟩ := ext_out (.inl (by have := of_decide_eq_false h; omega))
theorem wW_in {s : ByteArray} {o : Nat} (h : hasW s o = true) : wW s o ≠ ⟨#[]⟩ := fun e => by
  have h := of_decide_eq_true h
  have hn := (nb_spec s o).2.2.2 h
  obtain ⟨a1, a2, a3, a4⟩ := we_spec s (nb s o)
  have a2' := a2 (by omega)
  have hgt : nb s o < we s (nb s o) := by
    rcases Nat.eq_or_lt_of_le a1 with z | z
    · exact absurd (by rw [← z] at a4; exact a4 h) hn
    · exact z
  have := congrArg ByteArray.size e
  rw [wW, extract_size _ _ _ a2'] at this
  have h0 : (⟨#[]⟩ : ByteArray).size = 0 := rfl
  omega
theorem emptyEq (t : ByteArray) : (t.toList == []) = decide (t = ⟨#[]⟩) := by
  by_cases h : t = ⟨#[]⟩
  · subst h; rw [decide_eq_true rfl, ByteArray.toList_eq]; rfl
  · rw [decide_eq_false h, beq_eq_false_iff_ne]
    intro e
    rw [ByteArray.toList_eq] at e
    exact h (ByteArray.ext (Array.toList_inj.1 e))
theorem wordEmpty (s : ByteArray) (o : Nat) : ((wW s o).toList == []) = !hasW s o := by
  rw [emptyEq]
  cases h : hasW s o with
  | true => rw [decide_eq_false (wW_in h)]; rfl
  | false => rw [decide_eq_true (wW_out h)]; rfl
theorem textEmpty (s : ByteArray) (o : Nat) : ((tX s o).toList == []) = !hasW s o := by
  rw [emptyEq]
  cases h : hasW s o with
  | true => rw [decide_eq_false (tX_in (of_decide_eq_true h))]; rfl
  | false => rw [decide_eq_true (tX_out (by have := of_decide_eq_false h; omega))]; rfl
set_option maxRecDepth 100000 in
set_option maxHeartbeats 2000000 in
theorem word_any (s : ByteArray) (hs : s.size ≤ 65536) (o : Nat) (wr : Bool) (q : Nat) (w : World) (h : LnR w q s o wr) :
    Calls Tryd.prog 25 #[.pointer (some ⟨q, 0, none⟩)] w fun e w' => e = .returned (.string (wW s o)) ∧ LnR w' q s (wN s o) (wr || !hasW s o) ∧ OnlyB q w w' := by
  have X : Hid (Box2 w q 37 (.string (s.extract o s.size)) (.bool wr)) := h
  have x0 := X.out.c0
  have x1 := X.out.c1
  have f0 := X.out.fr 0
  have f1 := X.out.fr 1
  have we0 := wordEmpty s o
  clear h
  go_enter Tryd.func25, Tryd.ntmps25
  go_wp2_with (go_at_call 36; refine (trimLeft_at s o _).mono ?_; rintro e w' ⟨rfl, hw⟩; rw [hw]; clear hw w')
  refine (cut_at s (by omega) (nb s o) _).mono ?_
  rintro e w1 ⟨⟨b, rfl⟩, hh, hb⟩
  have X1 : Hid (Box2 w1 q 37 (.string (s.extract o s.size)) (.bool wr)) := X.out.ofBlock (by rw [hh])
  have B1 : Hid (OnlyB q w w1) := (OnlyB.refl q w).below hb
  clear x0 x1 f0 f1 hh hb
  have y0 := X1.out.c0
  have y1 := X1.out.c1
  have g0 := X1.out.fr 0
  have g1 := X1.out.fr 1
  have XX : Hid (∀ v, Box2 ((w1.setCell ⟨q, 0, none⟩ (.string (s.extract (we s (nb s o) + 1) s.size))).setCell ⟨q, 1, none⟩ (.bool v)) q 37 (.string (s.extract (we s (nb s o) + 1) s.size)) (.bool v)) := fun v => (X1.out.set0 _).set1 _
  have O : Hid (∀ v, OnlyB q w ((w1.setCell ⟨q, 0, none⟩ (.string (s.extract (we s (nb s o) + 1) s.size))).setCell ⟨q, 1, none⟩ (.bool v))) := fun v => (B1.out.setCell 0 _).setCell 1 _
  change ((s.extract (nb s o) (we s (nb s o))).toList == []) = _ at we0
  cases wr with
  | true =>
    go_wp2
    go_ret
    exact ⟨rfl, XX.out true, O.out true⟩
  | false =>
    go_wp2
    go_ret
    exact ⟨rfl, XX.out _, O.out _⟩
set_option maxRecDepth 100000 in
set_option maxHeartbeats 2000000 in
theorem hasWord_any (s : ByteArray) (hs : s.size ≤ 65536) (o : Nat) (wr : Bool) (q : Nat) (w : World) (h : LnR w q s o wr) :
    Calls Tryd.prog 26 #[.pointer (some ⟨q, 0, none⟩)] w fun e w' => e = .returned (.bool (hasW s o)) ∧ w'.heap = w.heap ∧ Below w.heap.size w w' := by
  have X : Hid (Box2 w q 37 (.string (s.extract o s.size)) (.bool wr)) := h
  have x0 := X.out.c0
  have te0 := textEmpty s o
  clear h
  go_enter Tryd.func26, Tryd.ntmps26
  go_wp2_with fail
  refine (trim_any s (by omega) o _).mono ?_
  rintro e w1 ⟨rfl, hh, hb⟩
  have HH : Hid (w1.heap = w.heap) := hh
  have HB : Hid (Below w.heap.size w w1) := hb
  clear hh hb
  cases h : hasW s o with
  | true =>
    rw [h] at te0
    go_wp2
    go_ret
    exact ⟨by rw [h]; rfl, HH.out, HB.out⟩
  | false =>
    rw [h] at te0
    go_wp2
    go_ret
    exact ⟨by rw [h]; rfl, HH.out, HB.out⟩
set_option maxRecDepth 100000 in
set_option maxHeartbeats 2000000 in
theorem text_any (s : ByteArray) (hs : s.size ≤ 65536) (o : Nat) (wr : Bool) (q : Nat) (w : World) (h : LnR w q s o wr) :
    Calls Tryd.prog 34 #[.pointer (some ⟨q, 0, none⟩)] w fun e w' => e = .returned (.string (tX s o)) ∧ LnR w' q s s.size wr ∧ OnlyB q w w' := by
  have X : Hid (Box2 w q 37 (.string (s.extract o s.size)) (.bool wr)) := h
  have x0 := X.out.c0
  clear h
  go_enter Tryd.func34, Tryd.ntmps34
  go_wp2_with fail
  refine (trim_any s (by omega) o _).mono ?_
  rintro e w1 ⟨rfl, hh, hb⟩
  have X1 : Hid (Box2 w1 q 37 (.string (s.extract o s.size)) (.bool wr)) := X.out.ofBlock (by rw [hh])
  have B1 : Hid (OnlyB q w w1) := (OnlyB.refl q w).below hb
  clear x0 hh hb
  have y0 := X1.out.c0
  have g0 := X1.out.fr 0
  have e0 : s.extract s.size s.size = ⟨#[]⟩ := ext_out (.inl (Nat.le_refl _))
  have XX : Hid (LnR (w1.setCell ⟨q, 0, none⟩ (.string ⟨#[]⟩)) q s s.size wr) := by unfold LnR; rw [e0]; exact X1.out.set0 _
  have O : Hid (OnlyB q w (w1.setCell ⟨q, 0, none⟩ (.string ⟨#[]⟩))) := B1.out.setCell 0 _
  go_wp2
  go_ret
  exact ⟨rfl, XX.out, O.out⟩
theorem num_nil : numL [] = none := by
  unfold numL
  rw [if_neg (by simp), if_neg (fun h => h.1.2.1 rfl)]
theorem itoaNe (n : Int) (t : ByteArray) : ((⟨(Lib.itoa n).toArray⟩ : ByteArray).toList == t.toList) = decide (Lib.itoa n = t.data.toList) := by
  rw [ByteArray.toList_eq, ByteArray.toList_eq, Bool.eq_iff_iff]
  simp
theorem sizeNum (t : ByteArray) : (⟨(Lib.trimPrefix t.data.toList [45]).toArray⟩ : ByteArray).size = (Lib.trimPrefix t.data.toList [45]).length := Lib.size_mk _
set_option maxRecDepth 100000 in
set_option maxHeartbeats 4000000 in
theorem number_any (s : ByteArray) (hs : s.size ≤ 65536) (o : Nat) (wr : Bool) (q B : Nat) (hB : B ≤ q) (w : World) (h : LnR w q s o wr) (hE : EnvN B w) :
    Calls Tryd.prog 33 #[.pointer (some ⟨q, 0, none⟩)] w fun e w' => ∃ n : Int, e = .returned (.int .i64 n) ∧ (∀ v, numL (wW s o).data.toList = some v → n = v) ∧ LnR w' q s (wN s o) (wr || (numL (wW s o).data.toList).isNone) ∧ OnlyB q w w' := by
  have HQ : Hid (q < w.heap.size) := Box2.lt h
  have HE : Hid (EnvN B w) := hE
  have wsz : (wW s o).size ≤ 65536 := by unfold wW; rw [ByteArray.size_extract]; omega
  go_enter Tryd.func33, Tryd.ntmps33
  go_wp2_with fail
  refine (word_any s hs o wr q _ h).mono ?_
  rintro e w1 ⟨rfl, h1, o1⟩
  clear h hE
  have E1 : Hid (EnvN B w1) := HE.out.on (o1.toBelow hB (Nat.le_of_lt (Nat.lt_of_le_of_lt hB HQ.out)))
  have S1 : Hid (w.heap.size ≤ w1.heap.size) := o1.size
  go_wp2_with fail
  refine (atoi_any (wW s o) (by omega) B _ (by have := HQ.out; have := S1.out; omega) E1.out).mono ?_
  rintro e w2 ⟨⟨n, n0, n1, hn⟩, b2⟩
  have E2 : Hid (EnvN B w2) := E1.out.on (b2.mono (by have := HQ.out; have := S1.out; omega))
  have X2 : Hid (LnR w2 q s (wN s o) (wr || !hasW s o)) := Box2.below h1 b2
  have O2 : Hid (OnlyB q w w2) := o1.below b2
  clear h1 o1 b2
  have HW : Hid ((wr || !hasW s o) = true → (wr || (numL (wW s o).data.toList).isNone) = true) := fun h => by
    cases hw : hasW s o with
    | true => rw [hw] at h; cases wr with
      | true => rfl
      | false => cases h
    | false => rw [wW_out hw, show (⟨#[]⟩ : ByteArray).data.toList = [] from rfl, num_nil]; cases wr <;> rfl
  have HF : Hid ((wr || !hasW s o) = false → wr = false) := fun h => by
    cases wr with
    | true => cases h
    | false => rfl
  have dz := sizeNum (wW s o)
  have DZ : Hid (Lib.trimPrefix (wW s o).data.toList [45] = Lib.trimPrefix (wW s o).data.toList [45]) := rfl
  rcases hn with ⟨hk, rfl⟩ | ⟨hk, t, v, rfl⟩
  · have HV : Hid (∀ v, numL (wW s o).data.toList = some v → n = v) := fun v hv => by
      have := (num_atoi hv).1
      rw [hk] at this
      injection this
    have HK : Hid (∀ v, numL (wW s o).data.toList = some v → Lib.itoa n = (wW s o).data.toList ∧ (Lib.trimPrefix (wW s o).data.toList [45]).length ≤ 18) := fun v hv => by
      obtain ⟨c1, c2, c3⟩ := num_atoi hv
      rw [HV.out v hv]
      exact ⟨c2, c3⟩
    have HI : Hid (∀ w, EnvN B w → Calls Tryd.prog 42 #[.int .i64 n] w fun e w' => e = .returned (.string ⟨(Lib.itoa n).toArray⟩) ∧ Below w.heap.size w w') := fun w hE => itoa_any n n0 n1 B w hE
    have HC : Hid (Lib.itoa n = (wW s o).data.toList → (Lib.trimPrefix (wW s o).data.toList [45]).length ≤ 18 → numL (wW s o).data.toList = some n) := fun h1 h2 => atoi_num h1 h2
    have en := itoaNe n (wW s o)
    clear hk
    generalize hd : (⟨(Lib.trimPrefix (wW s o).data.toList [45]).toArray⟩ : ByteArray) = d at dz
    have HT : Hid (∀ w, Calls Tryd.prog 41 #[.string (wW s o), .string ⟨#[45]⟩] w fun e w' => e = .returned (.string d) ∧ w' = w) := fun w => by have := trimPre_any (wW s o) w; rwa [hd] at this
    clear hd
    generalize Lib.trimPrefix (wW s o).data.toList [45] = dl at *
    obtain ⟨nl, hnl0⟩ : ∃ nl, numL (wW s o).data.toList = nl := ⟨_, rfl⟩
    have HNL : Hid (numL (wW s o).data.toList = nl) := hnl0
    rw [hnl0] at HV HK HW HC
    clear hnl0
    generalize hit : (⟨(Lib.itoa n).toArray⟩ : ByteArray) = it at en HI
    clear hit
    cases hw : (wr || !hasW s o) with
    | true =>
      rw [hw] at X2
      have x1 := X2.out.c1
      have f1 := X2.out.fr 1
      go_wp2_with (go_at_call 41; refine (HT.out _).mono ?_; rintro e w' ⟨rfl, hw⟩; rw [hw]; clear hw w')
      go_ret
      refine ⟨n, rfl, by rw [HNL.out]; exact HV.out, ?_, O2.out.setCell 1 _⟩
      rw [HNL.out, HW.out hw]
      exact X2.out.set1 _
    | false =>
      rw [hw] at X2
      have x1 := X2.out.c1
      have f1 := X2.out.fr 1
      have hwr := HF.out hw
      subst hwr
      go_wp2_with (go_at_call 41; refine (HT.out _).mono ?_; rintro e w' ⟨rfl, hw⟩; rw [hw]; clear hw w')
      refine (HI.out _ E2.out).mono ?_
      rintro e w3 ⟨rfl, b3⟩
      have X3 : Hid (LnR w3 q s (wN s o) false) := Box2.below X2.out b3
      have O3 : Hid (OnlyB q w w3) := O2.out.below b3
      clear x1 f1 b3
      have x1 := X3.out.c1
      have f1 := X3.out.fr 1
      by_cases hi : Lib.itoa n = (wW s o).data.toList
      · rw [decide_eq_true hi] at en
        have hdl : (d.size : Int) = dl.length := by rw [dz]
        by_cases hz : dl.length ≤ 18
        · have hz' : ¬ (18 : Int) < dl.length := by omega
          have hnl := HC.out hi hz
          subst hnl
          go_wp2
          go_ret
          refine ⟨n, rfl, by rw [HNL.out]; exact HV.out, ?_, O3.out.setCell 1 _⟩
          rw [HNL.out]
          refine (show ∀ b, b = false → LnR (w3.setCell ⟨q, 1, none⟩ (.bool b)) q s (wN s o) (false || (some n).isNone) from fun b hb => by rw [hb]; exact X3.out.set1 _) _ ?_
          rw [decide_eq_false_iff_not]; omega
        · have hz' : (18 : Int) < dl.length := by omega
          have hnl : nl = none := by
            cases nl with
            | none => rfl
            | some v => exact absurd (HK.out v rfl).2 hz
          subst hnl
          go_wp2
          go_ret
          refine ⟨n, rfl, by rw [HNL.out]; exact HV.out, ?_, O3.out.setCell 1 _⟩
          rw [HNL.out]
          exact X3.out.set1 _
      · rw [decide_eq_false hi] at en
        have hnl : nl = none := by
          cases nl with
          | none => rfl
          | some v => exact absurd (HK.out v rfl).1 hi
        subst hnl
        go_wp2
        go_ret
        refine ⟨n, rfl, by rw [HNL.out]; exact HV.out, ?_, O3.out.setCell 1 _⟩
        rw [HNL.out]
        exact X3.out.set1 _
  · have hnl : numL (wW s o).data.toList = none := by
      cases h : numL (wW s o).data.toList with
      | none => rfl
      | some v => exact absurd (num_atoi h).1 (hk v)
    have HV : Hid (∀ v, numL (wW s o).data.toList = some v → n = v) := fun v hv => by rw [hnl] at hv; cases hv
    have HR : Hid ((wr || (numL (wW s o).data.toList).isNone) = true) := by show _ = _; rw [hnl]; cases wr <;> rfl
    clear hk hnl HW HF dz DZ
    cases hw : (wr || !hasW s o) with
    | true =>
      rw [hw] at X2
      have x1 := X2.out.c1
      have f1 := X2.out.fr 1
      go_wp2_with (go_at_call 41; refine (trimPre_any _ _).mono ?_; rintro e w' ⟨rfl, hw⟩; rw [hw]; clear hw w')
      go_ret
      refine ⟨n, rfl, HV.out, ?_, O2.out.setCell 1 _⟩
      rw [HR.out]
      exact X2.out.set1 _
    | false =>
      rw [hw] at X2
      have x1 := X2.out.c1
      have f1 := X2.out.fr 1
      go_wp2_with (go_at_call 41; refine (trimPre_any _ _).mono ?_; rintro e w' ⟨rfl, hw⟩; rw [hw]; clear hw w')
      go_ret
      refine ⟨n, rfl, HV.out, ?_, O2.out.setCell 1 _⟩
      rw [HR.out]
      exact X2.out.set1 _
end Go.Proofs.YthebbijbedffpaaDoor
