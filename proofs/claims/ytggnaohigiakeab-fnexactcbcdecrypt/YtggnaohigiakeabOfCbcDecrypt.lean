/-
  The exact law of CbcDecrypt, from contracts of the model's function and the program's that answer alike.
-/
import Derived.Test.YtggnaohigiakeabSlices
namespace Go.Proofs.Ytggnaohigiakeab
open Go.ChangeShapes Go.WideShapes Go.ChangeAt Go.RowKit
set_option maxRecDepth 100000 in
set_option maxHeartbeats 4000000 in
/-- Where both answer alike, whatever memory they are called in, the law holds. -/
theorem lawCbcDecrypt_of (key : ByteArray) (first : ByteArray) (a : Option Addr) (N C n : Nat) (f g : Nat → Nat) (code : Int) (hkey : key.size ≤ 1048576) (hfirst : first.size ≤ 1048576) (hN : N ≤ 1048576) (hn : n ≤ 1048576)
    (hsp : ∀ (b : Nat) (w : World), Code8 w (some ⟨b, 0, none⟩) N f → Calls Try.prog 12 #[.string key, .string first, .slice (some ⟨b, 0, none⟩) N N] w fun e w' => RetI w w' e n g code ∧ Below w.heap.size w w')
    (him : ∀ (b : Nat) (w : World), Code8 w (some ⟨b, 0, none⟩) N f → Calls Try.prog 13 #[.string key, .string first, .slice (some ⟨b, 0, none⟩) N N] w fun e w' => RetI w w' e n g code ∧ Below w.heap.size w w')
    (w : World) (h : Code8 w a N f) :
    Calls Try.prog 4 #[.string key, .string first, .slice a N C] w fun e w' => e = .returned (.bool true) ∧ Below w.heap.size w w' := by
  have SP : Hid (∀ (b : Nat) (w : World), Code8 w (some ⟨b, 0, none⟩) N f → Calls Try.prog 12 #[.string key, .string first, .slice (some ⟨b, 0, none⟩) N N] w fun e w' => RetI w w' e n g code ∧ Below w.heap.size w w') := hsp
  have IM : Hid (∀ (b : Nat) (w : World), Code8 w (some ⟨b, 0, none⟩) N f → Calls Try.prog 13 #[.string key, .string first, .slice (some ⟨b, 0, none⟩) N N] w fun e w' => RetI w w' e n g code ∧ Below w.heap.size w w') := him
  have hlt0 : ∀ x, 0 < N → a = some x → x.block < w.heap.size := h.lt
  have HLT : Hid (∀ x, 0 < N → a = some x → x.block < w.heap.size) := hlt0
  have HA : Hid (Code8 w a N f) := h
  have e1 : ¬ (1048576 : Int) < (N : Int) := by omega
  have ekey : ¬ (1048576 : Int) < (key.size : Int) := by omega
  have efirst : ¬ (1048576 : Int) < (first.size : Int) := by omega
  have hcc : (code != code) = false := by simp
  have hmm : (((n + 1 : Nat) : Int) != ((n + 1 : Nat) : Int)) = false := by simp
  have hmn : ¬ ((n + 1 : Nat) : Int) < 0 := by omega
  have hkn : ¬ ((N + 1 : Nat) : Int) < 0 := by omega
  clear hsp him h hlt0
  go_enter Try.func4, Try.ntmps4
  go_wp2_with fail
  refine (toByteS_any a N C f _ HA.out hN).mono ?_
  rintro e w1 ⟨rfl, ho1, hb1⟩
  have HO1 : Hid (Own8 w1 w.heap.size N f) := ho1
  have HB1 : Hid (Below w.heap.size w w1) := hb1
  clear ho1 hb1
  go_wp2_with fail
  refine (SP.out _ _ HO1.out.code).mono ?_
  rintro e w2 ⟨⟨aw, cw, rfl, hw⟩, hb2⟩
  have HW2 : Hid (Code8 w2 aw n g) := hw.code
  have HA2 : Hid (Code8 w2 a N f) := HA.out.below (HB1.out.trans (hb2.mono HB1.out.size))
  have HB2 : Hid (Below w.heap.size w w2) := HB1.out.trans (hb2.mono HB1.out.size)
  clear hw hb2 HO1 HB1 HA
  go_wp2_with fail
  refine (toByteS_any a N C f _ HA2.out hN).mono ?_
  rintro e w3 ⟨rfl, ho3, hb3⟩
  have HX3 : Hid (Own8 w3 w2.heap.size N f) := ho3
  have HW3 : Hid (Code8 w3 aw n g) := HW2.out.below hb3
  have HWL : Hid (∀ x, 0 < n → aw = some x → x.block < w2.heap.size) := HW2.out.lt
  have HA3 : Hid (Code8 w3 a N f) := HA2.out.below hb3
  have HB3 : Hid (Below w.heap.size w w3) := HB2.out.trans (hb3.mono HB2.out.size)
  have s23 := ho3.lt
  have s02 := HB2.out.size
  clear ho3 hb3 HW2 HA2 HB2
  generalize w2.heap.size = xb at *
  go_wp2_with fail
  refine (IM.out _ _ HX3.out.code).mono ?_
  rintro e w4 ⟨⟨ag, cg, rfl, hg⟩, hb4⟩
  have HG4 : Hid (OwnS w4 w3.heap.size ag n g) := hg
  have HX4 : Hid (Own8 w4 xb N f) := HX3.out.below hb4
  have HW4 : Hid (Code8 w4 aw n g) := HW3.out.below hb4
  have HA4 : Hid (Code8 w4 a N f) := HA3.out.below hb4
  have HB4 : Hid (Below w.heap.size w w4) := HB3.out.trans (hb4.mono HB3.out.size)
  have s34 := hb4.size
  clear hg hb4 HX3 HW3 HA3 HB3
  generalize w3.heap.size = gB at *
  go_wp2_with fail
  refine (eqByteS_yes ag aw n cg cw g _ HG4.out.code HW4.out hn).mono ?_
  rintro e w5 ⟨rfl, q5, rfl⟩
  have HG5 : Hid (OwnS (w4.drewN q5) gB ag n g) := HG4.out.drewN q5
  have HX5 : Hid (Own8 (w4.drewN q5) xb N f) := HX4.out.drewN q5
  have HW5 : Hid (Code8 (w4.drewN q5) aw n g) := HW4.out.drewN q5
  have HA5 : Hid (Code8 (w4.drewN q5) a N f) := HA4.out.drewN q5
  have HB5 : Hid (Below w.heap.size w (w4.drewN q5)) := below_drewN8 HB4.out q5
  have s45 : gB ≤ (w4.drewN q5).heap.size := s34
  clear HG4 HX4 HW4 HA4 HB4 s34
  generalize w4.drewN q5 = w5 at *
  go_wp2_with fail
  refine (toByteS_any a N C f _ HA5.out hN).mono ?_
  rintro e w6 ⟨rfl, ho6, hb6⟩
  have HY6 : Hid (Own8 w6 w5.heap.size N f) := ho6
  have HG6 : Hid (OwnS w6 gB ag n g) := HG5.out.below hb6
  have HX6 : Hid (Own8 w6 xb N f) := HX5.out.below hb6
  have HW6 : Hid (Code8 w6 aw n g) := HW5.out.below hb6
  have HA6 : Hid (Code8 w6 a N f) := HA5.out.below hb6
  have HB6 : Hid (Below w.heap.size w w6) := HB5.out.trans (hb6.mono HB5.out.size)
  have s56 := hb6.size
  clear ho6 hb6 HG5 HX5 HW5 HA5 HB5
  generalize w5.heap.size = yb at *
  go_wp2_with fail
  refine (eqByteS_yes _ _ N N N f _ HX6.out.code HY6.out.code hN).mono ?_
  rintro e w7 ⟨rfl, q7, rfl⟩
  have HG7 : Hid (OwnS (w6.drewN q7) gB ag n g) := HG6.out.drewN q7
  have HX7 : Hid (Own8 (w6.drewN q7) xb N f) := HX6.out.drewN q7
  have HW7 : Hid (Code8 (w6.drewN q7) aw n g) := HW6.out.drewN q7
  have HA7 : Hid (Code8 (w6.drewN q7) a N f) := HA6.out.drewN q7
  have HB7 : Hid (Below w.heap.size w (w6.drewN q7)) := below_drewN8 HB6.out q7
  have s67 : gB ≤ (w6.drewN q7).heap.size := Nat.le_trans s45 s56
  clear HG6 HX6 HW6 HA6 HB6 HY6 s56 s45
  generalize w6.drewN q7 = w7 at *
  go_wp2_with fail
  refine (markOwn xb N N f _ HX7.out hN).mono ?_
  rintro e w8 ⟨rfl, -, ho8⟩
  have BX : Below xb w7 w8 := ho8.toBelow (Nat.le_refl _) (by omega)
  have HG8 : Hid (OwnS w8 gB ag n g) := HG7.out.onlyB ho8 s23
  have HW8 : Hid (Code8 w8 aw n g) := HW7.out.belowO BX HWL.out
  have HA8 : Hid (Code8 w8 a N f) := HA7.out.belowO BX (fun x h0 hx => Nat.lt_of_lt_of_le (HLT.out x h0 hx) s02)
  have HB8 : Hid (Below w.heap.size w w8) := HB7.out.trans (BX.mono s02)
  have s78 : gB ≤ w8.heap.size := Nat.le_trans s67 ho8.size
  clear ho8 BX HG7 HX7 HW7 HA7 HB7 s67
  go_wp2_with fail
  refine (eqByteS_yes ag aw n cg cw g _ HG8.out.code HW8.out hn).mono ?_
  rintro e w9 ⟨rfl, q9, rfl⟩
  have HG9 : Hid (OwnS (w8.drewN q9) gB ag n g) := HG8.out.drewN q9
  have HW9 : Hid (Code8 (w8.drewN q9) aw n g) := HW8.out.drewN q9
  have HA9 : Hid (Code8 (w8.drewN q9) a N f) := HA8.out.drewN q9
  have HB9 : Hid (Below w.heap.size w (w8.drewN q9)) := below_drewN8 HB8.out q9
  have s89 : gB ≤ (w8.drewN q9).heap.size := s78
  clear HG8 HW8 HA8 HB8 s78
  generalize w8.drewN q9 = w9 at *
  go_wp2_with fail
  refine (markS ag gB n cg g _ HG9.out s89 hn).mono ?_
  rintro e wa ⟨rfl, hga, hba⟩
  have HGa : Hid (OwnS wa gB ag n mk8) := hga
  have HWa : Hid (Code8 wa aw n g) := HW9.out.belowO hba (fun x h0 hx => Nat.lt_trans (HWL.out x h0 hx) s23)
  have HAa : Hid (Code8 wa a N f) := HA9.out.belowO hba (fun x h0 hx => Nat.lt_of_lt_of_le (HLT.out x h0 hx) (by omega))
  have HBa : Hid (Below w.heap.size w wa) := HB9.out.trans (hba.mono (by omega))
  clear hga hba HG9 HW9 HA9 HB9 s89
  go_wp2_with fail
  refine (heldByteS_yes ag n cg _ HGa.out.code hn).mono ?_
  rintro e wb ⟨rfl, qb, rfl⟩
  have HGb : Hid (OwnS (wa.drewN qb) gB ag n mk8) := HGa.out.drewN qb
  have HWb : Hid (Code8 (wa.drewN qb) aw n g) := HWa.out.drewN qb
  have HAb : Hid (Code8 (wa.drewN qb) a N f) := HAa.out.drewN qb
  have HBb : Hid (Below w.heap.size w (wa.drewN qb)) := below_drewN8 HBa.out qb
  clear HGa HWa HAa HBa
  generalize wa.drewN qb = wb at *
  go_wp2_with fail
  refine (toByteS_any a N C f _ HAb.out hN).mono ?_
  rintro e wc ⟨rfl, hoc, hbc⟩
  have HZc : Hid (Own8 wc wb.heap.size N f) := hoc
  have HGc : Hid (OwnS wc gB ag n mk8) := HGb.out.below hbc
  have HWc : Hid (Code8 wc aw n g) := HWb.out.below hbc
  have HBc : Hid (Below w.heap.size w wc) := HBb.out.trans (hbc.mono HBb.out.size)
  clear hoc hbc HGb HWb HAb HBb
  generalize wb.heap.size = zb at *
  go_wp2_with fail
  refine (IM.out _ _ HZc.out.code).mono ?_
  rintro e wd ⟨⟨ah, ch, rfl, hh⟩, hbd⟩
  have HHd : Hid (Code8 wd ah n g) := hh.code
  have HGd : Hid (OwnS wd gB ag n mk8) := HGc.out.below hbd
  have HWd : Hid (Code8 wd aw n g) := HWc.out.below hbd
  have HBd : Hid (Below w.heap.size w wd) := HBc.out.trans (hbd.mono HBc.out.size)
  clear hh hbd HZc HGc HWc HBc
  go_wp2_with fail
  refine (eqByteS_yes ah aw n ch cw g _ HHd.out HWd.out hn).mono ?_
  rintro e we ⟨rfl, qe, rfl⟩
  have HGe : Hid (OwnS (wd.drewN qe) gB ag n mk8) := HGd.out.drewN qe
  have HBe : Hid (Below w.heap.size w (wd.drewN qe)) := below_drewN8 HBd.out qe
  clear HHd HGd HWd HBd
  generalize wd.drewN qe = we at *
  go_wp2_with fail
  refine (heldByteS_yes ag n cg _ HGe.out.code hn).mono ?_
  rintro e wf ⟨rfl, qf, rfl⟩
  have HBf : Hid (Below w.heap.size w (we.drewN qf)) := below_drewN8 HBe.out qf
  clear HGe HBe
  generalize we.drewN qf = wf at *
  go_wp2
  go_ret
  exact ⟨rfl, HBf.out⟩
end Go.Proofs.Ytggnaohigiakeab
