/-
  The laws' own function at, told: the number is a function of the bytes.
-/
import Derived.Test.YtbdoablokoghbaaAt
import Derived.Test.YtbdoablokoghbaaB09
import Derived.Test.YtbdoablokoghbaaB08
import Derived.Test.YtbdoablokoghbaaB04
import Derived.Test.YtbdoablokoghbaaB06
namespace Go.Proofs.Ytbdoablokoghbaa
open Go.ChangeShapes Go.WideShapes Go.ChangeAt Go.RowKit
def atN (len : Nat) (zs : List Int) (i n : Nat) : Nat := if len = 0 then i * 7 % n else ((zs.getD (i % len) 0 * 31 + zs.getD ((i + 1) % len) 0 + ((i / len : Nat) : Int)) % (n : Int)).toNat
theorem atN_lt (len : Nat) (zs : List Int) (i n : Nat) (hn : 0 < n) : atN len zs i n < n := by
  unfold atN
  split
  · exact Nat.mod_lt _ hn
  · have l1 := Int.emod_lt_of_pos (zs.getD (i % len) 0 * 31 + zs.getD ((i + 1) % len) 0 + ((i / len : Nat) : Int)) (show (0 : Int) < n by omega)
    omega
theorem at_is (a : Option Addr) (len cap : Nat) (zs : List Int) (w : World) (hr : IsRow .u8 w a len cap zs) (i n : Nat) (hi' : i ≤ 100000) (hn : 2 ≤ n) (hn' : n ≤ 100000) :
    Calls Try.prog 8 #[.slice a len cap, .int .i64 (i : Int), .int .i64 (n : Int)] w fun e w' => e = .returned (.int .i64 ((atN len zs i n : Nat) : Int)) ∧ ∃ q, w' = w.drewN q := by
  rcases hr with ⟨rfl, rfl, rfl, rfl⟩ | ⟨x, rfl, hl, hm, hz, hcell, hwz⟩
  · go_enter Try.func8, Try.ntmps8
    go_wp2
    go_ret
    exact ⟨by unfold atN; rw [if_pos rfl]; rfl, 0, rfl⟩
  · unfold maxLen at hm
    by_cases h0 : len = 0
    · subst h0
      go_enter Try.func8, Try.ntmps8
      go_wp2
      go_ret
      exact ⟨by unfold atN; rw [if_pos rfl]; rfl, 0, rfl⟩
    · obtain ⟨b, off, rfl, hc⟩ := ints_at hcell (by omega)
      have hne : ((len : Int) == 0) = false := by simp; omega
      have m1 : i % len < len := Nat.mod_lt _ (by omega)
      have m2 : (i + 1) % len < len := Nat.mod_lt _ (by omega)
      have c1 := hc (i % len) (by omega)
      have c2 := hc ((i + 1) % len) (by omega)
      have z1 : 0 ≤ zs.getD (i % len) 0 ∧ zs.getD (i % len) 0 ≤ 255 := by simpa using range_u8 hwz (i % len)
      have z2 : 0 ≤ zs.getD ((i + 1) % len) 0 ∧ zs.getD ((i + 1) % len) 0 ≤ 255 := by simpa using range_u8 hwz ((i + 1) % len)
      have HR : Hid (atN len zs i n = ((zs.getD (i % len) 0 * 31 + zs.getD ((i + 1) % len) 0 + ((i / len : Nat) : Int)) % (n : Int)).toNat) := by show atN len zs i n = _; unfold atN; rw [if_neg h0]
      generalize atN len zs i n = R at *
      generalize zs.getD (i % len) 0 = A at *
      generalize zs.getD ((i + 1) % len) 0 = B at *
      clear hcell hwz hz hc
      have q1 : (i : Int).tmod len = ((i % len : Nat) : Int) := (Int.ofNat_tmod i len).symm
      have q2 : ((i : Int) + 1).tmod len = (((i + 1) % len : Nat) : Int) := (Int.ofNat_tmod (i + 1) len).symm
      have q3 : (i : Int).tdiv len = ((i / len : Nat) : Int) := (Int.ofNat_tdiv i len).symm
      have d1 : i / len ≤ 100000 := Nat.le_trans (Nat.div_le_self _ _) (by omega)
      generalize i % len = I at *
      generalize (i + 1) % len = J at *
      generalize i / len = D at *
      go_enter Try.func8, Try.ntmps8
      go_wp2
      go_quiet (fail)
      go_wp2
      go_ret
      have l1 := Int.emod_lt_of_pos (A * 31 + B + D) (show (0 : Int) < n by omega)
      have l2 := Int.emod_nonneg (A * 31 + B + D) (show (n : Int) ≠ 0 by omega)
      refine ⟨?_, _, rfl⟩
      rw [HR.out, Int.toNat_of_nonneg l2]; rfl
end Go.Proofs.Ytbdoablokoghbaa

/-
  The law FnFiles: files are a map from paths to bytes (written by tools/fnfiles_law.py).
-/
namespace Go.Proofs.Ytbdoablokoghbaa
open Go.ChangeShapes Go.WideShapes Go.ChangeAt Go.RowKit
set_option linter.unusedVariables false
set_option maxRecDepth 100000 in
theorem datumOf_ex (a : Option Addr) (len cap : Nat) (z : Nat → Nat) (hz : ∀ i, z i < 256) (hl : len ≤ maxLen) (w : World) (hc : Code8 w a len z) :
    Calls Try.prog 9 #[.slice a len cap] w fun e w' => (∃ s : ByteArray, s.size ≤ 16 ∧ e = .returned (.string s)) ∧ Below w.heap.size w w' := by
  have HC : Hid (Code8 w a len z) := hc
  have SR : Hid (Calls Try.prog 29 #[.slice a len cap] w fun e w' => e = .returned (.pointer (some ⟨w.heap.size, 0, none⟩)) ∧ Src w' w.heap.size a len cap 0 (len % 1000) ∧ Below w.heap.size w w') := source_any a len cap hl w
  clear hc
  go_enter Try.func9, Try.ntmps9
  go_wp2_with fail
  refine SR.out.mono ?_
  rintro e w1 ⟨rfl, hs, hb⟩
  have IM : Hid (Calls Try.prog 32 #[.pointer (some ⟨w.heap.size, 0, none⟩)] w1 fun e w' => (∃ s : ByteArray, s.size ≤ 16 ∧ e = .returned (.string s)) ∧ SrcA w' w.heap.size a len cap (0 + 1) ∧ OnlyB w.heap.size w1 w') := datum_f w.heap.size a len cap 0 z hz (by omega) hl (fun x h0 hx => Nat.ne_of_lt (HC.out.lt x h0 hx)) w1 ⟨0, len % 1000, by omega, by omega, hs⟩ (HC.out.below hb)
  have HB : Hid (Below w.heap.size w w1) := hb
  clear hs hb SR hz hl
  go_wp2_with fail
  refine IM.out.mono ?_
  rintro e w2 ⟨⟨s, hs, rfl⟩, _, ho⟩
  have HD : Hid (s.size ≤ 16) := hs
  have HB2 : Hid (Below w.heap.size w w2) := HB.out.trans (ho.toBelow (Nat.le_refl _) HB.out.size)
  clear hs ho IM
  go_wp2
  go_ret
  exact ⟨⟨s, HD.out, rfl⟩, HB2.out⟩
theorem belowDrewF {B : Nat} {w w' : World} (h : Below B w w') (q : Nat) : Below B w (w'.drewN q) := ⟨h.os, h.tape, h.output, h.size, h.block⟩
theorem below_drewF {w : World} (q : Nat) : Below w.heap.size w (w.drewN q) := ⟨rfl, rfl, rfl, Nat.le_refl _, fun _ _ => rfl⟩
theorem WrIs.small {n : Nat} {F : Nat → Fi} {p : ByteArray} {k : Int} {s : ByteArray} {m : Nat} {G : Nat → Fi} {c : Int} (h : WrIs n F p k s m G c) (hF : FsOk n F) : m ≤ 1048576 := by
  rcases h with ⟨_, _, e⟩ | ⟨_, ⟨_, _, e⟩ | ⟨a, q⟩⟩
  · omega
  · omega
  · have := (WrP.keeps hF (a.ok.2.1 0 (by omega)) q).1; omega
set_option maxRecDepth 100000 in
set_option maxHeartbeats 8000000 in
theorem law_fnFiles (w : World) (a0 : Option Addr) (l0 c0 : Nat) (z0 : Nat → Nat) (hm0 : l0 ≤ maxLen) (hz0 : ∀ i, z0 i < 256) (a1 : Option Addr) (l1 c1 : Nat) (z1 : Nat → Nat) (zs1 : List Int) (hr1 : IsRow .u8 w a1 l1 c1 zs1) (hm1 : l1 ≤ maxLen) (hz1 : ∀ i, z1 i < 256) (hv0 : Code8 w a0 l0 z0) (hv1 : Code8 w a1 l1 z1) :
    Calls Try.prog 3 #[.slice a0 l0 c0, .slice a1 l1 c1] w fun e w' => e = .returned (.bool true) ∧ Below w.heap.size w w' := by
  by_cases b0 : 1048576 < l0
  · have bb : (1048576 : Int) < (l0 : Int) := by omega
    clear hv0 hm0 hz0 hv1 hm1 hz1 hr1
    go_enter Try.func3, Try.ntmps3
    go_wp2
    go_ret
    exact ⟨rfl, Below.refl _ _⟩
  by_cases b1 : 1048576 < l1
  · have bb : (1048576 : Int) < (l1 : Int) := by omega
    have bb0 : ¬ (1048576 : Int) < (l0 : Int) := by omega
    clear hv0 hm0 hz0 hv1 hm1 hz1 hr1
    go_enter Try.func3, Try.ntmps3
    go_wp2
    go_ret
    exact ⟨rfl, Below.refl _ _⟩
  have bb0 : ¬ (1048576 : Int) < (l0 : Int) := by omega
  have bb1 : ¬ (1048576 : Int) < (l1 : Int) := by omega
  have FO : Hid (Calls Try.prog 6 #[.slice a0 l0 c0] w fun e w' => (∃ (o : Option Addr) (m c : Nat) (F : Nat → Fi), e = .returned (.slice o m c) ∧ FsOk m F ∧ EO w' w.heap.size 37 3 (.slice o m c) m (fiF F)) ∧ Below w.heap.size w w') := filesOf_ex a0 l0 c0 z0 hz0 hm0 w hv0
  have FC1 : Hid (∀ u : World, Below w.heap.size w u → Calls Try.prog 7 #[.slice a1 l1 c1] u fun e w' => (∃ x : Fcl, e = .returned (.agg #[.int .i64 x.k, .int .i64 x.a, .int .i64 x.n, .string x.p, .string x.o, .string x.d]) ∧ FclD x) ∧ Below u.heap.size u w') := fun u hu => fileCallOf_ex a1 l1 c1 z1 hz1 hm1 u (hv1.below hu)
  have DT : Hid (∀ u : World, Below w.heap.size w u → Calls Try.prog 9 #[.slice a1 l1 c1] u fun e w' => (∃ s : ByteArray, s.size ≤ 16 ∧ e = .returned (.string s)) ∧ Below u.heap.size u w') := fun u hu => datumOf_ex a1 l1 c1 z1 hz1 hm1 u (hv1.below hu)
  have AT : Hid (∀ u : World, Below w.heap.size w u → Calls Try.prog 8 #[.slice a1 l1 c1, .int .i64 0, .int .i64 9] u fun e w' => (∃ r : Nat, r < 9 ∧ e = .returned (.int .i64 (r : Int))) ∧ Below u.heap.size u w') := fun u hu => (at_is a1 l1 c1 zs1 u (hr1.below hu) 0 9 (by omega) (by omega) (by omega)).mono fun e w' h => ⟨⟨_, atN_lt l1 zs1 0 9 (by omega), h.1⟩, by obtain ⟨q, rfl⟩ := h.2; exact below_drewF q⟩
  clear hv0 hz0 hm0 b0 b1 hv1 hz1 hm1 hr1
  go_enter Try.func3, Try.ntmps3
  go_wp2_with fail
  refine FO.out.mono ?_
  rintro e w1 ⟨⟨o, n, c, F, rfl, hF, hE⟩, hb⟩
  have HF : Hid (FsOk n F) := hF
  have HE : Hid (Els w1 3 o n (fiF F)) := hE.els
  have HS : Hid (SlP o n c) := hE.slp
  have A1 : Hid (Below w.heap.size w w1) := hb
  have hn : n ≤ 12 := hF.1
  clear hE hF hb FO
  go_wp2_with fail
  refine (FC1.out w1 A1.out).mono ?_
  rintro e w2 ⟨⟨x, rfl, hx⟩, hb⟩
  replace HE : Hid (Els w2 3 o n (fiF F)) := HE.out.below hb
  replace A1 : Hid (Below w.heap.size w w2) := A1.out.trans (hb.mono A1.out.size)
  clear hb
  have BX : Below w2.heap.size w2 (w2.alloc (.cells #[.int .i64 x.k, .int .i64 x.a, .int .i64 x.n, .string x.p, .string x.o, .string x.d] 26)) := (Below.refl _ _).alloc (Nat.le_refl _) _
  have XB : Hid (FclB (w2.alloc (.cells #[.int .i64 x.k, .int .i64 x.a, .int .i64 x.n, .string x.p, .string x.o, .string x.d] 26)) w2.heap.size x) := FclB.madeOf (x := x) rfl
  replace HE : Hid (Els (w2.alloc (.cells #[.int .i64 x.k, .int .i64 x.a, .int .i64 x.n, .string x.p, .string x.o, .string x.d] 26)) 3 o n (fiF F)) := HE.out.below BX
  replace A1 : Hid (Below w.heap.size w (w2.alloc (.cells #[.int .i64 x.k, .int .i64 x.a, .int .i64 x.n, .string x.p, .string x.o, .string x.d] 26))) := A1.out.trans (BX.mono A1.out.size)
  have HP : Hid (PthE x.p) := hx.2.2.2.1
  clear BX hx FC1
  go_wp2_with fail
  generalize (w2.alloc (.cells #[.int .i64 x.k, .int .i64 x.a, .int .i64 x.n, .string x.p, .string x.o, .string x.d] 26)) = v3 at *
  obtain ⟨qb, hqb⟩ : ∃ q, q = w2.heap.size := ⟨_, rfl⟩
  rw [← hqb] at XB ⊢
  clear hqb
  refine (AT.out v3 A1.out).mono ?_
  rintro e w4 ⟨⟨r, hr, rfl⟩, hb⟩
  replace HE : Hid (Els w4 3 o n (fiF F)) := HE.out.below hb
  replace A1 : Hid (Below w.heap.size w w4) := A1.out.trans (hb.mono A1.out.size)
  replace XB : Hid (FclB w4 qb x) := XB.out.below hb
  clear hb
  clear AT
  go_wp2_with fail
  refine (DT.out w4 A1.out).mono ?_
  rintro e w5 ⟨⟨s, hs, rfl⟩, hb⟩
  replace HE : Hid (Els w5 3 o n (fiF F)) := HE.out.below hb
  replace A1 : Hid (Below w.heap.size w w5) := A1.out.trans (hb.mono A1.out.size)
  replace XB : Hid (FclB w5 qb x) := XB.out.below hb
  clear hb
  clear DT
  have hp9 : x.p.size ≤ 9 := HP.out.2
  have xb := XB.out.c.2.2.2.1
  go_wp2_with fail
  refine (implWr_any o n c F x.p (r : Int) s (fun i hi => by have := (HF.out.2 i hi).1.1.1; omega) (by omega) HS.out w5 HE.out).mono ?_
  rintro e w6 ⟨⟨m, G, cd, hM, o3, c3, rfl, hE3⟩, hb⟩
  replace HE : Hid (Els w6 3 o n (fiF F)) := HE.out.below hb
  replace A1 : Hid (Below w.heap.size w w6) := A1.out.trans (hb.mono A1.out.size)
  replace XB : Hid (FclB w6 qb x) := XB.out.below hb
  clear hb
  have HM : Hid (WrIs n F x.p (r : Int) s m G cd) := hM
  have HG : Hid (Els w6 3 o3 m (fiF G)) := hE3.els
  have HSG : Hid (SlP o3 m c3) := hE3.slp
  clear hE3 hM xb
  have xb := XB.out.c.2.2.2.1
  go_wp2_with fail
  refine (specWr_any o n c F x.p (r : Int) s (fun i hi => by have := (HF.out.2 i hi).1.1.1; omega) (by omega) (by omega) (by omega) HS.out w6 HE.out).mono ?_
  rintro e w7 ⟨⟨m', G', cd', hM, o4, c4, rfl, hE4⟩, hb⟩
  replace HE : Hid (Els w7 3 o n (fiF F)) := HE.out.below hb
  replace A1 : Hid (Below w.heap.size w w7) := A1.out.trans (hb.mono A1.out.size)
  replace XB : Hid (FclB w7 qb x) := XB.out.below hb
  replace HG : Hid (Els w7 3 o3 m (fiF G)) := HG.out.below hb
  clear hb
  clear xb
  obtain ⟨rfl, rfl, hG⟩ := HM.out.uniq hM
  have HG4 : Hid (Els w7 3 o4 m (fiF G')) := hE4.els
  have HGG : Hid (SameF m m G G') := ⟨rfl, hG⟩
  clear hE4 hM hG
  have hm : m ≤ 1048576 := HM.out.small HF.out
  have ne : (cd != cd) = false := by simp
  go_wp2_with fail
  refine (sameFiles_any o3 o4 m m c3 c4 G G' hm hm w7 HG.out HG4.out).mono ?_
  rintro e w8 ⟨⟨y, rfl, hy⟩, hb⟩
  replace HE : Hid (Els w8 3 o n (fiF F)) := HE.out.below hb
  replace A1 : Hid (Below w.heap.size w w8) := A1.out.trans (hb.mono A1.out.size)
  replace XB : Hid (FclB w8 qb x) := XB.out.below hb
  replace HG : Hid (Els w8 3 o3 m (fiF G)) := HG.out.below hb
  clear hb
  obtain rfl : y = true := hy.2 HGG.out
  clear hy HGG HG4
  go_wp2_with fail
  refine (implFilesOK_any o n c F (fun i hi => by have := (HF.out.2 i hi).1.1.1; omega) HS.out w8 HE.out).mono ?_
  rintro e w9 ⟨⟨y, rfl, hy⟩, hb⟩
  replace HE : Hid (Els w9 3 o n (fiF F)) := HE.out.below hb
  replace A1 : Hid (Below w.heap.size w w9) := A1.out.trans (hb.mono A1.out.size)
  replace XB : Hid (FclB w9 qb x) := XB.out.below hb
  replace HG : Hid (Els w9 3 o3 m (fiF G)) := HG.out.below hb
  clear hb
  obtain rfl : y = true := hy.2 HF.out
  clear hy
  by_cases hcd : cd = 0
  rotate_left
  · have hcb : (cd != 0) = true := by simpa using hcd
    have HNO : Hid (m = 0 ∨ SameF m n G F) := HM.out.no hcd
    clear hcd ne HM
    go_wp2_with fail
    refine (sameFiles_any o3 o m n c3 c G F hm (by omega) w9 HG.out HE.out).mono ?_
    rintro e w10 ⟨⟨y, rfl, hy⟩, hb⟩
    replace HE : Hid (Els w10 3 o n (fiF F)) := HE.out.below hb
    replace A1 : Hid (Below w.heap.size w w10) := A1.out.trans (hb.mono A1.out.size)
    replace XB : Hid (FclB w10 qb x) := XB.out.below hb
    replace HG : Hid (Els w10 3 o3 m (fiF G)) := HG.out.below hb
    clear hb
    cases y with
    | true =>
      clear hy
      go_wp2
      go_ret
      exact ⟨rfl, A1.out⟩
    | false =>
      obtain rfl : m = 0 := HNO.out.elim id (fun q => by have := hy.2 q; cases this)
      clear hy HNO
      go_wp2
      go_ret
      exact ⟨rfl, A1.out⟩
  subst hcd
  obtain ⟨y, hY⟩ := HM.out.yes
  have HY : Hid (WrYes n F x.p r s m G y) := hY
  clear HM ne hY
  have xb := XB.out.c.2.2.2.1
  go_wp2_with fail
  refine (implRead_any o3 m c3 G x.p (r : Int) (s.size : Int) (fun i hi => by have := (HY.out.gk.2 i hi).1.1.1; omega) hm HSG.out w9 HG.out).mono ?_
  rintro e w10 ⟨⟨t10, k10, hR, rfl⟩, hb⟩
  replace HE : Hid (Els w10 3 o n (fiF F)) := HE.out.below hb
  replace A1 : Hid (Below w.heap.size w w10) := A1.out.trans (hb.mono A1.out.size)
  replace XB : Hid (FclB w10 qb x) := XB.out.below hb
  replace HG : Hid (Els w10 3 o3 m (fiF G)) := HG.out.below hb
  clear hb
  obtain ⟨rfl, rfl⟩ := HY.out.read.uniq hR
  clear hR xb
  have ss : (s.toList == s.toList) = true := by simp
  go_wp2_with fail
  refine (implFilesOK_any o3 m c3 G (fun i hi => by have := (HY.out.gk.2 i hi).1.1.1; omega) HSG.out w10 HG.out).mono ?_
  rintro e w11 ⟨⟨y11, rfl, hy⟩, hb⟩
  replace HE : Hid (Els w11 3 o n (fiF F)) := HE.out.below hb
  replace A1 : Hid (Below w.heap.size w w11) := A1.out.trans (hb.mono A1.out.size)
  replace XB : Hid (FclB w11 qb x) := XB.out.below hb
  replace HG : Hid (Els w11 3 o3 m (fiF G)) := HG.out.below hb
  clear hb
  obtain rfl : y11 = true := hy.2 HY.out.gk
  clear hy ss
  have xb := XB.out.c.2.2.2.1
  go_wp2_with fail
  refine (implRead_any o n c F x.p 0 200 (fun i hi => by have := (HF.out.2 i hi).1.1.1; omega) (by omega) HS.out w11 HE.out).mono ?_
  rintro e w12 ⟨⟨t12, k12, hR, rfl⟩, hb⟩
  replace HE : Hid (Els w12 3 o n (fiF F)) := HE.out.below hb
  replace A1 : Hid (Below w.heap.size w w12) := A1.out.trans (hb.mono A1.out.size)
  replace XB : Hid (FclB w12 qb x) := XB.out.below hb
  replace HG : Hid (Els w12 3 o3 m (fiF G)) := HG.out.below hb
  clear hb
  obtain ⟨g, hwas, hg⟩ := HY.out.was
  obtain ⟨rfl, rfl⟩ := hwas.uniq hR
  clear hR xb hwas
  have xb := XB.out.c.2.2.2.1
  go_wp2_with fail
  refine (implRead_any o3 m c3 G x.p 0 200 (fun i hi => by have := (HY.out.gk.2 i hi).1.1.1; omega) hm HSG.out w12 HG.out).mono ?_
  rintro e w13 ⟨⟨t13, k13, hR, rfl⟩, hb⟩
  replace HE : Hid (Els w13 3 o n (fiF F)) := HE.out.below hb
  replace A1 : Hid (Below w.heap.size w w13) := A1.out.trans (hb.mono A1.out.size)
  replace XB : Hid (FclB w13 qb x) := XB.out.below hb
  replace HG : Hid (Els w13 3 o3 m (fiF G)) := HG.out.below hb
  clear hb
  obtain ⟨rfl, rfl⟩ := HY.out.now.uniq hR
  clear hR xb
  have z1 : (wrT y.t r s).size = max y.t.size (r + s.size) := wrT_size _ _ _
  have HPR : Hid (∀ j, j ≤ r → j ≤ y.t.size → (wrT y.t r s).extract 0 j = y.t.extract 0 j) := fun j h1 h2 => wrT_ahead _ _ _ _ h1 h2
  have hyz := HY.out.sz
  have HCT : Hid (∀ j, j ≤ r → j ≤ (wrT y.t r s).size → (cutT (wrT y.t r s) r).extract 0 j = (wrT y.t r s).extract 0 j) := fun j h1 h2 => cutT_ahead _ _ _ h1 h2
  have hrs := HY.out.rng
  obtain ⟨T1, hT1⟩ : ∃ T1, T1 = wrT y.t r s := ⟨_, rfl⟩
  have HT1 : Hid (T1 = wrT y.t r s) := hT1
  rw [← hT1] at z1 HPR HCT ⊢
  clear hT1
  obtain ⟨T0, hT0⟩ : ∃ T0, T0 = y.t := ⟨_, rfl⟩
  have HT0 : Hid (T0 = y.t) := hT0
  rw [← hT0] at z1 HPR hyz ⊢
  clear hT0
  obtain ⟨J, hJ⟩ : ∃ J : Nat, J = min r T0.size := ⟨_, rfl⟩
  have hJ1 : J ≤ r := by omega
  have hJ2 : J ≤ T0.size := by omega
  have hJ3 : J ≤ T1.size := by omega
  have hwr : IntKind.i64.wrap ((r : Int) + (s.size : Int)) = (r : Int) + (s.size : Int) := IntWalk.i64_in _ (by omega)
  have hmx : max (T0.size : Int) ((r : Int) + (s.size : Int)) = (T1.size : Int) := by omega
  have hmn : min (r : Int) (T0.size : Int) = (J : Int) := by omega
  have hpf : ((T1.extract 0 J).toList == (T0.extract 0 J).toList) = true := by rw [HPR.out J hJ1 hJ2]; simp
  have HRT : Hid (r ≤ T1.size) := by show _ ≤ _; omega
  have sne : ((T1.size : Int) != (T1.size : Int)) = false := by simp
  have i1 : (J : Int) ≤ (T1.size : Int) := by omega
  have i2 : (J : Int) ≤ (T0.size : Int) := by omega
  have HZ1 : Hid (T1.size ≤ 200) := by show _ ≤ _; omega
  clear z1 hJ
  rcases hg with rfl | rfl
  · skip
    go_wp2_with fail
    go_quiet (fail)
    have BD : Below w13.heap.size w13 (w13.drewN nq) := below_drewF nq
    replace HE : Hid (Els (w13.drewN nq) 3 o n (fiF F)) := HE.out.below BD
    replace A1 : Hid (Below w.heap.size w (w13.drewN nq)) := A1.out.trans (BD.mono A1.out.size)
    replace XB : Hid (FclB (w13.drewN nq) qb x) := XB.out.below BD
    replace HG : Hid (Els (w13.drewN nq) 3 o3 m (fiF G)) := HG.out.below BD
    clear BD hmx hmn hpf i1 i2 sne hwr
    generalize (w13.drewN nq) = v14 at *
    skip
    go_wp2_with fail
    go_loopw [19] (fun iv wr => ∃ k : Nat, k ≤ n ∧ iv = .int .i64 k ∧ Below v14.heap.size v14 wr) (fun iv _ => n - (intOf iv).toNat)
    case atStart => exact ⟨0, by omega, rfl, Below.refl _ _⟩
    case round =>
      obtain ⟨k, hk, rfl, hb⟩ := hrel
      have HB : Hid (Below v14.heap.size v14 wr) := hb
      clear hb
      by_cases hlt : k < n
      · have hlt' : (k : Int) < (n : Int) := by omega
        obtain ⟨g1, q1, rfl, hc⟩ := (HE.out.below HB.out).opened (by omega)
        obtain ⟨d0, d1, d2⟩ := Els.fiC hc k hlt
        have xb := (XB.out.below HB.out).c.2.2.2.1
        by_cases he : (F k).p = x.p
        · have g1 : ((F k).p.toList == x.p.toList) = true := by rw [he]; simp
          clear he hc d1 d2
          go_wp2_with fail
          go_quiet (fail)
          clear d0 xb
          go_wp2
          go_roundw
          case rel => exact ⟨k + 1, by omega, by go_num, belowDrewF HB.out _⟩
          case measure => simp [intOf]; omega
        · have g1 : ((F k).p.toList == x.p.toList) = false := textNe he
          obtain ⟨j0, hj0, ej0⟩ := HY.out.put.all k hlt he
          have HJ0 : Hid (j0 < m ∧ G j0 = F k) := ⟨hj0, ej0⟩
          clear he hc d1 d2 hj0 ej0
          go_wp2_with fail
          go_quiet (fail)
          clear d0 xb
          have HB2 : Hid (Below v14.heap.size v14 (wr.drewN nq)) := belowDrewF HB.out _
          generalize hv15 : (wr.drewN nq) = v15 at *
          clear hv15 HB
          go_wp2_with fail
          go_loopw [20, 21] (fun bv iv wr => ∃ (j : Nat) (b : Bool), j ≤ m ∧ iv = .int .i64 j ∧ bv = .bool b ∧ Below v14.heap.size v14 wr ∧ (b = true ↔ ∃ i, i < j ∧ G i = F k)) (fun _ iv _ => m - (intOf iv).toNat)
          case atStart => exact ⟨0, false, by omega, rfl, rfl, HB2.out, ⟨(fun q => by cases q), (fun ⟨j, hj, _⟩ => absurd hj (by omega))⟩⟩
          case round =>
            clear HB2
            obtain ⟨j, b, hj, rfl, rfl, hb, hst⟩ := hrel
            rename_i wq
            have HB : Hid (Below v14.heap.size v14 wr) := hb
            have HST : Hid (b = true ↔ ∃ i, i < j ∧ G i = F k) := hst
            clear hb hst
            by_cases hjl : j < m
            · have hjl' : (j : Int) < (m : Int) := by omega
              cases b with
              | true =>
                have HX : Hid (∃ i, i < j + 1 ∧ G i = F k) := by obtain ⟨i, hi, e⟩ := HST.out.1 rfl; exact ⟨i, by omega, e⟩
                clear HST
                go_wp2_with fail
                go_quiet (fail)
                go_wp2
                go_roundw
                case rel => exact ⟨j + 1, true, by omega, by go_num, rfl, belowDrewF HB.out _, ⟨fun _ => HX.out, fun _ => rfl⟩⟩
                case measure => simp [intOf]; omega
              | false =>
                obtain ⟨g3, q3, eo, hc⟩ := (HE.out.below HB.out).opened (by omega)
                cases eo
                obtain ⟨d0, d1, d2⟩ := Els.fiC hc k hlt
                obtain ⟨g2, q2, rfl, hc2⟩ := (HG.out.below HB.out).opened (by omega)
                obtain ⟨e0, e1, e2⟩ := Els.fiC hc2 j hjl
                clear hc hc2
                by_cases he : G j = F k
                · have HX : Hid (∃ i, i < j + 1 ∧ G i = F k) := ⟨j, by omega, he⟩
                  rw [he] at e0 e1 e2
                  have t1 : ((F k).p.toList == (F k).p.toList) = true := by simp
                  have t2 : ((F k).t.toList == (F k).t.toList) = true := by simp
                  have t3 : ((F k).d == (F k).d) = true := by simp
                  clear he HST
                  go_wp2_with fail
                  go_quiet (fail)
                  clear d0 d1 d2 e0 e1 e2
                  go_wp2
                  go_roundw
                  case rel => exact ⟨j + 1, true, by omega, by go_num, rfl, belowDrewF HB.out _, ⟨fun _ => HX.out, fun _ => rfl⟩⟩
                  case measure => simp [intOf]; omega
                · have HX : Hid (¬ ∃ i, i < j + 1 ∧ G i = F k) := fun ⟨i, hi, e⟩ => by
                    rcases Nat.lt_or_ge i j with z | z
                    · have := HST.out.2 ⟨i, z, e⟩; cases this
                    · obtain rfl : i = j := by omega
                      exact absurd e he
                  clear HST HJ0 HY HT1 HT0 HPR HCT
                  generalize G j = yy at *
                  generalize F k = zz at *
                  obtain ⟨p, d, t⟩ := yy
                  obtain ⟨p', d', t'⟩ := zz
                  dsimp only at *
                  have key : (p.toList == p'.toList) = false ∨ ((p = p') ∧ d ≠ d') ∨ (p = p' ∧ d = d' ∧ (t.toList == t'.toList) = false) := by
                    by_cases e1 : p = p'
                    · by_cases e2 : d = d'
                      · refine .inr (.inr ⟨e1, e2, textNe (fun e3 => he ?_)⟩)
                        subst e1; subst e2; subst e3; rfl
                      · exact .inr (.inl ⟨e1, e2⟩)
                    · exact .inl (textNe e1)
                  clear he
                  rcases key with t1 | ⟨rfl, t1⟩ | ⟨rfl, rfl, t1⟩
                  · skip
                    go_wp2_with fail
                    go_quiet (fail)
                    clear d0 d1 d2 e0 e1 e2
                    go_wp2
                    go_roundw
                    case rel => exact ⟨j + 1, false, by omega, by go_num, rfl, belowDrewF HB.out _, ⟨(fun q => by cases q), fun q => absurd q HX.out⟩⟩
                    case measure => simp [intOf]; omega
                  · have t0 : (p.toList == p.toList) = true := by simp
                    have t2 : (d == d') = false := by simpa using t1
                    cases d <;> cases d' <;> first | (exact absurd rfl t1) | skip
                    all_goals
                      clear t1
                      go_wp2_with fail
                      go_quiet (fail)
                      clear d0 d1 d2 e0 e1 e2
                      go_wp2
                      go_roundw
                      case rel => exact ⟨j + 1, false, by omega, by go_num, rfl, belowDrewF HB.out _, ⟨(fun q => by cases q), fun q => absurd q HX.out⟩⟩
                      case measure => simp [intOf]; omega
                  · have t0 : (p.toList == p.toList) = true := by simp
                    have t2 : (d == d) = true := by simp
                    go_wp2_with fail
                    go_quiet (fail)
                    clear d0 d1 d2 e0 e1 e2
                    go_wp2
                    go_roundw
                    case rel => exact ⟨j + 1, false, by omega, by go_num, rfl, belowDrewF HB.out _, ⟨(fun q => by cases q), fun q => absurd q HX.out⟩⟩
                    case measure => simp [intOf]; omega
            · obtain rfl : j = m := by omega
              have hjl' : ¬ (j : Int) < (j : Int) := by omega
              obtain rfl : b = true := HST.out.2 ⟨j0, HJ0.out.1, HJ0.out.2⟩
              clear HST
              go_wp2
              go_roundw
              case rel => exact ⟨k + 1, by omega, by go_num, HB.out⟩
              case measure => simp [intOf]; omega
      · obtain rfl : k = n := by omega
        have hlt' : ¬ (k : Int) < (k : Int) := by omega
        clear HE
        replace A1 : Hid (Below w.heap.size w wr) := A1.out.trans (HB.out.mono A1.out.size)
        replace XB : Hid (FclB wr qb x) := XB.out.below HB.out
        replace HG : Hid (Els wr 3 o3 m (fiF G)) := HG.out.below HB.out
        clear HB
        have xb := XB.out.c.2.2.2.1
        go_wp2_with fail
        refine (implCt_any o3 m c3 G x.p (r : Int) (fun i hi => by have := (HY.out.gk.2 i hi).1.1.1; omega) hm HSG.out wr HG.out).mono ?_
        rintro e w15 ⟨⟨m5, G5, c5, hC, o5, k5, rfl, hE5⟩, hb⟩
        replace A1 : Hid (Below w.heap.size w w15) := A1.out.trans (hb.mono A1.out.size)
        replace XB : Hid (FclB w15 qb x) := XB.out.below hb
        replace HG : Hid (Els w15 3 o3 m (fiF G)) := HG.out.below hb
        clear hb
        obtain ⟨rfl, hk5, hR5⟩ := HY.out.cut hC
        have HK5 : Hid (FsOk m5 G5) := hk5
        have HR5 : Hid (RdIs m5 G5 x.p 0 200 (cutT T1 r) 0) := by rw [HT1.out]; exact hR5
        have HG5 : Hid (Els w15 3 o5 m5 (fiF G5)) := hE5.els
        have HS5 : Hid (SlP o5 m5 k5) := hE5.slp
        have hm5 : m5 ≤ 12 := hk5.1
        clear hE5 hC hk5 hR5 xb
        have xb := XB.out.c.2.2.2.1
        go_wp2_with fail
        refine (implRead_any o5 m5 k5 G5 x.p 0 200 (fun i hi => by have := (HK5.out.2 i hi).1.1.1; omega) (by omega) HS5.out w15 HG5.out).mono ?_
        rintro e w16 ⟨⟨t16, k16, hR, rfl⟩, hb⟩
        replace A1 : Hid (Below w.heap.size w w16) := A1.out.trans (hb.mono A1.out.size)
        replace XB : Hid (FclB w16 qb x) := XB.out.below hb
        replace HG : Hid (Els w16 3 o3 m (fiF G)) := HG.out.below hb
        clear hb
        obtain ⟨rfl, rfl⟩ := HR5.out.uniq hR
        clear hR xb
        have z2 : (cutT T1 r).size = r := cutT_size _ _
        have hrt : r ≤ T1.size := HRT.out
        have hct : ((cutT T1 r).extract 0 r).toList = (T1.extract 0 r).toList := by rw [HCT.out r (Nat.le_refl _) hrt]
        generalize cutT T1 r = T2 at *
        have hcu : ((T2.extract 0 r).toList == (T1.extract 0 r).toList) = true := by rw [hct]; simp
        have hm2 : min (r : Int) (T1.size : Int) = (r : Int) := by omega
        have i1 : (r : Int) ≤ (T1.size : Int) := by omega
        have i2 : (r : Int) ≤ (T2.size : Int) := by omega
        have i3 : ((T2.size : Int) == (r : Int)) = true := by simp; omega
        have i4 : (T2.size : Int) = (r : Int) := by omega
        clear hct z2 hrt
        go_wp2_with fail
        go_quiet (fail)
        go_wp2
        go_ret
        exact ⟨rfl, belowDrewF A1.out _⟩
  · skip
    go_wp2_with fail
    go_quiet (fail)
    have BD : Below w13.heap.size w13 (w13.drewN nq) := below_drewF nq
    replace HE : Hid (Els (w13.drewN nq) 3 o n (fiF F)) := HE.out.below BD
    replace A1 : Hid (Below w.heap.size w (w13.drewN nq)) := A1.out.trans (BD.mono A1.out.size)
    replace XB : Hid (FclB (w13.drewN nq) qb x) := XB.out.below BD
    replace HG : Hid (Els (w13.drewN nq) 3 o3 m (fiF G)) := HG.out.below BD
    clear BD hmx hmn hpf i1 i2 sne hwr
    generalize (w13.drewN nq) = v14 at *
    skip
    go_wp2_with fail
    go_loopw [19] (fun iv wr => ∃ k : Nat, k ≤ n ∧ iv = .int .i64 k ∧ Below v14.heap.size v14 wr) (fun iv _ => n - (intOf iv).toNat)
    case atStart => exact ⟨0, by omega, rfl, Below.refl _ _⟩
    case round =>
      obtain ⟨k, hk, rfl, hb⟩ := hrel
      have HB : Hid (Below v14.heap.size v14 wr) := hb
      clear hb
      by_cases hlt : k < n
      · have hlt' : (k : Int) < (n : Int) := by omega
        obtain ⟨g1, q1, rfl, hc⟩ := (HE.out.below HB.out).opened (by omega)
        obtain ⟨d0, d1, d2⟩ := Els.fiC hc k hlt
        have xb := (XB.out.below HB.out).c.2.2.2.1
        by_cases he : (F k).p = x.p
        · have g1 : ((F k).p.toList == x.p.toList) = true := by rw [he]; simp
          clear he hc d1 d2
          go_wp2_with fail
          go_quiet (fail)
          clear d0 xb
          go_wp2
          go_roundw
          case rel => exact ⟨k + 1, by omega, by go_num, belowDrewF HB.out _⟩
          case measure => simp [intOf]; omega
        · have g1 : ((F k).p.toList == x.p.toList) = false := textNe he
          obtain ⟨j0, hj0, ej0⟩ := HY.out.put.all k hlt he
          have HJ0 : Hid (j0 < m ∧ G j0 = F k) := ⟨hj0, ej0⟩
          clear he hc d1 d2 hj0 ej0
          go_wp2_with fail
          go_quiet (fail)
          clear d0 xb
          have HB2 : Hid (Below v14.heap.size v14 (wr.drewN nq)) := belowDrewF HB.out _
          generalize hv15 : (wr.drewN nq) = v15 at *
          clear hv15 HB
          go_wp2_with fail
          go_loopw [20, 21] (fun bv iv wr => ∃ (j : Nat) (b : Bool), j ≤ m ∧ iv = .int .i64 j ∧ bv = .bool b ∧ Below v14.heap.size v14 wr ∧ (b = true ↔ ∃ i, i < j ∧ G i = F k)) (fun _ iv _ => m - (intOf iv).toNat)
          case atStart => exact ⟨0, false, by omega, rfl, rfl, HB2.out, ⟨(fun q => by cases q), (fun ⟨j, hj, _⟩ => absurd hj (by omega))⟩⟩
          case round =>
            clear HB2
            obtain ⟨j, b, hj, rfl, rfl, hb, hst⟩ := hrel
            rename_i wq
            have HB : Hid (Below v14.heap.size v14 wr) := hb
            have HST : Hid (b = true ↔ ∃ i, i < j ∧ G i = F k) := hst
            clear hb hst
            by_cases hjl : j < m
            · have hjl' : (j : Int) < (m : Int) := by omega
              cases b with
              | true =>
                have HX : Hid (∃ i, i < j + 1 ∧ G i = F k) := by obtain ⟨i, hi, e⟩ := HST.out.1 rfl; exact ⟨i, by omega, e⟩
                clear HST
                go_wp2_with fail
                go_quiet (fail)
                go_wp2
                go_roundw
                case rel => exact ⟨j + 1, true, by omega, by go_num, rfl, belowDrewF HB.out _, ⟨fun _ => HX.out, fun _ => rfl⟩⟩
                case measure => simp [intOf]; omega
              | false =>
                obtain ⟨g3, q3, eo, hc⟩ := (HE.out.below HB.out).opened (by omega)
                cases eo
                obtain ⟨d0, d1, d2⟩ := Els.fiC hc k hlt
                obtain ⟨g2, q2, rfl, hc2⟩ := (HG.out.below HB.out).opened (by omega)
                obtain ⟨e0, e1, e2⟩ := Els.fiC hc2 j hjl
                clear hc hc2
                by_cases he : G j = F k
                · have HX : Hid (∃ i, i < j + 1 ∧ G i = F k) := ⟨j, by omega, he⟩
                  rw [he] at e0 e1 e2
                  have t1 : ((F k).p.toList == (F k).p.toList) = true := by simp
                  have t2 : ((F k).t.toList == (F k).t.toList) = true := by simp
                  have t3 : ((F k).d == (F k).d) = true := by simp
                  clear he HST
                  go_wp2_with fail
                  go_quiet (fail)
                  clear d0 d1 d2 e0 e1 e2
                  go_wp2
                  go_roundw
                  case rel => exact ⟨j + 1, true, by omega, by go_num, rfl, belowDrewF HB.out _, ⟨fun _ => HX.out, fun _ => rfl⟩⟩
                  case measure => simp [intOf]; omega
                · have HX : Hid (¬ ∃ i, i < j + 1 ∧ G i = F k) := fun ⟨i, hi, e⟩ => by
                    rcases Nat.lt_or_ge i j with z | z
                    · have := HST.out.2 ⟨i, z, e⟩; cases this
                    · obtain rfl : i = j := by omega
                      exact absurd e he
                  clear HST HJ0 HY HT1 HT0 HPR HCT
                  generalize G j = yy at *
                  generalize F k = zz at *
                  obtain ⟨p, d, t⟩ := yy
                  obtain ⟨p', d', t'⟩ := zz
                  dsimp only at *
                  have key : (p.toList == p'.toList) = false ∨ ((p = p') ∧ d ≠ d') ∨ (p = p' ∧ d = d' ∧ (t.toList == t'.toList) = false) := by
                    by_cases e1 : p = p'
                    · by_cases e2 : d = d'
                      · refine .inr (.inr ⟨e1, e2, textNe (fun e3 => he ?_)⟩)
                        subst e1; subst e2; subst e3; rfl
                      · exact .inr (.inl ⟨e1, e2⟩)
                    · exact .inl (textNe e1)
                  clear he
                  rcases key with t1 | ⟨rfl, t1⟩ | ⟨rfl, rfl, t1⟩
                  · skip
                    go_wp2_with fail
                    go_quiet (fail)
                    clear d0 d1 d2 e0 e1 e2
                    go_wp2
                    go_roundw
                    case rel => exact ⟨j + 1, false, by omega, by go_num, rfl, belowDrewF HB.out _, ⟨(fun q => by cases q), fun q => absurd q HX.out⟩⟩
                    case measure => simp [intOf]; omega
                  · have t0 : (p.toList == p.toList) = true := by simp
                    have t2 : (d == d') = false := by simpa using t1
                    cases d <;> cases d' <;> first | (exact absurd rfl t1) | skip
                    all_goals
                      clear t1
                      go_wp2_with fail
                      go_quiet (fail)
                      clear d0 d1 d2 e0 e1 e2
                      go_wp2
                      go_roundw
                      case rel => exact ⟨j + 1, false, by omega, by go_num, rfl, belowDrewF HB.out _, ⟨(fun q => by cases q), fun q => absurd q HX.out⟩⟩
                      case measure => simp [intOf]; omega
                  · have t0 : (p.toList == p.toList) = true := by simp
                    have t2 : (d == d) = true := by simp
                    go_wp2_with fail
                    go_quiet (fail)
                    clear d0 d1 d2 e0 e1 e2
                    go_wp2
                    go_roundw
                    case rel => exact ⟨j + 1, false, by omega, by go_num, rfl, belowDrewF HB.out _, ⟨(fun q => by cases q), fun q => absurd q HX.out⟩⟩
                    case measure => simp [intOf]; omega
            · obtain rfl : j = m := by omega
              have hjl' : ¬ (j : Int) < (j : Int) := by omega
              obtain rfl : b = true := HST.out.2 ⟨j0, HJ0.out.1, HJ0.out.2⟩
              clear HST
              go_wp2
              go_roundw
              case rel => exact ⟨k + 1, by omega, by go_num, HB.out⟩
              case measure => simp [intOf]; omega
      · obtain rfl : k = n := by omega
        have hlt' : ¬ (k : Int) < (k : Int) := by omega
        clear HE
        replace A1 : Hid (Below w.heap.size w wr) := A1.out.trans (HB.out.mono A1.out.size)
        replace XB : Hid (FclB wr qb x) := XB.out.below HB.out
        replace HG : Hid (Els wr 3 o3 m (fiF G)) := HG.out.below HB.out
        clear HB
        have xb := XB.out.c.2.2.2.1
        go_wp2_with fail
        refine (implCt_any o3 m c3 G x.p (r : Int) (fun i hi => by have := (HY.out.gk.2 i hi).1.1.1; omega) hm HSG.out wr HG.out).mono ?_
        rintro e w15 ⟨⟨m5, G5, c5, hC, o5, k5, rfl, hE5⟩, hb⟩
        replace A1 : Hid (Below w.heap.size w w15) := A1.out.trans (hb.mono A1.out.size)
        replace XB : Hid (FclB w15 qb x) := XB.out.below hb
        replace HG : Hid (Els w15 3 o3 m (fiF G)) := HG.out.below hb
        clear hb
        obtain ⟨rfl, hk5, hR5⟩ := HY.out.cut hC
        have HK5 : Hid (FsOk m5 G5) := hk5
        have HR5 : Hid (RdIs m5 G5 x.p 0 200 (cutT T1 r) 0) := by rw [HT1.out]; exact hR5
        have HG5 : Hid (Els w15 3 o5 m5 (fiF G5)) := hE5.els
        have HS5 : Hid (SlP o5 m5 k5) := hE5.slp
        have hm5 : m5 ≤ 12 := hk5.1
        clear hE5 hC hk5 hR5 xb
        have xb := XB.out.c.2.2.2.1
        go_wp2_with fail
        refine (implRead_any o5 m5 k5 G5 x.p 0 200 (fun i hi => by have := (HK5.out.2 i hi).1.1.1; omega) (by omega) HS5.out w15 HG5.out).mono ?_
        rintro e w16 ⟨⟨t16, k16, hR, rfl⟩, hb⟩
        replace A1 : Hid (Below w.heap.size w w16) := A1.out.trans (hb.mono A1.out.size)
        replace XB : Hid (FclB w16 qb x) := XB.out.below hb
        replace HG : Hid (Els w16 3 o3 m (fiF G)) := HG.out.below hb
        clear hb
        obtain ⟨rfl, rfl⟩ := HR5.out.uniq hR
        clear hR xb
        have z2 : (cutT T1 r).size = r := cutT_size _ _
        have hrt : r ≤ T1.size := HRT.out
        have hct : ((cutT T1 r).extract 0 r).toList = (T1.extract 0 r).toList := by rw [HCT.out r (Nat.le_refl _) hrt]
        generalize cutT T1 r = T2 at *
        have hcu : ((T2.extract 0 r).toList == (T1.extract 0 r).toList) = true := by rw [hct]; simp
        have hm2 : min (r : Int) (T1.size : Int) = (r : Int) := by omega
        have i1 : (r : Int) ≤ (T1.size : Int) := by omega
        have i2 : (r : Int) ≤ (T2.size : Int) := by omega
        have i3 : ((T2.size : Int) == (r : Int)) = true := by simp; omega
        have i4 : (T2.size : Int) = (r : Int) := by omega
        clear hct z2 hrt
        go_wp2_with fail
        go_quiet (fail)
        go_wp2
        go_ret
        exact ⟨rfl, belowDrewF A1.out _⟩
end Go.Proofs.Ytbdoablokoghbaa
