/-
  MoveFile of the model, whole.
-/
import Derived.Test.YtbdoablokoghbaaGreatV04
import Derived.Test.YtbdoablokoghbaaGreatV08
import Derived.Test.YtbdoablokoghbaaGreatV09
import Derived.Test.YtbdoablokoghbaaGreatV10
import Derived.Test.YtbdoablokoghbaaGreatV03
namespace Go.Proofs.YtbdoablokoghbaaGreat
open Go.ChangeShapes Go.WideShapes Go.ChangeAt Go.RowKit
set_option linter.unusedVariables false
theorem ftIs_one {n : Nat} {F : Nat → Fi} {fr tp : ByteArray} {x : Int} (hl : ¬ (4096 < n ∨ LongT 2 (fun i => if i = 0 then fr else tp))) (h : FtIs n F 1 (fun _ => fr) x) (hx : x ≠ 0) : FtIs n F 2 (fun i => if i = 0 then fr else tp) x := by
  rcases h with ⟨a, rfl⟩ | ⟨a, ⟨b, rfl⟩ | ⟨b, ⟨⟨i, hi, g⟩, rfl⟩ | ⟨g, rfl⟩⟩⟩
  · refine absurd ?_ hl
    rcases a with q | ⟨i, hi, q⟩
    · exact .inl q
    · exact .inr ⟨0, by omega, q⟩
  · exact .inr ⟨hl, .inl ⟨b, rfl⟩⟩
  · exact .inr ⟨hl, .inr ⟨b, .inl ⟨⟨0, by omega, g⟩, rfl⟩⟩⟩
  · exact absurd rfl hx
set_option maxRecDepth 100000 in
set_option maxHeartbeats 4000000 in
theorem specMv_any (a : Option Addr) (n c : Nat) (F : Nat → Fi) (fr tp : ByteArray) (hsz : ∀ i, i < n → (F i).p.size ≤ 1048576) (hnn : n ≤ 1048576) (hpz : fr.size ≤ 1048576) (hqz : tp.size ≤ 1048576) (hsl : SlP a n c) (w : World) (h : Els w 3 a n (fiF F)) :
    Calls Tryz.prog 7 #[.slice a n c, .string fr, .string tp] w fun e w' => (∃ m G cd, MvIs n F fr tp m G cd ∧ RetFs m G cd w.heap.size e w') ∧ Below w.heap.size w w' := by
  have L0 : Hid (∀ w : World, EO (w.alloc (.cells #[] 32)) w.heap.size 32 3 (.slice (some ⟨w.heap.size, 0, none⟩) 0 0) 0 (fiF F)) := fun w => EO.lit w w.heap.size _ 3 (Nat.le_refl _) _
  by_cases hl : 4096 < n ∨ LongT 2 (fun i => if i = 0 then fr else tp)
  · have HX : Hid (MvIs n F fr tp 0 F 2) := .inl ⟨.inl ⟨hl, rfl⟩, by decide, rfl⟩
    by_cases h0 : 4096 < n
    · have g0 : (4096 : Int) < (n : Int) := by omega
      clear h hsz hl
      go_enter Tryz.func7, Tryz.ntmps7
      go_wp2
      go_ret2
      exact ⟨⟨0, F, 2, HX.out, ⟨_, _, rfl, L0.out w⟩⟩, (Below.refl _ _).alloc (Nat.le_refl _) _⟩
    · have g0 : ¬ (4096 : Int) < (n : Int) := by omega
      by_cases h1 : 65536 < fr.size
      · have g1 : (65536 : Int) < (fr.size : Int) := by omega
        clear h hsz hl
        go_enter Tryz.func7, Tryz.ntmps7
        go_wp2
        go_ret2
        exact ⟨⟨0, F, 2, HX.out, ⟨_, _, rfl, L0.out w⟩⟩, (Below.refl _ _).alloc (Nat.le_refl _) _⟩
      · have g1 : ¬ (65536 : Int) < (fr.size : Int) := by omega
        have g2 : (65536 : Int) < (tp.size : Int) := by
          rcases hl with q | ⟨i, hi, q⟩
          · exact absurd q h0
          · rcases (show i = 0 ∨ i = 1 by omega) with rfl | rfl
            · exact absurd q h1
            · have q2 : 65536 < tp.size := q
              omega
        clear h hsz hl
        go_enter Tryz.func7, Tryz.ntmps7
        go_wp2
        go_ret2
        exact ⟨⟨0, F, 2, HX.out, ⟨_, _, rfl, L0.out w⟩⟩, (Below.refl _ _).alloc (Nat.le_refl _) _⟩
  · have g0 : ¬ (4096 : Int) < (n : Int) := fun q => hl (.inl (by omega))
    have g1 : ¬ (65536 : Int) < (fr.size : Int) := fun q => hl (.inr ⟨0, by omega, by show 65536 < fr.size; omega⟩)
    have g2 : ¬ (65536 : Int) < (tp.size : Int) := fun q => hl (.inr ⟨1, by omega, by show 65536 < tp.size; omega⟩)
    have CD : Hid (Calls Tryz.prog 23 #[.slice a n c, .string fr] w fun e w' => (∃ x : Int, e = .returned (.int .i64 x) ∧ FtIs n F 1 (fun _ => fr) x) ∧ Below w.heap.size w w') := l11Code_any a n c F fr hsz hnn hpz w h
    have H : Hid (Els w 3 a n (fiF F)) := h
    have HL : Hid (¬ (4096 < n ∨ LongT 2 (fun i => if i = 0 then fr else tp))) := hl
    have HSL : Hid (SlP a n c) := hsl
    clear h hsz hl hsl
    go_enter Tryz.func7, Tryz.ntmps7
    go_wp2_with fail
    refine (Calls.mono CD.out) ?_
    rintro e v1 ⟨⟨x, rfl, hx⟩, hb⟩
    have B1 : Hid (Below w.heap.size w v1) := hb
    have HX : Hid (FtIs n F 1 (fun _ => fr) x) := hx
    clear hx hb CD
    by_cases h0 : x = 0
    · subst h0
      obtain ⟨ho, hp, hn4, -⟩ := HX.out.ok
      have hfr : PathOk fr := hp 0 (by omega)
      have HO : Hid (FsOk n F ∧ PathOk fr) := ⟨ho, hfr⟩
      have PK : Hid (∀ u : World, Calls Tryz.prog 24 #[.string tp] u fun e w' => Says e (PathOk tp) ∧ Below u.heap.size u w') := fun u => l11Path_any tp (by unfold maxLen; omega) u
      clear ho hp hn4 hfr
      go_wp2_with fail
      refine (PK.out _).mono ?_
      rintro e v2 ⟨⟨y, rfl, hy⟩, hb⟩
      have B2 : Hid (Below w.heap.size w v2) := B1.out.trans (hb.mono B1.out.size)
      have HY : Hid (y = true ↔ PathOk tp) := hy
      clear hy hb PK B1
      cases y with
      | false =>
        have HM : Hid (MvIs n F fr tp 0 F 16) := .inl ⟨.inr ⟨HL.out, .inr ⟨HO.out.1, .inl ⟨⟨1, by omega, fun q => by have := HY.out.2 q; cases this⟩, rfl⟩⟩⟩, by decide, rfl⟩
        have L1 : Hid (EO (v2.alloc (.cells #[] 32)) w.heap.size 32 3 (.slice (some ⟨v2.heap.size, 0, none⟩) 0 0) 0 (fiF F)) := (L0.out v2).mono B2.out.size
        clear HY HX
        go_wp2
        go_ret2
        exact ⟨⟨0, F, 16, HM.out, ⟨_, _, rfl, L1.out⟩⟩, B2.out.alloc B2.out.size _⟩
      | true =>
        have htp : PathOk tp := HY.out.1 rfl
        have HF2 : Hid (FtIs n F 2 (fun i => if i = 0 then fr else tp) 0) := .inr ⟨HL.out, .inr ⟨HO.out.1, .inr ⟨fun i hi => by
          rcases (show i = 0 ∨ i = 1 by omega) with rfl | rfl
          · exact HO.out.2
          · exact htp, rfl⟩⟩⟩
        have MK : Hid (∀ u : World, Below w.heap.size w u → Calls Tryz.prog 25 #[.slice a n c, .string fr, .string tp] u fun e w'' => (∃ (a' : Option Addr) (m c' : Nat) (G : Nat → Fi) (cd : Int), e = .returned (.tuple #[.slice a' m c', .int .i64 cd]) ∧ Els w'' 3 a' m (fiF G) ∧ SlQ (fun _ => True) u.heap.size a' m c' ∧ MvP n F fr tp m G cd) ∧ Below u.heap.size u w'') := fun u hb => l11Move_any a n c F fr tp HO.out.1 HO.out.2 htp HSL.out (fun _ => True) (fun _ _ => trivial) u (H.out.below hb)
        have hn12 := HO.out.1.1
        clear HY HX htp
        go_wp2_with fail
        refine (MK.out _ B2.out).mono ?_
        rintro e v3 ⟨⟨a', m, c', G, cd, rfl, hE, hz', hM⟩, hb⟩
        have hml := hM.le
        have HM : Hid (MvIs n F fr tp m G cd) := .inr ⟨HF2.out, hM⟩
        obtain ⟨a3, c3, v4, hr, ho3, hb3⟩ := ownAll (by omega) hE hz'.1.z
        have B3 : Hid (Below w.heap.size w v4) := (B2.out.trans (hb.mono B2.out.size)).trans (hb3.mono (by have := B2.out.size; have := hb.size; omega))
        have O3 : Hid (EO v4 w.heap.size 32 3 (.slice a3 m c3) m (fiF G)) := ho3.mono (by have := B2.out.size; have := hb.size; omega)
        clear hE hz' hM hb ho3 hb3 MK B2 L0
        go_wp2_with (at_builtin; refine Lib.wpList_append_run _ rfl (.tmp 42) (.tmp 43) 23 23 rfl (.slice (some ⟨v3.heap.size, 0, none⟩) 0 0) (.slice a' m c') rfl rfl _ _ (hr _) ?_)
        go_ret2
        exact ⟨⟨m, G, cd, HM.out, ⟨_, _, rfl, O3.out⟩⟩, B3.out⟩
    · have g : (x != 0) = true := by simpa using h0
      have HM : Hid (MvIs n F fr tp 0 F x) := .inl ⟨ftIs_one HL.out HX.out h0, h0, rfl⟩
      have L1 : Hid (EO (v1.alloc (.cells #[] 32)) w.heap.size 32 3 (.slice (some ⟨v1.heap.size, 0, none⟩) 0 0) 0 (fiF F)) := (L0.out v1).mono B1.out.size
      clear h0 HX
      go_wp2
      go_ret2
      exact ⟨⟨0, F, x, HM.out, ⟨_, _, rfl, L1.out⟩⟩, B1.out.alloc B1.out.size _⟩
end Go.Proofs.YtbdoablokoghbaaGreat

/-
  The law FnMoves: what is moved stands where it was moved to; moved back, if nothing stood there, all is as it was (written by tools/fnfiles_law.py).
-/
namespace Go.Proofs.YtbdoablokoghbaaGreat
open Go.ChangeShapes Go.WideShapes Go.ChangeAt Go.RowKit
set_option linter.unusedVariables false
/-- A path stands among the first k files. -/
def StoodP (F : Nat → Fi) (tp : ByteArray) (k : Nat) : Prop := ∃ j, j < k ∧ (F j).p = tp
theorem StoodP.next {F : Nat → Fi} {tp : ByteArray} {k : Nat} {b : Bool} (h : b = true ↔ StoodP F tp k) : ((F k).p = tp → (true = true ↔ StoodP F tp (k + 1))) ∧ ((F k).p ≠ tp → (b = true ↔ StoodP F tp (k + 1))) ∧ (b = true → (true = true ↔ StoodP F tp (k + 1))) := by
  refine ⟨fun e => ⟨fun _ => ⟨k, by omega, e⟩, fun _ => rfl⟩, fun e => ⟨fun q => ?_, fun ⟨j, hj, ej⟩ => h.2 ⟨j, ?_, ej⟩⟩, fun q => ⟨fun _ => ?_, fun _ => rfl⟩⟩
  · obtain ⟨j, hj, ej⟩ := h.1 q
    exact ⟨j, by omega, ej⟩
  · rcases Nat.lt_or_ge j k with z | z
    · exact z
    · obtain rfl : j = k := by omega
      exact absurd ej e
  · obtain ⟨j, hj, ej⟩ := h.1 q
    exact ⟨j, by omega, ej⟩
theorem MvIs.le {n : Nat} {F : Nat → Fi} {fr tp : ByteArray} {m : Nat} {G : Nat → Fi} {c : Int} (h : MvIs n F fr tp m G c) : m ≤ 1048576 := by have := h.bound; omega
set_option maxRecDepth 100000 in
set_option maxHeartbeats 8000000 in
theorem law_fnMoves (w : World) (a0 : Option Addr) (l0 c0 : Nat) (z0 : Nat → Nat) (hm0 : l0 ≤ maxLen) (hz0 : ∀ i, z0 i < 256) (a1 : Option Addr) (l1 c1 : Nat) (z1 : Nat → Nat) (zs1 : List Int) (hr1 : IsRow .u8 w a1 l1 c1 zs1) (hm1 : l1 ≤ maxLen) (hz1 : ∀ i, z1 i < 256) (hv0 : Code8 w a0 l0 z0) (hv1 : Code8 w a1 l1 z1) :
    Calls Tryz.prog 3 #[.slice a0 l0 c0, .slice a1 l1 c1] w fun e w' => e = .returned (.bool true) ∧ Below w.heap.size w w' := by
  by_cases b0 : 1048576 < l0
  · have bb : (1048576 : Int) < (l0 : Int) := by omega
    clear hv0 hm0 hz0 hv1 hm1 hz1 hr1
    go_enter Tryz.func3, Tryz.ntmps3
    go_wp2
    go_ret
    exact ⟨rfl, Below.refl _ _⟩
  by_cases b1 : 1048576 < l1
  · have bb : (1048576 : Int) < (l1 : Int) := by omega
    have bb0 : ¬ (1048576 : Int) < (l0 : Int) := by omega
    clear hv0 hm0 hz0 hv1 hm1 hz1 hr1
    go_enter Tryz.func3, Tryz.ntmps3
    go_wp2
    go_ret
    exact ⟨rfl, Below.refl _ _⟩
  have bb0 : ¬ (1048576 : Int) < (l0 : Int) := by omega
  have bb1 : ¬ (1048576 : Int) < (l1 : Int) := by omega
  have FO : Hid (Calls Tryz.prog 4 #[.slice a0 l0 c0] w fun e w' => (∃ (o : Option Addr) (m c : Nat) (F : Nat → Fi), e = .returned (.slice o m c) ∧ FsOk m F ∧ EO w' w.heap.size 32 3 (.slice o m c) m (fiF F)) ∧ Below w.heap.size w w') := filesOf_ex a0 l0 c0 z0 hz0 hm0 w hv0
  have FC0 : Hid (∀ u : World, Below w.heap.size w u → Calls Tryz.prog 5 #[.slice a0 l0 c0] u fun e w' => (∃ x : Fcl, e = .returned (.agg #[.int .i64 x.k, .int .i64 x.a, .int .i64 x.n, .string x.p, .string x.o, .string x.d]) ∧ FclD x) ∧ Below u.heap.size u w') := fun u hu => fileCallOf_ex a0 l0 c0 z0 hz0 hm0 u (hv0.below hu)
  have FC1 : Hid (∀ u : World, Below w.heap.size w u → Calls Tryz.prog 5 #[.slice a1 l1 c1] u fun e w' => (∃ x : Fcl, e = .returned (.agg #[.int .i64 x.k, .int .i64 x.a, .int .i64 x.n, .string x.p, .string x.o, .string x.d]) ∧ FclD x) ∧ Below u.heap.size u w') := fun u hu => fileCallOf_ex a1 l1 c1 z1 hz1 hm1 u (hv1.below hu)
  clear hv0 hz0 hm0 b0 b1 hv1 hz1 hm1 hr1
  go_enter Tryz.func3, Tryz.ntmps3
  go_wp2_with fail
  refine FO.out.mono ?_
  rintro e w1 ⟨⟨o, n, c, F, rfl, hF, hE⟩, hb⟩
  have HF : Hid (FsOk n F) := hF
  have HE : Hid (Els w1 3 o n (fiF F)) := hE.els
  have HS : Hid (SlP o n c) := hE.slp
  have A1 : Hid (Below w.heap.size w w1) := hb
  have hn : n ≤ 12 := hF.1
  clear hE hF hb FO
  go_wp2_with fail
  refine (FC0.out w1 A1.out).mono ?_
  rintro e w2 ⟨⟨x, rfl, hx⟩, hb⟩
  replace HE : Hid (Els w2 3 o n (fiF F)) := HE.out.below hb
  replace A1 : Hid (Below w.heap.size w w2) := A1.out.trans (hb.mono A1.out.size)
  clear hb
  have HP : Hid (PthE x.p) := hx.2.2.2.1
  have fi := fieldFcl3 x.k x.a x.n x.p x.o x.d w2
  generalize x.p = fr at *
  clear hx FC0
  go_wp2_with fail
  refine (FC1.out w2 A1.out).mono ?_
  rintro e w3 ⟨⟨y, rfl, hx⟩, hb⟩
  replace HE : Hid (Els w3 3 o n (fiF F)) := HE.out.below hb
  replace A1 : Hid (Below w.heap.size w w3) := A1.out.trans (hb.mono A1.out.size)
  clear hb
  have HQ : Hid (PthE y.p) := hx.2.2.2.1
  clear fi
  have fi := fieldFcl3 y.k y.a y.n y.p y.o y.d w3
  generalize y.p = tp at *
  clear hx FC1
  have hf9 : fr.size ≤ 9 := HP.out.2
  have ht9 : tp.size ≤ 9 := HQ.out.2
  go_wp2_with fail
  refine (implMv_any o n c F fr tp (fun i hi => by have := (HF.out.2 i hi).1.1.1; omega) (by omega) HS.out w3 HE.out).mono ?_
  rintro e w4 ⟨⟨m, G, cd, hM, o3, c3, rfl, hE3⟩, hb⟩
  replace HE : Hid (Els w4 3 o n (fiF F)) := HE.out.below hb
  replace A1 : Hid (Below w.heap.size w w4) := A1.out.trans (hb.mono A1.out.size)
  clear hb
  have HM : Hid (MvIs n F fr tp m G cd) := hM
  have HG : Hid (Els w4 3 o3 m (fiF G)) := hE3.els
  have HSG : Hid (SlP o3 m c3) := hE3.slp
  clear hE3 hM fi
  go_wp2_with fail
  refine (specMv_any o n c F fr tp (fun i hi => by have := (HF.out.2 i hi).1.1.1; omega) (by omega) (by omega) (by omega) HS.out w4 HE.out).mono ?_
  rintro e w5 ⟨⟨m', G', cd', hM, o4, c4, rfl, hE4⟩, hb⟩
  replace HE : Hid (Els w5 3 o n (fiF F)) := HE.out.below hb
  replace A1 : Hid (Below w.heap.size w w5) := A1.out.trans (hb.mono A1.out.size)
  replace HG : Hid (Els w5 3 o3 m (fiF G)) := HG.out.below hb
  clear hb
  obtain ⟨rfl, rfl, hG⟩ := HM.out.uniq hM
  have HG4 : Hid (Els w5 3 o4 m (fiF G')) := hE4.els
  have HGG : Hid (SameF m m G G') := ⟨rfl, hG⟩
  clear hE4 hM hG
  have hm : m ≤ 1048576 := HM.out.le
  have ne : (cd != cd) = false := by simp
  go_wp2_with fail
  refine (sameFiles_any o3 o4 m m c3 c4 G G' hm hm w5 HG.out HG4.out).mono ?_
  rintro e w6 ⟨⟨y, rfl, hy⟩, hb⟩
  replace HE : Hid (Els w6 3 o n (fiF F)) := HE.out.below hb
  replace A1 : Hid (Below w.heap.size w w6) := A1.out.trans (hb.mono A1.out.size)
  replace HG : Hid (Els w6 3 o3 m (fiF G)) := HG.out.below hb
  clear hb
  obtain rfl : y = true := hy.2 HGG.out
  clear hy HGG HG4
  by_cases hcd : cd = 0
  rotate_left
  · have hcb : (cd != 0) = true := by simpa using hcd
    clear hcd
    go_wp2
    go_ret
    exact ⟨rfl, A1.out⟩
  subst hcd
  clear ne
  by_cases hft : fr = tp
  · have g0 : (fr.toList == tp.toList) = true := by rw [hft]; simp
    clear hft
    go_wp2
    go_ret
    exact ⟨rfl, A1.out⟩
  have g0 : (fr.toList == tp.toList) = false := textNe hft
  obtain ⟨kk, hY⟩ := HM.out.yes hft
  have HY : Hid (MvYes n F fr tp kk m G) := hY
  have HFT : Hid (fr ≠ tp) := hft
  clear hft hY HM
  go_wp2_with fail
  go_loopw [12, 13] (fun sv iv wr => ∃ (k : Nat) (b : Bool), k ≤ n ∧ iv = .int .i64 k ∧ sv = .bool b ∧ w6 = wr ∧ (b = true ↔ StoodP F tp k)) (fun _ iv _ => n - (intOf iv).toNat)
  case atStart => exact ⟨0, false, by omega, rfl, rfl, rfl, ⟨(fun q => by cases q), (fun ⟨j, hj, _⟩ => absurd hj (by omega))⟩⟩
  case round =>
    obtain ⟨k, b, hk, rfl, rfl, rfl, hst⟩ := hrel
    have HST : Hid (b = true ↔ StoodP F tp k) := hst
    clear hst
    by_cases hlt : k < n
    · have hlt' : (k : Int) < (n : Int) := by omega
      obtain ⟨g1, q1, rfl, hc⟩ := HE.out.opened (by omega)
      obtain ⟨d0, d1, d2⟩ := Els.fiC hc k hlt
      have HNX := StoodP.next HST.out
      clear hc d1 d2
      cases b with
      | true =>
        have HX : Hid (true = true ↔ StoodP F tp (k + 1)) := HNX.2.2 rfl
        clear HNX d0
        go_wp2
        go_roundw
        case rel => exact ⟨k + 1, true, by omega, by go_num, rfl, trivial, HX.out⟩
        case measure => simp [intOf]; omega
      | false =>
        by_cases he : (F k).p = tp
        · have HX : Hid (true = true ↔ StoodP F tp (k + 1)) := HNX.1 he
          have g1 : ((F k).p.toList == tp.toList) = true := by rw [he]; simp
          clear HNX he
          go_wp2
          go_roundw
          case rel => exact ⟨k + 1, true, by omega, by go_num, rfl, trivial, HX.out⟩
          case measure => simp [intOf]; omega
        · have HX : Hid (false = true ↔ StoodP F tp (k + 1)) := HNX.2.1 he
          have g1 : ((F k).p.toList == tp.toList) = false := textNe he
          clear HNX he
          go_wp2
          go_roundw
          case rel => exact ⟨k + 1, false, by omega, by go_num, rfl, trivial, HX.out⟩
          case measure => simp [intOf]; omega
    · obtain rfl : k = n := by omega
      have hlt' : ¬ (k : Int) < (k : Int) := by omega
      have A1 := A1
      go_wp2_with fail
      go_loopw [14] (fun iv wr => ∃ j : Nat, j ≤ m ∧ iv = .int .i64 j ∧ w6 = wr) (fun iv _ => m - (intOf iv).toNat)
      case atStart => exact ⟨0, by omega, rfl, rfl⟩
      case round =>
        obtain ⟨j, hj, rfl, rfl⟩ := hrel
        by_cases hjl : j < m
        · have hjl' : (j : Int) < (m : Int) := by omega
          obtain ⟨g1, q1, rfl, hc⟩ := HG.out.opened (by omega)
          obtain ⟨d0, d1, d2⟩ := Els.fiC hc j hjl
          have g1 : ((G j).p.toList == fr.toList) = false := textNe (HY.out.gone hjl)
          clear hc d1 d2
          go_wp2
          go_roundw
          case rel => exact ⟨j + 1, by omega, by go_num, trivial⟩
          case measure => simp [intOf]; omega
        · obtain rfl : j = m := by omega
          have hjl' : ¬ (j : Int) < (j : Int) := by omega
          have hj12 : j ≤ 12 := HY.out.keeps.1
          go_wp2_with fail
          refine (implFilesOK_any o3 j c3 G (fun i hi => by have := (HY.out.keeps.2 i hi).1.1.1; omega) HSG.out w6 HG.out).mono ?_
          rintro e w7 ⟨⟨y7, rfl, hy⟩, hb⟩
          replace HE : Hid (Els w7 3 o k (fiF F)) := HE.out.below hb
          replace A1 : Hid (Below w.heap.size w w7) := A1.out.trans (hb.mono A1.out.size)
          replace HG : Hid (Els w7 3 o3 j (fiF G)) := HG.out.below hb
          clear hb
          obtain rfl : y7 = true := hy.2 HY.out.keeps
          clear hy
          cases b with
          | true =>
            rcases Bool.eq_false_or_eq_true ((j : Int) != (k : Int)) with njk | njk
            · skip
              go_wp2_with fail
              refine (implMv_any o3 j c3 G tp fr (fun i hi => by have := (HY.out.keeps.2 i hi).1.1.1; omega) (by omega) HSG.out w7 HG.out).mono ?_
              rintro e w8 ⟨⟨m8, G8, cd8, hM8, o8, c8, rfl, hE8⟩, hb⟩
              replace HE : Hid (Els w8 3 o k (fiF F)) := HE.out.below hb
              replace A1 : Hid (Below w.heap.size w w8) := A1.out.trans (hb.mono A1.out.size)
              replace HG : Hid (Els w8 3 o3 j (fiF G)) := HG.out.below hb
              clear hb
              clear hM8 hE8
              go_wp2
              go_ret
              exact ⟨rfl, A1.out⟩
            · skip
              go_wp2_with fail
              refine (implMv_any o3 j c3 G tp fr (fun i hi => by have := (HY.out.keeps.2 i hi).1.1.1; omega) (by omega) HSG.out w7 HG.out).mono ?_
              rintro e w8 ⟨⟨m8, G8, cd8, hM8, o8, c8, rfl, hE8⟩, hb⟩
              replace HE : Hid (Els w8 3 o k (fiF F)) := HE.out.below hb
              replace A1 : Hid (Below w.heap.size w w8) := A1.out.trans (hb.mono A1.out.size)
              replace HG : Hid (Els w8 3 o3 j (fiF G)) := HG.out.below hb
              clear hb
              clear hM8 hE8
              go_wp2
              go_ret
              exact ⟨rfl, A1.out⟩
          | false =>
            have hno : ∀ i, i < k → (F i).p ≠ tp := fun i hi e => by have := HST.out.2 ⟨i, hi, e⟩; cases this
            obtain ⟨hjk, hBk⟩ := HY.out.back hno
            have HBK : Hid (MvIs j G tp fr k F 0) := hBk
            have njk : ((j : Int) != (k : Int)) = false := by simp; omega
            clear hno hBk hjk
            go_wp2_with fail
            refine (implMv_any o3 j c3 G tp fr (fun i hi => by have := (HY.out.keeps.2 i hi).1.1.1; omega) (by omega) HSG.out w7 HG.out).mono ?_
            rintro e w8 ⟨⟨m8, G8, cd8, hM8, o8, c8, rfl, hE8⟩, hb⟩
            replace HE : Hid (Els w8 3 o k (fiF F)) := HE.out.below hb
            replace A1 : Hid (Below w.heap.size w w8) := A1.out.trans (hb.mono A1.out.size)
            replace HG : Hid (Els w8 3 o3 j (fiF G)) := HG.out.below hb
            clear hb
            obtain ⟨rfl, rfl, hG8⟩ := HBK.out.uniq hM8
            have HG8 : Hid (Els w8 3 o8 k (fiF F)) := hE8.els.congr (fiF_congr (fun i hi => (hG8 i hi).symm))
            clear hM8 hE8 hG8
            go_wp2_with fail
            refine (sameFiles_any o8 o k k c8 c F F (by omega) (by omega) w8 HG8.out HE.out).mono ?_
            rintro e w9 ⟨⟨y9, rfl, hy⟩, hb⟩
            replace HE : Hid (Els w9 3 o k (fiF F)) := HE.out.below hb
            replace A1 : Hid (Below w.heap.size w w9) := A1.out.trans (hb.mono A1.out.size)
            replace HG : Hid (Els w9 3 o3 j (fiF G)) := HG.out.below hb
            clear hb
            obtain rfl : y9 = true := hy.2 ⟨rfl, fun _ _ => rfl⟩
            clear hy
            go_wp2
            go_ret
            exact ⟨rfl, A1.out⟩
end Go.Proofs.YtbdoablokoghbaaGreat
