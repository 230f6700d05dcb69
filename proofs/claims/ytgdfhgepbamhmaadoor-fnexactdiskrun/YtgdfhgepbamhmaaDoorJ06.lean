/-
  DiskRun of the program, at right acts.
-/
import Derived.Test.YtgdfhgepbamhmaaDoorRunI
import Derived.Test.YtgdfhgepbamhmaaDoorJ05
namespace Go.Proofs.YtgdfhgepbamhmaaDoor
open Go.ChangeShapes Go.WideShapes Go.ChangeAt Go.RowKit
set_option linter.unusedVariables false
theorem intR_of {w : World} {B g n : Nat} {C : Nat → Int} (hB : B ≤ g) (hn : n ≤ 1048576) (h : w.rowIs g 3 n (fun i => .int .i64 (C i))) : IntR w B (.slice (some ⟨g, 0, none⟩) n n) n C := by
  obtain ⟨c, hc, hs, he⟩ := h
  refine ⟨by simp, .inr ⟨g, n, c, rfl, hB, hc, Nat.le_refl _, by unfold maxLen; omega, by omega, ?_⟩⟩
  apply List.ext_getElem?
  intro i
  rw [List.getElem?_take]
  by_cases hi : i < n
  · rw [if_pos (by omega), Array.getElem?_toList, he i hi]
    simp [hi]
  · rw [if_neg (by omega)]
    simp [hi]
theorem mkIntsR (n : Nat) (hn : n ≤ 1048576) (w : World) : (Instr.makeSlice 28 (.int .i64 n) (.int .i64 n)).run Tryd.prog w = .ok (.slice (some ⟨w.heap.size, 0, none⟩) n n) (w.alloc (.cells (madeCells #[.int .i64 0] n) 3)) :=
  run_make_row' (P := Tryd.prog) 28 3 (.int .i64 0) 8 Tryd.underlying28 Tryd.infoIntA rfl .i64 .i64 n (by omega) (by omega) w
theorem Drv.offC {w w' : World} {B q b C : Nat} {d : Dk} {v0 v1 v2 : Value} (h : Drv w B q b d v0 v1 v2) (ho : OnlyB C w w') (hn : NotD C q b v0 v1 v2) : Drv w' B q b d v0 v1 v2 :=
  ⟨h.box.onlyB ho (Ne.symm hn.1), h.t0.onlyB ho hn.2.2.1, h.t1.onlyB ho hn.2.2.2.1, h.t2.onlyB ho hn.2.2.2.2, h.m.onlyB ho (Ne.symm hn.2.1), h.s0, h.s1, h.s2, h.qb, h.n01, h.n02, h.n12, h.hq, h.hb⟩
/-- As RetRun, and the codes' row is none of the disk's. -/
def RetRunS (B : Nat) (w' : World) (e : Ending) (d : Dk) (n : Nat) (C : Nat → Int) (code : Int) : Prop := ∃ (a0 a1 a2 : Option Addr) (c0 c1 c2 g0 g1 g2 : Nat) (iv : Value), e = .returned (.tuple #[.agg #[.slice a0 d.nb c0, .slice a1 d.nc c1, .slice a2 d.ns c2], iv, .int .i64 code]) ∧ RowD w' d a0 a1 a2 g0 g1 g2 ∧ GeD d g0 g1 g2 B ∧ IntR w' B iv n C ∧ (a0 = none → c0 = 0) ∧ (a1 = none → c1 = 0) ∧ (a2 = none → c2 = 0) ∧
  (∀ g, iv.ownBlock = some g → (Value.slice a0 d.nb c0).ownBlock ≠ some g ∧ (Value.slice a1 d.nc c1).ownBlock ≠ some g ∧ (Value.slice a2 d.ns c2).ownBlock ≠ some g)
theorem RetRunS.ret {B : Nat} {w' : World} {e : Ending} {d : Dk} {n : Nat} {C : Nat → Int} {code : Int} (h : RetRunS B w' e d n C code) : RetRun B w' e d n C code := by
  obtain ⟨a0, a1, a2, c0, c1, c2, g0, g1, g2, iv, h1, h2, h3, h4, h5, h6, h7, _⟩ := h
  exact ⟨a0, a1, a2, c0, c1, c2, g0, g1, g2, iv, h1, h2, h3, h4, h5, h6, h7⟩
set_option maxRecDepth 100000 in
set_option maxHeartbeats 8000000 in
theorem implRun_own (x : Int) (hx : 1 ≤ x ∧ x ≤ 64) (n : Nat) (hn : n ≤ 120) (A : Nat → Ac) (hA : ∀ i, i < n → (A i).s.size ≤ 65536 ∧ (A i).nk ≤ 4096) (ad : Option Addr) (c : Nat) (p0 p1 p2 p3 p4 : Addr) (w : World) (h : Acts w ad n A) (hE : Errs w p0 p1 p2 p3 p4) :
    Calls Tryd.prog 7 #[.int .i64 x, .slice ad n c] w fun e w' => RetRunS w.heap.size w' e (runD (newD x.toNat) A n) n (runC (newD x.toNat) A) 0 ∧ Below w.heap.size w w' := by
  have hok : (newD x.toNat).Ok := newD_ok x.toNat (by omega) (by omega)
  have ROK : Hid (∀ q, (runD (newD x.toNat) A q).Ok) := runD_ok hok A
  have NW : Hid (∀ w : World, Calls Tryd.prog 21 #[.int .i64 x] w fun e w' => (∃ g, w.heap.size ≤ g ∧ e = .returned (.tuple #[.agg #[.slice (some ⟨g, 0, none⟩) x.toNat x.toNat, .slice none 0 0, .slice none 0 0], .int .i64 0]) ∧ Rows3 w' w.heap.size (newD x.toNat) (.slice (some ⟨g, 0, none⟩) x.toNat x.toNat) (.slice none 0 0) (.slice none 0 0)) ∧ Below w.heap.size w w') := fun w => implNew_own x hx.1 hx.2 w
  have DO : Hid (∀ (a0 : Option Addr) (c0 : Nat) (w : World), Calls Tryd.prog 22 #[.agg #[.slice a0 x.toNat c0, .slice none 0 0, .slice none 0 0]] w fun e w' => e = .returned (.pointer (some ⟨w.heap.size + 2, 0, none⟩)) ∧ Box4 w' (w.heap.size + 2) 58 (.slice a0 x.toNat c0) (.slice none 0 0) (.slice none 0 0) (.map (some (w.heap.size + 1))) ∧ MapI w' (w.heap.size + 1) (lastM (newD x.toNat).A (newD x.toNat).D 0) ∧ Below w.heap.size w w') := fun a0 c0 w => driveOf_any (newD x.toNat) a0 none none c0 0 0 (by show 0 ≤ 4096; omega) w (fun i hi => absurd hi (Nat.not_lt_zero i))
  have HA : Hid (∀ i, i < n → (A i).s.size ≤ 65536 ∧ (A i).nk ≤ 4096) := hA
  have HX : Hid (Acts w ad n A) := h
  have HE : Hid (Errs w p0 p1 p2 p3 p4) := hE
  have x1 : ¬ (4096 : Int) < (n : Int) := by omega
  have x2 : ¬ (120 : Int) < (n : Int) := by omega
  have L1 : Below w.heap.size w (w.alloc (.cells #[.slice none 0 0, .slice none 0 0, .slice none 0 0] 27)) := (Below.refl _ _).alloc (Nat.le_refl _) _
  have G1 : (w.alloc (.cells #[.slice none 0 0, .slice none 0 0, .slice none 0 0] 27)).heap.size = w.heap.size + 1 := by simp
  have Z1 : Hid (Box3 (w.alloc (.cells #[.slice none 0 0, .slice none 0 0, .slice none 0 0] 27)) w.heap.size 27 (.slice none 0 0) (.slice none 0 0) (.slice none 0 0)) := Box3.made _ _ _ _ _
  have B1 : Hid (Below w.heap.size w (w.alloc (.cells #[.slice none 0 0, .slice none 0 0, .slice none 0 0] 27))) := L1
  have hmk := mkIntsR n (by omega)
  clear h hE hA hok L1
  go_enter Tryd.func7, Tryd.ntmps7
  go_wp2_with fail
  refine (NW.out _).mono ?_
  rintro e w1 ⟨⟨g, hg, rfl, hR⟩, hb⟩
  have hg1 : w.heap.size + 1 ≤ g := by omega
  have L2 : Below w1.heap.size w1 (w1.alloc (.cells #[.slice (some ⟨g, 0, none⟩) x.toNat x.toNat, .slice none 0 0, .slice none 0 0] 27)) := (Below.refl _ _).alloc (Nat.le_refl _) _
  have hb2 := hb.trans (L2.mono hb.size)
  have B2 : Hid (Below w.heap.size w (w1.alloc (.cells #[.slice (some ⟨g, 0, none⟩) x.toNat x.toNat, .slice none 0 0, .slice none 0 0] 27))) := B1.out.trans (hb2.mono B1.out.size)
  have Z2 : Hid (Box3 (w1.alloc (.cells #[.slice (some ⟨g, 0, none⟩) x.toNat x.toNat, .slice none 0 0, .slice none 0 0] 27)) w.heap.size 27 (.slice none 0 0) (.slice none 0 0) (.slice none 0 0)) := Z1.out.below hb2
  have Y2 : Hid (Box3 (w1.alloc (.cells #[.slice (some ⟨g, 0, none⟩) x.toNat x.toNat, .slice none 0 0, .slice none 0 0] 27)) w1.heap.size 27 (.slice (some ⟨g, 0, none⟩) x.toNat x.toNat) (.slice none 0 0) (.slice none 0 0)) := Box3.made _ _ _ _ _
  have R2 : Hid (Rows3 (w1.alloc (.cells #[.slice (some ⟨g, 0, none⟩) x.toNat x.toNat, .slice none 0 0, .slice none 0 0] 27)) (w.heap.size + 1) (newD x.toNat) (.slice (some ⟨g, 0, none⟩) x.toNat x.toNat) (.slice none 0 0) (.slice none 0 0)) := by
    have q := hR.below L2
    rw [G1] at q
    exact q
  clear hb hb2 L2 hR B1 Z1 NW hg
  go_wp2_with fail
  generalize w1.alloc (.cells #[.slice (some ⟨g, 0, none⟩) x.toNat x.toNat, .slice none 0 0, .slice none 0 0] 27) = u at *
  generalize w1.heap.size = qd at *
  go_loopw [34] (fun i wr => ∃ k : Nat, k ≤ n ∧ i = .int .i64 k ∧ Below u.heap.size u wr) (fun i _ => n - (intOf i).toNat)
  case atStart => exact ⟨0, Nat.zero_le _, rfl, Below.refl _ _⟩
  case round =>
    obtain ⟨k, hk, rfl, hb⟩ := hrel
    have BK : Hid (Below u.heap.size u wr) := hb
    have BW : Hid (Below w.heap.size w wr) := B2.out.trans (hb.mono B2.out.size)
    have hsw := BW.out.size
    clear hb
    by_cases hlt : k < n
    · have hlt' : (k : Int) < (n : Int) := by omega
      obtain ⟨b, off, ak, ck, rfl, hac, -⟩ := HX.out k hlt
      have hac2 := hac.below BW.out
      obtain ⟨c0, c1, c2, c3, c4⟩ := hac2
      have s1 : ¬ (65536 : Int) < ((A k).s.size : Int) := by have := (HA.out k hlt).1; omega
      have s2 : ¬ (4096 : Int) < ((A k).nk : Int) := by have := (HA.out k hlt).2; omega
      have BN : Hid (Below u.heap.size u (wr.alloc (.cells #[.int .i64 (A k).kd, .int .i64 (A k).x, .string (A k).s, .slice ak (A k).nk ck, .int .i64 (A k).t] 46))) := BK.out.alloc BK.out.size _
      clear hac
      go_wp2
      go_roundw
      case rel => exact ⟨k + 1, by omega, by go_num, BN.out⟩
      case measure => simp [intOf]; omega
    · have hlt' : ¬ (k : Int) < (n : Int) := by omega
      have Y3 := Y2.out.below BK.out
      have y0 := Y3.c0
      have y1 := Y3.c1
      have y2 := Y3.c2
      have R3 : Hid (Rows3 wr (w.heap.size + 1) (newD x.toNat) (.slice (some ⟨g, 0, none⟩) x.toNat x.toNat) (.slice none 0 0) (.slice none 0 0)) := R2.out.below BK.out
      have Z3 : Hid (Box3 wr w.heap.size 27 (.slice none 0 0) (.slice none 0 0) (.slice none 0 0)) := Z2.out.below BK.out
      have hzw : w.heap.size < wr.heap.size := Z3.out.lt
      clear Y3 Y2 R2 Z2 B2 BK hk hlt
      go_wp2_with fail
      refine (DO.out _ _ _).mono ?_
      rintro e w2 ⟨rfl, hq, hm, hb⟩
      have hgl : g < wr.heap.size := (World.ownsRow.lt R3.out.t0 g rfl).2
      have R4 := R3.out.below hb
      have D4 : Drv w2 (w.heap.size + 1) (wr.heap.size + 2) (wr.heap.size + 1) (newD x.toNat) (.slice (some ⟨g, 0, none⟩) x.toNat x.toNat) (.slice none 0 0) (.slice none 0 0) := ⟨hq, R4.t0, R4.t1, R4.t2, hm, ⟨fun e => by have e' : g = _ := Option.some.inj e; omega, fun e => by have e' : g = _ := Option.some.inj e; omega⟩, ⟨(fun e => by cases e), (fun e => by cases e)⟩, ⟨(fun e => by cases e), (fun e => by cases e)⟩, by omega, R4.n01, R4.n02, R4.n12, by omega, by omega⟩
      have hql : wr.heap.size + 2 < w2.heap.size := hq.lt
      have L5 : Below w2.heap.size w2 (w2.alloc (.cells (madeCells #[.int .i64 0] n) 3)) := (Below.refl _ _).alloc (Nat.le_refl _) _
      have D5 : Hid (Drv (w2.alloc (.cells (madeCells #[.int .i64 0] n) 3)) (w.heap.size + 1) (wr.heap.size + 2) (wr.heap.size + 1) (newD x.toNat) (.slice (some ⟨g, 0, none⟩) x.toNat x.toNat) (.slice none 0 0) (.slice none 0 0)) := D4.below L5
      have C5 : Hid ((w2.alloc (.cells (madeCells #[.int .i64 0] n) 3)).rowIs w2.heap.size 3 n (fun j => .int .i64 (if j < 0 then runC (newD x.toNat) A j else 0))) := (World.rowIs_made w2 (.int .i64 0) n 3).congr (fun i _ => by rw [if_neg (Nat.not_lt_zero i)])
      have N5 : Hid (NotD w2.heap.size (wr.heap.size + 2) (wr.heap.size + 1) (.slice (some ⟨g, 0, none⟩) x.toNat x.toNat) (.slice none 0 0) (.slice none 0 0)) := ⟨by omega, by omega, fun e => by have e' : g = _ := Option.some.inj e; omega, (fun e => by cases e), (fun e => by cases e)⟩
      have hb5 := hb.trans (L5.mono hb.size)
      have B5 : Hid (Below w.heap.size w (w2.alloc (.cells (madeCells #[.int .i64 0] n) 3))) := BW.out.trans (hb5.mono BW.out.size)
      have Z5 : Hid (Box3 (w2.alloc (.cells (madeCells #[.int .i64 0] n) 3)) w.heap.size 27 (.slice none 0 0) (.slice none 0 0) (.slice none 0 0)) := Z3.out.below hb5
      have S5 : w.heap.size + 1 ≤ (w2.alloc (.cells (madeCells #[.int .i64 0] n) 3)).heap.size := by simp; omega
      clear hq hm hb R4 D4 L5 hb5 R3 Z3 DO y0 y1 y2 BW hsw hgl
      go_wp2_with fail
      generalize w2.alloc (.cells (madeCells #[.int .i64 0] n) 3) = u5 at *
      generalize w2.heap.size = C at *
      generalize wr.heap.size = z at *
      clear hmk
      go_loopw [57] (fun i wr => ∃ (k : Nat) (v0 v1 v2 : Value), k ≤ n ∧ i = .int .i64 k ∧ Drv wr (w.heap.size + 1) (z + 2) (z + 1) (runD (newD x.toNat) A k) v0 v1 v2 ∧ wr.rowIs C 3 n (fun j => .int .i64 (if j < k then runC (newD x.toNat) A j else 0)) ∧ NotD C (z + 2) (z + 1) v0 v1 v2 ∧ Below (w.heap.size + 1) u5 wr) (fun i _ => n - (intOf i).toNat)
      case atStart => exact ⟨0, _, _, _, Nat.zero_le _, rfl, D5.out, C5.out, N5.out, Below.refl _ _⟩
      case round =>
        clear D5 C5 N5
        obtain ⟨k, v0, v1, v2, hk, rfl, hD, hC, hN, hb⟩ := hrel
        have HD : Hid (Drv wr (w.heap.size + 1) (z + 2) (z + 1) (runD (newD x.toNat) A k) v0 v1 v2) := hD
        have HCC : Hid (wr.rowIs C 3 n (fun j => .int .i64 (if j < k then runC (newD x.toNat) A j else 0))) := hC
        have HN : Hid (NotD C (z + 2) (z + 1) v0 v1 v2) := hN
        have HB : Hid (Below (w.heap.size + 1) u5 wr) := hb
        have BW : Hid (Below w.heap.size w wr) := B5.out.trans (hb.mono (by omega))
        have hsw : w.heap.size + 1 ≤ wr.heap.size := Nat.le_trans S5 hb.size
        clear hD hC hN hb
        by_cases hlt : k < n
        · have hlt' : (k : Int) < (n : Int) := by omega
          obtain ⟨ba, off, ak, ck, rfl, hac, hbo⟩ := HX.out k hlt
          obtain ⟨c0, c1, c2, c3, c4⟩ := hac.below BW.out
          have L6 : Below wr.heap.size wr (wr.alloc (.cells #[.int .i64 (A k).kd, .int .i64 (A k).x, .string (A k).s, .slice ak (A k).nk ck, .int .i64 (A k).t] 46)) := (Below.refl _ _).alloc (Nat.le_refl _) _
          have B6 : Hid (Below w.heap.size w (wr.alloc (.cells #[.int .i64 (A k).kd, .int .i64 (A k).x, .string (A k).s, .slice ak (A k).nk ck, .int .i64 (A k).t] 46))) := BW.out.trans (L6.mono BW.out.size)
          have D6 := HD.out.below L6
          have K6 : Bls (wr.alloc (.cells #[.int .i64 (A k).kd, .int .i64 (A k).x, .string (A k).s, .slice ak (A k).nk ck, .int .i64 (A k).t] 46)) (w.heap.size + 1) ak (A k).nk (A k).K := fun i hi => by
            obtain ⟨b', o', e1, e2, e3⟩ := (hbo.bls.below B6.out) i hi
            exact ⟨b', o', e1, by omega, e3⟩
          have DD : Hid (Calls Tryd.prog 24 #[.pointer (some ⟨z + 2, 0, none⟩), .agg #[.int .i64 (A k).kd, .int .i64 (A k).x, .string (A k).s, .slice ak (A k).nk ck, .int .i64 (A k).t]] (wr.alloc (.cells #[.int .i64 (A k).kd, .int .i64 (A k).x, .string (A k).s, .slice ak (A k).nk ck, .int .i64 (A k).t] 46)) (DoPostK (w.heap.size + 1) (z + 2) (z + 1) (runD (newD x.toNat) A k) (A k) p0 p1 p2 p3 p4 v0 v1 v2 (wr.alloc (.cells #[.int .i64 (A k).kd, .int .i64 (A k).x, .string (A k).s, .slice ak (A k).nk ck, .int .i64 (A k).t] 46)))) := do_anyK (w.heap.size + 1) (z + 2) (z + 1) (runD (newD x.toNat) A k) (A k) v0 v1 v2 ak ck p0 p1 p2 p3 p4 (ROK.out k) _ (by have := L6.size; omega) (HE.out.below B6.out) D6 (by have := (HA.out k hlt).2; omega) K6
          have C6 : Hid ((wr.alloc (.cells #[.int .i64 (A k).kd, .int .i64 (A k).x, .string (A k).s, .slice ak (A k).nk ck, .int .i64 (A k).t] 46)).rowIs C 3 n (fun j => .int .i64 (if j < k then runC (newD x.toNat) A j else 0))) := World.rowIs.alloc HCC.out _
          have b60 : (wr.alloc (.cells #[.int .i64 (A k).kd, .int .i64 (A k).x, .string (A k).s, .slice ak (A k).nk ck, .int .i64 (A k).t] 46)).cell? ⟨wr.heap.size, 0, none⟩ = some (.int .i64 (A k).kd) := by simp
          have B66 : Hid (Below (w.heap.size + 1) u5 (wr.alloc (.cells #[.int .i64 (A k).kd, .int .i64 (A k).x, .string (A k).s, .slice ak (A k).nk ck, .int .i64 (A k).t] 46))) := HB.out.trans (L6.mono hsw)
          clear hac hbo L6 D6 K6 HD HCC HB
          go_wp2_with fail
          generalize (wr.alloc (.cells #[.int .i64 (A k).kd, .int .i64 (A k).x, .string (A k).s, .slice ak (A k).nk ck, .int .i64 (A k).t] 46)) = v6 at *
          refine DD.out.mono ?_
          rintro e w5 ⟨rfl, ⟨t0, t1, t2, hv, hkp⟩, hb⟩
          obtain ⟨hblk, hN'⟩ := hkp C (World.rowIs.lt C6.out) HN.out
          have C7 := C6.out.of_block hblk
          have B7 : Hid (Below w.heap.size w w5) := B6.out.trans (hb.mono (by omega))
          have B77 : Hid (Below (w.heap.size + 1) u5 w5) := B66.out.trans hb
          have hc7 := World.rowIs.cell C7 hlt
          have hf7 := World.rowIs.frozen C7 k
          have O8 : OnlyB C w5 (w5.setCell ⟨C, k, none⟩ (.int .i64 (codeF ((runD (newD x.toNat) A k).fault (A k))))) := (OnlyB.refl C w5).setCell k _
          have D8 : Hid (Drv (w5.setCell ⟨C, k, none⟩ (.int .i64 (codeF ((runD (newD x.toNat) A k).fault (A k))))) (w.heap.size + 1) (z + 2) (z + 1) (runD (newD x.toNat) A (k + 1)) t0 t1 t2) := hv.offC O8 hN'
          have C8 : Hid ((w5.setCell ⟨C, k, none⟩ (.int .i64 (codeF ((runD (newD x.toNat) A k).fault (A k))))).rowIs C 3 n (fun j => .int .i64 (if j < k + 1 then runC (newD x.toNat) A j else 0))) := (World.rowIs.set C7 k _).congr (fun j hj => by
            by_cases e : j = k
            · subst e
              rw [if_pos rfl, if_pos (Nat.lt_succ_self _)]
              rfl
            · rw [if_neg e]
              by_cases e2 : j < k
              · rw [if_pos e2, if_pos (by omega)]
              · rw [if_neg e2, if_neg (by omega)])
          have B8 : Hid (Below (w.heap.size + 1) u5 (w5.setCell ⟨C, k, none⟩ (.int .i64 (codeF ((runD (newD x.toNat) A k).fault (A k)))))) := B77.out.trans (O8.toBelow (by omega) (by have := B77.out.size; omega))
          have N8 : Hid (NotD C (z + 2) (z + 1) t0 t1 t2) := hN'
          have DC : Hid (Calls Tryd.prog 23 #[faultP p0 p1 p2 p3 p4 ((runD (newD x.toNat) A k).fault (A k))] w5 fun e w' => e = .returned (.int .i64 (codeF ((runD (newD x.toNat) A k).fault (A k)))) ∧ w5 = w') := diskCode_f p0 p1 p2 p3 p4 _ w5 (HE.out.below B7.out)
          clear hv hkp hb hblk hN' C7 O8 C6 B6 B66 DD HN B7 B77 b60 c0 c1 c2 c3 c4
          go_wp2_with fail
          refine DC.out.mono ?_
          rintro e w6 ⟨rfl, rfl⟩
          clear DC
          go_wp2
          go_roundw
          case rel => exact ⟨k + 1, t0, t1, t2, by omega, by go_num, D8.out, C8.out, N8.out, B8.out⟩
          case measure => simp [intOf]; omega
        · have hlt' : ¬ (k : Int) < (n : Int) := by omega
          obtain rfl : k = n := by omega
          obtain ⟨i0, i1, i2, k0, k1, k2, g0, g1, g2, rfl, rfl, rfl, hrd, hg0, hg1, hg2⟩ := HD.out.rows.rowD
          have ZN : Hid ((i0 = none → k0 = 0) ∧ (i1 = none → k1 = 0) ∧ (i2 = none → k2 = 0)) := ⟨own_zn HD.out.t0, own_zn HD.out.t1, own_zn HD.out.t2⟩
          have Z6 : Box3 wr w.heap.size 27 (.slice none 0 0) (.slice none 0 0) (.slice none 0 0) := Z5.out.ofBlock (HB.out.block w.heap.size (by omega))
          have d0 := HD.out.box.c0
          have d1 := HD.out.box.c1
          have d2 := HD.out.box.c2
          have q0 := Z6.c0
          have q1 := Z6.c1
          have q2 := Z6.c2
          have f0 := Z6.fr 0
          have f1 := Z6.fr 1
          have f2 := Z6.fr 2
          have O9 : OnlyB w.heap.size wr (((wr.setCell ⟨w.heap.size, 0, none⟩ (.slice i0 (runD (newD x.toNat) A k).nb k0)).setCell ⟨w.heap.size, 1, none⟩ (.slice i1 (runD (newD x.toNat) A k).nc k1)).setCell ⟨w.heap.size, 2, none⟩ (.slice i2 (runD (newD x.toNat) A k).ns k2)) := (((OnlyB.refl _ wr).setCell 0 _).setCell 1 _).setCell 2 _
          have X9 : Hid (Box3 (((wr.setCell ⟨w.heap.size, 0, none⟩ (.slice i0 (runD (newD x.toNat) A k).nb k0)).setCell ⟨w.heap.size, 1, none⟩ (.slice i1 (runD (newD x.toNat) A k).nc k1)).setCell ⟨w.heap.size, 2, none⟩ (.slice i2 (runD (newD x.toNat) A k).ns k2)) w.heap.size 27 (.slice i0 (runD (newD x.toNat) A k).nb k0) (.slice i1 (runD (newD x.toNat) A k).nc k1) (.slice i2 (runD (newD x.toNat) A k).ns k2)) := ((Z6.set0 _).set1 _).set2 _
          have RD : Hid (RowD (((wr.setCell ⟨w.heap.size, 0, none⟩ (.slice i0 (runD (newD x.toNat) A k).nb k0)).setCell ⟨w.heap.size, 1, none⟩ (.slice i1 (runD (newD x.toNat) A k).nc k1)).setCell ⟨w.heap.size, 2, none⟩ (.slice i2 (runD (newD x.toNat) A k).ns k2)) (runD (newD x.toNat) A k) i0 i1 i2 g0 g1 g2) := hrd.keepR O9.keepR (.inr ⟨fun z => by have := hg0 z; omega, fun z => by have := hg1 z; omega, fun z => by have := hg2 z; omega⟩)
          have GD : Hid (GeD (runD (newD x.toNat) A k) g0 g1 g2 w.heap.size) := ⟨fun z => by have := hg0 z; omega, fun z => by have := hg1 z; omega, fun z => by have := hg2 z; omega⟩
          have IR : Hid (IntR (((wr.setCell ⟨w.heap.size, 0, none⟩ (.slice i0 (runD (newD x.toNat) A k).nb k0)).setCell ⟨w.heap.size, 1, none⟩ (.slice i1 (runD (newD x.toNat) A k).nc k1)).setCell ⟨w.heap.size, 2, none⟩ (.slice i2 (runD (newD x.toNat) A k).ns k2)) w.heap.size (.slice (some ⟨C, 0, none⟩) k k) k (runC (newD x.toNat) A)) := intR_of (by omega) (by omega) ((World.rowIs.of_block HCC.out (O9.block C (World.rowIs.lt HCC.out) (by omega))).congr (fun j hj => by rw [if_pos hj]))
          have BF : Hid (Below w.heap.size w (((wr.setCell ⟨w.heap.size, 0, none⟩ (.slice i0 (runD (newD x.toNat) A k).nb k0)).setCell ⟨w.heap.size, 1, none⟩ (.slice i1 (runD (newD x.toNat) A k).nc k1)).setCell ⟨w.heap.size, 2, none⟩ (.slice i2 (runD (newD x.toNat) A k).ns k2))) := BW.out.trans (O9.toBelow (Nat.le_refl _) BW.out.size)
          have SEP : Hid (∀ g, (Value.slice (some ⟨C, 0, none⟩) k k).ownBlock = some g → (Value.slice i0 (runD (newD x.toNat) A k).nb k0).ownBlock ≠ some g ∧ (Value.slice i1 (runD (newD x.toNat) A k).nc k1).ownBlock ≠ some g ∧ (Value.slice i2 (runD (newD x.toNat) A k).ns k2).ownBlock ≠ some g) := fun g e => by
            obtain rfl : C = g := Option.some.inj e
            exact ⟨HN.out.2.2.1, HN.out.2.2.2.1, HN.out.2.2.2.2⟩
          clear hrd hg0 hg1 hg2 Z6 O9 HD HCC HN HB BW HX HA HE ROK Z5 B5
          go_wp2
          generalize (((wr.setCell ⟨w.heap.size, 0, none⟩ (.slice i0 (runD (newD x.toNat) A k).nb k0)).setCell ⟨w.heap.size, 1, none⟩ (.slice i1 (runD (newD x.toNat) A k).nc k1)).setCell ⟨w.heap.size, 2, none⟩ (.slice i2 (runD (newD x.toNat) A k).ns k2)) = u9 at *
          clear d0 d1 d2 q0 q1 q2 f0 f1 f2
          have y0 := X9.out.c0
          have y1 := X9.out.c1
          have y2 := X9.out.c2
          exact ret_cell3 (b := w.heap.size) (x := .agg #[.slice i0 (runD (newD x.toNat) A k).nb k0, .slice i1 (runD (newD x.toNat) A k).nc k1, .slice i2 (runD (newD x.toNat) A k).ns k2]) Tryd.results7 rfl rfl rfl (by go_simp) ⟨⟨i0, i1, i2, k0, k1, k2, g0, g1, g2, _, rfl, RD.out, GD.out, IR.out, ZN.out.1, ZN.out.2.1, ZN.out.2.2, SEP.out⟩, BF.out⟩
theorem implRun_ok (x : Int) (hx : 1 ≤ x ∧ x ≤ 64) (n : Nat) (hn : n ≤ 120) (A : Nat → Ac) (hA : ∀ i, i < n → (A i).s.size ≤ 65536 ∧ (A i).nk ≤ 4096) (ad : Option Addr) (c : Nat) (p0 p1 p2 p3 p4 : Addr) (w : World) (h : Acts w ad n A) (hE : Errs w p0 p1 p2 p3 p4) :
    Calls Tryd.prog 7 #[.int .i64 x, .slice ad n c] w fun e w' => RetRun w.heap.size w' e (runD (newD x.toNat) A n) n (runC (newD x.toNat) A) 0 ∧ Below w.heap.size w w' :=
  (implRun_own x hx n hn A hA ad c p0 p1 p2 p3 p4 w h hE).mono fun e w' q => ⟨q.1.ret, q.2⟩
end Go.Proofs.YtgdfhgepbamhmaaDoor

/-
  DiskRun's other answers, of the program and of the model (written by tools/mkrunx.py).
-/
namespace Go.Proofs.YtgdfhgepbamhmaaDoor
open Go.ChangeShapes Go.WideShapes Go.ChangeAt Go.RowKit
set_option linter.unusedVariables false
theorem IntR.nilX (w : World) (B : Nat) : IntR w B (.slice none 0 0) 0 (fun _ => 0) := World.ownsRow_nil _ _ _ _
theorem IntR.litX (w : World) (B : Nat) (hB : B ≤ w.heap.size) : IntR (w.alloc (.cells #[] 3)) B (.slice (some ⟨w.heap.size, 0, none⟩) 0 0) 0 (fun _ => 0) :=
  World.ownsRow_made (e := 3) w #[] (base := B) (size := 1) 0 hB (Nat.zero_le _) rfl
theorem retRun_nil {w' : World} {B : Nat} {iv : Value} {code : Int} (h : IntR w' B iv 0 (fun _ => 0)) : RetRun B w' (.returned (.tuple #[.agg #[.slice none 0 0, .slice none 0 0, .slice none 0 0], iv, .int .i64 code])) (newD 0) 0 (fun _ => 0) code :=
  ⟨none, none, none, 0, 0, 0, 0, 0, 0, iv, rfl, RowD.empty _ _ _ _, ⟨fun h => absurd h (by decide), fun h => absurd h (by decide), fun h => absurd h (by decide)⟩, h, fun _ => rfl, fun _ => rfl, fun _ => rfl⟩
theorem retRunS_nil {w' : World} {B : Nat} {code : Int} : RetRunS B w' (.returned (.tuple #[.agg #[.slice none 0 0, .slice none 0 0, .slice none 0 0], .slice none 0 0, .int .i64 code])) (newD 0) 0 (fun _ => 0) code :=
  ⟨none, none, none, 0, 0, 0, 0, 0, 0, _, rfl, RowD.empty _ _ _ _, ⟨fun h => absurd h (by decide), fun h => absurd h (by decide), fun h => absurd h (by decide)⟩, IntR.nilX _ _, fun _ => rfl, fun _ => rfl, fun _ => rfl, fun g e => by cases e⟩
/-- An act is too long. -/
def LongA (a : Ac) : Prop := 65536 < a.s.size ∨ 4096 < a.nk
/-- The code of a run that is refused. -/
def BadRun (x : Int) (n : Nat) (A : Nat → Ac) (code : Int) : Prop :=
  (4096 < n ∧ code = 2) ∨ (n ≤ 4096 ∧ ((¬ (1 ≤ x ∧ x ≤ 64) ∧ code = 4) ∨ ((1 ≤ x ∧ x ≤ 64) ∧ ((120 < n ∧ code = 6) ∨ (n ≤ 120 ∧ (∃ m, m < n ∧ (∀ i, i < m → ¬ LongA (A i)) ∧ LongA (A m)) ∧ code = 2)))))
theorem badRun_ex (x : Int) (n : Nat) (A : Nat → Ac) : (∃ code, BadRun x n A code) ∨ ((1 ≤ x ∧ x ≤ 64) ∧ n ≤ 120 ∧ ∀ i, i < n → (A i).s.size ≤ 65536 ∧ (A i).nk ≤ 4096) := by
  by_cases h0 : 4096 < n
  · exact .inl ⟨2, .inl ⟨h0, rfl⟩⟩
  by_cases h1 : 1 ≤ x ∧ x ≤ 64
  · by_cases h2 : 120 < n
    · exact .inl ⟨6, .inr ⟨by omega, .inr ⟨h1, .inl ⟨h2, rfl⟩⟩⟩⟩
    · have key : ∀ m, m ≤ n → (∀ i, i < m → ¬ LongA (A i)) ∨ ∃ q, q < n ∧ (∀ i, i < q → ¬ LongA (A i)) ∧ LongA (A q) := fun m => by
        induction m with
        | zero => exact fun _ => .inl fun i hi => absurd hi (Nat.not_lt_zero _)
        | succ m ih =>
          intro hm
          rcases ih (by omega) with q | q
          · by_cases z : LongA (A m)
            · exact .inr ⟨m, by omega, q, z⟩
            · exact .inl fun i hi => by
                rcases Nat.lt_or_ge i m with y | y
                · exact q i y
                · obtain rfl : i = m := by omega
                  exact z
          · exact .inr q
      rcases key n (Nat.le_refl _) with q | q
      · exact .inr ⟨h1, by omega, fun i hi => by have := q i hi; unfold LongA at this; omega⟩
      · exact .inl ⟨2, .inr ⟨by omega, .inr ⟨h1, .inr ⟨by omega, q, rfl⟩⟩⟩⟩
  · exact .inl ⟨4, .inr ⟨by omega, .inl ⟨h1, rfl⟩⟩⟩
set_option maxRecDepth 100000 in
set_option maxHeartbeats 8000000 in
theorem implRun_few (x : Int) (n : Nat) (A : Nat → Ac) (code : Int) (hc : BadRun x n A code) (hlg : ¬ (n ≤ 120 ∧ (1 ≤ x ∧ x ≤ 64))) (ad : Option Addr) (c : Nat) (w : World) :
    Calls Tryd.prog 7 #[.int .i64 x, .slice ad n c] w fun e w' => RetRunS w.heap.size w' e (newD 0) 0 (fun _ => 0) code ∧ Below w.heap.size w w' := by
  have ND : Hid (∀ (d : Dk) (code : Int) (w : World), ((1 ≤ x ∧ x ≤ 64 ∧ d = newD x.toNat ∧ code = 0) ∨ (¬ (1 ≤ x ∧ x ≤ 64) ∧ d = newD 0 ∧ code = 4)) → Calls Tryd.prog 21 #[.int .i64 x] w fun e w' => RetD w.heap.size w' e d code ∧ Below w.heap.size w w') := fun d code w h => implNew_any x d code h w
  have A1 : Hid (Below w.heap.size w (w.alloc (.cells #[.slice none 0 0, .slice none 0 0, .slice none 0 0] 27))) := (Below.refl _ _).alloc (Nat.le_refl _) _
  have ZR : Hid (Box3 (w.alloc (.cells #[.slice none 0 0, .slice none 0 0, .slice none 0 0] 27)) w.heap.size 27 (.slice none 0 0) (.slice none 0 0) (.slice none 0 0)) := Box3.made _ _ _ _ _
  rcases hc with ⟨h4, rfl⟩ | ⟨h4, ⟨hx, rfl⟩ | ⟨hx, ⟨h5, rfl⟩ | ⟨h5, _⟩⟩⟩
  · have g4 : (4096 : Int) < (n : Int) := by omega
    clear h4 ND hlg
    go_enter Tryd.func7, Tryd.ntmps7
    go_upto_region 1 with fail
    generalize (w.alloc (.cells #[.slice none 0 0, .slice none 0 0, .slice none 0 0] 27)) = v0 at *
    have ZX : Hid (Box3 v0 w.heap.size 27 (.slice none 0 0) (.slice none 0 0) (.slice none 0 0)) := ZR.out
    have AX : Hid (Below w.heap.size w v0) := A1.out
    have IX : Hid (IntR v0 (w.heap.size + 1) (.slice none 0 0) 0 (fun _ => 0)) := IntR.nilX _ _
    clear ZR A1
    have e0 := ZX.out.c0
    have e1 := ZX.out.c1
    have e2 := ZX.out.c2
    have e3 := ZX.out.fr 0
    have e4 := ZX.out.fr 1
    have e5 := ZX.out.fr 2
    have OX : OnlyB w.heap.size v0 (((v0.setCell ⟨w.heap.size, 0, none⟩ (.slice none 0 0)).setCell ⟨w.heap.size, 1, none⟩ (.slice none 0 0)).setCell ⟨w.heap.size, 2, none⟩ (.slice none 0 0)) := (((OnlyB.refl _ v0).setCell 0 _).setCell 1 _).setCell 2 _
    have FX : Hid (Box3 (((v0.setCell ⟨w.heap.size, 0, none⟩ (.slice none 0 0)).setCell ⟨w.heap.size, 1, none⟩ (.slice none 0 0)).setCell ⟨w.heap.size, 2, none⟩ (.slice none 0 0)) w.heap.size 27 (.slice none 0 0) (.slice none 0 0) (.slice none 0 0)) := ((ZX.out.set0 _).set1 _).set2 _
    have BX : Hid (Below w.heap.size w (((v0.setCell ⟨w.heap.size, 0, none⟩ (.slice none 0 0)).setCell ⟨w.heap.size, 1, none⟩ (.slice none 0 0)).setCell ⟨w.heap.size, 2, none⟩ (.slice none 0 0))) := AX.out.trans (OX.toBelow (Nat.le_refl _) AX.out.size)
    have RX : Hid (RetRunS w.heap.size (((v0.setCell ⟨w.heap.size, 0, none⟩ (.slice none 0 0)).setCell ⟨w.heap.size, 1, none⟩ (.slice none 0 0)).setCell ⟨w.heap.size, 2, none⟩ (.slice none 0 0)) (.returned (.tuple #[.agg #[.slice none 0 0, .slice none 0 0, .slice none 0 0], .slice none 0 0, .int .i64 2])) (newD 0) 0 (fun _ => 0) 2) := retRunS_nil
    clear OX IX AX ZX
    go_wp2
    generalize (((v0.setCell ⟨w.heap.size, 0, none⟩ (.slice none 0 0)).setCell ⟨w.heap.size, 1, none⟩ (.slice none 0 0)).setCell ⟨w.heap.size, 2, none⟩ (.slice none 0 0)) = u9 at *
    clear e0 e1 e2 e3 e4 e5
    have y0 := FX.out.c0
    have y1 := FX.out.c1
    have y2 := FX.out.c2
    exact ret_cell3 (b := w.heap.size) (x := .agg #[.slice none 0 0, .slice none 0 0, .slice none 0 0]) Tryd.results7 rfl rfl rfl (by go_simp) ⟨RX.out, BX.out⟩
  · have g4 : ¬ (4096 : Int) < (n : Int) := by omega
    have NW := ND.out (newD 0) 4 (w.alloc (.cells #[.slice none 0 0, .slice none 0 0, .slice none 0 0] 27)) (.inr ⟨hx, rfl, rfl⟩)
    have HNW : Hid (Calls Tryd.prog 21 #[.int .i64 x] (w.alloc (.cells #[.slice none 0 0, .slice none 0 0, .slice none 0 0] 27)) fun e w' => RetD (w.alloc (.cells #[.slice none 0 0, .slice none 0 0, .slice none 0 0] 27)).heap.size w' e (newD 0) 4 ∧ Below (w.alloc (.cells #[.slice none 0 0, .slice none 0 0, .slice none 0 0] 27)).heap.size (w.alloc (.cells #[.slice none 0 0, .slice none 0 0, .slice none 0 0] 27)) w') := NW
    clear h4 ND hlg hx NW
    go_enter Tryd.func7, Tryd.ntmps7
    go_wp2_with fail
    generalize (w.alloc (.cells #[.slice none 0 0, .slice none 0 0, .slice none 0 0] 27)) = v0 at *
    refine HNW.out.mono ?_
    rintro e v1 ⟨⟨a0, a1, a2, c0, c1, c2, g0, g1, g2, rfl, _⟩, hb⟩
    replace ZR : Hid (Box3 v1 w.heap.size 27 (.slice none 0 0) (.slice none 0 0) (.slice none 0 0)) := ZR.out.below hb
    replace A1 : Hid (Below w.heap.size w v1) := A1.out.trans (hb.mono A1.out.size)
    clear hb HNW
    have hb : Below v1.heap.size v1 (v1.alloc (.cells #[.slice a0 (newD 0).nb c0, .slice a1 (newD 0).nc c1, .slice a2 (newD 0).ns c2] 27)) := (Below.refl _ _).alloc (Nat.le_refl _) _
    replace ZR : Hid (Box3 (v1.alloc (.cells #[.slice a0 (newD 0).nb c0, .slice a1 (newD 0).nc c1, .slice a2 (newD 0).ns c2] 27)) w.heap.size 27 (.slice none 0 0) (.slice none 0 0) (.slice none 0 0)) := ZR.out.below hb
    replace A1 : Hid (Below w.heap.size w (v1.alloc (.cells #[.slice a0 (newD 0).nb c0, .slice a1 (newD 0).nc c1, .slice a2 (newD 0).ns c2] 27))) := A1.out.trans (hb.mono A1.out.size)
    clear hb
    go_upto_region 4 with fail
    generalize (v1.alloc (.cells #[.slice a0 (newD 0).nb c0, .slice a1 (newD 0).nc c1, .slice a2 (newD 0).ns c2] 27)) = v2 at *
    have ZX : Hid (Box3 v2 w.heap.size 27 (.slice none 0 0) (.slice none 0 0) (.slice none 0 0)) := ZR.out
    have AX : Hid (Below w.heap.size w v2) := A1.out
    have IX : Hid (IntR v2 (w.heap.size + 1) (.slice none 0 0) 0 (fun _ => 0)) := IntR.nilX _ _
    clear ZR A1
    have e0 := ZX.out.c0
    have e1 := ZX.out.c1
    have e2 := ZX.out.c2
    have e3 := ZX.out.fr 0
    have e4 := ZX.out.fr 1
    have e5 := ZX.out.fr 2
    have OX : OnlyB w.heap.size v2 (((v2.setCell ⟨w.heap.size, 0, none⟩ (.slice none 0 0)).setCell ⟨w.heap.size, 1, none⟩ (.slice none 0 0)).setCell ⟨w.heap.size, 2, none⟩ (.slice none 0 0)) := (((OnlyB.refl _ v2).setCell 0 _).setCell 1 _).setCell 2 _
    have FX : Hid (Box3 (((v2.setCell ⟨w.heap.size, 0, none⟩ (.slice none 0 0)).setCell ⟨w.heap.size, 1, none⟩ (.slice none 0 0)).setCell ⟨w.heap.size, 2, none⟩ (.slice none 0 0)) w.heap.size 27 (.slice none 0 0) (.slice none 0 0) (.slice none 0 0)) := ((ZX.out.set0 _).set1 _).set2 _
    have BX : Hid (Below w.heap.size w (((v2.setCell ⟨w.heap.size, 0, none⟩ (.slice none 0 0)).setCell ⟨w.heap.size, 1, none⟩ (.slice none 0 0)).setCell ⟨w.heap.size, 2, none⟩ (.slice none 0 0))) := AX.out.trans (OX.toBelow (Nat.le_refl _) AX.out.size)
    have RX : Hid (RetRunS w.heap.size (((v2.setCell ⟨w.heap.size, 0, none⟩ (.slice none 0 0)).setCell ⟨w.heap.size, 1, none⟩ (.slice none 0 0)).setCell ⟨w.heap.size, 2, none⟩ (.slice none 0 0)) (.returned (.tuple #[.agg #[.slice none 0 0, .slice none 0 0, .slice none 0 0], .slice none 0 0, .int .i64 4])) (newD 0) 0 (fun _ => 0) 4) := retRunS_nil
    clear OX IX AX ZX
    go_wp2
    generalize (((v2.setCell ⟨w.heap.size, 0, none⟩ (.slice none 0 0)).setCell ⟨w.heap.size, 1, none⟩ (.slice none 0 0)).setCell ⟨w.heap.size, 2, none⟩ (.slice none 0 0)) = u9 at *
    clear e0 e1 e2 e3 e4 e5
    have y0 := FX.out.c0
    have y1 := FX.out.c1
    have y2 := FX.out.c2
    exact ret_cell3 (b := w.heap.size) (x := .agg #[.slice none 0 0, .slice none 0 0, .slice none 0 0]) Tryd.results7 rfl rfl rfl (by go_simp) ⟨RX.out, BX.out⟩
  · have g4 : ¬ (4096 : Int) < (n : Int) := by omega
    have g5 : (120 : Int) < (n : Int) := by omega
    have NW := ND.out (newD x.toNat) 0 (w.alloc (.cells #[.slice none 0 0, .slice none 0 0, .slice none 0 0] 27)) (.inl ⟨hx.1, hx.2, rfl, rfl⟩)
    have HNW : Hid (Calls Tryd.prog 21 #[.int .i64 x] (w.alloc (.cells #[.slice none 0 0, .slice none 0 0, .slice none 0 0] 27)) fun e w' => RetD (w.alloc (.cells #[.slice none 0 0, .slice none 0 0, .slice none 0 0] 27)).heap.size w' e (newD x.toNat) 0 ∧ Below (w.alloc (.cells #[.slice none 0 0, .slice none 0 0, .slice none 0 0] 27)).heap.size (w.alloc (.cells #[.slice none 0 0, .slice none 0 0, .slice none 0 0] 27)) w') := NW
    generalize newD x.toNat = dd at *
    clear h4 ND hlg hx NW
    go_enter Tryd.func7, Tryd.ntmps7
    go_wp2_with fail
    generalize (w.alloc (.cells #[.slice none 0 0, .slice none 0 0, .slice none 0 0] 27)) = v0 at *
    refine HNW.out.mono ?_
    rintro e v1 ⟨⟨a0, a1, a2, c0, c1, c2, g0, g1, g2, rfl, _⟩, hb⟩
    replace ZR : Hid (Box3 v1 w.heap.size 27 (.slice none 0 0) (.slice none 0 0) (.slice none 0 0)) := ZR.out.below hb
    replace A1 : Hid (Below w.heap.size w v1) := A1.out.trans (hb.mono A1.out.size)
    clear hb HNW
    have hb : Below v1.heap.size v1 (v1.alloc (.cells #[.slice a0 dd.nb c0, .slice a1 dd.nc c1, .slice a2 dd.ns c2] 27)) := (Below.refl _ _).alloc (Nat.le_refl _) _
    replace ZR : Hid (Box3 (v1.alloc (.cells #[.slice a0 dd.nb c0, .slice a1 dd.nc c1, .slice a2 dd.ns c2] 27)) w.heap.size 27 (.slice none 0 0) (.slice none 0 0) (.slice none 0 0)) := ZR.out.below hb
    replace A1 : Hid (Below w.heap.size w (v1.alloc (.cells #[.slice a0 dd.nb c0, .slice a1 dd.nc c1, .slice a2 dd.ns c2] 27))) := A1.out.trans (hb.mono A1.out.size)
    clear hb
    go_upto_region 4 with fail
    generalize (v1.alloc (.cells #[.slice a0 dd.nb c0, .slice a1 dd.nc c1, .slice a2 dd.ns c2] 27)) = v2 at *
    have ZX : Hid (Box3 v2 w.heap.size 27 (.slice none 0 0) (.slice none 0 0) (.slice none 0 0)) := ZR.out
    have AX : Hid (Below w.heap.size w v2) := A1.out
    have IX : Hid (IntR v2 (w.heap.size + 1) (.slice none 0 0) 0 (fun _ => 0)) := IntR.nilX _ _
    clear ZR A1
    have e0 := ZX.out.c0
    have e1 := ZX.out.c1
    have e2 := ZX.out.c2
    have e3 := ZX.out.fr 0
    have e4 := ZX.out.fr 1
    have e5 := ZX.out.fr 2
    have OX : OnlyB w.heap.size v2 (((v2.setCell ⟨w.heap.size, 0, none⟩ (.slice none 0 0)).setCell ⟨w.heap.size, 1, none⟩ (.slice none 0 0)).setCell ⟨w.heap.size, 2, none⟩ (.slice none 0 0)) := (((OnlyB.refl _ v2).setCell 0 _).setCell 1 _).setCell 2 _
    have FX : Hid (Box3 (((v2.setCell ⟨w.heap.size, 0, none⟩ (.slice none 0 0)).setCell ⟨w.heap.size, 1, none⟩ (.slice none 0 0)).setCell ⟨w.heap.size, 2, none⟩ (.slice none 0 0)) w.heap.size 27 (.slice none 0 0) (.slice none 0 0) (.slice none 0 0)) := ((ZX.out.set0 _).set1 _).set2 _
    have BX : Hid (Below w.heap.size w (((v2.setCell ⟨w.heap.size, 0, none⟩ (.slice none 0 0)).setCell ⟨w.heap.size, 1, none⟩ (.slice none 0 0)).setCell ⟨w.heap.size, 2, none⟩ (.slice none 0 0))) := AX.out.trans (OX.toBelow (Nat.le_refl _) AX.out.size)
    have RX : Hid (RetRunS w.heap.size (((v2.setCell ⟨w.heap.size, 0, none⟩ (.slice none 0 0)).setCell ⟨w.heap.size, 1, none⟩ (.slice none 0 0)).setCell ⟨w.heap.size, 2, none⟩ (.slice none 0 0)) (.returned (.tuple #[.agg #[.slice none 0 0, .slice none 0 0, .slice none 0 0], .slice none 0 0, .int .i64 6])) (newD 0) 0 (fun _ => 0) 6) := retRunS_nil
    clear OX IX AX ZX
    go_wp2
    generalize (((v2.setCell ⟨w.heap.size, 0, none⟩ (.slice none 0 0)).setCell ⟨w.heap.size, 1, none⟩ (.slice none 0 0)).setCell ⟨w.heap.size, 2, none⟩ (.slice none 0 0)) = u9 at *
    clear e0 e1 e2 e3 e4 e5
    have y0 := FX.out.c0
    have y1 := FX.out.c1
    have y2 := FX.out.c2
    exact ret_cell3 (b := w.heap.size) (x := .agg #[.slice none 0 0, .slice none 0 0, .slice none 0 0]) Tryd.results7 rfl rfl rfl (by go_simp) ⟨RX.out, BX.out⟩
  · exact absurd ⟨h5, hx⟩ hlg
set_option maxRecDepth 100000 in
set_option maxHeartbeats 8000000 in
theorem specRun_few (x : Int) (n : Nat) (A : Nat → Ac) (code : Int) (hc : BadRun x n A code) (hlg : ¬ (n ≤ 120 ∧ (1 ≤ x ∧ x ≤ 64))) (ad : Option Addr) (c : Nat) (w : World) :
    Calls Tryd.prog 5 #[.int .i64 x, .slice ad n c] w fun e w' => RetRun w.heap.size w' e (newD 0) 0 (fun _ => 0) code ∧ Below w.heap.size w w' := by
  have ND : Hid (∀ (d : Dk) (code : Int) (w : World), ((1 ≤ x ∧ x ≤ 64 ∧ d = newD x.toNat ∧ code = 0) ∨ (¬ (1 ≤ x ∧ x ≤ 64) ∧ d = newD 0 ∧ code = 4)) → Calls Tryd.prog 17 #[.int .i64 x] w fun e w' => RetD w.heap.size w' e d code ∧ Below w.heap.size w w') := fun d code w h => specNew_any x d code h w
  have A1 : Hid (Below w.heap.size w (w.alloc (.cells #[.slice none 0 0, .slice none 0 0, .slice none 0 0] 27))) := (Below.refl _ _).alloc (Nat.le_refl _) _
  have ZR : Hid (Box3 (w.alloc (.cells #[.slice none 0 0, .slice none 0 0, .slice none 0 0] 27)) w.heap.size 27 (.slice none 0 0) (.slice none 0 0) (.slice none 0 0)) := Box3.made _ _ _ _ _
  rcases hc with ⟨h4, rfl⟩ | ⟨h4, ⟨hx, rfl⟩ | ⟨hx, ⟨h5, rfl⟩ | ⟨h5, _⟩⟩⟩
  · have g4 : (4096 : Int) < (n : Int) := by omega
    clear h4 ND hlg
    go_enter Tryd.func5, Tryd.ntmps5
    go_upto_region 1 with fail
    generalize (w.alloc (.cells #[.slice none 0 0, .slice none 0 0, .slice none 0 0] 27)) = v0 at *
    have hbx : Below v0.heap.size v0 (v0.alloc (.cells #[] 3)) := (Below.refl _ _).alloc (Nat.le_refl _) _
    have ZX : Hid (Box3 (v0.alloc (.cells #[] 3)) w.heap.size 27 (.slice none 0 0) (.slice none 0 0) (.slice none 0 0)) := ZR.out.below hbx
    have AX : Hid (Below w.heap.size w (v0.alloc (.cells #[] 3))) := A1.out.trans (hbx.mono A1.out.size)
    have IX : Hid (IntR (v0.alloc (.cells #[] 3)) (w.heap.size + 1) (.slice (some ⟨v0.heap.size, 0, none⟩) 0 0) 0 (fun _ => 0)) := IntR.litX _ _ (by have := ZR.out.lt; omega)
    clear hbx ZR A1
    have e0 := ZX.out.c0
    have e1 := ZX.out.c1
    have e2 := ZX.out.c2
    have e3 := ZX.out.fr 0
    have e4 := ZX.out.fr 1
    have e5 := ZX.out.fr 2
    have OX : OnlyB w.heap.size (v0.alloc (.cells #[] 3)) ((((v0.alloc (.cells #[] 3)).setCell ⟨w.heap.size, 0, none⟩ (.slice none 0 0)).setCell ⟨w.heap.size, 1, none⟩ (.slice none 0 0)).setCell ⟨w.heap.size, 2, none⟩ (.slice none 0 0)) := (((OnlyB.refl _ (v0.alloc (.cells #[] 3))).setCell 0 _).setCell 1 _).setCell 2 _
    have FX : Hid (Box3 ((((v0.alloc (.cells #[] 3)).setCell ⟨w.heap.size, 0, none⟩ (.slice none 0 0)).setCell ⟨w.heap.size, 1, none⟩ (.slice none 0 0)).setCell ⟨w.heap.size, 2, none⟩ (.slice none 0 0)) w.heap.size 27 (.slice none 0 0) (.slice none 0 0) (.slice none 0 0)) := ((ZX.out.set0 _).set1 _).set2 _
    have BX : Hid (Below w.heap.size w ((((v0.alloc (.cells #[] 3)).setCell ⟨w.heap.size, 0, none⟩ (.slice none 0 0)).setCell ⟨w.heap.size, 1, none⟩ (.slice none 0 0)).setCell ⟨w.heap.size, 2, none⟩ (.slice none 0 0))) := AX.out.trans (OX.toBelow (Nat.le_refl _) AX.out.size)
    have RX : Hid (RetRun w.heap.size ((((v0.alloc (.cells #[] 3)).setCell ⟨w.heap.size, 0, none⟩ (.slice none 0 0)).setCell ⟨w.heap.size, 1, none⟩ (.slice none 0 0)).setCell ⟨w.heap.size, 2, none⟩ (.slice none 0 0)) (.returned (.tuple #[.agg #[.slice none 0 0, .slice none 0 0, .slice none 0 0], .slice (some ⟨v0.heap.size, 0, none⟩) 0 0, .int .i64 2])) (newD 0) 0 (fun _ => 0) 2) := retRun_nil (IntR.mono (IX.out.onlyB OX (fun e => by have := (IX.out.lt _ e).1; omega)) (Nat.le_succ _))
    clear OX IX AX ZX
    go_wp2
    generalize ((((v0.alloc (.cells #[] 3)).setCell ⟨w.heap.size, 0, none⟩ (.slice none 0 0)).setCell ⟨w.heap.size, 1, none⟩ (.slice none 0 0)).setCell ⟨w.heap.size, 2, none⟩ (.slice none 0 0)) = u9 at *
    clear e0 e1 e2 e3 e4 e5
    have y0 := FX.out.c0
    have y1 := FX.out.c1
    have y2 := FX.out.c2
    exact ret_cell3 (b := w.heap.size) (x := .agg #[.slice none 0 0, .slice none 0 0, .slice none 0 0]) Tryd.results5 rfl rfl rfl (by go_simp) ⟨RX.out, BX.out⟩
  · have g4 : ¬ (4096 : Int) < (n : Int) := by omega
    have NW := ND.out (newD 0) 4 (w.alloc (.cells #[.slice none 0 0, .slice none 0 0, .slice none 0 0] 27)) (.inr ⟨hx, rfl, rfl⟩)
    have HNW : Hid (Calls Tryd.prog 17 #[.int .i64 x] (w.alloc (.cells #[.slice none 0 0, .slice none 0 0, .slice none 0 0] 27)) fun e w' => RetD (w.alloc (.cells #[.slice none 0 0, .slice none 0 0, .slice none 0 0] 27)).heap.size w' e (newD 0) 4 ∧ Below (w.alloc (.cells #[.slice none 0 0, .slice none 0 0, .slice none 0 0] 27)).heap.size (w.alloc (.cells #[.slice none 0 0, .slice none 0 0, .slice none 0 0] 27)) w') := NW
    clear h4 ND hlg hx NW
    go_enter Tryd.func5, Tryd.ntmps5
    go_wp2_with fail
    generalize (w.alloc (.cells #[.slice none 0 0, .slice none 0 0, .slice none 0 0] 27)) = v0 at *
    refine HNW.out.mono ?_
    rintro e v1 ⟨⟨a0, a1, a2, c0, c1, c2, g0, g1, g2, rfl, _⟩, hb⟩
    replace ZR : Hid (Box3 v1 w.heap.size 27 (.slice none 0 0) (.slice none 0 0) (.slice none 0 0)) := ZR.out.below hb
    replace A1 : Hid (Below w.heap.size w v1) := A1.out.trans (hb.mono A1.out.size)
    clear hb HNW
    have hb : Below v1.heap.size v1 (v1.alloc (.cells #[.slice a0 (newD 0).nb c0, .slice a1 (newD 0).nc c1, .slice a2 (newD 0).ns c2] 27)) := (Below.refl _ _).alloc (Nat.le_refl _) _
    replace ZR : Hid (Box3 (v1.alloc (.cells #[.slice a0 (newD 0).nb c0, .slice a1 (newD 0).nc c1, .slice a2 (newD 0).ns c2] 27)) w.heap.size 27 (.slice none 0 0) (.slice none 0 0) (.slice none 0 0)) := ZR.out.below hb
    replace A1 : Hid (Below w.heap.size w (v1.alloc (.cells #[.slice a0 (newD 0).nb c0, .slice a1 (newD 0).nc c1, .slice a2 (newD 0).ns c2] 27))) := A1.out.trans (hb.mono A1.out.size)
    clear hb
    go_upto_region 4 with fail
    generalize (v1.alloc (.cells #[.slice a0 (newD 0).nb c0, .slice a1 (newD 0).nc c1, .slice a2 (newD 0).ns c2] 27)) = v2 at *
    have hbx : Below v2.heap.size v2 (v2.alloc (.cells #[] 3)) := (Below.refl _ _).alloc (Nat.le_refl _) _
    have ZX : Hid (Box3 (v2.alloc (.cells #[] 3)) w.heap.size 27 (.slice none 0 0) (.slice none 0 0) (.slice none 0 0)) := ZR.out.below hbx
    have AX : Hid (Below w.heap.size w (v2.alloc (.cells #[] 3))) := A1.out.trans (hbx.mono A1.out.size)
    have IX : Hid (IntR (v2.alloc (.cells #[] 3)) (w.heap.size + 1) (.slice (some ⟨v2.heap.size, 0, none⟩) 0 0) 0 (fun _ => 0)) := IntR.litX _ _ (by have := ZR.out.lt; omega)
    clear hbx ZR A1
    have e0 := ZX.out.c0
    have e1 := ZX.out.c1
    have e2 := ZX.out.c2
    have e3 := ZX.out.fr 0
    have e4 := ZX.out.fr 1
    have e5 := ZX.out.fr 2
    have OX : OnlyB w.heap.size (v2.alloc (.cells #[] 3)) ((((v2.alloc (.cells #[] 3)).setCell ⟨w.heap.size, 0, none⟩ (.slice none 0 0)).setCell ⟨w.heap.size, 1, none⟩ (.slice none 0 0)).setCell ⟨w.heap.size, 2, none⟩ (.slice none 0 0)) := (((OnlyB.refl _ (v2.alloc (.cells #[] 3))).setCell 0 _).setCell 1 _).setCell 2 _
    have FX : Hid (Box3 ((((v2.alloc (.cells #[] 3)).setCell ⟨w.heap.size, 0, none⟩ (.slice none 0 0)).setCell ⟨w.heap.size, 1, none⟩ (.slice none 0 0)).setCell ⟨w.heap.size, 2, none⟩ (.slice none 0 0)) w.heap.size 27 (.slice none 0 0) (.slice none 0 0) (.slice none 0 0)) := ((ZX.out.set0 _).set1 _).set2 _
    have BX : Hid (Below w.heap.size w ((((v2.alloc (.cells #[] 3)).setCell ⟨w.heap.size, 0, none⟩ (.slice none 0 0)).setCell ⟨w.heap.size, 1, none⟩ (.slice none 0 0)).setCell ⟨w.heap.size, 2, none⟩ (.slice none 0 0))) := AX.out.trans (OX.toBelow (Nat.le_refl _) AX.out.size)
    have RX : Hid (RetRun w.heap.size ((((v2.alloc (.cells #[] 3)).setCell ⟨w.heap.size, 0, none⟩ (.slice none 0 0)).setCell ⟨w.heap.size, 1, none⟩ (.slice none 0 0)).setCell ⟨w.heap.size, 2, none⟩ (.slice none 0 0)) (.returned (.tuple #[.agg #[.slice none 0 0, .slice none 0 0, .slice none 0 0], .slice (some ⟨v2.heap.size, 0, none⟩) 0 0, .int .i64 4])) (newD 0) 0 (fun _ => 0) 4) := retRun_nil (IntR.mono (IX.out.onlyB OX (fun e => by have := (IX.out.lt _ e).1; omega)) (Nat.le_succ _))
    clear OX IX AX ZX
    go_wp2
    generalize ((((v2.alloc (.cells #[] 3)).setCell ⟨w.heap.size, 0, none⟩ (.slice none 0 0)).setCell ⟨w.heap.size, 1, none⟩ (.slice none 0 0)).setCell ⟨w.heap.size, 2, none⟩ (.slice none 0 0)) = u9 at *
    clear e0 e1 e2 e3 e4 e5
    have y0 := FX.out.c0
    have y1 := FX.out.c1
    have y2 := FX.out.c2
    exact ret_cell3 (b := w.heap.size) (x := .agg #[.slice none 0 0, .slice none 0 0, .slice none 0 0]) Tryd.results5 rfl rfl rfl (by go_simp) ⟨RX.out, BX.out⟩
  · have g4 : ¬ (4096 : Int) < (n : Int) := by omega
    have g5 : (120 : Int) < (n : Int) := by omega
    have NW := ND.out (newD x.toNat) 0 (w.alloc (.cells #[.slice none 0 0, .slice none 0 0, .slice none 0 0] 27)) (.inl ⟨hx.1, hx.2, rfl, rfl⟩)
    have HNW : Hid (Calls Tryd.prog 17 #[.int .i64 x] (w.alloc (.cells #[.slice none 0 0, .slice none 0 0, .slice none 0 0] 27)) fun e w' => RetD (w.alloc (.cells #[.slice none 0 0, .slice none 0 0, .slice none 0 0] 27)).heap.size w' e (newD x.toNat) 0 ∧ Below (w.alloc (.cells #[.slice none 0 0, .slice none 0 0, .slice none 0 0] 27)).heap.size (w.alloc (.cells #[.slice none 0 0, .slice none 0 0, .slice none 0 0] 27)) w') := NW
    generalize newD x.toNat = dd at *
    clear h4 ND hlg hx NW
    go_enter Tryd.func5, Tryd.ntmps5
    go_wp2_with fail
    generalize (w.alloc (.cells #[.slice none 0 0, .slice none 0 0, .slice none 0 0] 27)) = v0 at *
    refine HNW.out.mono ?_
    rintro e v1 ⟨⟨a0, a1, a2, c0, c1, c2, g0, g1, g2, rfl, _⟩, hb⟩
    replace ZR : Hid (Box3 v1 w.heap.size 27 (.slice none 0 0) (.slice none 0 0) (.slice none 0 0)) := ZR.out.below hb
    replace A1 : Hid (Below w.heap.size w v1) := A1.out.trans (hb.mono A1.out.size)
    clear hb HNW
    have hb : Below v1.heap.size v1 (v1.alloc (.cells #[.slice a0 dd.nb c0, .slice a1 dd.nc c1, .slice a2 dd.ns c2] 27)) := (Below.refl _ _).alloc (Nat.le_refl _) _
    replace ZR : Hid (Box3 (v1.alloc (.cells #[.slice a0 dd.nb c0, .slice a1 dd.nc c1, .slice a2 dd.ns c2] 27)) w.heap.size 27 (.slice none 0 0) (.slice none 0 0) (.slice none 0 0)) := ZR.out.below hb
    replace A1 : Hid (Below w.heap.size w (v1.alloc (.cells #[.slice a0 dd.nb c0, .slice a1 dd.nc c1, .slice a2 dd.ns c2] 27))) := A1.out.trans (hb.mono A1.out.size)
    clear hb
    go_upto_region 4 with fail
    generalize (v1.alloc (.cells #[.slice a0 dd.nb c0, .slice a1 dd.nc c1, .slice a2 dd.ns c2] 27)) = v2 at *
    have hbx : Below v2.heap.size v2 (v2.alloc (.cells #[] 3)) := (Below.refl _ _).alloc (Nat.le_refl _) _
    have ZX : Hid (Box3 (v2.alloc (.cells #[] 3)) w.heap.size 27 (.slice none 0 0) (.slice none 0 0) (.slice none 0 0)) := ZR.out.below hbx
    have AX : Hid (Below w.heap.size w (v2.alloc (.cells #[] 3))) := A1.out.trans (hbx.mono A1.out.size)
    have IX : Hid (IntR (v2.alloc (.cells #[] 3)) (w.heap.size + 1) (.slice (some ⟨v2.heap.size, 0, none⟩) 0 0) 0 (fun _ => 0)) := IntR.litX _ _ (by have := ZR.out.lt; omega)
    clear hbx ZR A1
    have e0 := ZX.out.c0
    have e1 := ZX.out.c1
    have e2 := ZX.out.c2
    have e3 := ZX.out.fr 0
    have e4 := ZX.out.fr 1
    have e5 := ZX.out.fr 2
    have OX : OnlyB w.heap.size (v2.alloc (.cells #[] 3)) ((((v2.alloc (.cells #[] 3)).setCell ⟨w.heap.size, 0, none⟩ (.slice none 0 0)).setCell ⟨w.heap.size, 1, none⟩ (.slice none 0 0)).setCell ⟨w.heap.size, 2, none⟩ (.slice none 0 0)) := (((OnlyB.refl _ (v2.alloc (.cells #[] 3))).setCell 0 _).setCell 1 _).setCell 2 _
    have FX : Hid (Box3 ((((v2.alloc (.cells #[] 3)).setCell ⟨w.heap.size, 0, none⟩ (.slice none 0 0)).setCell ⟨w.heap.size, 1, none⟩ (.slice none 0 0)).setCell ⟨w.heap.size, 2, none⟩ (.slice none 0 0)) w.heap.size 27 (.slice none 0 0) (.slice none 0 0) (.slice none 0 0)) := ((ZX.out.set0 _).set1 _).set2 _
    have BX : Hid (Below w.heap.size w ((((v2.alloc (.cells #[] 3)).setCell ⟨w.heap.size, 0, none⟩ (.slice none 0 0)).setCell ⟨w.heap.size, 1, none⟩ (.slice none 0 0)).setCell ⟨w.heap.size, 2, none⟩ (.slice none 0 0))) := AX.out.trans (OX.toBelow (Nat.le_refl _) AX.out.size)
    have RX : Hid (RetRun w.heap.size ((((v2.alloc (.cells #[] 3)).setCell ⟨w.heap.size, 0, none⟩ (.slice none 0 0)).setCell ⟨w.heap.size, 1, none⟩ (.slice none 0 0)).setCell ⟨w.heap.size, 2, none⟩ (.slice none 0 0)) (.returned (.tuple #[.agg #[.slice none 0 0, .slice none 0 0, .slice none 0 0], .slice (some ⟨v2.heap.size, 0, none⟩) 0 0, .int .i64 6])) (newD 0) 0 (fun _ => 0) 6) := retRun_nil (IntR.mono (IX.out.onlyB OX (fun e => by have := (IX.out.lt _ e).1; omega)) (Nat.le_succ _))
    clear OX IX AX ZX
    go_wp2
    generalize ((((v2.alloc (.cells #[] 3)).setCell ⟨w.heap.size, 0, none⟩ (.slice none 0 0)).setCell ⟨w.heap.size, 1, none⟩ (.slice none 0 0)).setCell ⟨w.heap.size, 2, none⟩ (.slice none 0 0)) = u9 at *
    clear e0 e1 e2 e3 e4 e5
    have y0 := FX.out.c0
    have y1 := FX.out.c1
    have y2 := FX.out.c2
    exact ret_cell3 (b := w.heap.size) (x := .agg #[.slice none 0 0, .slice none 0 0, .slice none 0 0]) Tryd.results5 rfl rfl rfl (by go_simp) ⟨RX.out, BX.out⟩
  · exact absurd ⟨h5, hx⟩ hlg
set_option maxRecDepth 100000 in
set_option maxHeartbeats 8000000 in
theorem implRun_long (x : Int) (hx : 1 ≤ x ∧ x ≤ 64) (n : Nat) (hn : n ≤ 120) (A : Nat → Ac) (m : Nat) (hm : m < n) (hA : ∀ i, i < m → ¬ LongA (A i)) (hL : LongA (A m)) (ad : Option Addr) (c : Nat) (w : World) (h : Acts w ad n A) :
    Calls Tryd.prog 7 #[.int .i64 x, .slice ad n c] w fun e w' => RetRunS w.heap.size w' e (newD 0) 0 (fun _ => 0) 2 ∧ Below w.heap.size w w' := by
  have A1 : Hid (Below w.heap.size w (w.alloc (.cells #[.slice none 0 0, .slice none 0 0, .slice none 0 0] 27))) := (Below.refl _ _).alloc (Nat.le_refl _) _
  have ZR : Hid (Box3 (w.alloc (.cells #[.slice none 0 0, .slice none 0 0, .slice none 0 0] 27)) w.heap.size 27 (.slice none 0 0) (.slice none 0 0) (.slice none 0 0)) := Box3.made _ _ _ _ _
  have HX : Hid (Acts w ad n A) := h
  have HA : Hid (∀ i, i < m → ¬ LongA (A i)) := hA
  have HL : Hid (LongA (A m)) := hL
  have g4 : ¬ (4096 : Int) < (n : Int) := by omega
  have g5 : ¬ (120 : Int) < (n : Int) := by omega
  have HNW : Hid (Calls Tryd.prog 21 #[.int .i64 x] (w.alloc (.cells #[.slice none 0 0, .slice none 0 0, .slice none 0 0] 27)) fun e w' => RetD (w.alloc (.cells #[.slice none 0 0, .slice none 0 0, .slice none 0 0] 27)).heap.size w' e (newD x.toNat) 0 ∧ Below (w.alloc (.cells #[.slice none 0 0, .slice none 0 0, .slice none 0 0] 27)).heap.size (w.alloc (.cells #[.slice none 0 0, .slice none 0 0, .slice none 0 0] 27)) w') := implNew_any x (newD x.toNat) 0 (.inl ⟨hx.1, hx.2, rfl, rfl⟩) _
  generalize newD x.toNat = dd at *
  clear hx h hA hL
  go_enter Tryd.func7, Tryd.ntmps7
  go_wp2_with fail
  generalize (w.alloc (.cells #[.slice none 0 0, .slice none 0 0, .slice none 0 0] 27)) = v0 at *
  refine HNW.out.mono ?_
  rintro e v1 ⟨⟨a0, a1, a2, c0, c1, c2, g0, g1, g2, rfl, _⟩, hb⟩
  replace ZR : Hid (Box3 v1 w.heap.size 27 (.slice none 0 0) (.slice none 0 0) (.slice none 0 0)) := ZR.out.below hb
  replace A1 : Hid (Below w.heap.size w v1) := A1.out.trans (hb.mono A1.out.size)
  clear hb HNW
  have hb : Below v1.heap.size v1 (v1.alloc (.cells #[.slice a0 dd.nb c0, .slice a1 dd.nc c1, .slice a2 dd.ns c2] 27)) := (Below.refl _ _).alloc (Nat.le_refl _) _
  replace ZR : Hid (Box3 (v1.alloc (.cells #[.slice a0 dd.nb c0, .slice a1 dd.nc c1, .slice a2 dd.ns c2] 27)) w.heap.size 27 (.slice none 0 0) (.slice none 0 0) (.slice none 0 0)) := ZR.out.below hb
  replace A1 : Hid (Below w.heap.size w (v1.alloc (.cells #[.slice a0 dd.nb c0, .slice a1 dd.nc c1, .slice a2 dd.ns c2] 27))) := A1.out.trans (hb.mono A1.out.size)
  clear hb
  go_upto_region 4 with fail
  generalize (v1.alloc (.cells #[.slice a0 dd.nb c0, .slice a1 dd.nc c1, .slice a2 dd.ns c2] 27)) = v2 at *
  go_wp2_with fail
  go_loopw [34] (fun i wr => ∃ k : Nat, k ≤ m ∧ i = .int .i64 k ∧ Below v2.heap.size v2 wr) (fun i _ => n - (intOf i).toNat)
  case atStart => exact ⟨0, Nat.zero_le _, rfl, Below.refl _ _⟩
  case round =>
    obtain ⟨k, hk, rfl, hb⟩ := hrel
    have BK : Hid (Below v2.heap.size v2 wr) := hb
    have BW : Hid (Below w.heap.size w wr) := A1.out.trans (hb.mono A1.out.size)
    have hsw := BW.out.size
    clear hb
    have hkn : k < n := by omega
    have hlt' : (k : Int) < (n : Int) := by omega
    obtain ⟨b, off, ak, ck, rfl, hac, -⟩ := HX.out k hkn
    have hac2 := hac.below BW.out
    obtain ⟨c0, c1, c2, c3, c4⟩ := hac2
    have BN : Hid (Below v2.heap.size v2 (wr.alloc (.cells #[.int .i64 (A k).kd, .int .i64 (A k).x, .string (A k).s, .slice ak (A k).nk ck, .int .i64 (A k).t] 46))) := BK.out.alloc BK.out.size _
    clear hac
    by_cases hlt : k < m
    · have s1 : ¬ (65536 : Int) < ((A k).s.size : Int) := by have := HA.out k hlt; unfold LongA at this; omega
      have s2 : ¬ (4096 : Int) < ((A k).nk : Int) := by have := HA.out k hlt; unfold LongA at this; omega
      go_wp2
      go_roundw
      case rel => exact ⟨k + 1, by omega, by go_num, BN.out⟩
      case measure => simp [intOf]; omega
    · obtain rfl : k = m := by omega
      have ZN := ZR.out.below BN.out
      have AN := A1.out.trans (BN.out.mono A1.out.size)
      clear ZR A1
      have ZR : Hid (Box3 (wr.alloc (.cells #[.int .i64 (A k).kd, .int .i64 (A k).x, .string (A k).s, .slice ak (A k).nk ck, .int .i64 (A k).t] 46)) w.heap.size 27 (.slice none 0 0) (.slice none 0 0) (.slice none 0 0)) := ZN
      have A1 : Hid (Below w.heap.size w (wr.alloc (.cells #[.int .i64 (A k).kd, .int .i64 (A k).x, .string (A k).s, .slice ak (A k).nk ck, .int .i64 (A k).t] 46))) := AN
      clear ZN AN BN BK BW hsw
      have hl := HL.out
      unfold LongA at hl
      by_cases s0 : 65536 < (A k).s.size
      · have s1 : (65536 : Int) < ((A k).s.size : Int) := by omega
        clear hl s0
        go_upto_region 12 with fail
        clear c0 c1 c2 c3 c4
        generalize (wr.alloc (.cells #[.int .i64 (A k).kd, .int .i64 (A k).x, .string (A k).s, .slice ak (A k).nk ck, .int .i64 (A k).t] 46)) = v3 at *
        have ZX : Hid (Box3 v3 w.heap.size 27 (.slice none 0 0) (.slice none 0 0) (.slice none 0 0)) := ZR.out
        have AX : Hid (Below w.heap.size w v3) := A1.out
        have IX : Hid (IntR v3 (w.heap.size + 1) (.slice none 0 0) 0 (fun _ => 0)) := IntR.nilX _ _
        clear ZR A1
        have e0 := ZX.out.c0
        have e1 := ZX.out.c1
        have e2 := ZX.out.c2
        have e3 := ZX.out.fr 0
        have e4 := ZX.out.fr 1
        have e5 := ZX.out.fr 2
        have OX : OnlyB w.heap.size v3 (((v3.setCell ⟨w.heap.size, 0, none⟩ (.slice none 0 0)).setCell ⟨w.heap.size, 1, none⟩ (.slice none 0 0)).setCell ⟨w.heap.size, 2, none⟩ (.slice none 0 0)) := (((OnlyB.refl _ v3).setCell 0 _).setCell 1 _).setCell 2 _
        have FX : Hid (Box3 (((v3.setCell ⟨w.heap.size, 0, none⟩ (.slice none 0 0)).setCell ⟨w.heap.size, 1, none⟩ (.slice none 0 0)).setCell ⟨w.heap.size, 2, none⟩ (.slice none 0 0)) w.heap.size 27 (.slice none 0 0) (.slice none 0 0) (.slice none 0 0)) := ((ZX.out.set0 _).set1 _).set2 _
        have BX : Hid (Below w.heap.size w (((v3.setCell ⟨w.heap.size, 0, none⟩ (.slice none 0 0)).setCell ⟨w.heap.size, 1, none⟩ (.slice none 0 0)).setCell ⟨w.heap.size, 2, none⟩ (.slice none 0 0))) := AX.out.trans (OX.toBelow (Nat.le_refl _) AX.out.size)
        have RX : Hid (RetRunS w.heap.size (((v3.setCell ⟨w.heap.size, 0, none⟩ (.slice none 0 0)).setCell ⟨w.heap.size, 1, none⟩ (.slice none 0 0)).setCell ⟨w.heap.size, 2, none⟩ (.slice none 0 0)) (.returned (.tuple #[.agg #[.slice none 0 0, .slice none 0 0, .slice none 0 0], .slice none 0 0, .int .i64 2])) (newD 0) 0 (fun _ => 0) 2) := retRunS_nil
        clear OX IX AX ZX
        go_wp2
        generalize (((v3.setCell ⟨w.heap.size, 0, none⟩ (.slice none 0 0)).setCell ⟨w.heap.size, 1, none⟩ (.slice none 0 0)).setCell ⟨w.heap.size, 2, none⟩ (.slice none 0 0)) = u9 at *
        clear e0 e1 e2 e3 e4 e5
        have y0 := FX.out.c0
        have y1 := FX.out.c1
        have y2 := FX.out.c2
        exact ret_cell3 (b := w.heap.size) (x := .agg #[.slice none 0 0, .slice none 0 0, .slice none 0 0]) Tryd.results7 rfl rfl rfl (by go_simp) ⟨RX.out, BX.out⟩
      · have s1 : ¬ (65536 : Int) < ((A k).s.size : Int) := by omega
        have s2 : (4096 : Int) < ((A k).nk : Int) := by omega
        clear hl s0
        go_upto_region 12 with fail
        clear c0 c1 c2 c3 c4
        generalize (wr.alloc (.cells #[.int .i64 (A k).kd, .int .i64 (A k).x, .string (A k).s, .slice ak (A k).nk ck, .int .i64 (A k).t] 46)) = v3 at *
        have ZX : Hid (Box3 v3 w.heap.size 27 (.slice none 0 0) (.slice none 0 0) (.slice none 0 0)) := ZR.out
        have AX : Hid (Below w.heap.size w v3) := A1.out
        have IX : Hid (IntR v3 (w.heap.size + 1) (.slice none 0 0) 0 (fun _ => 0)) := IntR.nilX _ _
        clear ZR A1
        have e0 := ZX.out.c0
        have e1 := ZX.out.c1
        have e2 := ZX.out.c2
        have e3 := ZX.out.fr 0
        have e4 := ZX.out.fr 1
        have e5 := ZX.out.fr 2
        have OX : OnlyB w.heap.size v3 (((v3.setCell ⟨w.heap.size, 0, none⟩ (.slice none 0 0)).setCell ⟨w.heap.size, 1, none⟩ (.slice none 0 0)).setCell ⟨w.heap.size, 2, none⟩ (.slice none 0 0)) := (((OnlyB.refl _ v3).setCell 0 _).setCell 1 _).setCell 2 _
        have FX : Hid (Box3 (((v3.setCell ⟨w.heap.size, 0, none⟩ (.slice none 0 0)).setCell ⟨w.heap.size, 1, none⟩ (.slice none 0 0)).setCell ⟨w.heap.size, 2, none⟩ (.slice none 0 0)) w.heap.size 27 (.slice none 0 0) (.slice none 0 0) (.slice none 0 0)) := ((ZX.out.set0 _).set1 _).set2 _
        have BX : Hid (Below w.heap.size w (((v3.setCell ⟨w.heap.size, 0, none⟩ (.slice none 0 0)).setCell ⟨w.heap.size, 1, none⟩ (.slice none 0 0)).setCell ⟨w.heap.size, 2, none⟩ (.slice none 0 0))) := AX.out.trans (OX.toBelow (Nat.le_refl _) AX.out.size)
        have RX : Hid (RetRunS w.heap.size (((v3.setCell ⟨w.heap.size, 0, none⟩ (.slice none 0 0)).setCell ⟨w.heap.size, 1, none⟩ (.slice none 0 0)).setCell ⟨w.heap.size, 2, none⟩ (.slice none 0 0)) (.returned (.tuple #[.agg #[.slice none 0 0, .slice none 0 0, .slice none 0 0], .slice none 0 0, .int .i64 2])) (newD 0) 0 (fun _ => 0) 2) := retRunS_nil
        clear OX IX AX ZX
        go_wp2
        generalize (((v3.setCell ⟨w.heap.size, 0, none⟩ (.slice none 0 0)).setCell ⟨w.heap.size, 1, none⟩ (.slice none 0 0)).setCell ⟨w.heap.size, 2, none⟩ (.slice none 0 0)) = u9 at *
        clear e0 e1 e2 e3 e4 e5
        have y0 := FX.out.c0
        have y1 := FX.out.c1
        have y2 := FX.out.c2
        exact ret_cell3 (b := w.heap.size) (x := .agg #[.slice none 0 0, .slice none 0 0, .slice none 0 0]) Tryd.results7 rfl rfl rfl (by go_simp) ⟨RX.out, BX.out⟩
set_option maxRecDepth 100000 in
set_option maxHeartbeats 8000000 in
theorem specRun_long (x : Int) (hx : 1 ≤ x ∧ x ≤ 64) (n : Nat) (hn : n ≤ 120) (A : Nat → Ac) (m : Nat) (hm : m < n) (hA0 : ∀ i, i < m → ¬ LongA (A i)) (hL : LongA (A m)) (ad : Option Addr) (c : Nat) (w : World) (h : Acts w ad n A) :
    Calls Tryd.prog 5 #[.int .i64 x, .slice ad n c] w fun e w' => RetRun w.heap.size w' e (newD 0) 0 (fun _ => 0) 2 ∧ Below w.heap.size w w' := by
  have hA : ∀ i, i < m → (A i).s.size ≤ 65536 ∧ (A i).nk ≤ 4096 := fun i hi => by have := hA0 i hi; unfold LongA at this; omega
  have HL : Hid (LongA (A m)) := hL
  have HMN : Hid (m < n) := hm
  clear hA0 hL
  have hok : (newD x.toNat).Ok := newD_ok x.toNat (by omega) (by omega)
  have NW : Hid (∀ w : World, Calls Tryd.prog 17 #[.int .i64 x] w fun e w' => RetT w.heap.size none none none w' e (newD x.toNat) 0 ∧ Below w.heap.size w w') := fun w => specNew_z x hx.1 hx.2 w
  have ST : Hid (∀ (q : Nat) (a0 a1 a2 ak : Option Addr) (c0 c1 c2 ck : Nat) (w : World), q < m → (a0 = none → c0 = 0) → (a1 = none → c1 = 0) → (a2 = none → c2 = 0) → DiskV w (runD (newD x.toNat) A q) a0 a1 a2 → Bools w ak (A q).nk (A q).K → Calls Tryd.prog 18 #[.agg #[.slice a0 (runD (newD x.toNat) A q).nb c0, .slice a1 (runD (newD x.toNat) A q).nc c1, .slice a2 (runD (newD x.toNat) A q).ns c2], .agg #[.int .i64 (A q).kd, .int .i64 (A q).x, .string (A q).s, .slice ak (A q).nk ck, .int .i64 (A q).t]] w fun e w' => RetT w.heap.size a0 a1 a2 w' e (runD (newD x.toNat) A (q + 1)) (runC (newD x.toNat) A q) ∧ Below w.heap.size w w') := fun q a0 a1 a2 ak c0 c1 c2 ck w hq z0 z1 z2 h1 h2 => l05Step_any (runD (newD x.toNat) A q) (A q) a0 a1 a2 ak c0 c1 c2 ck (runD_ok hok A q) z0 z1 z2 (by have := (hA q hq).2; omega) w h1 h2.bls
  have HA : Hid (∀ i, i < m → (A i).s.size ≤ 65536 ∧ (A i).nk ≤ 4096) := hA
  have HX : Hid (Acts w ad n A) := h
  have R0 : Hid (runD (newD x.toNat) A 0 = newD x.toNat) := rfl
  generalize newD x.toNat = d0 at *
  generalize hDD : runD d0 A = DD at *
  generalize runC d0 A = CC at *
  have x1 : ¬ (4096 : Int) < (n : Int) := by omega
  have x2 : ¬ (120 : Int) < (n : Int) := by omega
  have HN : Hid (n ≤ 120) := hn
  clear h hA hx hok hDD hn hm
  have A1 : Hid (Below w.heap.size w (w.alloc (.cells #[.slice none 0 0, .slice none 0 0, .slice none 0 0] 27))) := (Below.refl _ _).alloc (Nat.le_refl _) _
  have ZR : Hid (Box3 (w.alloc (.cells #[.slice none 0 0, .slice none 0 0, .slice none 0 0] 27)) w.heap.size 27 (.slice none 0 0) (.slice none 0 0) (.slice none 0 0)) := Box3.made _ _ _ _ _
  go_enter Tryd.func5, Tryd.ntmps5
  go_wp2_with fail
  generalize (w.alloc (.cells #[.slice none 0 0, .slice none 0 0, .slice none 0 0] 27)) = v0 at *
  refine (NW.out _).mono ?_
  rintro e v1 ⟨⟨a0, a1, a2, c0, c1, c2, rfl, rd, z0, z1, z2, k0, k1, k2⟩, hb⟩
  have LN : ∀ n, Lw n none := fun n b o s e => by cases e
  have LW0 : Hid (Lw v1.heap.size a0 ∧ Lw v1.heap.size a1 ∧ Lw v1.heap.size a2) := ⟨(LN v1.heap.size).fr (Nat.le_refl _) k0, (LN v1.heap.size).fr (Nat.le_refl _) k1, (LN v1.heap.size).fr (Nat.le_refl _) k2⟩
  clear k0 k1 k2 LN
  replace A1 : Hid (Below w.heap.size w v1) := A1.out.trans (hb.mono A1.out.size)
  have DBX : Hid (w.heap.size < v1.heap.size) := (ZR.out.below hb).lt
  replace ZR : Hid (Box3 v1 w.heap.size 27 (.slice none 0 0) (.slice none 0 0) (.slice none 0 0)) := ZR.out.below hb
  have VD : Hid (DiskV v1 d0 a0 a1 a2) := rd
  clear hb rd NW
  have hb : Below v1.heap.size v1 (v1.alloc (.cells #[.slice a0 d0.nb c0, .slice a1 d0.nc c1, .slice a2 d0.ns c2] 27)) := (Below.refl _ _).alloc (Nat.le_refl _) _
  have hb2 : Below (v1.alloc (.cells #[.slice a0 d0.nb c0, .slice a1 d0.nc c1, .slice a2 d0.ns c2] 27)).heap.size (v1.alloc (.cells #[.slice a0 d0.nb c0, .slice a1 d0.nc c1, .slice a2 d0.ns c2] 27)) ((v1.alloc (.cells #[.slice a0 d0.nb c0, .slice a1 d0.nc c1, .slice a2 d0.ns c2] 27)).alloc (.cells #[] 3)) := (Below.refl _ _).alloc (Nat.le_refl _) _
  have hsz : (v1.alloc (.cells #[.slice a0 d0.nb c0, .slice a1 d0.nc c1, .slice a2 d0.ns c2] 27)).heap.size = v1.heap.size + 1 := by simp
  have BX : Hid (Box3 ((v1.alloc (.cells #[.slice a0 d0.nb c0, .slice a1 d0.nc c1, .slice a2 d0.ns c2] 27)).alloc (.cells #[] 3)) v1.heap.size 27 (.slice a0 d0.nb c0) (.slice a1 d0.nc c1) (.slice a2 d0.ns c2)) := (Box3.made v1 _ _ _ _).below hb2
  replace ZR : Hid (Box3 ((v1.alloc (.cells #[.slice a0 d0.nb c0, .slice a1 d0.nc c1, .slice a2 d0.ns c2] 27)).alloc (.cells #[] 3)) w.heap.size 27 (.slice none 0 0) (.slice none 0 0) (.slice none 0 0)) := (ZR.out.below hb).below hb2
  replace VD : Hid (DiskV ((v1.alloc (.cells #[.slice a0 d0.nb c0, .slice a1 d0.nc c1, .slice a2 d0.ns c2] 27)).alloc (.cells #[] 3)) d0 a0 a1 a2) := (VD.out.below hb).below hb2
  replace A1 : Hid (Below w.heap.size w ((v1.alloc (.cells #[.slice a0 d0.nb c0, .slice a1 d0.nc c1, .slice a2 d0.ns c2] 27)).alloc (.cells #[] 3))) := (A1.out.trans (hb.mono A1.out.size)).trans (hb2.mono (Nat.le_trans A1.out.size hb.size))
  have IR : Hid (IntR ((v1.alloc (.cells #[.slice a0 d0.nb c0, .slice a1 d0.nc c1, .slice a2 d0.ns c2] 27)).alloc (.cells #[] 3)) (v1.heap.size + 1) (.slice (some ⟨v1.heap.size + 1, 0, none⟩) 0 0) 0 CC) := by
    have := World.ownsRow_made (e := 3) (v1.alloc (.cells #[.slice a0 d0.nb c0, .slice a1 d0.nc c1, .slice a2 d0.ns c2] 27)) #[] (base := v1.heap.size + 1) (size := 1) 0 (by rw [hsz]; exact Nat.le_refl _) (Nat.zero_le _) rfl
    rw [hsz] at this
    exact this
  have DB : Hid (w.heap.size < v1.heap.size) := DBX.out
  have S01 : Hid (v1.heap.size ≤ ((v1.alloc (.cells #[.slice a0 d0.nb c0, .slice a1 d0.nc c1, .slice a2 d0.ns c2] 27)).alloc (.cells #[] 3)).heap.size) := Nat.le_trans hb.size hb2.size
  clear hb hb2 hsz
  go_wp2
  generalize ((v1.alloc (.cells #[.slice a0 d0.nb c0, .slice a1 d0.nc c1, .slice a2 d0.ns c2] 27)).alloc (.cells #[] 3)) = v2 at *
  obtain ⟨db, hdb⟩ : ∃ x, x = v1.heap.size := ⟨_, rfl⟩
  rw [← hdb] at BX IR DB LW0 S01 ⊢
  clear hdb
  go_loopw [9, 10] (fun cs i wr => ∃ (q : Nat) (a0 a1 a2 : Option Addr) (c0 c1 c2 : Nat), q ≤ m ∧ i = .int .i64 (q : Int) ∧ Box3 wr db 27 (.slice a0 (DD q).nb c0) (.slice a1 (DD q).nc c1) (.slice a2 (DD q).ns c2) ∧ DiskV wr (DD q) a0 a1 a2 ∧ (a0 = none → c0 = 0) ∧ (a1 = none → c1 = 0) ∧ (a2 = none → c2 = 0) ∧ IntR wr (db + 1) cs q CC ∧ Box3 wr w.heap.size 27 (.slice none 0 0) (.slice none 0 0) (.slice none 0 0) ∧ Below w.heap.size w wr ∧ (Lw wr.heap.size a0 ∧ Lw wr.heap.size a1 ∧ Lw wr.heap.size a2) ∧ (∀ g, cs.ownBlock = some g → Ap g a0 ∧ Ap g a1 ∧ Ap g a2)) (fun _ i _ => n - (intOf i).toNat)
  case atStart =>
    refine ⟨0, a0, a1, a2, c0, c1, c2, by omega, rfl, ?_, ?_, z0, z1, z2, IR.out, ZR.out, A1.out, ⟨LW0.out.1.mono S01.out, LW0.out.2.1.mono S01.out, LW0.out.2.2.mono S01.out⟩, fun g e => ?_⟩
    · rw [R0.out]; exact BX.out
    · rw [R0.out]; exact VD.out
    · obtain rfl : db + 1 = g := Option.some.inj e
      exact ⟨LW0.out.1.ap (Nat.le_succ _), LW0.out.2.1.ap (Nat.le_succ _), LW0.out.2.2.ap (Nat.le_succ _)⟩
  case round =>
    obtain ⟨q, a0, a1, a2, c0, c1, c2, hq, rfl, bx, vd, z0, z1, z2, ir, zr, hb, lw, sep⟩ := hrel
    clear BX VD IR ZR A1 LW0 S01
    have LW : Hid (Lw wr.heap.size a0 ∧ Lw wr.heap.size a1 ∧ Lw wr.heap.size a2) := lw
    have SEP : Hid (∀ g, u9.ownBlock = some g → Ap g a0 ∧ Ap g a1 ∧ Ap g a2) := sep
    clear lw sep
    have BX : Hid (Box3 wr db 27 (.slice a0 (DD q).nb c0) (.slice a1 (DD q).nc c1) (.slice a2 (DD q).ns c2)) := bx
    have VD : Hid (DiskV wr (DD q) a0 a1 a2) := vd
    have IR : Hid (IntR wr (db + 1) u9 q CC) := ir
    have ZR : Hid (Box3 wr w.heap.size 27 (.slice none 0 0) (.slice none 0 0) (.slice none 0 0)) := zr
    have A1 : Hid (Below w.heap.size w wr) := hb
    have ZC : Hid ((a0 = none → c0 = 0) ∧ (a1 = none → c1 = 0) ∧ (a2 = none → c2 = 0)) := ⟨z0, z1, z2⟩
    clear bx vd z0 z1 z2 ir zr hb R0
    by_cases hlt : q < m
    · obtain ⟨b, off, had, hall⟩ := HX.out.opened (by have := HMN.out; omega)
      subst had
      obtain ⟨ak, ck, hac, hbl⟩ := hall q (by have := HMN.out; omega)
      have AC : Hid (ActC wr b (off + q * 5) (A q) ak ck) := hac.below A1.out
      have BL : Hid (Bools wr ak (A q).nk (A q).K) := hbl.below A1.out
      have AB : Hid (b < w.heap.size) := hac.lt
      have t2 := AC.out.c2
      have t3 := AC.out.c3
      have y0 : (0 : Int) ≤ (q : Int) := by omega
      have y1 : (q : Int) < (n : Int) := by have := HMN.out; omega
      have s1 : ¬ (65536 : Int) < ((A q).s.size : Int) := by have := (HA.out q hlt).1; omega
      have s2 : ¬ (4096 : Int) < ((A q).nk : Int) := by have := (HA.out q hlt).2; omega
      clear hac hbl hall
      go_wp2_with fail
      clear t2 t3 s1 s2
      go_cut [11, 12] (fun nv cv wx => ∃ (pb : Nat) (ra0 ra1 ra2 : Option Addr) (rc0 rc1 rc2 : Nat), nv = .pointer (some ⟨pb, 0, none⟩) ∧ cv = .int .i64 (CC q) ∧ db < pb ∧ Box3 wx pb 27 (.slice ra0 (DD (q + 1)).nb rc0) (.slice ra1 (DD (q + 1)).nc rc1) (.slice ra2 (DD (q + 1)).ns rc2) ∧ DiskV wx (DD (q + 1)) ra0 ra1 ra2 ∧ ((ra0 = none → rc0 = 0) ∧ (ra1 = none → rc1 = 0) ∧ (ra2 = none → rc2 = 0)) ∧ Box3 wx db 27 (.slice a0 (DD q).nb c0) (.slice a1 (DD q).nc c1) (.slice a2 (DD q).ns c2) ∧ IntR wx (db + 1) u9 q CC ∧ Box3 wx w.heap.size 27 (.slice none 0 0) (.slice none 0 0) (.slice none 0 0) ∧ Below w.heap.size w wx ∧ (Lw wx.heap.size ra0 ∧ Lw wx.heap.size ra1 ∧ Lw wx.heap.size ra2) ∧ (∀ g, u9.ownBlock = some g → Ap g ra0 ∧ Ap g ra1 ∧ Ap g ra2))
      case first =>
        have SZ : Hid (wr.heap.size ≤ wr.heap.size) := Nat.le_refl _
        have hb : Below wr.heap.size wr wr.drew := (Below.refl _ _).drew
        have H : (Box3 wr.drew db 27 (.slice a0 (DD q).nb c0) (.slice a1 (DD q).nc c1) (.slice a2 (DD q).ns c2)) ∧ (ActC wr.drew b (off + q * 5) (A q) ak ck) := ⟨BX.out.below hb, AC.out.below hb⟩
        replace A1 : Hid (Below w.heap.size w wr.drew) := A1.out.trans (hb.mono A1.out.size)
        replace VD : Hid (DiskV wr.drew (DD q) a0 a1 a2) := VD.out.below hb
        replace BL : Hid (Bools wr.drew ak (A q).nk (A q).K) := BL.out.below hb
        replace IR : Hid (IntR wr.drew (db + 1) u9 q CC) := IR.out.below hb
        replace ZR : Hid (Box3 wr.drew w.heap.size 27 (.slice none 0 0) (.slice none 0 0) (.slice none 0 0)) := ZR.out.below hb
        replace SZ : Hid (wr.heap.size ≤ (wr.drew).heap.size) := Nat.le_trans SZ.out hb.size
        clear hb BX AC
        refine wp_region_noPanic ?_
        refine wp_region_held_drew (S := fun w' => (Box3 w' db 27 (.slice a0 (DD q).nb c0) (.slice a1 (DD q).nc c1) (.slice a2 (DD q).ns c2)) ∧ (ActC w' b (off + q * 5) (A q) ak ck)) (by kernel_rfl) H (fun _ => ?_)
        generalize wr.drew = v11 at *
        refine wpAnyH_take (i := 0) (v := .agg #[.slice a0 (DD q).nb c0, .slice a1 (DD q).nc c1, .slice a2 (DD q).ns c2]) rfl (by kernel_rfl) (by kernel_rfl) (by kernel_rfl) (fun _ _ _ h => h) (Or.inl ⟨by rfl, ?_⟩) H ?_
        · intro w' hSw; have t0 := hSw.1.c0; have t1 := hSw.1.c1; have t2 := hSw.1.c2; clear hSw; go_simp
        change wpAnyH _ _ _ _ _ _ _ { tmps := #[_, _, _, _, _, _, _, _, _, _, _, _, _, _, _, _, _, _, _, _, _, _, _, _, _, _, _, _, _, _, _, _, _, _, _, _, _, _, _, _, _, _, _, _, _, _, _, _, _, _, _, _, _, _, _, _, _, _, _, _, _, _, _, _, _, _, _, _, _, _, _, _, _, _, _], defers := _ } _
        refine wpAnyH_take (i := 1) (v := .slice (some ⟨b, off, none⟩) n c) rfl (by kernel_rfl) (by kernel_rfl) (by kernel_rfl) (fun _ _ _ h => h) (Or.inl ⟨by rfl, ?_⟩) H ?_
        · intro w' hSw; go_simp
        change wpAnyH _ _ _ _ _ _ _ { tmps := #[_, _, _, _, _, _, _, _, _, _, _, _, _, _, _, _, _, _, _, _, _, _, _, _, _, _, _, _, _, _, _, _, _, _, _, _, _, _, _, _, _, _, _, _, _, _, _, _, _, _, _, _, _, _, _, _, _, _, _, _, _, _, _, _, _, _, _, _, _, _, _, _, _, _, _], defers := _ } _
        refine wpAnyH_take (i := 2) (v := .int .i64 (q : Int)) rfl (by kernel_rfl) (by kernel_rfl) (by kernel_rfl) (fun _ _ _ h => h) (Or.inl ⟨by rfl, ?_⟩) H ?_
        · intro w' hSw; go_simp
        change wpAnyH _ _ _ _ _ _ _ { tmps := #[_, _, _, _, _, _, _, _, _, _, _, _, _, _, _, _, _, _, _, _, _, _, _, _, _, _, _, _, _, _, _, _, _, _, _, _, _, _, _, _, _, _, _, _, _, _, _, _, _, _, _, _, _, _, _, _, _, _, _, _, _, _, _, _, _, _, _, _, _, _, _, _, _, _, _], defers := _ } _
        refine wpAnyH_take (i := 3) (v := .pointer (some ⟨b, off + q * 5, none⟩)) rfl (by kernel_rfl) (by kernel_rfl) (by kernel_rfl) (fun _ _ _ h => h) (Or.inl ⟨by rfl, ?_⟩) H ?_
        · intro w' hSw; go_simp
        change wpAnyH _ _ _ _ _ _ _ { tmps := #[_, _, _, _, _, _, _, _, _, _, _, _, _, _, _, _, _, _, _, _, _, _, _, _, _, _, _, _, _, _, _, _, _, _, _, _, _, _, _, _, _, _, _, _, _, _, _, _, _, _, _, _, _, _, _, _, _, _, _, _, _, _, _, _, _, _, _, _, _, _, _, _, _, _, _], defers := _ } _
        refine wpAnyH_take (i := 4) (v := .agg #[.int .i64 (A q).kd, .int .i64 (A q).x, .string (A q).s, .slice ak (A q).nk ck, .int .i64 (A q).t]) rfl (by kernel_rfl) (by kernel_rfl) (by kernel_rfl) (fun _ _ _ h => h) (Or.inl ⟨by rfl, ?_⟩) H ?_
        · intro w' hSw; have t0 := hSw.2.c0; have t1 := hSw.2.c1; have t2 := hSw.2.c2; have t3 := hSw.2.c3; have t4 := hSw.2.c4; clear hSw; go_simp
        change wpAnyH _ _ _ _ _ _ _ { tmps := #[_, _, _, _, _, _, _, _, _, _, _, _, _, _, _, _, _, _, _, _, _, _, _, _, _, _, _, _, _, _, _, _, _, _, _, _, _, _, _, _, _, _, _, _, _, _, _, _, _, _, _, _, _, _, _, _, _, _, _, _, _, _, _, _, _, _, _, _, _, _, _, _, _, _, _], defers := _ } _
        refine wpAnyH_ready (rs := [5, 9]) (by kernel_rfl) (by simp) ?_
        refine (AllReadyH.cons rfl (fun KK hK => ?_) (AllReadyH.cons rfl (fun KK hK => ?_) AllReadyH.nil))
        · skip
          go_simp
          refine (ST.out q _ _ _ _ _ _ _ _ _ hlt ZC.out.1 ZC.out.2.1 ZC.out.2.2 VD.out BL.out).mono ?_
          rintro e v12 ⟨⟨ra0, ra1, ra2, rc0, rc1, rc2, rfl, rd, z0, z1, z2, k0, k1, k2⟩, hb⟩
          have SR : Hid (∀ g, u9.ownBlock = some g → Ap g ra0 ∧ Ap g ra1 ∧ Ap g ra2) := fun g e => ⟨(SEP.out g e).1.fr k0 (IR.out.lt g e).2, (SEP.out g e).2.1.fr k1 (IR.out.lt g e).2, (SEP.out g e).2.2.fr k2 (IR.out.lt g e).2⟩
          replace A1 : Hid (Below w.heap.size w v12) := A1.out.trans (hb.mono A1.out.size)
          replace VD : Hid (DiskV v12 (DD q) a0 a1 a2) := VD.out.below hb
          replace BL : Hid (Bools v12 ak (A q).nk (A q).K) := BL.out.below hb
          replace IR : Hid (IntR v12 (db + 1) u9 q CC) := IR.out.below hb
          replace ZR : Hid (Box3 v12 w.heap.size 27 (.slice none 0 0) (.slice none 0 0) (.slice none 0 0)) := ZR.out.below hb
          replace SZ : Hid (wr.heap.size ≤ (v12).heap.size) := Nat.le_trans SZ.out hb.size
          replace H : (Box3 v12 db 27 (.slice a0 (DD q).nb c0) (.slice a1 (DD q).nc c1) (.slice a2 (DD q).ns c2)) ∧ (ActC v12 b (off + q * 5) (A q) ak ck) := ⟨H.1.below hb, H.2.below hb⟩
          have LR : Hid (Lw v12.heap.size ra0 ∧ Lw v12.heap.size ra1 ∧ Lw v12.heap.size ra2) := ⟨LW.out.1.fr SZ.out k0, LW.out.2.1.fr SZ.out k1, LW.out.2.2.fr SZ.out k2⟩
          clear k0 k1 k2
          have RV : Hid (DiskV v12 (DD (q + 1)) ra0 ra1 ra2) := rd
          have RZ : Hid ((ra0 = none → rc0 = 0) ∧ (ra1 = none → rc1 = 0) ∧ (ra2 = none → rc2 = 0)) := ⟨z0, z1, z2⟩
          clear hb rd z0 z1 z2
          refine hK.out _ _ H (fun _ => ?_)
          clear hK KK
          change wpAnyH _ _ _ _ _ _ _ { tmps := #[_, _, _, _, _, _, _, _, _, _, _, _, _, _, _, _, _, _, _, _, _, _, _, _, _, _, _, _, _, _, _, _, _, _, _, _, _, _, _, _, _, _, _, _, _, _, _, _, _, _, _, _, _, _, _, _, _, _, _, _, _, _, _, _, _, _, _, _, _, _, _, _, _, _, _], defers := _ } _
          refine wpAnyH_take (i := 6) (v := .tuple #[.agg #[.slice ra0 (DD (q + 1)).nb rc0, .slice ra1 (DD (q + 1)).nc rc1, .slice ra2 (DD (q + 1)).ns rc2], .int .i64 (CC q)]) rfl (by kernel_rfl) (by kernel_rfl) (by kernel_rfl) (fun _ _ _ h => h) (Or.inl ⟨by rfl, ?_⟩) H ?_
          · intro w' hSw; go_simp
          change wpAnyH _ _ _ _ _ _ _ { tmps := #[_, _, _, _, _, _, _, _, _, _, _, _, _, _, _, _, _, _, _, _, _, _, _, _, _, _, _, _, _, _, _, _, _, _, _, _, _, _, _, _, _, _, _, _, _, _, _, _, _, _, _, _, _, _, _, _, _, _, _, _, _, _, _, _, _, _, _, _, _, _, _, _, _, _, _], defers := _ } _
          refine wpAnyH_take (i := 7) (v := .agg #[.slice ra0 (DD (q + 1)).nb rc0, .slice ra1 (DD (q + 1)).nc rc1, .slice ra2 (DD (q + 1)).ns rc2]) rfl (by kernel_rfl) (by kernel_rfl) (by kernel_rfl) (fun _ _ _ h => h) (Or.inl ⟨by rfl, ?_⟩) H ?_
          · intro w' hSw; go_simp
          change wpAnyH _ _ _ _ _ _ _ { tmps := #[_, _, _, _, _, _, _, _, _, _, _, _, _, _, _, _, _, _, _, _, _, _, _, _, _, _, _, _, _, _, _, _, _, _, _, _, _, _, _, _, _, _, _, _, _, _, _, _, _, _, _, _, _, _, _, _, _, _, _, _, _, _, _, _, _, _, _, _, _, _, _, _, _, _, _], defers := _ } _
          refine wpAnyH_take (i := 8) (v := .int .i64 (CC q)) rfl (by kernel_rfl) (by kernel_rfl) (by kernel_rfl) (fun _ _ _ h => h) (Or.inl ⟨by rfl, ?_⟩) H ?_
          · intro w' hSw; go_simp
          change wpAnyH _ _ _ _ _ _ _ { tmps := #[_, _, _, _, _, _, _, _, _, _, _, _, _, _, _, _, _, _, _, _, _, _, _, _, _, _, _, _, _, _, _, _, _, _, _, _, _, _, _, _, _, _, _, _, _, _, _, _, _, _, _, _, _, _, _, _, _, _, _, _, _, _, _, _, _, _, _, _, _, _, _, _, _, _, _], defers := _ } _
          refine wpAnyH_ready (rs := [9]) (by kernel_rfl) (by simp) ?_
          refine (AllReadyH.cons rfl (fun KK hK => ?_) AllReadyH.nil)
          have hb : Below v12.heap.size v12 (v12.alloc (.cells #[.slice none 0 0, .slice none 0 0, .slice none 0 0] 27)) := (Below.refl _ _).alloc (Nat.le_refl _) _
          have PZ : Hid (Box3 (v12.alloc (.cells #[.slice none 0 0, .slice none 0 0, .slice none 0 0] 27)) v12.heap.size 27 (.slice none 0 0) (.slice none 0 0) (.slice none 0 0)) := Box3.made _ _ _ _ _
          have LP : Hid (db < v12.heap.size ∧ b < v12.heap.size ∧ w.heap.size < v12.heap.size ∧ ∀ g, u9.ownBlock = some g → g < v12.heap.size) := ⟨H.1.lt, H.2.lt, ZR.out.lt, fun g e => (IR.out.lt g e).2⟩
          go_simp
          replace H : (Box3 (v12.alloc (.cells #[.slice none 0 0, .slice none 0 0, .slice none 0 0] 27)) db 27 (.slice a0 (DD q).nb c0) (.slice a1 (DD q).nc c1) (.slice a2 (DD q).ns c2)) ∧ (ActC (v12.alloc (.cells #[.slice none 0 0, .slice none 0 0, .slice none 0 0] 27)) b (off + q * 5) (A q) ak ck) := ⟨H.1.below hb, H.2.below hb⟩
          generalize (v12.alloc (.cells #[.slice none 0 0, .slice none 0 0, .slice none 0 0] 27)) = v13 at *
          replace A1 : Hid (Below w.heap.size w v13) := A1.out.trans (hb.mono A1.out.size)
          replace VD : Hid (DiskV v13 (DD q) a0 a1 a2) := VD.out.below hb
          replace BL : Hid (Bools v13 ak (A q).nk (A q).K) := BL.out.below hb
          replace IR : Hid (IntR v13 (db + 1) u9 q CC) := IR.out.below hb
          replace ZR : Hid (Box3 v13 w.heap.size 27 (.slice none 0 0) (.slice none 0 0) (.slice none 0 0)) := ZR.out.below hb
          replace SZ : Hid (wr.heap.size ≤ (v13).heap.size) := Nat.le_trans SZ.out hb.size
          replace LR : Hid (Lw (v13).heap.size ra0 ∧ Lw (v13).heap.size ra1 ∧ Lw (v13).heap.size ra2) := ⟨LR.out.1.mono hb.size, LR.out.2.1.mono hb.size, LR.out.2.2.mono hb.size⟩
          replace RV : Hid (DiskV v13 (DD (q + 1)) ra0 ra1 ra2) := RV.out.below hb
          obtain ⟨pb, hpb⟩ : ∃ x, x = v12.heap.size := ⟨_, rfl⟩
          rw [← hpb] at PZ LP ⊢
          clear hb hpb
          refine hK.out _ _ H (fun _ => ?_)
          clear hK KK
          change wpAnyH _ _ _ _ _ _ _ { tmps := #[_, _, _, _, _, _, _, _, _, _, _, _, _, _, _, _, _, _, _, _, _, _, _, _, _, _, _, _, _, _, _, _, _, _, _, _, _, _, _, _, _, _, _, _, _, _, _, _, _, _, _, _, _, _, _, _, _, _, _, _, _, _, _, _, _, _, _, _, _, _, _, _, _, _, _], defers := _ } _
          refine wpAnyH_ready (rs := [10]) (by kernel_rfl) (by simp) ?_
          refine (AllReadyH.cons rfl (fun KK hK => ?_) AllReadyH.nil)
          rw [if_pos (by rfl)]
          refine wp_store_mid 27 (.tmp 11) (.tmp 65) rfl pb 0 #[.slice ra0 (DD (q + 1)).nb rc0, .slice ra1 (DD (q + 1)).nc rc1, .slice ra2 (DD (q + 1)).ns rc2] rfl rfl PZ.out.there Tryd.sizeDk (oneSl3 _ _ _ _ _ _ _ _ _) ?_
          have ho : OnlyB pb v13 (v13.setCells pb 0 [.slice ra0 (DD (q + 1)).nb rc0, .slice ra1 (DD (q + 1)).nc rc1, .slice ra2 (DD (q + 1)).ns rc2]) := OnlyB.stored3 _ _ _ _ _
          have hk := ho.keepR
          have XN : Hid (Box3 (v13.setCells pb 0 [.slice ra0 (DD (q + 1)).nb rc0, .slice ra1 (DD (q + 1)).nc rc1, .slice ra2 (DD (q + 1)).ns rc2]) pb 27 (.slice ra0 (DD (q + 1)).nb rc0) (.slice ra1 (DD (q + 1)).nc rc1) (.slice ra2 (DD (q + 1)).ns rc2)) := PZ.out.stored _ _ _
          replace A1 : Hid (Below w.heap.size w (v13.setCells pb 0 [.slice ra0 (DD (q + 1)).nb rc0, .slice ra1 (DD (q + 1)).nc rc1, .slice ra2 (DD (q + 1)).ns rc2])) := A1.out.trans (ho.toBelow (Nat.le_of_lt LP.out.2.2.1) A1.out.size)
          replace RV : Hid (DiskV (v13.setCells pb 0 [.slice ra0 (DD (q + 1)).nb rc0, .slice ra1 (DD (q + 1)).nc rc1, .slice ra2 (DD (q + 1)).ns rc2]) (DD (q + 1)) ra0 ra1 ra2) := RV.out.stored PZ.out _ _ _
          replace LR : Hid (Lw (v13.setCells pb 0 [.slice ra0 (DD (q + 1)).nb rc0, .slice ra1 (DD (q + 1)).nc rc1, .slice ra2 (DD (q + 1)).ns rc2]).heap.size ra0 ∧ Lw (v13.setCells pb 0 [.slice ra0 (DD (q + 1)).nb rc0, .slice ra1 (DD (q + 1)).nc rc1, .slice ra2 (DD (q + 1)).ns rc2]).heap.size ra1 ∧ Lw (v13.setCells pb 0 [.slice ra0 (DD (q + 1)).nb rc0, .slice ra1 (DD (q + 1)).nc rc1, .slice ra2 (DD (q + 1)).ns rc2]).heap.size ra2) := ⟨LR.out.1.mono ho.size, LR.out.2.1.mono ho.size, LR.out.2.2.mono ho.size⟩
          replace IR : Hid (IntR (v13.setCells pb 0 [.slice ra0 (DD (q + 1)).nb rc0, .slice ra1 (DD (q + 1)).nc rc1, .slice ra2 (DD (q + 1)).ns rc2]) (db + 1) u9 q CC) := IR.out.onlyB ho (fun e => Nat.lt_irrefl _ (LP.out.2.2.2 _ e))
          replace ZR : Hid (Box3 (v13.setCells pb 0 [.slice ra0 (DD (q + 1)).nb rc0, .slice ra1 (DD (q + 1)).nc rc1, .slice ra2 (DD (q + 1)).ns rc2]) w.heap.size 27 (.slice none 0 0) (.slice none 0 0) (.slice none 0 0)) := ZR.out.keepR hk (.inl LP.out.2.2.1)
          replace H : (Box3 (v13.setCells pb 0 [.slice ra0 (DD (q + 1)).nb rc0, .slice ra1 (DD (q + 1)).nc rc1, .slice ra2 (DD (q + 1)).ns rc2]) db 27 (.slice a0 (DD q).nb c0) (.slice a1 (DD q).nc c1) (.slice a2 (DD q).ns c2)) ∧ (ActC (v13.setCells pb 0 [.slice ra0 (DD (q + 1)).nb rc0, .slice ra1 (DD (q + 1)).nc rc1, .slice ra2 (DD (q + 1)).ns rc2]) b (off + q * 5) (A q) ak ck) := ⟨H.1.keepR hk (.inl LP.out.1), H.2.of_block (ho.block b H.2.lt (Nat.ne_of_lt LP.out.2.1))⟩
          generalize (v13.setCells pb 0 [.slice ra0 (DD (q + 1)).nb rc0, .slice ra1 (DD (q + 1)).nc rc1, .slice ra2 (DD (q + 1)).ns rc2]) = v14 at *
          clear ho hk PZ VD BL SZ
          refine hK.out _ _ H (fun _ => ?_)
          clear hK KK
          change wpAnyH _ _ _ _ _ _ _ { tmps := #[_, _, _, _, _, _, _, _, _, _, _, _, _, _, _, _, _, _, _, _, _, _, _, _, _, _, _, _, _, _, _, _, _, _, _, _, _, _, _, _, _, _, _, _, _, _, _, _, _, _, _, _, _, _, _, _, _, _, _, _, _, _, _, _, _, _, _, _, _, _, _, _, _, _, _], defers := _ } _
          refine wpAnyH_take (i := 11) (v := .int .i64 (CC q)) rfl (by kernel_rfl) (by kernel_rfl) (by kernel_rfl) (fun _ _ _ h => h) (Or.inl ⟨by rfl, ?_⟩) H ?_
          · intro w' hSw; go_simp
          change wpAnyH _ _ _ _ _ _ _ { tmps := #[_, _, _, _, _, _, _, _, _, _, _, _, _, _, _, _, _, _, _, _, _, _, _, _, _, _, _, _, _, _, _, _, _, _, _, _, _, _, _, _, _, _, _, _, _, _, _, _, _, _, _, _, _, _, _, _, _, _, _, _, _, _, _, _, _, _, _, _, _, _, _, _, _, _, _], defers := _ } _
          refine wpAnyH_done (by kernel_rfl) ?_ _
          refine NoPanic.normal ?_
          change Exit.then _ _ Exit.normal { tmps := #[_, _, _, _, _, _, _, _, _, _, _, _, _, _, _, _, _, _, _, _, _, _, _, _, _, _, _, _, _, _, _, _, _, _, _, _, _, _, _, _, _, _, _, _, _, _, _, _, _, _, _, _, _, _, _, _, _, _, _, _, _, _, _, _, _, _, _, _, _, _, _, _, _, _, _], defers := _ } _
          go_wp2_with fail
          go_meet
          exact ⟨pb, ra0, ra1, ra2, rc0, rc1, rc2, rfl, rfl, LP.out.1, XN.out, RV.out, RZ.out, H.1, IR.out, ZR.out, A1.out, LR.out, SR.out⟩
        · skip
          have hb : Below v11.heap.size v11 (v11.alloc (.cells #[.slice none 0 0, .slice none 0 0, .slice none 0 0] 27)) := (Below.refl _ _).alloc (Nat.le_refl _) _
          have PZ : Hid (Box3 (v11.alloc (.cells #[.slice none 0 0, .slice none 0 0, .slice none 0 0] 27)) v11.heap.size 27 (.slice none 0 0) (.slice none 0 0) (.slice none 0 0)) := Box3.made _ _ _ _ _
          have LP : Hid (db < v11.heap.size ∧ b < v11.heap.size ∧ w.heap.size < v11.heap.size ∧ ∀ g, u9.ownBlock = some g → g < v11.heap.size) := ⟨H.1.lt, H.2.lt, ZR.out.lt, fun g e => (IR.out.lt g e).2⟩
          go_simp
          replace H : (Box3 (v11.alloc (.cells #[.slice none 0 0, .slice none 0 0, .slice none 0 0] 27)) db 27 (.slice a0 (DD q).nb c0) (.slice a1 (DD q).nc c1) (.slice a2 (DD q).ns c2)) ∧ (ActC (v11.alloc (.cells #[.slice none 0 0, .slice none 0 0, .slice none 0 0] 27)) b (off + q * 5) (A q) ak ck) := ⟨H.1.below hb, H.2.below hb⟩
          generalize (v11.alloc (.cells #[.slice none 0 0, .slice none 0 0, .slice none 0 0] 27)) = v15 at *
          replace A1 : Hid (Below w.heap.size w v15) := A1.out.trans (hb.mono A1.out.size)
          replace VD : Hid (DiskV v15 (DD q) a0 a1 a2) := VD.out.below hb
          replace BL : Hid (Bools v15 ak (A q).nk (A q).K) := BL.out.below hb
          replace IR : Hid (IntR v15 (db + 1) u9 q CC) := IR.out.below hb
          replace ZR : Hid (Box3 v15 w.heap.size 27 (.slice none 0 0) (.slice none 0 0) (.slice none 0 0)) := ZR.out.below hb
          replace SZ : Hid (wr.heap.size ≤ (v15).heap.size) := Nat.le_trans SZ.out hb.size
          obtain ⟨pb, hpb⟩ : ∃ x, x = v11.heap.size := ⟨_, rfl⟩
          rw [← hpb] at PZ LP ⊢
          clear hb hpb
          refine hK.out _ _ H (fun _ => ?_)
          clear hK KK
          change wpAnyH _ _ _ _ _ _ _ { tmps := #[_, _, _, _, _, _, _, _, _, _, _, _, _, _, _, _, _, _, _, _, _, _, _, _, _, _, _, _, _, _, _, _, _, _, _, _, _, _, _, _, _, _, _, _, _, _, _, _, _, _, _, _, _, _, _, _, _, _, _, _, _, _, _, _, _, _, _, _, _, _, _, _, _, _, _], defers := _ } _
          refine wpAnyH_ready (rs := [5]) (by kernel_rfl) (by simp) ?_
          refine (AllReadyH.cons rfl (fun KK hK => ?_) AllReadyH.nil)
          go_simp
          refine (ST.out q _ _ _ _ _ _ _ _ _ hlt ZC.out.1 ZC.out.2.1 ZC.out.2.2 VD.out BL.out).mono ?_
          rintro e v16 ⟨⟨ra0, ra1, ra2, rc0, rc1, rc2, rfl, rd, z0, z1, z2, k0, k1, k2⟩, hb⟩
          have SR : Hid (∀ g, u9.ownBlock = some g → Ap g ra0 ∧ Ap g ra1 ∧ Ap g ra2) := fun g e => ⟨(SEP.out g e).1.fr k0 (IR.out.lt g e).2, (SEP.out g e).2.1.fr k1 (IR.out.lt g e).2, (SEP.out g e).2.2.fr k2 (IR.out.lt g e).2⟩
          replace A1 : Hid (Below w.heap.size w v16) := A1.out.trans (hb.mono A1.out.size)
          replace VD : Hid (DiskV v16 (DD q) a0 a1 a2) := VD.out.below hb
          replace BL : Hid (Bools v16 ak (A q).nk (A q).K) := BL.out.below hb
          replace IR : Hid (IntR v16 (db + 1) u9 q CC) := IR.out.below hb
          replace ZR : Hid (Box3 v16 w.heap.size 27 (.slice none 0 0) (.slice none 0 0) (.slice none 0 0)) := ZR.out.below hb
          replace SZ : Hid (wr.heap.size ≤ (v16).heap.size) := Nat.le_trans SZ.out hb.size
          replace PZ : Hid (Box3 v16 pb 27 (.slice none 0 0) (.slice none 0 0) (.slice none 0 0)) := PZ.out.below hb
          replace H : (Box3 v16 db 27 (.slice a0 (DD q).nb c0) (.slice a1 (DD q).nc c1) (.slice a2 (DD q).ns c2)) ∧ (ActC v16 b (off + q * 5) (A q) ak ck) := ⟨H.1.below hb, H.2.below hb⟩
          have LR : Hid (Lw v16.heap.size ra0 ∧ Lw v16.heap.size ra1 ∧ Lw v16.heap.size ra2) := ⟨LW.out.1.fr SZ.out k0, LW.out.2.1.fr SZ.out k1, LW.out.2.2.fr SZ.out k2⟩
          clear k0 k1 k2
          have RV : Hid (DiskV v16 (DD (q + 1)) ra0 ra1 ra2) := rd
          have RZ : Hid ((ra0 = none → rc0 = 0) ∧ (ra1 = none → rc1 = 0) ∧ (ra2 = none → rc2 = 0)) := ⟨z0, z1, z2⟩
          clear hb rd z0 z1 z2
          refine hK.out _ _ H (fun _ => ?_)
          clear hK KK
          change wpAnyH _ _ _ _ _ _ _ { tmps := #[_, _, _, _, _, _, _, _, _, _, _, _, _, _, _, _, _, _, _, _, _, _, _, _, _, _, _, _, _, _, _, _, _, _, _, _, _, _, _, _, _, _, _, _, _, _, _, _, _, _, _, _, _, _, _, _, _, _, _, _, _, _, _, _, _, _, _, _, _, _, _, _, _, _, _], defers := _ } _
          refine wpAnyH_take (i := 6) (v := .tuple #[.agg #[.slice ra0 (DD (q + 1)).nb rc0, .slice ra1 (DD (q + 1)).nc rc1, .slice ra2 (DD (q + 1)).ns rc2], .int .i64 (CC q)]) rfl (by kernel_rfl) (by kernel_rfl) (by kernel_rfl) (fun _ _ _ h => h) (Or.inl ⟨by rfl, ?_⟩) H ?_
          · intro w' hSw; go_simp
          change wpAnyH _ _ _ _ _ _ _ { tmps := #[_, _, _, _, _, _, _, _, _, _, _, _, _, _, _, _, _, _, _, _, _, _, _, _, _, _, _, _, _, _, _, _, _, _, _, _, _, _, _, _, _, _, _, _, _, _, _, _, _, _, _, _, _, _, _, _, _, _, _, _, _, _, _, _, _, _, _, _, _, _, _, _, _, _, _], defers := _ } _
          refine wpAnyH_take (i := 7) (v := .agg #[.slice ra0 (DD (q + 1)).nb rc0, .slice ra1 (DD (q + 1)).nc rc1, .slice ra2 (DD (q + 1)).ns rc2]) rfl (by kernel_rfl) (by kernel_rfl) (by kernel_rfl) (fun _ _ _ h => h) (Or.inl ⟨by rfl, ?_⟩) H ?_
          · intro w' hSw; go_simp
          change wpAnyH _ _ _ _ _ _ _ { tmps := #[_, _, _, _, _, _, _, _, _, _, _, _, _, _, _, _, _, _, _, _, _, _, _, _, _, _, _, _, _, _, _, _, _, _, _, _, _, _, _, _, _, _, _, _, _, _, _, _, _, _, _, _, _, _, _, _, _, _, _, _, _, _, _, _, _, _, _, _, _, _, _, _, _, _, _], defers := _ } _
          refine wpAnyH_take (i := 8) (v := .int .i64 (CC q)) rfl (by kernel_rfl) (by kernel_rfl) (by kernel_rfl) (fun _ _ _ h => h) (Or.inl ⟨by rfl, ?_⟩) H ?_
          · intro w' hSw; go_simp
          change wpAnyH _ _ _ _ _ _ _ { tmps := #[_, _, _, _, _, _, _, _, _, _, _, _, _, _, _, _, _, _, _, _, _, _, _, _, _, _, _, _, _, _, _, _, _, _, _, _, _, _, _, _, _, _, _, _, _, _, _, _, _, _, _, _, _, _, _, _, _, _, _, _, _, _, _, _, _, _, _, _, _, _, _, _, _, _, _], defers := _ } _
          refine wpAnyH_ready (rs := [10]) (by kernel_rfl) (by simp) ?_
          refine (AllReadyH.cons rfl (fun KK hK => ?_) AllReadyH.nil)
          rw [if_pos (by rfl)]
          refine wp_store_mid 27 (.tmp 11) (.tmp 65) rfl pb 0 #[.slice ra0 (DD (q + 1)).nb rc0, .slice ra1 (DD (q + 1)).nc rc1, .slice ra2 (DD (q + 1)).ns rc2] rfl rfl PZ.out.there Tryd.sizeDk (oneSl3 _ _ _ _ _ _ _ _ _) ?_
          have ho : OnlyB pb v16 (v16.setCells pb 0 [.slice ra0 (DD (q + 1)).nb rc0, .slice ra1 (DD (q + 1)).nc rc1, .slice ra2 (DD (q + 1)).ns rc2]) := OnlyB.stored3 _ _ _ _ _
          have hk := ho.keepR
          have XN : Hid (Box3 (v16.setCells pb 0 [.slice ra0 (DD (q + 1)).nb rc0, .slice ra1 (DD (q + 1)).nc rc1, .slice ra2 (DD (q + 1)).ns rc2]) pb 27 (.slice ra0 (DD (q + 1)).nb rc0) (.slice ra1 (DD (q + 1)).nc rc1) (.slice ra2 (DD (q + 1)).ns rc2)) := PZ.out.stored _ _ _
          replace A1 : Hid (Below w.heap.size w (v16.setCells pb 0 [.slice ra0 (DD (q + 1)).nb rc0, .slice ra1 (DD (q + 1)).nc rc1, .slice ra2 (DD (q + 1)).ns rc2])) := A1.out.trans (ho.toBelow (Nat.le_of_lt LP.out.2.2.1) A1.out.size)
          replace RV : Hid (DiskV (v16.setCells pb 0 [.slice ra0 (DD (q + 1)).nb rc0, .slice ra1 (DD (q + 1)).nc rc1, .slice ra2 (DD (q + 1)).ns rc2]) (DD (q + 1)) ra0 ra1 ra2) := RV.out.stored PZ.out _ _ _
          replace LR : Hid (Lw (v16.setCells pb 0 [.slice ra0 (DD (q + 1)).nb rc0, .slice ra1 (DD (q + 1)).nc rc1, .slice ra2 (DD (q + 1)).ns rc2]).heap.size ra0 ∧ Lw (v16.setCells pb 0 [.slice ra0 (DD (q + 1)).nb rc0, .slice ra1 (DD (q + 1)).nc rc1, .slice ra2 (DD (q + 1)).ns rc2]).heap.size ra1 ∧ Lw (v16.setCells pb 0 [.slice ra0 (DD (q + 1)).nb rc0, .slice ra1 (DD (q + 1)).nc rc1, .slice ra2 (DD (q + 1)).ns rc2]).heap.size ra2) := ⟨LR.out.1.mono ho.size, LR.out.2.1.mono ho.size, LR.out.2.2.mono ho.size⟩
          replace IR : Hid (IntR (v16.setCells pb 0 [.slice ra0 (DD (q + 1)).nb rc0, .slice ra1 (DD (q + 1)).nc rc1, .slice ra2 (DD (q + 1)).ns rc2]) (db + 1) u9 q CC) := IR.out.onlyB ho (fun e => Nat.lt_irrefl _ (LP.out.2.2.2 _ e))
          replace ZR : Hid (Box3 (v16.setCells pb 0 [.slice ra0 (DD (q + 1)).nb rc0, .slice ra1 (DD (q + 1)).nc rc1, .slice ra2 (DD (q + 1)).ns rc2]) w.heap.size 27 (.slice none 0 0) (.slice none 0 0) (.slice none 0 0)) := ZR.out.keepR hk (.inl LP.out.2.2.1)
          replace H : (Box3 (v16.setCells pb 0 [.slice ra0 (DD (q + 1)).nb rc0, .slice ra1 (DD (q + 1)).nc rc1, .slice ra2 (DD (q + 1)).ns rc2]) db 27 (.slice a0 (DD q).nb c0) (.slice a1 (DD q).nc c1) (.slice a2 (DD q).ns c2)) ∧ (ActC (v16.setCells pb 0 [.slice ra0 (DD (q + 1)).nb rc0, .slice ra1 (DD (q + 1)).nc rc1, .slice ra2 (DD (q + 1)).ns rc2]) b (off + q * 5) (A q) ak ck) := ⟨H.1.keepR hk (.inl LP.out.1), H.2.of_block (ho.block b H.2.lt (Nat.ne_of_lt LP.out.2.1))⟩
          generalize (v16.setCells pb 0 [.slice ra0 (DD (q + 1)).nb rc0, .slice ra1 (DD (q + 1)).nc rc1, .slice ra2 (DD (q + 1)).ns rc2]) = v17 at *
          clear ho hk PZ VD BL SZ
          refine hK.out _ _ H (fun _ => ?_)
          clear hK KK
          change wpAnyH _ _ _ _ _ _ _ { tmps := #[_, _, _, _, _, _, _, _, _, _, _, _, _, _, _, _, _, _, _, _, _, _, _, _, _, _, _, _, _, _, _, _, _, _, _, _, _, _, _, _, _, _, _, _, _, _, _, _, _, _, _, _, _, _, _, _, _, _, _, _, _, _, _, _, _, _, _, _, _, _, _, _, _, _, _], defers := _ } _
          refine wpAnyH_take (i := 11) (v := .int .i64 (CC q)) rfl (by kernel_rfl) (by kernel_rfl) (by kernel_rfl) (fun _ _ _ h => h) (Or.inl ⟨by rfl, ?_⟩) H ?_
          · intro w' hSw; go_simp
          change wpAnyH _ _ _ _ _ _ _ { tmps := #[_, _, _, _, _, _, _, _, _, _, _, _, _, _, _, _, _, _, _, _, _, _, _, _, _, _, _, _, _, _, _, _, _, _, _, _, _, _, _, _, _, _, _, _, _, _, _, _, _, _, _, _, _, _, _, _, _, _, _, _, _, _, _, _, _, _, _, _, _, _, _, _, _, _, _], defers := _ } _
          refine wpAnyH_done (by kernel_rfl) ?_ _
          refine NoPanic.normal ?_
          change Exit.then _ _ Exit.normal { tmps := #[_, _, _, _, _, _, _, _, _, _, _, _, _, _, _, _, _, _, _, _, _, _, _, _, _, _, _, _, _, _, _, _, _, _, _, _, _, _, _, _, _, _, _, _, _, _, _, _, _, _, _, _, _, _, _, _, _, _, _, _, _, _, _, _, _, _, _, _, _, _, _, _, _, _, _], defers := _ } _
          go_wp2_with fail
          go_meet
          exact ⟨pb, ra0, ra1, ra2, rc0, rc1, rc2, rfl, rfl, LP.out.1, XN.out, RV.out, RZ.out, H.1, IR.out, ZR.out, A1.out, LR.out, SR.out⟩
      case rest =>
      obtain ⟨pb, ra0, ra1, ra2, rc0, rc1, rc2, rfl, rfl, hpb, xn, rv, rz, bx, ir, zr, hb, lr, sr⟩ := hcut
      clear BX VD AC BL IR ZR A1 ZC ST LW SEP
      have t0 := xn.c0
      have t1 := xn.c1
      have t2 := xn.c2
      have t3 := bx.c0
      have t4 := bx.c1
      have t5 := bx.c2
      have t6 := bx.fr 0
      have t7 := bx.fr 1
      have t8 := bx.fr 2
      have ho : OnlyB db wc (((wc.setCell ⟨db, 0, none⟩ (.slice ra0 (DD (q + 1)).nb rc0)).setCell ⟨db, 1, none⟩ (.slice ra1 (DD (q + 1)).nc rc1)).setCell ⟨db, 2, none⟩ (.slice ra2 (DD (q + 1)).ns rc2)) := OnlyB.stored3 _ _ _ _ _
      have BX : Hid (Box3 (((wc.setCell ⟨db, 0, none⟩ (.slice ra0 (DD (q + 1)).nb rc0)).setCell ⟨db, 1, none⟩ (.slice ra1 (DD (q + 1)).nc rc1)).setCell ⟨db, 2, none⟩ (.slice ra2 (DD (q + 1)).ns rc2)) db 27 (.slice ra0 (DD (q + 1)).nb rc0) (.slice ra1 (DD (q + 1)).nc rc1) (.slice ra2 (DD (q + 1)).ns rc2)) := bx.stored _ _ _
      have VD : Hid (DiskV (((wc.setCell ⟨db, 0, none⟩ (.slice ra0 (DD (q + 1)).nb rc0)).setCell ⟨db, 1, none⟩ (.slice ra1 (DD (q + 1)).nc rc1)).setCell ⟨db, 2, none⟩ (.slice ra2 (DD (q + 1)).ns rc2)) (DD (q + 1)) ra0 ra1 ra2) := rv.stored bx _ _ _
      have IR : Hid (IntR (((wc.setCell ⟨db, 0, none⟩ (.slice ra0 (DD (q + 1)).nb rc0)).setCell ⟨db, 1, none⟩ (.slice ra1 (DD (q + 1)).nc rc1)).setCell ⟨db, 2, none⟩ (.slice ra2 (DD (q + 1)).ns rc2)) (db + 1) u9 q CC) := ir.onlyB ho (fun e => by have := (ir.lt _ e).1; omega)
      have ZR : Hid (Box3 (((wc.setCell ⟨db, 0, none⟩ (.slice ra0 (DD (q + 1)).nb rc0)).setCell ⟨db, 1, none⟩ (.slice ra1 (DD (q + 1)).nc rc1)).setCell ⟨db, 2, none⟩ (.slice ra2 (DD (q + 1)).ns rc2)) w.heap.size 27 (.slice none 0 0) (.slice none 0 0) (.slice none 0 0)) := zr.keepR ho.keepR (.inl DB.out)
      have A1 : Hid (Below w.heap.size w (((wc.setCell ⟨db, 0, none⟩ (.slice ra0 (DD (q + 1)).nb rc0)).setCell ⟨db, 1, none⟩ (.slice ra1 (DD (q + 1)).nc rc1)).setCell ⟨db, 2, none⟩ (.slice ra2 (DD (q + 1)).ns rc2))) := hb.trans (ho.toBelow (Nat.le_of_lt DB.out) hb.size)
      have RZ : Hid ((ra0 = none → rc0 = 0) ∧ (ra1 = none → rc1 = 0) ∧ (ra2 = none → rc2 = 0)) := rz
      have DL : Hid (db < (((wc.setCell ⟨db, 0, none⟩ (.slice ra0 (DD (q + 1)).nb rc0)).setCell ⟨db, 1, none⟩ (.slice ra1 (DD (q + 1)).nc rc1)).setCell ⟨db, 2, none⟩ (.slice ra2 (DD (q + 1)).ns rc2)).heap.size) := BX.out.lt
      have LR : Hid (Lw (((wc.setCell ⟨db, 0, none⟩ (.slice ra0 (DD (q + 1)).nb rc0)).setCell ⟨db, 1, none⟩ (.slice ra1 (DD (q + 1)).nc rc1)).setCell ⟨db, 2, none⟩ (.slice ra2 (DD (q + 1)).ns rc2)).heap.size ra0 ∧ Lw (((wc.setCell ⟨db, 0, none⟩ (.slice ra0 (DD (q + 1)).nb rc0)).setCell ⟨db, 1, none⟩ (.slice ra1 (DD (q + 1)).nc rc1)).setCell ⟨db, 2, none⟩ (.slice ra2 (DD (q + 1)).ns rc2)).heap.size ra1 ∧ Lw (((wc.setCell ⟨db, 0, none⟩ (.slice ra0 (DD (q + 1)).nb rc0)).setCell ⟨db, 1, none⟩ (.slice ra1 (DD (q + 1)).nc rc1)).setCell ⟨db, 2, none⟩ (.slice ra2 (DD (q + 1)).ns rc2)).heap.size ra2) := ⟨lr.1.mono ho.size, lr.2.1.mono ho.size, lr.2.2.mono ho.size⟩
      have SR : Hid (∀ g, u9.ownBlock = some g → Ap g ra0 ∧ Ap g ra1 ∧ Ap g ra2) := sr
      clear lr sr
      clear xn rv rz bx ir zr hb ho hpb
      go_upto_region 16 with fail
      clear t0 t1 t2 t3 t4 t5 t6 t7 t8
      generalize (((wc.setCell ⟨db, 0, none⟩ (.slice ra0 (DD (q + 1)).nb rc0)).setCell ⟨db, 1, none⟩ (.slice ra1 (DD (q + 1)).nc rc1)).setCell ⟨db, 2, none⟩ (.slice ra2 (DD (q + 1)).ns rc2)) = v5 at *
      have hb6 : Below v5.heap.size v5 (v5.alloc (.cells #[.int .i64 (CC q)] 3)) := (Below.refl _ _).alloc (Nat.le_refl _) _
      have hz6 : (v5.alloc (.cells #[.int .i64 (CC q)] 3)).heap.size = v5.heap.size + 1 := by simp
      have c6 : (v5.alloc (.cells #[.int .i64 (CC q)] 3)).cell? ⟨v5.heap.size, 0, none⟩ = some (.int .i64 (CC q)) := by simp
      have I6 : IntR (v5.alloc (.cells #[.int .i64 (CC q)] 3)) (db + 1) u9 q CC := IR.out.below hb6
      have A6 : Below w.heap.size w (v5.alloc (.cells #[.int .i64 (CC q)] 3)) := A1.out.trans (hb6.mono A1.out.size)
      obtain ⟨nv, v7, hr, ho, hg, hloc⟩ := appIn (v5.alloc (.cells #[.int .i64 (CC q)] 3)) (db + 1) u9 q CC v5.heap.size 28 (by have := DL.out; omega) (by have := HN.out; omega) I6 c6
      have I7 : Hid (IntR v7 (db + 1) nv (q + 1) CC) := ho
      have K7 : ∀ k, k < (v5.alloc (.cells #[.int .i64 (CC q)] 3)).heap.size → u9.ownBlock ≠ some k → v7.heap[k]? = (v5.alloc (.cells #[.int .i64 (CC q)] 3)).heap[k]? := fun k h1 h2 => hg.block k h1 (fun e => h2 e.symm)
      have BX7 : Hid (Box3 v7 db 27 (.slice ra0 (DD (q + 1)).nb rc0) (.slice ra1 (DD (q + 1)).nc rc1) (.slice ra2 (DD (q + 1)).ns rc2)) := (BX.out.below hb6).ofBlock (K7 db (by have := DL.out; omega) (fun e => by have := (I6.lt _ e).1; omega))
      have ZR7 : Hid (Box3 v7 w.heap.size 27 (.slice none 0 0) (.slice none 0 0) (.slice none 0 0)) := (ZR.out.below hb6).ofBlock (K7 _ (by have := DL.out; have := DB.out; omega) (fun e => by have := (I6.lt _ e).1; have := DB.out; omega))
      have VD7 : Hid (DiskV v7 (DD (q + 1)) ra0 ra1 ra2) := (VD.out.below hb6).grown hg SR.out
      have A7 : Hid (Below w.heap.size w v7) := A6.grown hg A6.size (fun k hk => by have := (I6.lt k hk).1; have := DB.out; omega)
      have L7 : Hid (Lw v7.heap.size ra0 ∧ Lw v7.heap.size ra1 ∧ Lw v7.heap.size ra2) := by
        have h7 : v5.heap.size ≤ v7.heap.size := Nat.le_trans hb6.size hg.size
        exact ⟨LR.out.1.mono h7, LR.out.2.1.mono h7, LR.out.2.2.mono h7⟩
      have S7 : Hid (∀ g, nv.ownBlock = some g → Ap g ra0 ∧ Ap g ra1 ∧ Ap g ra2) := fun g e => by
        rcases hloc with h1 | h1
        · exact SR.out g (h1 ▸ e)
        · have h2 : (v5.alloc (.cells #[.int .i64 (CC q)] 3)).heap.size = g := Option.some.inj (h1.symm.trans e)
          have h3 : v5.heap.size ≤ g := by omega
          exact ⟨LR.out.1.ap h3, LR.out.2.1.ap h3, LR.out.2.2.ap h3⟩
      clear hb6 hz6 c6 I6 A6 ho hg hloc K7 BX ZR VD A1 LR SR IR DL
      go_wp2_with (at_builtin; refine Lib.wpList_append_run _ rfl (.tmp 68) (.tmp 70) _ _ rfl _ _ rfl rfl _ _ hr ?_)
      clear hr
      go_wp2
      go_roundw
      case rel => exact ⟨q + 1, ra0, ra1, ra2, rc0, rc1, rc2, by omega, by go_num, BX7.out, VD7.out, RZ.out.1, RZ.out.2.1, RZ.out.2.2, I7.out, ZR7.out, A7.out, L7.out, S7.out⟩
      case measure => simp [intOf]; omega
    · obtain rfl : q = m := by omega
      obtain ⟨b, off, had, hall⟩ := HX.out.opened (by have := HMN.out; omega)
      subst had
      obtain ⟨ak, ck, hac, -⟩ := hall q HMN.out
      have AC := hac.below A1.out
      have t2 := AC.c2
      have t3 := AC.c3
      have y0 : (0 : Int) ≤ (q : Int) := by omega
      have y1 : (q : Int) < (n : Int) := by have := HMN.out; omega
      have hl := HL.out
      unfold LongA at hl
      clear hac hall AC BX VD IR LW SEP ZC ST
      by_cases s0 : 65536 < (A q).s.size
      · have s1 : (65536 : Int) < ((A q).s.size : Int) := by omega
        clear hl s0
        go_upto_region 13 with fail
        clear t2 t3
        have hbx : Below wr.heap.size wr (wr.alloc (.cells #[] 3)) := (Below.refl _ _).alloc (Nat.le_refl _) _
        have ZX : Hid (Box3 (wr.alloc (.cells #[] 3)) w.heap.size 27 (.slice none 0 0) (.slice none 0 0) (.slice none 0 0)) := ZR.out.below hbx
        have AX : Hid (Below w.heap.size w (wr.alloc (.cells #[] 3))) := A1.out.trans (hbx.mono A1.out.size)
        have IX : Hid (IntR (wr.alloc (.cells #[] 3)) (w.heap.size + 1) (.slice (some ⟨wr.heap.size, 0, none⟩) 0 0) 0 (fun _ => 0)) := IntR.litX _ _ (by have := ZR.out.lt; omega)
        clear hbx ZR A1
        have e0 := ZX.out.c0
        have e1 := ZX.out.c1
        have e2 := ZX.out.c2
        have e3 := ZX.out.fr 0
        have e4 := ZX.out.fr 1
        have e5 := ZX.out.fr 2
        have OX : OnlyB w.heap.size (wr.alloc (.cells #[] 3)) ((((wr.alloc (.cells #[] 3)).setCell ⟨w.heap.size, 0, none⟩ (.slice none 0 0)).setCell ⟨w.heap.size, 1, none⟩ (.slice none 0 0)).setCell ⟨w.heap.size, 2, none⟩ (.slice none 0 0)) := (((OnlyB.refl _ (wr.alloc (.cells #[] 3))).setCell 0 _).setCell 1 _).setCell 2 _
        have FX : Hid (Box3 ((((wr.alloc (.cells #[] 3)).setCell ⟨w.heap.size, 0, none⟩ (.slice none 0 0)).setCell ⟨w.heap.size, 1, none⟩ (.slice none 0 0)).setCell ⟨w.heap.size, 2, none⟩ (.slice none 0 0)) w.heap.size 27 (.slice none 0 0) (.slice none 0 0) (.slice none 0 0)) := ((ZX.out.set0 _).set1 _).set2 _
        have BX : Hid (Below w.heap.size w ((((wr.alloc (.cells #[] 3)).setCell ⟨w.heap.size, 0, none⟩ (.slice none 0 0)).setCell ⟨w.heap.size, 1, none⟩ (.slice none 0 0)).setCell ⟨w.heap.size, 2, none⟩ (.slice none 0 0))) := AX.out.trans (OX.toBelow (Nat.le_refl _) AX.out.size)
        have RX : Hid (RetRun w.heap.size ((((wr.alloc (.cells #[] 3)).setCell ⟨w.heap.size, 0, none⟩ (.slice none 0 0)).setCell ⟨w.heap.size, 1, none⟩ (.slice none 0 0)).setCell ⟨w.heap.size, 2, none⟩ (.slice none 0 0)) (.returned (.tuple #[.agg #[.slice none 0 0, .slice none 0 0, .slice none 0 0], .slice (some ⟨wr.heap.size, 0, none⟩) 0 0, .int .i64 2])) (newD 0) 0 (fun _ => 0) 2) := retRun_nil (IntR.mono (IX.out.onlyB OX (fun e => by have := (IX.out.lt _ e).1; omega)) (Nat.le_succ _))
        clear OX IX AX ZX
        go_wp2
        generalize ((((wr.alloc (.cells #[] 3)).setCell ⟨w.heap.size, 0, none⟩ (.slice none 0 0)).setCell ⟨w.heap.size, 1, none⟩ (.slice none 0 0)).setCell ⟨w.heap.size, 2, none⟩ (.slice none 0 0)) = u9 at *
        clear e0 e1 e2 e3 e4 e5
        have y0 := FX.out.c0
        have y1 := FX.out.c1
        have y2 := FX.out.c2
        exact ret_cell3 (b := w.heap.size) (x := .agg #[.slice none 0 0, .slice none 0 0, .slice none 0 0]) Tryd.results5 rfl rfl rfl (by go_simp) ⟨RX.out, BX.out⟩
      · have s1 : ¬ (65536 : Int) < ((A q).s.size : Int) := by omega
        have s2 : (4096 : Int) < ((A q).nk : Int) := by omega
        clear hl s0
        go_upto_region 13 with fail
        clear t2 t3
        have hbx : Below wr.heap.size wr (wr.alloc (.cells #[] 3)) := (Below.refl _ _).alloc (Nat.le_refl _) _
        have ZX : Hid (Box3 (wr.alloc (.cells #[] 3)) w.heap.size 27 (.slice none 0 0) (.slice none 0 0) (.slice none 0 0)) := ZR.out.below hbx
        have AX : Hid (Below w.heap.size w (wr.alloc (.cells #[] 3))) := A1.out.trans (hbx.mono A1.out.size)
        have IX : Hid (IntR (wr.alloc (.cells #[] 3)) (w.heap.size + 1) (.slice (some ⟨wr.heap.size, 0, none⟩) 0 0) 0 (fun _ => 0)) := IntR.litX _ _ (by have := ZR.out.lt; omega)
        clear hbx ZR A1
        have e0 := ZX.out.c0
        have e1 := ZX.out.c1
        have e2 := ZX.out.c2
        have e3 := ZX.out.fr 0
        have e4 := ZX.out.fr 1
        have e5 := ZX.out.fr 2
        have OX : OnlyB w.heap.size (wr.alloc (.cells #[] 3)) ((((wr.alloc (.cells #[] 3)).setCell ⟨w.heap.size, 0, none⟩ (.slice none 0 0)).setCell ⟨w.heap.size, 1, none⟩ (.slice none 0 0)).setCell ⟨w.heap.size, 2, none⟩ (.slice none 0 0)) := (((OnlyB.refl _ (wr.alloc (.cells #[] 3))).setCell 0 _).setCell 1 _).setCell 2 _
        have FX : Hid (Box3 ((((wr.alloc (.cells #[] 3)).setCell ⟨w.heap.size, 0, none⟩ (.slice none 0 0)).setCell ⟨w.heap.size, 1, none⟩ (.slice none 0 0)).setCell ⟨w.heap.size, 2, none⟩ (.slice none 0 0)) w.heap.size 27 (.slice none 0 0) (.slice none 0 0) (.slice none 0 0)) := ((ZX.out.set0 _).set1 _).set2 _
        have BX : Hid (Below w.heap.size w ((((wr.alloc (.cells #[] 3)).setCell ⟨w.heap.size, 0, none⟩ (.slice none 0 0)).setCell ⟨w.heap.size, 1, none⟩ (.slice none 0 0)).setCell ⟨w.heap.size, 2, none⟩ (.slice none 0 0))) := AX.out.trans (OX.toBelow (Nat.le_refl _) AX.out.size)
        have RX : Hid (RetRun w.heap.size ((((wr.alloc (.cells #[] 3)).setCell ⟨w.heap.size, 0, none⟩ (.slice none 0 0)).setCell ⟨w.heap.size, 1, none⟩ (.slice none 0 0)).setCell ⟨w.heap.size, 2, none⟩ (.slice none 0 0)) (.returned (.tuple #[.agg #[.slice none 0 0, .slice none 0 0, .slice none 0 0], .slice (some ⟨wr.heap.size, 0, none⟩) 0 0, .int .i64 2])) (newD 0) 0 (fun _ => 0) 2) := retRun_nil (IntR.mono (IX.out.onlyB OX (fun e => by have := (IX.out.lt _ e).1; omega)) (Nat.le_succ _))
        clear OX IX AX ZX
        go_wp2
        generalize ((((wr.alloc (.cells #[] 3)).setCell ⟨w.heap.size, 0, none⟩ (.slice none 0 0)).setCell ⟨w.heap.size, 1, none⟩ (.slice none 0 0)).setCell ⟨w.heap.size, 2, none⟩ (.slice none 0 0)) = u9 at *
        clear e0 e1 e2 e3 e4 e5
        have y0 := FX.out.c0
        have y1 := FX.out.c1
        have y2 := FX.out.c2
        exact ret_cell3 (b := w.heap.size) (x := .agg #[.slice none 0 0, .slice none 0 0, .slice none 0 0]) Tryd.results5 rfl rfl rfl (by go_simp) ⟨RX.out, BX.out⟩
end Go.Proofs.YtgdfhgepbamhmaaDoor
