/-
  The model's crash.
-/
import Derived.Test.YtgdfhgepbamhmaaDoorSpecSy
namespace Go.Proofs.YtgdfhgepbamhmaaDoor
open Go.ChangeShapes Go.WideShapes Go.ChangeAt Go.RowKit
set_option linter.unusedVariables false
/-- d behind the first k writes of a crash. -/
def Dk.crK (d : Dk) (nk : Nat) (K : Nat → Bool) (t : Int) (k : Nat) : Dk := ⟨d.nb, (crF d nk K t k).1, 0, d.A, d.D, d.ns, d.S⟩
set_option maxRecDepth 100000 in
set_option maxHeartbeats 16000000 in
theorem l05Crash_any (d : Dk) (a0 a1 a2 ak : Option Addr) (c0 c1 c2 nk ck : Nat) (K : Nat → Bool) (t : Int) (hd : d.Ok) (hnk : nk ≤ 1048576) (z0 : a0 = none → c0 = 0) (z1 : a1 = none → c1 = 0) (z2 : a2 = none → c2 = 0) (w : World) (h : DiskV w d a0 a1 a2) (hK : Bls w w.heap.size ak nk K) :
    Calls Tryd.prog 37 #[.agg #[.slice a0 d.nb c0, .slice a1 d.nc c1, .slice a2 d.ns c2], .slice ak nk ck, .int .i64 t] w fun e w' => (∃ v0 v1 v2, e = .returned (.agg #[v0, v1, v2]) ∧ Rows3 w' w.heap.size (d.crashed nk K t) v0 v1 v2) ∧ Below w.heap.size w w' := by
  have OW : Hid (∀ w : World, DiskV w d a0 a1 a2 → Calls Tryd.prog 19 #[.agg #[.slice a0 d.nb c0, .slice a1 d.nc c1, .slice a2 d.ns c2]] w fun e w' => (∃ v0 v1 v2, e = .returned (.agg #[v0, v1, v2]) ∧ Rows3 w' w.heap.size d v0 v1 v2) ∧ Below w.heap.size w w') := fun w h => l05Own_any d a0 a1 a2 c0 c1 c2 (by have := hd.nb2; omega) (by have := hd.nc; omega) (by have := hd.ns; have := hd.nb2; omega) z0 z1 z2 w h
  have DV : Hid (DiskV w d a0 a1 a2) := h
  have HK : Hid (Bls w w.heap.size ak nk K) := hK
  have CS : Hid (∀ k, k ≤ d.nc → ∀ i, i < d.nb → ((crF d nk K t k).1 i).size ≤ 200) := crF_size d nk K t hd.B (fun i hi => (hd.C i hi).2) (fun i hi => (hd.C i hi).1)
  have A1 : Below w.heap.size w ((w.alloc (.cells #[.slice a0 d.nb c0, .slice a1 d.nc c1, .slice a2 d.ns c2] 27)).alloc (.cells #[.slice none 0 0, .slice none 0 0, .slice none 0 0] 27)) := ((Below.refl w.heap.size w).alloc (Nat.le_refl _) _).alloc (by simp) _
  have AA1 : Hid (Below w.heap.size w ((w.alloc (.cells #[.slice a0 d.nb c0, .slice a1 d.nc c1, .slice a2 d.ns c2] 27)).alloc (.cells #[.slice none 0 0, .slice none 0 0, .slice none 0 0] 27))) := A1
  have X0 : Hid (Box3 ((w.alloc (.cells #[.slice a0 d.nb c0, .slice a1 d.nc c1, .slice a2 d.ns c2] 27)).alloc (.cells #[.slice none 0 0, .slice none 0 0, .slice none 0 0] 27)) (w.heap.size + 1) 27 (.slice none 0 0) (.slice none 0 0) (.slice none 0 0)) := Box3.madeAt (by simp) _ _ _ _
  have Y0 : Hid (Box3 ((w.alloc (.cells #[.slice a0 d.nb c0, .slice a1 d.nc c1, .slice a2 d.ns c2] 27)).alloc (.cells #[.slice none 0 0, .slice none 0 0, .slice none 0 0] 27)) w.heap.size 27 (.slice a0 d.nb c0) (.slice a1 d.nc c1) (.slice a2 d.ns c2)) := (Box3.made w _ _ _ _).alloc _
  have G0 : w.heap.size + 2 ≤ ((w.alloc (.cells #[.slice a0 d.nb c0, .slice a1 d.nc c1, .slice a2 d.ns c2] 27)).alloc (.cells #[.slice none 0 0, .slice none 0 0, .slice none 0 0] 27)).heap.size := by simp
  clear h A1 z0 z1 z2 hK
  go_enter Tryd.func37, Tryd.ntmps37
  go_wp2_with fail
  generalize ((w.alloc (.cells #[.slice a0 d.nb c0, .slice a1 d.nc c1, .slice a2 d.ns c2] 27)).alloc (.cells #[.slice none 0 0, .slice none 0 0, .slice none 0 0] 27)) = u at *
  refine (OW.out _ (DV.out.below AA1.out)).mono ?_
  rintro e w1 ⟨⟨v0, v1, v2, rfl, hR⟩, hb⟩
  obtain ⟨i0, k0, rfl, -⟩ := hR.t0.form
  obtain ⟨i1, k1, rfl, -⟩ := hR.t1.form
  obtain ⟨i2, k2, rfl, -⟩ := hR.t2.form
  have bA : Below w1.heap.size w1 ((w1.alloc (.cells #[.slice i0 d.nb k0, .slice (some ⟨w1.heap.size + 1, 0, none⟩) 0 0, .slice i2 d.ns k2] 27)).alloc (.cells #[] 68)) := ((Below.refl _ _).alloc (Nat.le_refl _) _).alloc (by simp) _
  have B1 : Below w.heap.size w w1 := AA1.out.trans (hb.mono AA1.out.size)
  have LT : Hid ((∀ g, (Value.slice i0 d.nb k0).ownBlock = some g → g < w1.heap.size) ∧ (∀ g, (Value.slice i2 d.ns k2).ownBlock = some g → g < w1.heap.size)) := ⟨fun g e => (World.ownsRow.lt hR.t0 g e).2, fun g e => (World.ownsRow.lt hR.t2 g e).2⟩
  have G1 : w.heap.size + 2 ≤ w1.heap.size := Nat.le_trans G0 hb.size
  have R1 := (show Rows3 w1 (w.heap.size + 2) d _ _ _ from ⟨own_mono hR.t0 G0, own_mono hR.t1 G0, own_mono hR.t2 G0, hR.n01, hR.n02, hR.n12⟩).below bA
  have t1' : PnR ((w1.alloc (.cells #[.slice i0 d.nb k0, .slice (some ⟨w1.heap.size + 1, 0, none⟩) 0 0, .slice i2 d.ns k2] 27)).alloc (.cells #[] 68)) (w.heap.size + 2) (.slice (some ⟨w1.heap.size + 1, 0, none⟩) 0 0) 0 d.A d.D := by
    have q := PnR.lit (w1.alloc (.cells #[.slice i0 d.nb k0, .slice (some ⟨w1.heap.size + 1, 0, none⟩) 0 0, .slice i2 d.ns k2] 27)) (w.heap.size + 2) (by simp; omega) d.A d.D
    rw [show (w1.alloc (.cells #[.slice i0 d.nb k0, .slice (some ⟨w1.heap.size + 1, 0, none⟩) 0 0, .slice i2 d.ns k2] 27)).heap.size = w1.heap.size + 1 by simp] at q
    exact q
  have I1 : Hid (Box3 ((w1.alloc (.cells #[.slice i0 d.nb k0, .slice (some ⟨w1.heap.size + 1, 0, none⟩) 0 0, .slice i2 d.ns k2] 27)).alloc (.cells #[] 68)) w.heap.size 27 (.slice a0 d.nb c0) (.slice a1 d.nc c1) (.slice a2 d.ns c2) ∧ Box3 ((w1.alloc (.cells #[.slice i0 d.nb k0, .slice (some ⟨w1.heap.size + 1, 0, none⟩) 0 0, .slice i2 d.ns k2] 27)).alloc (.cells #[] 68)) (w.heap.size + 1) 27 (.slice none 0 0) (.slice none 0 0) (.slice none 0 0) ∧ Box3 ((w1.alloc (.cells #[.slice i0 d.nb k0, .slice (some ⟨w1.heap.size + 1, 0, none⟩) 0 0, .slice i2 d.ns k2] 27)).alloc (.cells #[] 68)) w1.heap.size 27 (.slice i0 d.nb k0) (.slice (some ⟨w1.heap.size + 1, 0, none⟩) 0 0) (.slice i2 d.ns k2) ∧ Rows3 ((w1.alloc (.cells #[.slice i0 d.nb k0, .slice (some ⟨w1.heap.size + 1, 0, none⟩) 0 0, .slice i2 d.ns k2] 27)).alloc (.cells #[] 68)) (w.heap.size + 2) (d.crK nk K t 0) (.slice i0 d.nb k0) (.slice (some ⟨w1.heap.size + 1, 0, none⟩) 0 0) (.slice i2 d.ns k2) ∧ Below w.heap.size w ((w1.alloc (.cells #[.slice i0 d.nb k0, .slice (some ⟨w1.heap.size + 1, 0, none⟩) 0 0, .slice i2 d.ns k2] 27)).alloc (.cells #[] 68))) :=
    ⟨(Y0.out.below hb).below bA, (X0.out.below hb).below bA, (Box3.made _ _ _ _ _).alloc _, ⟨R1.t0, t1', R1.t2, fun g h1 h2 => by have := LT.out.1 g h1; have : w1.heap.size + 1 = g := Option.some.inj h2; omega, R1.n02, fun g h1 h2 => by have := LT.out.2 g h2; have : w1.heap.size + 1 = g := Option.some.inj h1; omega⟩, B1.trans (bA.mono B1.size)⟩
  clear hR hb bA B1 AA1 X0 Y0 OW G0 R1 t1'
  go_wp2_with fail
  generalize ((w1.alloc (.cells #[.slice i0 d.nb k0, .slice (some ⟨w1.heap.size + 1, 0, none⟩) 0 0, .slice i2 d.ns k2] 27)).alloc (.cells #[] 68)) = w2 at *
  generalize w1.heap.size = z at *
  go_loopw [8, 9] (fun t8 t9 wr => ∃ k : Nat, k ≤ d.nc ∧ t9 = .int .i64 (k : Int) ∧ t8 = .bool (crF d nk K t k).2 ∧ Box3 wr w.heap.size 27 (.slice a0 d.nb c0) (.slice a1 d.nc c1) (.slice a2 d.ns c2) ∧ Box3 wr (w.heap.size + 1) 27 (.slice none 0 0) (.slice none 0 0) (.slice none 0 0) ∧ Box3 wr z 27 (.slice i0 d.nb k0) (.slice (some ⟨z + 1, 0, none⟩) 0 0) (.slice i2 d.ns k2) ∧ Rows3 wr (w.heap.size + 2) (d.crK nk K t k) (.slice i0 d.nb k0) (.slice (some ⟨z + 1, 0, none⟩) 0 0) (.slice i2 d.ns k2) ∧ Below w.heap.size w wr) (fun _ t9 _ => d.nc - (intOf t9).toNat)
  case atStart => exact ⟨0, by omega, rfl, rfl, I1.out⟩
  case round =>
    clear I1
    obtain ⟨k, hk, rfl, rfl, hY, hX, hZ, hR, hb⟩ := hrel
    have hc3 := hd.nc
    by_cases hlt : k < d.nc
    · have hlt' : (k : Int) < (d.nc : Int) := by omega
      obtain ⟨x, hxA⟩ : ∃ x : Nat, d.A k = (x : Int) := ⟨(d.A k).toNat, by have := (hd.C k hlt).1; omega⟩
      have hx : x < d.nb := by have := (hd.C k hlt).1; omega
      have hx' : (x : Int) < (d.nb : Int) := by omega
      have hxN : (d.A k).toNat = x := by omega
      obtain ⟨b1, o1, ea1, hp⟩ := (DV.out.2.1.below hb).opened (by omega)
      obtain ⟨q1, q2⟩ := hp k hlt
      rw [hxA] at q1
      obtain ⟨g0, c0', e0, r0, hBg0, -, hgl0⟩ := hR.t0.pos (by show 0 < d.nb; omega)
      cases e0
      have cx : wr.cell? ⟨g0, x, none⟩ = some (.string ((crF d nk K t k).1 x)) := r0.c x hx
      have fx := r0.z x hx
      have gz : g0 ≠ z := Nat.ne_of_lt (LT.out.1 g0 rfl)
      have gz1 : g0 ≠ z + 1 := by have := LT.out.1 g0 rfl; omega
      have ST : Hid (Box3 wr w.heap.size 27 (.slice a0 d.nb c0) (.slice a1 d.nc c1) (.slice a2 d.ns c2) ∧ Box3 wr (w.heap.size + 1) 27 (.slice none 0 0) (.slice none 0 0) (.slice none 0 0) ∧ Box3 wr z 27 (.slice (some ⟨g0, 0, none⟩) d.nb k0) (.slice (some ⟨z + 1, 0, none⟩) 0 0) (.slice i2 d.ns k2) ∧ Rows3 wr (w.heap.size + 2) (d.crK nk K t k) (.slice (some ⟨g0, 0, none⟩) d.nb k0) (.slice (some ⟨z + 1, 0, none⟩) 0 0) (.slice i2 d.ns k2) ∧ Below w.heap.size w wr) := ⟨hY, hX, hZ, hR, hb⟩
      have FIN : Hid (∀ (y : World) (s : ByteArray), Below wr.heap.size wr y → Box3 (y.setCell ⟨g0, x, none⟩ (.string s)) w.heap.size 27 (.slice a0 d.nb c0) (.slice a1 d.nc c1) (.slice a2 d.ns c2) ∧ Box3 (y.setCell ⟨g0, x, none⟩ (.string s)) (w.heap.size + 1) 27 (.slice none 0 0) (.slice none 0 0) (.slice none 0 0) ∧ Box3 (y.setCell ⟨g0, x, none⟩ (.string s)) z 27 (.slice (some ⟨g0, 0, none⟩) d.nb k0) (.slice (some ⟨z + 1, 0, none⟩) 0 0) (.slice i2 d.ns k2) ∧ Rows3 (y.setCell ⟨g0, x, none⟩ (.string s)) (w.heap.size + 2) ⟨d.nb, fun i => if i = x then s else (crF d nk K t k).1 i, 0, d.A, d.D, d.ns, d.S⟩ (.slice (some ⟨g0, 0, none⟩) d.nb k0) (.slice (some ⟨z + 1, 0, none⟩) 0 0) (.slice i2 d.ns k2) ∧ Below w.heap.size w (y.setCell ⟨g0, x, none⟩ (.string s))) := fun y s hby => by
        have O : OnlyB g0 y (y.setCell ⟨g0, x, none⟩ (.string s)) := (OnlyB.refl g0 y).setCell x _
        have hb2 := ST.out.2.2.2.2.trans (hby.mono ST.out.2.2.2.2.size)
        have R := ST.out.2.2.2.1.below hby
        exact ⟨(ST.out.1.below hby).ofBlock (O.block _ (ST.out.1.below hby).lt (by omega)), (ST.out.2.1.below hby).ofBlock (O.block _ (ST.out.2.1.below hby).lt (by omega)), (ST.out.2.2.1.below hby).ofBlock (O.block _ (ST.out.2.2.1.below hby).lt (Ne.symm gz)), ⟨R.t0.put x s, R.t1.onlyB O (fun e => gz1 (Option.some.inj e).symm), R.t2.onlyB O (R.n02 g0 rfl), R.n01, R.n02, R.n12⟩, hb2.trans (O.toBelow (by omega) hb2.size)⟩
      have y1 := hY.c1
      have zz0 := hZ.c0
      have zl := hZ.lt
      have xl := hY.lt
      have gl := strBlock cx
      have ZS : Hid (((crF d nk K t k).1 x).size ≤ 200) := CS.out k hk x hx
      have ZD : Hid ((d.D k).size ≤ 200) := (hd.C k hlt).2
      subst ea1
      have HKn : Hid (k < nk → ∃ b off, ak = some ⟨b, off, none⟩ ∧ b < w.heap.size ∧ wr.cell? ⟨b, off + k, none⟩ = some (.bool (K k))) := fun h => HK.out.below hb k h
      have sl := hb.size
      clear hY hX hZ hR hb hp r0
      by_cases hkk : k < nk ∧ K k = true
      · obtain ⟨bk, ok, rfl, hbk, qk⟩ := HKn.out hkk.1
        rw [hkk.2] at qk
        have hk1 : (k : Int) < (nk : Int) := by omega
        have hbk' : bk < wr.heap.size := by omega
        have e5 : crF d nk K t (k + 1) = (fun i => if i = x then d.D k else (crF d nk K t k).1 i, (crF d nk K t k).2) := by rw [crF, if_pos hkk, hxN]
        have F5 := FIN.out wr (d.D k) (Below.refl _ _)
        have bA : Below (wr.setCell ⟨g0, x, none⟩ (.string (d.D k))).heap.size (wr.setCell ⟨g0, x, none⟩ (.string (d.D k))) ((wr.setCell ⟨g0, x, none⟩ (.string (d.D k))).alloc (.cells #[.int .i64 (x : Int), .string (d.D k)] 68)) := (Below.refl _ _).alloc (Nat.le_refl _) _
        have HF : Hid (∃ k' : Nat, k' ≤ d.nc ∧ Value.int .i64 ((k : Int) + 1) = .int .i64 (k' : Int) ∧ Value.bool (crF d nk K t k).2 = .bool (crF d nk K t k').2 ∧ Box3 ((wr.setCell ⟨g0, x, none⟩ (.string (d.D k))).alloc (.cells #[.int .i64 (x : Int), .string (d.D k)] 68)) w.heap.size 27 (.slice a0 d.nb c0) (.slice (some ⟨b1, o1, none⟩) d.nc c1) (.slice a2 d.ns c2) ∧ Box3 ((wr.setCell ⟨g0, x, none⟩ (.string (d.D k))).alloc (.cells #[.int .i64 (x : Int), .string (d.D k)] 68)) (w.heap.size + 1) 27 (.slice none 0 0) (.slice none 0 0) (.slice none 0 0) ∧ Box3 ((wr.setCell ⟨g0, x, none⟩ (.string (d.D k))).alloc (.cells #[.int .i64 (x : Int), .string (d.D k)] 68)) z 27 (.slice (some ⟨g0, 0, none⟩) d.nb k0) (.slice (some ⟨z + 1, 0, none⟩) 0 0) (.slice i2 d.ns k2) ∧ Rows3 ((wr.setCell ⟨g0, x, none⟩ (.string (d.D k))).alloc (.cells #[.int .i64 (x : Int), .string (d.D k)] 68)) (w.heap.size + 2) (d.crK nk K t k') (.slice (some ⟨g0, 0, none⟩) d.nb k0) (.slice (some ⟨z + 1, 0, none⟩) 0 0) (.slice i2 d.ns k2) ∧ Below w.heap.size w ((wr.setCell ⟨g0, x, none⟩ (.string (d.D k))).alloc (.cells #[.int .i64 (x : Int), .string (d.D k)] 68))) := ⟨k + 1, by omega, by go_num, by rw [e5], F5.1.below bA, F5.2.1.below bA, F5.2.2.1.below bA, by unfold Dk.crK; rw [e5]; exact F5.2.2.2.1.below bA, F5.2.2.2.2.trans (bA.mono F5.2.2.2.2.size)⟩
        clear F5 bA e5 FIN ST HKn
        go_wp2
        go_roundw
        case rel => exact HF.out
        case measure => simp [intOf]; omega
      · have hkk' : k < nk → K k = false := fun h => by
          cases e : K k with
          | false => rfl
          | true => exact absurd ⟨h, e⟩ hkk
        have e5 : crF d nk K t (k + 1) = if (crF d nk K t k).2 = true then (fun i => if i = x then (tornB ((crF d nk K t k).1 x) (d.D k) t) else (crF d nk K t k).1 i, false) else crF d nk K t k := by rw [crF, if_neg hkk, hxN]
        have TST : Hid ((k < nk ∧ ∃ b off, ak = some ⟨b, off, none⟩ ∧ b < w.heap.size ∧ wr.cell? ⟨b, off + k, none⟩ = some (.bool false)) ∨ ¬ k < nk) := by
          by_cases h : k < nk
          · obtain ⟨b, off, e1, e3, e2⟩ := HKn.out h
            rw [hkk' h] at e2
            exact .inl ⟨h, b, off, e1, e3, e2⟩
          · exact .inr h
        clear HKn hkk'
        have bA : Below wr.heap.size wr (wr.alloc (.cells #[.int .i64 (x : Int), .string (d.D k)] 68)) := (Below.refl _ _).alloc (Nat.le_refl _) _
        by_cases ht : (crF d nk K t k).2 = true
        · rw [if_pos ht] at e5
          have HF : Hid (∃ k' : Nat, k' ≤ d.nc ∧ Value.int .i64 ((k : Int) + 1) = .int .i64 (k' : Int) ∧ Value.bool false = .bool (crF d nk K t k').2 ∧ Box3 ((wr.alloc (.cells #[.int .i64 (x : Int), .string (d.D k)] 68)).setCell ⟨g0, x, none⟩ (.string (tornB ((crF d nk K t k).1 x) (d.D k) t))).drew w.heap.size 27 (.slice a0 d.nb c0) (.slice (some ⟨b1, o1, none⟩) d.nc c1) (.slice a2 d.ns c2) ∧ Box3 ((wr.alloc (.cells #[.int .i64 (x : Int), .string (d.D k)] 68)).setCell ⟨g0, x, none⟩ (.string (tornB ((crF d nk K t k).1 x) (d.D k) t))).drew (w.heap.size + 1) 27 (.slice none 0 0) (.slice none 0 0) (.slice none 0 0) ∧ Box3 ((wr.alloc (.cells #[.int .i64 (x : Int), .string (d.D k)] 68)).setCell ⟨g0, x, none⟩ (.string (tornB ((crF d nk K t k).1 x) (d.D k) t))).drew z 27 (.slice (some ⟨g0, 0, none⟩) d.nb k0) (.slice (some ⟨z + 1, 0, none⟩) 0 0) (.slice i2 d.ns k2) ∧ Rows3 ((wr.alloc (.cells #[.int .i64 (x : Int), .string (d.D k)] 68)).setCell ⟨g0, x, none⟩ (.string (tornB ((crF d nk K t k).1 x) (d.D k) t))).drew (w.heap.size + 2) (d.crK nk K t k') (.slice (some ⟨g0, 0, none⟩) d.nb k0) (.slice (some ⟨z + 1, 0, none⟩) 0 0) (.slice i2 d.ns k2) ∧ Below w.heap.size w ((wr.alloc (.cells #[.int .i64 (x : Int), .string (d.D k)] 68)).setCell ⟨g0, x, none⟩ (.string (tornB ((crF d nk K t k).1 x) (d.D k) t))).drew) := by
            have D4 : Below ((wr.alloc (.cells #[.int .i64 (x : Int), .string (d.D k)] 68)).setCell ⟨g0, x, none⟩ (.string (tornB ((crF d nk K t k).1 x) (d.D k) t))).heap.size ((wr.alloc (.cells #[.int .i64 (x : Int), .string (d.D k)] 68)).setCell ⟨g0, x, none⟩ (.string (tornB ((crF d nk K t k).1 x) (d.D k) t))) ((wr.alloc (.cells #[.int .i64 (x : Int), .string (d.D k)] 68)).setCell ⟨g0, x, none⟩ (.string (tornB ((crF d nk K t k).1 x) (d.D k) t))).drew := (Below.refl _ _).drew
            have F5 := FIN.out (wr.alloc (.cells #[.int .i64 (x : Int), .string (d.D k)] 68)) (tornB ((crF d nk K t k).1 x) (d.D k) t) bA
            exact ⟨k + 1, by omega, by go_num, by rw [e5], F5.1.below D4, F5.2.1.below D4, F5.2.2.1.below D4, by unfold Dk.crK; rw [e5]; exact F5.2.2.2.1.below D4, F5.2.2.2.2.drew⟩
          rw [ht]
          have b0 : (wr.alloc (.cells #[.int .i64 (x : Int), .string (d.D k)] 68)).cell? ⟨wr.heap.size, 0, none⟩ = some (.int .i64 (x : Int)) := by simp
          have b1 : (wr.alloc (.cells #[.int .i64 (x : Int), .string (d.D k)] 68)).cell? ⟨wr.heap.size, 1, none⟩ = some (.string (d.D k)) := by simp
          have b2 := bA.cell gl |>.trans cx
          have b3 := bA.cell zl |>.trans zz0
          have b4 : (wr.alloc (.cells #[.int .i64 (x : Int), .string (d.D k)] 68)).frozen? ⟨g0, x, none⟩ = false := by rw [frozenOf (bA.block _ gl)]; exact fx
          clear e5 FIN ST ht bA
          rcases TST.out with ⟨h, bk, ok, rfl, hbk, qk⟩ | h
          · have hk1 : (k : Int) < (nk : Int) := by omega
            have hbk' : bk < wr.heap.size := by omega
            by_cases hn0 : 0 < t
            · by_cases h3 : t ≤ (d.D k).size
              · have x1 : ¬ (((d.D k).size : Int) < t) := by omega
                have s3 : tornN (d.D k) t = t.toNat := by unfold tornN; omega
                by_cases h4 : t ≤ ((crF d nk K t k).1 x).size
                · have x2 : ¬ ((((crF d nk K t k).1 x).size : Int) < t) := by omega
                  have eT : tornB ((crF d nk K t k).1 x) (d.D k) t = (d.D k).extract 0 t.toNat ++ ((crF d nk K t k).1 x).extract t.toNat ((crF d nk K t k).1 x).size := by unfold tornB; rw [s3, Nat.min_eq_left (by omega)]
                  rw [eT] at HF
                  have ZS' := ZS.out
                  have ZD' := ZD.out
                  go_wp2_with fail
                  generalize (wr.alloc (.cells #[.int .i64 (x : Int), .string (d.D k)] 68)) = u at *
                  generalize wr.heap.size = y at *
                  clear q1 q2
                  go_region
                  try dsimp only [Act.put]
                  go_wp2
                  go_roundw
                  case rel => exact HF.out
                  case measure => simp [intOf]; omega
                · have x2 : ((((crF d nk K t k).1 x).size : Int) < t) := by omega
                  have eT : tornB ((crF d nk K t k).1 x) (d.D k) t = (d.D k).extract 0 t.toNat := by unfold tornB; rw [s3, Nat.min_eq_right (by omega)]; simp
                  rw [eT] at HF
                  have ZS' := ZS.out
                  have ZD' := ZD.out
                  go_wp2_with fail
                  generalize (wr.alloc (.cells #[.int .i64 (x : Int), .string (d.D k)] 68)) = u at *
                  generalize wr.heap.size = y at *
                  clear q1 q2
                  go_region
                  try dsimp only [Act.put]
                  go_wp2
                  go_roundw
                  case rel => exact HF.out
                  case measure => simp [intOf]; omega
              · have x1 : (((d.D k).size : Int) < t) := by omega
                have s3 : tornN (d.D k) t = (d.D k).size := by unfold tornN; omega
                by_cases h5 : 0 < (d.D k).size
                · have x3 : 0 < ((d.D k).size : Int) := by omega
                  by_cases h4 : (d.D k).size ≤ ((crF d nk K t k).1 x).size
                  · have x2 : ¬ ((((crF d nk K t k).1 x).size : Int) < ((d.D k).size : Int)) := by omega
                    have x2' : (((d.D k).size : Int) ≤ (((crF d nk K t k).1 x).size : Int)) := by omega
                    have eT : tornB ((crF d nk K t k).1 x) (d.D k) t = d.D k ++ ((crF d nk K t k).1 x).extract (d.D k).size ((crF d nk K t k).1 x).size := by unfold tornB; rw [s3, Nat.min_eq_left h4]; simp
                    rw [eT] at HF
                    have ZS' := ZS.out
                    have ZD' := ZD.out
                    go_wp2_with fail
                    generalize (wr.alloc (.cells #[.int .i64 (x : Int), .string (d.D k)] 68)) = u at *
                    generalize wr.heap.size = y at *
                    clear q1 q2
                    go_region
                    try dsimp only [Act.put]
                    go_wp2
                    go_roundw
                    case rel => exact HF.out
                    case measure => simp [intOf]; omega
                  · have x2 : ((((crF d nk K t k).1 x).size : Int) < ((d.D k).size : Int)) := by omega
                    have eT : tornB ((crF d nk K t k).1 x) (d.D k) t = d.D k := by unfold tornB; rw [s3, Nat.min_eq_right (by omega)]; simp
                    rw [eT] at HF
                    have ZS' := ZS.out
                    have ZD' := ZD.out
                    go_wp2_with fail
                    generalize (wr.alloc (.cells #[.int .i64 (x : Int), .string (d.D k)] 68)) = u at *
                    generalize wr.heap.size = y at *
                    clear q1 q2
                    go_region
                    try dsimp only [Act.put]
                    go_wp2
                    go_roundw
                    case rel => exact HF.out
                    case measure => simp [intOf]; omega
                · have x3 : ¬ (0 < ((d.D k).size : Int)) := by omega
                  have s4 : ¬ ((((crF d nk K t k).1 x).size : Int) < 0) := by omega
                  have s5 : tornN (d.D k) t = 0 := by unfold tornN; omega
                  have eT : tornB ((crF d nk K t k).1 x) (d.D k) t = ((crF d nk K t k).1 x) := by unfold tornB; rw [s5]; simp
                  rw [eT] at HF
                  have ZS' := ZS.out
                  have ZD' := ZD.out
                  go_wp2_with fail
                  generalize (wr.alloc (.cells #[.int .i64 (x : Int), .string (d.D k)] 68)) = u at *
                  generalize wr.heap.size = y at *
                  clear q1 q2
                  go_region
                  try dsimp only [Act.put]
                  go_wp2
                  go_roundw
                  case rel => exact HF.out
                  case measure => simp [intOf]; omega
            · have s1 : ¬ (((d.D k).size : Int) < t) := by omega
              have s2 : t ≤ ((d.D k).size : Int) := by omega
              have s4 : ¬ ((((crF d nk K t k).1 x).size : Int) < 0) := by omega
              have s3 : tornN (d.D k) t = 0 := by unfold tornN; omega
              have eT : tornB ((crF d nk K t k).1 x) (d.D k) t = ((crF d nk K t k).1 x) := by unfold tornB; rw [s3]; simp
              rw [eT] at HF
              have ZS' := ZS.out
              have ZD' := ZD.out
              go_wp2_with fail
              generalize (wr.alloc (.cells #[.int .i64 (x : Int), .string (d.D k)] 68)) = u at *
              generalize wr.heap.size = y at *
              clear q1 q2
              go_region
              try dsimp only [Act.put]
              go_wp2
              go_roundw
              case rel => exact HF.out
              case measure => simp [intOf]; omega
          · have hk1 : ¬ (k : Int) < (nk : Int) := by omega
            by_cases hn0 : 0 < t
            · by_cases h3 : t ≤ (d.D k).size
              · have x1 : ¬ (((d.D k).size : Int) < t) := by omega
                have s3 : tornN (d.D k) t = t.toNat := by unfold tornN; omega
                by_cases h4 : t ≤ ((crF d nk K t k).1 x).size
                · have x2 : ¬ ((((crF d nk K t k).1 x).size : Int) < t) := by omega
                  have eT : tornB ((crF d nk K t k).1 x) (d.D k) t = (d.D k).extract 0 t.toNat ++ ((crF d nk K t k).1 x).extract t.toNat ((crF d nk K t k).1 x).size := by unfold tornB; rw [s3, Nat.min_eq_left (by omega)]
                  rw [eT] at HF
                  have ZS' := ZS.out
                  have ZD' := ZD.out
                  go_wp2_with fail
                  generalize (wr.alloc (.cells #[.int .i64 (x : Int), .string (d.D k)] 68)) = u at *
                  generalize wr.heap.size = y at *
                  clear q1 q2
                  go_region
                  try dsimp only [Act.put]
                  go_wp2
                  go_roundw
                  case rel => exact HF.out
                  case measure => simp [intOf]; omega
                · have x2 : ((((crF d nk K t k).1 x).size : Int) < t) := by omega
                  have eT : tornB ((crF d nk K t k).1 x) (d.D k) t = (d.D k).extract 0 t.toNat := by unfold tornB; rw [s3, Nat.min_eq_right (by omega)]; simp
                  rw [eT] at HF
                  have ZS' := ZS.out
                  have ZD' := ZD.out
                  go_wp2_with fail
                  generalize (wr.alloc (.cells #[.int .i64 (x : Int), .string (d.D k)] 68)) = u at *
                  generalize wr.heap.size = y at *
                  clear q1 q2
                  go_region
                  try dsimp only [Act.put]
                  go_wp2
                  go_roundw
                  case rel => exact HF.out
                  case measure => simp [intOf]; omega
              · have x1 : (((d.D k).size : Int) < t) := by omega
                have s3 : tornN (d.D k) t = (d.D k).size := by unfold tornN; omega
                by_cases h5 : 0 < (d.D k).size
                · have x3 : 0 < ((d.D k).size : Int) := by omega
                  by_cases h4 : (d.D k).size ≤ ((crF d nk K t k).1 x).size
                  · have x2 : ¬ ((((crF d nk K t k).1 x).size : Int) < ((d.D k).size : Int)) := by omega
                    have x2' : (((d.D k).size : Int) ≤ (((crF d nk K t k).1 x).size : Int)) := by omega
                    have eT : tornB ((crF d nk K t k).1 x) (d.D k) t = d.D k ++ ((crF d nk K t k).1 x).extract (d.D k).size ((crF d nk K t k).1 x).size := by unfold tornB; rw [s3, Nat.min_eq_left h4]; simp
                    rw [eT] at HF
                    have ZS' := ZS.out
                    have ZD' := ZD.out
                    go_wp2_with fail
                    generalize (wr.alloc (.cells #[.int .i64 (x : Int), .string (d.D k)] 68)) = u at *
                    generalize wr.heap.size = y at *
                    clear q1 q2
                    go_region
                    try dsimp only [Act.put]
                    go_wp2
                    go_roundw
                    case rel => exact HF.out
                    case measure => simp [intOf]; omega
                  · have x2 : ((((crF d nk K t k).1 x).size : Int) < ((d.D k).size : Int)) := by omega
                    have eT : tornB ((crF d nk K t k).1 x) (d.D k) t = d.D k := by unfold tornB; rw [s3, Nat.min_eq_right (by omega)]; simp
                    rw [eT] at HF
                    have ZS' := ZS.out
                    have ZD' := ZD.out
                    go_wp2_with fail
                    generalize (wr.alloc (.cells #[.int .i64 (x : Int), .string (d.D k)] 68)) = u at *
                    generalize wr.heap.size = y at *
                    clear q1 q2
                    go_region
                    try dsimp only [Act.put]
                    go_wp2
                    go_roundw
                    case rel => exact HF.out
                    case measure => simp [intOf]; omega
                · have x3 : ¬ (0 < ((d.D k).size : Int)) := by omega
                  have s4 : ¬ ((((crF d nk K t k).1 x).size : Int) < 0) := by omega
                  have s5 : tornN (d.D k) t = 0 := by unfold tornN; omega
                  have eT : tornB ((crF d nk K t k).1 x) (d.D k) t = ((crF d nk K t k).1 x) := by unfold tornB; rw [s5]; simp
                  rw [eT] at HF
                  have ZS' := ZS.out
                  have ZD' := ZD.out
                  go_wp2_with fail
                  generalize (wr.alloc (.cells #[.int .i64 (x : Int), .string (d.D k)] 68)) = u at *
                  generalize wr.heap.size = y at *
                  clear q1 q2
                  go_region
                  try dsimp only [Act.put]
                  go_wp2
                  go_roundw
                  case rel => exact HF.out
                  case measure => simp [intOf]; omega
            · have s1 : ¬ (((d.D k).size : Int) < t) := by omega
              have s2 : t ≤ ((d.D k).size : Int) := by omega
              have s4 : ¬ ((((crF d nk K t k).1 x).size : Int) < 0) := by omega
              have s3 : tornN (d.D k) t = 0 := by unfold tornN; omega
              have eT : tornB ((crF d nk K t k).1 x) (d.D k) t = ((crF d nk K t k).1 x) := by unfold tornB; rw [s3]; simp
              rw [eT] at HF
              have ZS' := ZS.out
              have ZD' := ZD.out
              go_wp2_with fail
              generalize (wr.alloc (.cells #[.int .i64 (x : Int), .string (d.D k)] 68)) = u at *
              generalize wr.heap.size = y at *
              clear q1 q2
              go_region
              try dsimp only [Act.put]
              go_wp2
              go_roundw
              case rel => exact HF.out
              case measure => simp [intOf]; omega
        · rw [if_neg ht] at e5
          replace ht : (crF d nk K t k).2 = false := by simpa using ht
          have HF : Hid (∃ k' : Nat, k' ≤ d.nc ∧ Value.int .i64 ((k : Int) + 1) = .int .i64 (k' : Int) ∧ Value.bool (crF d nk K t k).2 = .bool (crF d nk K t k').2 ∧ Box3 (wr.alloc (.cells #[.int .i64 (x : Int), .string (d.D k)] 68)) w.heap.size 27 (.slice a0 d.nb c0) (.slice (some ⟨b1, o1, none⟩) d.nc c1) (.slice a2 d.ns c2) ∧ Box3 (wr.alloc (.cells #[.int .i64 (x : Int), .string (d.D k)] 68)) (w.heap.size + 1) 27 (.slice none 0 0) (.slice none 0 0) (.slice none 0 0) ∧ Box3 (wr.alloc (.cells #[.int .i64 (x : Int), .string (d.D k)] 68)) z 27 (.slice (some ⟨g0, 0, none⟩) d.nb k0) (.slice (some ⟨z + 1, 0, none⟩) 0 0) (.slice i2 d.ns k2) ∧ Rows3 (wr.alloc (.cells #[.int .i64 (x : Int), .string (d.D k)] 68)) (w.heap.size + 2) (d.crK nk K t k') (.slice (some ⟨g0, 0, none⟩) d.nb k0) (.slice (some ⟨z + 1, 0, none⟩) 0 0) (.slice i2 d.ns k2) ∧ Below w.heap.size w (wr.alloc (.cells #[.int .i64 (x : Int), .string (d.D k)] 68))) := ⟨k + 1, by omega, by go_num, by rw [e5], ST.out.1.below bA, ST.out.2.1.below bA, ST.out.2.2.1.below bA, by unfold Dk.crK; rw [e5]; exact ST.out.2.2.2.1.below bA, ST.out.2.2.2.2.trans (bA.mono sl)⟩
          rw [ht] at HF
          rw [ht]
          clear e5 FIN ST ht bA
          rcases TST.out with ⟨h, bk, ok, rfl, hbk, qk⟩ | h
          · have hk1 : (k : Int) < (nk : Int) := by omega
            have hbk' : bk < wr.heap.size := by omega
            go_wp2
            go_roundw
            case rel => exact HF.out
            case measure => simp [intOf]; omega
          · have hk1 : ¬ (k : Int) < (nk : Int) := by omega
            go_wp2
            go_roundw
            case rel => exact HF.out
            case measure => simp [intOf]; omega
    · have hlt' : ¬ (k : Int) < (d.nc : Int) := by omega
      obtain rfl : k = d.nc := by omega
      have y1 := hY.c1
      have e0 := hZ.c0
      have e1 := hZ.c1
      have e2 := hZ.c2
      have x0 := hX.c0
      have x1 := hX.c1
      have x2 := hX.c2
      have g0 := hX.fr 0
      have g1 := hX.fr 1
      have g2 := hX.fr 2
      have O5 : OnlyB (w.heap.size + 1) wr (((wr.setCell ⟨w.heap.size + 1, 0, none⟩ (.slice i0 d.nb k0)).setCell ⟨w.heap.size + 1, 1, none⟩ (.slice (some ⟨z + 1, 0, none⟩) 0 0)).setCell ⟨w.heap.size + 1, 2, none⟩ (.slice i2 d.ns k2)) := (((OnlyB.refl _ wr).setCell 0 _).setCell 1 _).setCell 2 _
      have X5 : Hid (Box3 (((wr.setCell ⟨w.heap.size + 1, 0, none⟩ (.slice i0 d.nb k0)).setCell ⟨w.heap.size + 1, 1, none⟩ (.slice (some ⟨z + 1, 0, none⟩) 0 0)).setCell ⟨w.heap.size + 1, 2, none⟩ (.slice i2 d.ns k2)) (w.heap.size + 1) 27 (.slice i0 d.nb k0) (.slice (some ⟨z + 1, 0, none⟩) 0 0) (.slice i2 d.ns k2)) := ((hX.set0 _).set1 _).set2 _
      have R5 : Hid (Rows3 (((wr.setCell ⟨w.heap.size + 1, 0, none⟩ (.slice i0 d.nb k0)).setCell ⟨w.heap.size + 1, 1, none⟩ (.slice (some ⟨z + 1, 0, none⟩) 0 0)).setCell ⟨w.heap.size + 1, 2, none⟩ (.slice i2 d.ns k2)) w.heap.size (d.crashed nk K t) (.slice i0 d.nb k0) (.slice (some ⟨z + 1, 0, none⟩) 0 0) (.slice i2 d.ns k2)) := ⟨own_mono (hR.t0.onlyB O5 (fun e => by have := (World.ownsRow.lt hR.t0 _ e).1; omega)) (Nat.le_add_right _ _), own_mono (hR.t1.onlyB O5 (fun e => by have := (World.ownsRow.lt hR.t1 _ e).1; omega)) (Nat.le_add_right _ _), own_mono (hR.t2.onlyB O5 (fun e => by have := (World.ownsRow.lt hR.t2 _ e).1; omega)) (Nat.le_add_right _ _), hR.n01, hR.n02, hR.n12⟩
      have B5 : Hid (Below w.heap.size w (((wr.setCell ⟨w.heap.size + 1, 0, none⟩ (.slice i0 d.nb k0)).setCell ⟨w.heap.size + 1, 1, none⟩ (.slice (some ⟨z + 1, 0, none⟩) 0 0)).setCell ⟨w.heap.size + 1, 2, none⟩ (.slice i2 d.ns k2))) := hb.trans (O5.toBelow (by omega) hb.size)
      clear O5 hR hY hZ hX hb
      go_wp2
      generalize (((wr.setCell ⟨w.heap.size + 1, 0, none⟩ (.slice i0 d.nb k0)).setCell ⟨w.heap.size + 1, 1, none⟩ (.slice (some ⟨z + 1, 0, none⟩) 0 0)).setCell ⟨w.heap.size + 1, 2, none⟩ (.slice i2 d.ns k2)) = u5 at *
      have y0 := X5.out.c0
      have y1' := X5.out.c1
      have y2 := X5.out.c2
      clear x0 x1 x2 e0 e1 e2 g0 g1 g2 y1
      exact ret_cell (b := w.heap.size + 1) (v := .agg #[.slice i0 d.nb k0, .slice (some ⟨z + 1, 0, none⟩) 0 0, .slice i2 d.ns k2]) Tryd.results37 rfl (by go_simp) ⟨⟨_, _, _, rfl, R5.out⟩, B5.out⟩
end Go.Proofs.YtgdfhgepbamhmaaDoor
