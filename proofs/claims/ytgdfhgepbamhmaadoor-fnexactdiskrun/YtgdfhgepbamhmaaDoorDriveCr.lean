/-
  A drive at work: the power goes.
-/
import Derived.Test.YtgdfhgepbamhmaaDoorDriveSy
namespace Go.Proofs.YtgdfhgepbamhmaaDoor
open Go.ChangeShapes Go.WideShapes Go.ChangeAt Go.RowKit
/-- How much of a torn write is there. -/
def tornN (data : ByteArray) (t : Int) : Nat := min t.toNat data.size
/-- A torn write over what stood there. -/
def tornB (old data : ByteArray) (t : Int) : ByteArray := data.extract 0 (tornN data t) ++ old.extract (min (tornN data t) old.size) old.size
set_option maxRecDepth 100000 in
set_option maxHeartbeats 1000000 in
theorem tornOver_any (old data : ByteArray) (t : Int) (h1 : old.size ≤ 200) (h2 : data.size ≤ 200) (w : World) :
    Calls Tryd.prog 52 #[.string old, .string data, .int .i64 t] w fun e w' => e = .returned (.string (tornB old data t)) ∧ Below w.heap.size w w' := by
  by_cases h0 : t < 0
  · have x1 : ¬ ((data.size : Int) < 0) := by omega
    have x2 : ¬ ((old.size : Int) < 0) := by omega
    have e : tornN data t = 0 := by unfold tornN; omega
    go_enter Tryd.func52, Tryd.ntmps52
    go_wp2_with fail
    go_region
    go_wp2
    go_ret
    exact ⟨congrArg (fun s => Ending.returned (.string s)) (show _ = tornB _ _ _ by unfold tornB; exact (by rw [e]; simp)), (Below.refl _ _).drew⟩
  · obtain ⟨n, rfl⟩ : ∃ n : Nat, t = (n : Int) := ⟨t.toNat, by omega⟩
    clear h0
    have x0 : ¬ ((n : Int) < 0) := by omega
    by_cases h3 : n ≤ data.size
    · have x1 : ¬ ((data.size : Int) < (n : Int)) := by omega
      have x1' : (n : Int) ≤ (data.size : Int) := by omega
      by_cases h4 : n ≤ old.size
      · have x2 : ¬ ((old.size : Int) < (n : Int)) := by omega
        have x2' : (n : Int) ≤ (old.size : Int) := by omega
        go_enter Tryd.func52, Tryd.ntmps52
        go_wp2_with fail
        go_region
        go_wp2
        go_ret
        exact ⟨congrArg (fun s => Ending.returned (.string s)) (show _ = tornB _ _ _ by unfold tornB; exact (by rw [show tornN data (n : Int) = n by unfold tornN; omega, Nat.min_eq_left h4])), (Below.refl _ _).drew⟩
      · have x2 : ((old.size : Int) < (n : Int)) := by omega
        go_enter Tryd.func52, Tryd.ntmps52
        go_wp2_with fail
        go_region
        go_wp2
        go_ret
        exact ⟨congrArg (fun s => Ending.returned (.string s)) (show _ = tornB _ _ _ by unfold tornB; exact (by rw [show tornN data (n : Int) = n by unfold tornN; omega, Nat.min_eq_right (by omega)]; simp)), (Below.refl _ _).drew⟩
    · have x1 : ((data.size : Int) < (n : Int)) := by omega
      by_cases h4 : data.size ≤ old.size
      · have x2 : ¬ ((old.size : Int) < (data.size : Int)) := by omega
        have x2' : ((data.size : Int) ≤ (old.size : Int)) := by omega
        go_enter Tryd.func52, Tryd.ntmps52
        go_wp2_with fail
        go_region
        go_wp2
        go_ret
        exact ⟨congrArg (fun s => Ending.returned (.string s)) (show _ = tornB _ _ _ by unfold tornB; exact (by rw [show tornN data (n : Int) = data.size by unfold tornN; omega, Nat.min_eq_left h4]; simp)), (Below.refl _ _).drew⟩
      · have x2 : ((old.size : Int) < (data.size : Int)) := by omega
        go_enter Tryd.func52, Tryd.ntmps52
        go_wp2_with fail
        go_region
        go_wp2
        go_ret
        exact ⟨congrArg (fun s => Ending.returned (.string s)) (show _ = tornB _ _ _ by unfold tornB; exact (by rw [show tornN data (n : Int) = data.size by unfold tornN; omega, Nat.min_eq_right (by omega)]; simp)), (Below.refl _ _).drew⟩
theorem tornB_size (old data : ByteArray) (t : Int) (h1 : old.size ≤ 200) (h2 : data.size ≤ 200) : (tornB old data t).size ≤ 200 := by
  unfold tornB
  have : tornN data t ≤ data.size := Nat.min_le_right _ _
  simp only [ByteArray.size_append, ByteArray.size_extract]
  omega
/-- A row of bools below B. -/
def Bls (w : World) (B : Nat) (a : Option Addr) (n : Nat) (f : Nat → Bool) : Prop := ∀ i, i < n → ∃ b off, a = some ⟨b, off, none⟩ ∧ b < B ∧ w.cell? ⟨b, off + i, none⟩ = some (.bool (f i))
theorem Bls.below {w w' : World} {B : Nat} {a : Option Addr} {n : Nat} {f : Nat → Bool} (h : Bls w B a n f) (hb : Below B w w') : Bls w' B a n f := fun i hi => by
  obtain ⟨b, off, ha, hB, hc⟩ := h i hi
  exact ⟨b, off, ha, hB, by rw [hb.cell hB]; exact hc⟩
/-- The blocks, and whether a torn write may still be, behind the first k writes. -/
def crF (d : Dk) (nk : Nat) (K : Nat → Bool) (t : Int) : Nat → (Nat → ByteArray) × Bool
  | 0 => (d.B, true)
  | k + 1 => if k < nk ∧ K k = true then (fun i => if i = (d.A k).toNat then d.D k else (crF d nk K t k).1 i, (crF d nk K t k).2)
    else if (crF d nk K t k).2 = true then (fun i => if i = (d.A k).toNat then tornB ((crF d nk K t k).1 (d.A k).toNat) (d.D k) t else (crF d nk K t k).1 i, false)
    else crF d nk K t k
theorem crF_size (d : Dk) (nk : Nat) (K : Nat → Bool) (t : Int) (hB : ∀ i, i < d.nb → (d.B i).size ≤ 200) (hD : ∀ i, i < d.nc → (d.D i).size ≤ 200) (hA : ∀ i, i < d.nc → 0 ≤ d.A i ∧ d.A i < d.nb) : ∀ k, k ≤ d.nc → ∀ i, i < d.nb → ((crF d nk K t k).1 i).size ≤ 200
  | 0, _, i, hi => hB i hi
  | k + 1, hk, i, hi => by
    have ih := crF_size d nk K t hB hD hA k (by omega)
    have ha := hA k (by omega)
    unfold crF
    split
    · show (if i = (d.A k).toNat then d.D k else (crF d nk K t k).1 i).size ≤ 200
      split
      · exact hD k (by omega)
      · exact ih i hi
    · split
      · show (if i = (d.A k).toNat then tornB ((crF d nk K t k).1 (d.A k).toNat) (d.D k) t else (crF d nk K t k).1 i).size ≤ 200
        split
        · exact tornB_size _ _ _ (ih _ (by omega)) (hD k (by omega))
        · exact ih i hi
      · exact ih i hi
/-- d behind a crash. -/
def Dk.crashed (d : Dk) (nk : Nat) (K : Nat → Bool) (t : Int) : Dk := ⟨d.nb, (crF d nk K t d.nc).1, 0, d.A, d.D, d.ns, d.S⟩
theorem PnR.pos {w : World} {B : Nat} {v : Value} {n : Nat} {A : Nat → Int} {D : Nat → ByteArray} (h : PnR w B v n A D) (hn : 0 < n) : ∃ g c, v = .slice (some ⟨g, 0, none⟩) n c ∧ RowP w (some ⟨g, 0, none⟩) g n A D ∧ B ≤ g ∧ n ≤ c ∧ g < w.heap.size := by
  obtain ⟨a, c, rfl, r, hB, -, hc⟩ := h.form
  have e := r.a hn
  have hlt : rowOf (.slice a n c) < w.heap.size := strBlock (r.c 0 hn)
  cases a with
  | none => cases e
  | some ad =>
    have e2 : ad = ⟨ad.block, 0, none⟩ := by
      have h1 : ad = ⟨rowOf (.slice (some ad) n c), 0, none⟩ := Option.some.inj e
      exact h1
    obtain ⟨g, rfl⟩ : ∃ g, ad = ⟨g, 0, none⟩ := ⟨_, e2⟩
    exact ⟨g, c, rfl, r, hB hn, hc, hlt⟩
set_option maxRecDepth 100000 in
set_option maxHeartbeats 8000000 in
theorem crash_anyK (B q b : Nat) (d : Dk) (v0 v1 v2 : Value) (ak : Option Addr) (nk ck : Nat) (K : Nat → Bool) (t : Int) (hA : ∀ i, i < d.nc → 0 ≤ d.A i ∧ d.A i < d.nb) (hB : ∀ i, i < d.nb → (d.B i).size ≤ 200) (hD : ∀ i, i < d.nc → (d.D i).size ≤ 200) (hn : d.nb ≤ 64) (hc : d.nc ≤ 4096) (hnk : nk ≤ 1048576) (w : World) (hBw : B ≤ w.heap.size) (h : Drv w B q b d v0 v1 v2) (hK : Bls w B ak nk K) :
    Calls Tryd.prog 42 #[.pointer (some ⟨q, 0, none⟩), .slice ak nk ck, .int .i64 t] w fun e w' => e = .returned (.tuple #[]) ∧ Drv w' B q b (d.crashed nk K t) v0 (.slice none 0 0) v2 ∧ Below B w w' ∧ KpD q b v0 v1 v2 v0 (.slice none 0 0) v2 w w' := by
  have HD : Hid (Drv w B q b d v0 v1 v2) := h
  have HK : Hid (Bls w B ak nk K) := hK
  have EC : Hid (∀ (v0 v1 v2 : Value) (M : Int → Option Value) (w : World), Box4 w q 58 v0 v1 v2 (.map (some b)) → MapI w b M → Calls Tryd.prog 51 #[.pointer (some ⟨q, 0, none⟩)] w fun e w' => e = .returned (.tuple #[]) ∧ Box4 w' q 58 v0 (.slice none 0 0) v2 (.map (some b)) ∧ MapI w' b (fun _ => none) ∧ Only2 q b w w') := fun v0 v1 v2 M w h1 h2 => emptyCache_any q b v0 v1 v2 M h.qb w h1 h2
  have TO : Hid (∀ (old data : ByteArray) (w : World), old.size ≤ 200 → data.size ≤ 200 → Calls Tryd.prog 52 #[.string old, .string data, .int .i64 t] w fun e w' => e = .returned (.string (tornB old data t)) ∧ Below w.heap.size w w') := fun old data w h1 h2 => tornOver_any old data t h1 h2 w
  obtain ⟨a0, c0, rfl, -⟩ := h.t0.form
  obtain ⟨a1, c1, rfl, -⟩ := h.t1.form
  have k1 := h.box.c1
  have hql := h.box.lt
  have hbl := h.m.lt
  have CS : Hid (∀ k, k ≤ d.nc → ∀ i, i < d.nb → ((crF d nk K t k).1 i).size ≤ 200) := crF_size d nk K t hB hD hA
  clear h hK hB
  go_enter Tryd.func42, Tryd.ntmps42
  go_wp2_with fail
  go_loopw [6, 16] (fun t6 t16 wr => ∃ k : Nat, k ≤ d.nc ∧ t16 = .int .i64 (k : Int) ∧ t6 = .bool (crF d nk K t k).2 ∧ Box4 wr q 58 (.slice a0 d.nb c0) (.slice a1 d.nc c1) v2 (.map (some b)) ∧ MapI wr b (lastM d.A d.D d.nc) ∧ TxR wr B (.slice a0 d.nb c0) d.nb (crF d nk K t k).1 ∧ PnR wr B (.slice a1 d.nc c1) d.nc d.A d.D ∧ TxR wr B v2 d.ns d.S ∧ BelD B q b (.slice a0 d.nb c0) (.slice a1 d.nc c1) v2 w wr) (fun _ t16 _ => d.nc - (intOf t16).toNat)
  case atStart => exact ⟨0, by omega, rfl, rfl, HD.out.box, HD.out.m, HD.out.t0, HD.out.t1, HD.out.t2, Below.refl _ _, fun _ _ _ => rfl⟩
  case round =>
    clear k1
    obtain ⟨k, hk, rfl, rfl, hX, hM, hT, hP, hU, hb⟩ := hrel
    have B0 : Hid (Below B w wr) := hb.1
    have KX0 : Hid (∀ C, C < w.heap.size → NotD C q b (.slice a0 d.nb c0) (.slice a1 d.nc c1) v2 → wr.heap[C]? = w.heap[C]?) := hb.2
    have hsz0 := hb.1.size
    have X0 : Hid (Box4 wr q 58 (.slice a0 d.nb c0) (.slice a1 d.nc c1) v2 (.map (some b))) := hX
    have M0 : Hid (MapI wr b (lastM d.A d.D d.nc)) := hM
    have T0 : Hid (TxR wr B (.slice a0 d.nb c0) d.nb (crF d nk K t k).1) := hT
    have P0 : Hid (PnR wr B (.slice a1 d.nc c1) d.nc d.A d.D) := hP
    have U0 : Hid (TxR wr B v2 d.ns d.S) := hU
    clear hb hX hM hT hP hU
    by_cases hlt : k < d.nc
    · have hlt' : (k : Int) < (d.nc : Int) := by omega
      obtain ⟨x, hxA⟩ : ∃ x : Nat, d.A k = (x : Int) := ⟨(d.A k).toNat, by have := hA k hlt; omega⟩
      have hx : x < d.nb := by have := hA k hlt; omega
      have hx' : (x : Int) < (d.nb : Int) := by omega
      obtain ⟨g1, c1', e1, r1, hBg1, -, hgl1⟩ := P0.out.pos (by omega)
      cases e1
      obtain ⟨g0, c0', e0, r0, hBg0, -, hgl0⟩ := T0.out.pos (by omega)
      cases e0
      have q1 := r1.c k hlt
      have q2 := r1.d k hlt
      rw [hxA] at q1
      clear r0 r1
      have bA : Below wr.heap.size wr (wr.alloc (.cells #[.int .i64 (x : Int), .string (d.D k)] 68)) := (Below.refl _ _).alloc (Nat.le_refl _) _
      have X2 : Hid (Box4 (wr.alloc (.cells #[.int .i64 (x : Int), .string (d.D k)] 68)).drew q 58 (.slice (some ⟨g0, 0, none⟩) d.nb c0) (.slice (some ⟨g1, 0, none⟩) d.nc c1) v2 (.map (some b))) := X0.out.below bA.drew
      have M2 : Hid (MapI (wr.alloc (.cells #[.int .i64 (x : Int), .string (d.D k)] 68)).drew b (lastM d.A d.D d.nc)) := M0.out.below bA.drew
      have T2 : Hid (TxR (wr.alloc (.cells #[.int .i64 (x : Int), .string (d.D k)] 68)).drew B (.slice (some ⟨g0, 0, none⟩) d.nb c0) d.nb (crF d nk K t k).1) := T0.out.below bA.drew
      have P2 : Hid (PnR (wr.alloc (.cells #[.int .i64 (x : Int), .string (d.D k)] 68)).drew B (.slice (some ⟨g1, 0, none⟩) d.nc c1) d.nc d.A d.D) := P0.out.below bA.drew
      have U2 : Hid (TxR (wr.alloc (.cells #[.int .i64 (x : Int), .string (d.D k)] 68)).drew B v2 d.ns d.S) := U0.out.below bA.drew
      have B2 : Hid (Below B w (wr.alloc (.cells #[.int .i64 (x : Int), .string (d.D k)] 68)).drew) := B0.out.trans (bA.drew.mono (by omega))
      have KX2 : Hid (∀ C, C < w.heap.size → NotD C q b (.slice (some ⟨g0, 0, none⟩) d.nb c0) (.slice (some ⟨g1, 0, none⟩) d.nc c1) v2 → (wr.alloc (.cells #[.int .i64 (x : Int), .string (d.D k)] 68)).drew.heap[C]? = w.heap[C]?) := fun C hC hN => (bA.drew.block C (by omega)).trans (KX0.out C hC hN)
      have z0 : (wr.alloc (.cells #[.int .i64 (x : Int), .string (d.D k)] 68)).cell? ⟨wr.heap.size, 0, none⟩ = some (.int .i64 (x : Int)) := by simp
      have z1 : (wr.alloc (.cells #[.int .i64 (x : Int), .string (d.D k)] 68)).cell? ⟨wr.heap.size, 1, none⟩ = some (.string (d.D k)) := by simp
      have k0 := (X0.out.below bA).c0
      clear bA X0 M0 T0 P0 U0 B0 KX0
      have hgz : g0 ≠ wr.heap.size := by omega
      have hgq : g0 ≠ q := fun e => HD.out.s0.1 (by rw [e]; rfl)
      have hgb : g0 ≠ b := fun e => HD.out.s0.2 (by rw [e]; rfl)
      go_wp2_with fail
      generalize (wr.alloc (.cells #[.int .i64 (x : Int), .string (d.D k)] 68)) = u at *
      generalize wr.heap.size = z at *
      clear q1 q2
      go_region
      have z0' : u.drew.cell? ⟨z, 0, none⟩ = some (.int .i64 (x : Int)) := z0
      have z1' : u.drew.cell? ⟨z, 1, none⟩ = some (.string (d.D k)) := z1
      have Z1 : Hid (z < u.drew.heap.size) := strBlock z0'
      clear z0 z1 k0
      generalize u.drew = u1 at *
      have S1 : Hid (Box4 u1 q 58 (.slice (some ⟨g0, 0, none⟩) d.nb c0) (.slice (some ⟨g1, 0, none⟩) d.nc c1) v2 (.map (some b)) ∧ MapI u1 b (lastM d.A d.D d.nc) ∧ TxR u1 B (.slice (some ⟨g0, 0, none⟩) d.nb c0) d.nb (crF d nk K t k).1 ∧ PnR u1 B (.slice (some ⟨g1, 0, none⟩) d.nc c1) d.nc d.A d.D ∧ TxR u1 B v2 d.ns d.S ∧ BelD B q b (.slice (some ⟨g0, 0, none⟩) d.nb c0) (.slice (some ⟨g1, 0, none⟩) d.nc c1) v2 w u1) := ⟨X2.out, M2.out, T2.out, P2.out, U2.out, B2.out, KX2.out⟩
      have FIN : Hid (∀ (y : World) (s : ByteArray), (Box4 y q 58 (.slice (some ⟨g0, 0, none⟩) d.nb c0) (.slice (some ⟨g1, 0, none⟩) d.nc c1) v2 (.map (some b)) ∧ MapI y b (lastM d.A d.D d.nc) ∧ TxR y B (.slice (some ⟨g0, 0, none⟩) d.nb c0) d.nb (crF d nk K t k).1 ∧ PnR y B (.slice (some ⟨g1, 0, none⟩) d.nc c1) d.nc d.A d.D ∧ TxR y B v2 d.ns d.S ∧ BelD B q b (.slice (some ⟨g0, 0, none⟩) d.nb c0) (.slice (some ⟨g1, 0, none⟩) d.nc c1) v2 w y) → (Box4 (y.setCell ⟨g0, x, none⟩ (.string s)) q 58 (.slice (some ⟨g0, 0, none⟩) d.nb c0) (.slice (some ⟨g1, 0, none⟩) d.nc c1) v2 (.map (some b)) ∧ MapI (y.setCell ⟨g0, x, none⟩ (.string s)) b (lastM d.A d.D d.nc) ∧ TxR (y.setCell ⟨g0, x, none⟩ (.string s)) B (.slice (some ⟨g0, 0, none⟩) d.nb c0) d.nb (fun i => if i = x then s else (crF d nk K t k).1 i) ∧ PnR (y.setCell ⟨g0, x, none⟩ (.string s)) B (.slice (some ⟨g1, 0, none⟩) d.nc c1) d.nc d.A d.D ∧ TxR (y.setCell ⟨g0, x, none⟩ (.string s)) B v2 d.ns d.S ∧ BelD B q b (.slice (some ⟨g0, 0, none⟩) d.nb c0) (.slice (some ⟨g1, 0, none⟩) d.nc c1) v2 w (y.setCell ⟨g0, x, none⟩ (.string s)))) := fun y s ⟨p1, p2, p3, p4, p5, p6⟩ => by
        have O : OnlyB g0 y (y.setCell ⟨g0, x, none⟩ (.string s)) := (OnlyB.refl g0 y).setCell x _
        exact ⟨p1.onlyB O (Ne.symm hgq), p2.onlyB O (Ne.symm hgb), p3.put x s, p4.onlyB O (HD.out.n01 g0 rfl), p5.onlyB O (HD.out.n02 g0 rfl), p6.1.trans (O.toBelow hBg0 (by have := p6.1.size; omega)), fun C hC hN => (O.block C (Nat.lt_of_lt_of_le hC p6.1.size) (fun e => hN.2.2.1 (by rw [e]; rfl))).trans (p6.2 C hC hN)⟩
      obtain ⟨g0', c0'', e0, r0, -⟩ := T2.out.pos (by omega)
      cases e0
      have cx := r0.c x hx
      have fx := r0.z x hx
      have hxN : (d.A k).toNat = x := by omega
      have HKn : Hid (k < nk → ∃ b off, ak = some ⟨b, off, none⟩ ∧ b < B ∧ u1.cell? ⟨b, off + k, none⟩ = some (.bool (K k))) := fun h => HK.out.below B2.out k h
      clear r0 X2 M2 T2 P2 U2 B2 hA
      by_cases hkk : k < nk ∧ K k = true
      · obtain ⟨bk, ok, rfl, hbk, qk⟩ := HKn.out hkk.1
        rw [hkk.2] at qk
        have hk1 : (k : Int) < (nk : Int) := by omega
        have e5 : crF d nk K t (k + 1) = (fun i => if i = x then d.D k else (crF d nk K t k).1 i, (crF d nk K t k).2) := by rw [crF, if_pos hkk, hxN]
        have F5 := FIN.out u1 (d.D k) S1.out
        have HF : Hid (∃ k' : Nat, k' ≤ d.nc ∧ Value.int .i64 ((k : Int) + 1) = .int .i64 (k' : Int) ∧ Value.bool (crF d nk K t k).2 = .bool (crF d nk K t k').2 ∧ Box4 (u1.setCell ⟨g0, x, none⟩ (.string (d.D k))) q 58 (.slice (some ⟨g0, 0, none⟩) d.nb c0) (.slice (some ⟨g1, 0, none⟩) d.nc c1) v2 (.map (some b)) ∧ MapI (u1.setCell ⟨g0, x, none⟩ (.string (d.D k))) b (lastM d.A d.D d.nc) ∧ TxR (u1.setCell ⟨g0, x, none⟩ (.string (d.D k))) B (.slice (some ⟨g0, 0, none⟩) d.nb c0) d.nb (crF d nk K t k').1 ∧ PnR (u1.setCell ⟨g0, x, none⟩ (.string (d.D k))) B (.slice (some ⟨g1, 0, none⟩) d.nc c1) d.nc d.A d.D ∧ TxR (u1.setCell ⟨g0, x, none⟩ (.string (d.D k))) B v2 d.ns d.S ∧ BelD B q b (.slice (some ⟨g0, 0, none⟩) d.nb c0) (.slice (some ⟨g1, 0, none⟩) d.nc c1) v2 w (u1.setCell ⟨g0, x, none⟩ (.string (d.D k)))) := ⟨k + 1, by omega, by go_num, by rw [e5], by rw [e5]; exact F5⟩
        clear F5 e5 FIN S1 HKn
        go_wp2
        go_roundw
        case rel => exact HF.out
        case measure => simp [intOf]; omega
      · have hkk' : k < nk → K k = false := fun h => by
          cases e : K k with
          | false => rfl
          | true => exact absurd ⟨h, e⟩ hkk
        have e5 : crF d nk K t (k + 1) = if (crF d nk K t k).2 = true then (fun i => if i = x then tornB ((crF d nk K t k).1 x) (d.D k) t else (crF d nk K t k).1 i, false) else crF d nk K t k := by rw [crF, if_neg hkk, hxN]
        have TST : Hid ((k < nk ∧ ∃ b off, ak = some ⟨b, off, none⟩ ∧ u1.cell? ⟨b, off + k, none⟩ = some (.bool false)) ∨ ¬ k < nk) := by
          by_cases h : k < nk
          · obtain ⟨b, off, e1, -, e2⟩ := HKn.out h
            rw [hkk' h] at e2
            exact .inl ⟨h, b, off, e1, e2⟩
          · exact .inr h
        clear HKn hkk'
        by_cases ht : (crF d nk K t k).2 = true
        · rw [if_pos ht] at e5
          have ZS : Hid (((crF d nk K t k).1 x).size ≤ 200) := CS.out k hk x hx
          have ZD : Hid ((d.D k).size ≤ 200) := hD k hlt
          have HF : Hid (∀ w3, Below u1.heap.size u1 w3 → ∃ k' : Nat, k' ≤ d.nc ∧ Value.int .i64 ((k : Int) + 1) = .int .i64 (k' : Int) ∧ Value.bool false = .bool (crF d nk K t k').2 ∧ Box4 (w3.setCell ⟨g0, x, none⟩ (.string (tornB ((crF d nk K t k).1 x) (d.D k) t))) q 58 (.slice (some ⟨g0, 0, none⟩) d.nb c0) (.slice (some ⟨g1, 0, none⟩) d.nc c1) v2 (.map (some b)) ∧ MapI (w3.setCell ⟨g0, x, none⟩ (.string (tornB ((crF d nk K t k).1 x) (d.D k) t))) b (lastM d.A d.D d.nc) ∧ TxR (w3.setCell ⟨g0, x, none⟩ (.string (tornB ((crF d nk K t k).1 x) (d.D k) t))) B (.slice (some ⟨g0, 0, none⟩) d.nb c0) d.nb (crF d nk K t k').1 ∧ PnR (w3.setCell ⟨g0, x, none⟩ (.string (tornB ((crF d nk K t k).1 x) (d.D k) t))) B (.slice (some ⟨g1, 0, none⟩) d.nc c1) d.nc d.A d.D ∧ TxR (w3.setCell ⟨g0, x, none⟩ (.string (tornB ((crF d nk K t k).1 x) (d.D k) t))) B v2 d.ns d.S ∧ BelD B q b (.slice (some ⟨g0, 0, none⟩) d.nb c0) (.slice (some ⟨g1, 0, none⟩) d.nc c1) v2 w (w3.setCell ⟨g0, x, none⟩ (.string (tornB ((crF d nk K t k).1 x) (d.D k) t)))) := fun w3 hb => ⟨k + 1, by omega, by go_num, by rw [e5], by
            rw [e5]
            have hb' := hb.mono (Nat.le_trans hBw S1.out.2.2.2.2.2.1.size)
            exact FIN.out w3 _ ⟨S1.out.1.below hb, S1.out.2.1.below hb, S1.out.2.2.1.below hb, S1.out.2.2.2.1.below hb, S1.out.2.2.2.2.1.below hb, S1.out.2.2.2.2.2.1.trans hb', fun C hC hN => (hb.block C (Nat.lt_of_lt_of_le hC S1.out.2.2.2.2.2.1.size)).trans (S1.out.2.2.2.2.2.2 C hC hN)⟩⟩
          have FT : Hid (∀ w3, Below u1.heap.size u1 w3 → w3.frozen? ⟨g0, x, none⟩ = false ∧ w3.cell? ⟨g0, x, none⟩ = some (.string ((crF d nk K t k).1 x))) := fun w3 hb => by
            obtain ⟨g0', c0'', e0, r0, -⟩ := (S1.out.2.2.1.below hb).pos (by omega)
            cases e0
            exact ⟨r0.z x hx, r0.c x hx⟩
          have hg0 : g0 < u1.heap.size := strBlock cx
          rw [ht]
          clear e5 FIN S1 CS hD ht
          rcases TST.out with ⟨h, bk, ok, rfl, qk⟩ | h
          · have hk1 : (k : Int) < (nk : Int) := by omega
            go_wp2_with fail
            clear qk
            go_region_with (go_at_call 52; refine (TO.out _ _ _ ZS.out ZD.out).mono ?_; rintro e w3 ⟨rfl, hb3⟩; have hb4 : Below u1.heap.size u1 w3 := Below.trans ((Below.refl _ _).drew) hb3; obtain ⟨fx3, cx3⟩ := FT.out w3 hb4)
            all_goals
              have HG := HF.out w3 hb4
              clear hb3 hb4 fx3 cx3 cx fx z0' z1' HF FT TO
              try dsimp only [Act.put]
              go_wp2
              go_roundw
              case rel => exact HG
              case measure => simp [intOf]; omega
          · have hk1 : ¬ (k : Int) < (nk : Int) := by omega
            go_wp2_with fail
            go_region_with (go_at_call 52; refine (TO.out _ _ _ ZS.out ZD.out).mono ?_; rintro e w3 ⟨rfl, hb3⟩; have hb4 : Below u1.heap.size u1 w3 := Below.trans ((Below.refl _ _).drew) hb3; obtain ⟨fx3, cx3⟩ := FT.out w3 hb4)
            all_goals
              have HG := HF.out w3 hb4
              clear hb3 hb4 fx3 cx3 cx fx z0' z1' HF FT TO
              try dsimp only [Act.put]
              go_wp2
              go_roundw
              case rel => exact HG
              case measure => simp [intOf]; omega
        · rw [if_neg ht] at e5
          replace ht : (crF d nk K t k).2 = false := by simpa using ht
          have HF : Hid (∃ k' : Nat, k' ≤ d.nc ∧ Value.int .i64 ((k : Int) + 1) = .int .i64 (k' : Int) ∧ Value.bool (crF d nk K t k).2 = .bool (crF d nk K t k').2 ∧ Box4 u1 q 58 (.slice (some ⟨g0, 0, none⟩) d.nb c0) (.slice (some ⟨g1, 0, none⟩) d.nc c1) v2 (.map (some b)) ∧ MapI u1 b (lastM d.A d.D d.nc) ∧ TxR u1 B (.slice (some ⟨g0, 0, none⟩) d.nb c0) d.nb (crF d nk K t k').1 ∧ PnR u1 B (.slice (some ⟨g1, 0, none⟩) d.nc c1) d.nc d.A d.D ∧ TxR u1 B v2 d.ns d.S ∧ BelD B q b (.slice (some ⟨g0, 0, none⟩) d.nb c0) (.slice (some ⟨g1, 0, none⟩) d.nc c1) v2 w u1) := ⟨k + 1, by omega, by go_num, by rw [e5], by rw [e5]; exact S1.out⟩
          rw [ht] at HF
          rw [ht]
          clear e5 FIN S1 cx fx ht
          rcases TST.out with ⟨h, bk, ok, rfl, qk⟩ | h
          · have hk1 : (k : Int) < (nk : Int) := by omega
            go_wp2
            go_roundw
            case rel => exact HF.out
            case measure => simp [intOf]; omega
          · have hk1 : ¬ (k : Int) < (nk : Int) := by omega
            go_wp2
            go_roundw
            case rel => exact HF.out
            case measure => simp [intOf]; omega
    · have hlt' : ¬ (k : Int) < (d.nc : Int) := by omega
      obtain rfl : k = d.nc := by omega
      go_wp2_with fail
      refine (EC.out _ _ _ _ _ X0.out M0.out).mono ?_
      rintro e w2 ⟨rfl, hX2, hM2, hO2⟩
      have HF : Hid (Drv w2 B q b (d.crashed nk K t) (.slice a0 d.nb c0) (.slice none 0 0) v2) := ⟨hX2, ownsRow_only2 T0.out hO2 HD.out.s0.1 HD.out.s0.2, PnR.nil _ _ _ _, ownsRow_only2 U0.out hO2 HD.out.s2.1 HD.out.s2.2, hM2, HD.out.s0, ⟨by simp [Value.ownBlock], by simp [Value.ownBlock]⟩, HD.out.s2, HD.out.qb, fun g _ e => by simp [Value.ownBlock] at e, HD.out.n02, fun g e => by simp [Value.ownBlock] at e, HD.out.hq, HD.out.hb⟩
      have HB : Hid (Below B w w2) := B0.out.trans (hO2.toBelow HD.out.hq HD.out.hb (by omega))
      have KF : Hid (KpD q b (.slice a0 d.nb c0) (.slice a1 d.nc c1) v2 (.slice a0 d.nb c0) (.slice none 0 0) v2 w w2) := fun C hC hN => ⟨(hO2.block C (by omega) hN.1 hN.2.1).trans (KX0.out C hC hN), hN.1, hN.2.1, hN.2.2.1, (fun e => by cases e), hN.2.2.2.2⟩
      clear hX2 hM2 hO2 KX0
      go_wp2
      go_end0
      exact ⟨rfl, HF.out, HB.out, KF.out⟩
theorem crash_any (B q b : Nat) (d : Dk) (v0 v1 v2 : Value) (ak : Option Addr) (nk ck : Nat) (K : Nat → Bool) (t : Int) (hA : ∀ i, i < d.nc → 0 ≤ d.A i ∧ d.A i < d.nb) (hB : ∀ i, i < d.nb → (d.B i).size ≤ 200) (hD : ∀ i, i < d.nc → (d.D i).size ≤ 200) (hn : d.nb ≤ 64) (hc : d.nc ≤ 4096) (hnk : nk ≤ 1048576) (w : World) (hBw : B ≤ w.heap.size) (h : Drv w B q b d v0 v1 v2) (hK : Bls w B ak nk K) :
    Calls Tryd.prog 42 #[.pointer (some ⟨q, 0, none⟩), .slice ak nk ck, .int .i64 t] w fun e w' => e = .returned (.tuple #[]) ∧ Drv w' B q b (d.crashed nk K t) v0 (.slice none 0 0) v2 ∧ Below B w w' := (crash_anyK B q b d v0 v1 v2 ak nk ck K t hA hB hD hn hc hnk w hBw h hK).mono fun _ _ q => ⟨q.1, q.2.1, q.2.2.1⟩
end Go.Proofs.YtgdfhgepbamhmaaDoor
