/-
  A drive at work: a write into the Cache.
-/
import Derived.Test.YtgdfhgepbamhmaaDoorDriveOps
import Derived.Test.YtgdfhgepbamhmaaDoorAnyH
namespace Go.Proofs.YtgdfhgepbamhmaaDoor
open Go.ChangeShapes Go.WideShapes Go.ChangeAt Go.RowKit
/-- d with one write more. -/
def Dk.written (d : Dk) (x : Int) (s : ByteArray) : Dk := ⟨d.nb, d.B, d.nc + 1, catI d.nc d.A (fun _ => x), catT d.nc d.D (fun _ => s), d.ns, d.S⟩
theorem lastM_cat (n : Nat) (A : Nat → Int) (D : Nat → ByteArray) (A' : Nat → Int) (D' : Nat → ByteArray) (z : Int) : ∀ k, k ≤ n → lastM (catI n A A') (catT n D D') k z = lastM A D k z
  | 0, _ => rfl
  | k + 1, hk => by
    unfold lastM
    have e1 : catI n A A' k = A k := by unfold catI; rw [if_pos (by omega)]
    have e2 : catT n D D' k = D k := by unfold catT; rw [if_pos (by omega)]
    rw [e1, e2, lastM_cat n A D A' D' z k (by omega)]
theorem lastM_written (d : Dk) (x : Int) (s : ByteArray) (z : Int) : (if z = x then some (Value.agg #[.int .i64 x, .string s]) else lastM d.A d.D d.nc z) = lastM (d.written x s).A (d.written x s).D (d.written x s).nc z := by
  show _ = (if z = catI d.nc d.A (fun _ => x) d.nc then some (Value.agg #[.int .i64 (catI d.nc d.A (fun _ => x) d.nc), .string (catT d.nc d.D (fun _ => s) d.nc)]) else lastM (catI d.nc d.A (fun _ => x)) (catT d.nc d.D (fun _ => s)) d.nc z)
  rw [lastM_cat d.nc d.A d.D _ _ z d.nc (Nat.le_refl _)]
  have e1 : catI d.nc d.A (fun _ => x) d.nc = x := by unfold catI; rw [if_neg (by omega)]
  have e2 : catT d.nc d.D (fun _ => s) d.nc = s := by unfold catT; rw [if_neg (by omega)]
  rw [e1, e2]
set_option maxRecDepth 100000 in
set_option maxHeartbeats 4000000 in
theorem write_yesK (B q b : Nat) (d : Dk) (v0 v1 v2 : Value) (x : Nat) (s : ByteArray) (hx : x < d.nb) (hs : s.size ≤ 200) (hc : d.nc < 4096) (w : World) (hBw : B ≤ w.heap.size) (h : Drv w B q b d v0 v1 v2) :
    Calls Tryd.prog 40 #[.pointer (some ⟨q, 0, none⟩), .int .i64 (x : Int), .string s] w fun e w' => e = .returned .nilIface ∧ (∃ v, Drv w' B q b (d.written x s) v0 v v2 ∧ KpD q b v0 v1 v2 v0 v v2 w w') ∧ Below B w w' := by
  obtain ⟨a0, c0, rfl, -⟩ := h.t0.form
  obtain ⟨a1, c1, rfl, -⟩ := h.t1.form
  obtain ⟨a2, c2, rfl, -⟩ := h.t2.form
  have PF : Hid (∀ w : World, Calls Tryd.prog 50 #[.agg #[.slice a0 d.nb c0, .slice a1 d.nc c1, .slice a2 d.ns c2], .int .i64 (x : Int), .string s] w fun e w' => e = .returned .nilIface ∧ Below w.heap.size w w') := fun w => placeFault_ok _ _ _ _ _ _ _ _ _ _ _ (by omega) (by omega) hs w
  have HD : Hid (Drv w B q b d (.slice a0 d.nb c0) (.slice a1 d.nc c1) (.slice a2 d.ns c2)) := h
  have k0 := h.box.c0
  have k1 := h.box.c1
  have k2 := h.box.c2
  clear h
  go_enter Tryd.func40, Tryd.ntmps40
  go_wp2_with fail
  refine (PF.out _).mono ?_
  rintro e w1 ⟨rfl, hb⟩
  have H1 : Hid (Drv w1 B q b d (.slice a0 d.nb c0) (.slice a1 d.nc c1) (.slice a2 d.ns c2)) := HD.out.below hb
  have B1 : Hid (Below w.heap.size w w1) := hb
  clear k0 k1 k2 hb HD PF
  have k1 := H1.out.box.c1
  have y0 : ¬ (4096 : Int) ≤ (d.nc : Int) := by omega
  have hql := H1.out.box.lt
  have hbl := H1.out.m.lt
  have hzl : ∀ g, (Value.slice a1 d.nc c1).ownBlock = some g → g < w1.heap.size := fun g e => (World.ownsRow.lt H1.out.t1 g e).2
  have hb : Below w1.heap.size w1 (w1.alloc (.cells #[.int .i64 (x : Int), .string s] 68)) := (Below.refl _ _).alloc (Nat.le_refl _) _
  have H2 : Hid (Drv (w1.alloc (.cells #[.int .i64 (x : Int), .string s] 68)) B q b d (.slice a0 d.nb c0) (.slice a1 d.nc c1) (.slice a2 d.ns c2)) := H1.out.below hb
  have P2 : Hid ((w1.alloc (.cells #[.int .i64 (x : Int), .string s] 68)).cell? ⟨w1.heap.size, 0, none⟩ = some (.int .i64 (x : Int)) ∧ (w1.alloc (.cells #[.int .i64 (x : Int), .string s] 68)).cell? ⟨w1.heap.size, 1, none⟩ = some (.string s)) := by
    constructor <;> simp
  have B2 : Hid (Below w.heap.size w (w1.alloc (.cells #[.int .i64 (x : Int), .string s] 68))) := B1.out.trans (hb.mono B1.out.size)
  clear hb H1 B1
  go_wp2_with fail
  generalize (w1.alloc (.cells #[.int .i64 (x : Int), .string s] 68)) = u0 at *
  generalize w1.heap.size = z at *
  clear k1
  replace H2 : Hid (Drv u0.drew B q b d (.slice a0 d.nb c0) (.slice a1 d.nc c1) (.slice a2 d.ns c2)) := H2.out.below (Below.refl _ _).drew
  replace P2 : Hid (u0.drew.cell? ⟨z, 0, none⟩ = some (.int .i64 (x : Int)) ∧ u0.drew.cell? ⟨z, 1, none⟩ = some (.string s)) := P2.out
  replace B2 : Hid (Below w.heap.size w u0.drew) := B2.out.drew
  have H : u0.drew.cell? ⟨z, 0, none⟩ = some (.int .i64 (x : Int)) ∧ u0.drew.cell? ⟨z, 1, none⟩ = some (.string s) := P2.out
  refine wp_region_noPanic ?_
  refine wp_region_held_drew (S := fun w' => w'.cell? ⟨z, 0, none⟩ = some (.int .i64 (x : Int)) ∧ w'.cell? ⟨z, 1, none⟩ = some (.string s)) (by kernel_rfl) H (fun _ => ?_)
  generalize u0.drew = u1 at *
  refine wpAnyH_take (i := 0) (v := .pointer (some ⟨q, 0, none⟩)) rfl (by kernel_rfl) (by kernel_rfl) (by kernel_rfl) (fun _ _ _ h => h) (Or.inl ⟨by rfl, ?_⟩) H ?_
  · intro w' hSw; go_simp
  change wpAnyH _ _ _ _ _ _ _ { tmps := #[_, _, _, _, _, _, _, _, _, _, _, _, _, _, _, _, _, _, _, _, _, _, _, _, _, _, _, _, _, _, _, _, _, _, _, _, _, _, _, _, _, _, _, _, _, _, _, _], defers := _ } _
  refine wpAnyH_take (i := 1) (v := .pointer (some ⟨q, 0, none⟩)) rfl (by kernel_rfl) (by kernel_rfl) (by kernel_rfl) (fun _ _ _ h => h) (Or.inl ⟨by rfl, ?_⟩) H ?_
  · intro w' hSw; go_simp
  change wpAnyH _ _ _ _ _ _ _ { tmps := #[_, _, _, _, _, _, _, _, _, _, _, _, _, _, _, _, _, _, _, _, _, _, _, _, _, _, _, _, _, _, _, _, _, _, _, _, _, _, _, _, _, _, _, _, _, _, _, _], defers := _ } _
  refine wpAnyH_take (i := 2) (v := .pointer (some ⟨q, 0, none⟩)) rfl (by kernel_rfl) (by kernel_rfl) (by kernel_rfl) (fun _ _ _ h => h) (Or.inl ⟨by rfl, ?_⟩) H ?_
  · intro w' hSw; go_simp
  change wpAnyH _ _ _ _ _ _ _ { tmps := #[_, _, _, _, _, _, _, _, _, _, _, _, _, _, _, _, _, _, _, _, _, _, _, _, _, _, _, _, _, _, _, _, _, _, _, _, _, _, _, _, _, _, _, _, _, _, _, _], defers := _ } _
  refine wpAnyH_take (i := 3) (v := .pointer (some ⟨q, 0, none⟩)) rfl (by kernel_rfl) (by kernel_rfl) (by kernel_rfl) (fun _ _ _ h => h) (Or.inl ⟨by rfl, ?_⟩) H ?_
  · intro w' hSw; go_simp
  change wpAnyH _ _ _ _ _ _ _ { tmps := #[_, _, _, _, _, _, _, _, _, _, _, _, _, _, _, _, _, _, _, _, _, _, _, _, _, _, _, _, _, _, _, _, _, _, _, _, _, _, _, _, _, _, _, _, _, _, _, _], defers := _ } _
  refine wpAnyH_take (i := 4) (v := .pointer (some ⟨q, 1, none⟩)) rfl (by kernel_rfl) (by kernel_rfl) (by kernel_rfl) (fun _ _ _ h => h) (Or.inl ⟨by rfl, ?_⟩) H ?_
  · intro w' hSw; go_simp
  change wpAnyH _ _ _ _ _ _ _ { tmps := #[_, _, _, _, _, _, _, _, _, _, _, _, _, _, _, _, _, _, _, _, _, _, _, _, _, _, _, _, _, _, _, _, _, _, _, _, _, _, _, _, _, _, _, _, _, _, _, _], defers := _ } _
  refine wpAnyH_take (i := 6) (v := .agg #[.int .i64 (x : Int), .string s]) rfl (by kernel_rfl) (by kernel_rfl) (by kernel_rfl) (fun _ _ _ h => h) (Or.inl ⟨by rfl, ?_⟩) H ?_
  · intro w' hSw; have t0 := hSw.1; have t1 := hSw.2; clear hSw; go_simp
  change wpAnyH _ _ _ _ _ _ _ { tmps := #[_, _, _, _, _, _, _, _, _, _, _, _, _, _, _, _, _, _, _, _, _, _, _, _, _, _, _, _, _, _, _, _, _, _, _, _, _, _, _, _, _, _, _, _, _, _, _, _], defers := _ } _
  refine wpAnyH_ready (rs := [5, 7]) (by kernel_rfl) (by simp) ?_
  refine AllReadyH.cons rfl (fun KK hK => ?_) (AllReadyH.cons rfl (fun KK hK => ?_) AllReadyH.nil)
  · skip
    have k1 := H2.out.box.c1
    go_simp
    refine hK.out _ _ H (fun _ => ?_)
    clear hK KK k1
    change wpAnyH _ _ _ _ _ _ _ { tmps := #[_, _, _, _, _, _, _, _, _, _, _, _, _, _, _, _, _, _, _, _, _, _, _, _, _, _, _, _, _, _, _, _, _, _, _, _, _, _, _, _, _, _, _, _, _, _, _, _], defers := _ } _
    refine wpAnyH_ready (rs := [7]) (by kernel_rfl) (by simp) ?_
    refine AllReadyH.cons rfl (fun KK hK => ?_) AllReadyH.nil
    have hb : Below u1.heap.size u1 (u1.alloc (.cells #[.int .i64 (x : Int), .string s] 68)) := (Below.refl _ _).alloc (Nat.le_refl _) _
    have PS : Hid (Pens (u1.alloc (.cells #[.int .i64 (x : Int), .string s] 68)) (some ⟨u1.heap.size, 0, none⟩) 1 (fun _ => (x : Int)) (fun _ => s)) := fun i hi => ⟨u1.heap.size, 0, rfl, by (obtain rfl : i = 0 := by omega); simp, by (obtain rfl : i = 0 := by omega); simp⟩
    have hul : z < u1.heap.size := strBlock H.1
    go_simp
    replace H2 : Hid (Drv (u1.alloc (.cells #[.int .i64 (x : Int), .string s] 68)) B q b d (.slice a0 d.nb c0) (.slice a1 d.nc c1) (.slice a2 d.ns c2)) := H2.out.below hb
    replace B2 : Hid (Below w.heap.size w (u1.alloc (.cells #[.int .i64 (x : Int), .string s] 68))) := B2.out.trans (hb.mono B2.out.size)
    replace H : (u1.alloc (.cells #[.int .i64 (x : Int), .string s] 68)).cell? ⟨z, 0, none⟩ = some (.int .i64 (x : Int)) ∧ (u1.alloc (.cells #[.int .i64 (x : Int), .string s] 68)).cell? ⟨z, 1, none⟩ = some (.string s) := ⟨(hb.cell (strBlock H.1)).trans H.1, (hb.cell (strBlock H.2)).trans H.2⟩
    refine hK.out _ _ H (fun _ => ?_)
    clear hK KK hb
    have hz1 : u1.heap.size ≤ (u1.alloc (.cells #[.int .i64 (x : Int), .string s] 68)).heap.size := by simp
    generalize (u1.alloc (.cells #[.int .i64 (x : Int), .string s] 68)) = u2 at *
    generalize u1.heap.size = y1 at *
    change wpAnyH _ _ _ _ _ _ _ { tmps := #[_, _, _, _, _, _, _, _, _, _, _, _, _, _, _, _, _, _, _, _, _, _, _, _, _, _, _, _, _, _, _, _, _, _, _, _, _, _, _, _, _, _, _, _, _, _, _, _], defers := _ } _
    obtain ⟨v', wz, hr, ho, hg, hloc⟩ := appPn u2 B (.slice a1 d.nc c1) d.nc d.A d.D (some ⟨y1, 0, none⟩) 1 1 (fun _ => (x : Int)) (fun _ => s) 25 (Nat.le_trans hBw B2.out.size) (by omega) H2.out.t1 PS.out (fun e => by cases e)
    refine wpAnyH_ready (rs := [8]) (by kernel_rfl) (by simp) ?_
    refine AllReadyH.cons rfl (fun KK hK => ?_) AllReadyH.nil
    rw [if_pos (by rfl)]
    refine Lib.wp_append_run _ (.tmp 35) (.tmp 37) 25 25 rfl (.slice a1 d.nc c1) (.slice (some ⟨y1, 0, none⟩) 1 1) rfl rfl v' wz hr ?_
    have D2 := H2.out
    have hql2 := D2.box.lt
    have hbl2 := D2.m.lt
    have blk : ∀ g, g < u2.heap.size → (Value.slice a1 d.nc c1).ownBlock ≠ some g → wz.heap[g]? = u2.heap[g]? := fun g hg' hne => hg.block g hg' (fun e => hne e.symm)
    have hv' : ∀ g, v'.ownBlock = some g → (Value.slice a1 d.nc c1).ownBlock = some g ∨ g = u2.heap.size := fun g e => hloc.elim (fun q => .inl (q.symm.trans e)) (fun q => .inr (Option.some.inj (e.symm.trans q)))
    have X3 : Box4 wz q 58 (.slice a0 d.nb c0) (.slice a1 d.nc c1) (.slice a2 d.ns c2) (.map (some b)) := D2.box.ofBlock (blk q hql2 D2.s1.1)
    have M3 : MapI wz b (lastM d.A d.D d.nc) := D2.m.ofBlock (blk b hbl2 D2.s1.2)
    have T3 : TxR wz B (.slice a0 d.nb c0) d.nb d.B := ownsRow_block D2.t0 (fun g hg' => blk g (World.ownsRow.lt D2.t0 g hg').2 (D2.n01 g hg'))
    have U3 : TxR wz B (.slice a2 d.ns c2) d.ns d.S := ownsRow_block D2.t2 (fun g hg' => blk g (World.ownsRow.lt D2.t2 g hg').2 (fun e => D2.n12 g e hg'))
    have hzb : (Value.slice a1 d.nc c1).ownBlock ≠ some z := fun e => Nat.lt_irrefl _ (hzl z e)
    have B3 : Below B w wz := (B2.out.mono hBw).trans ⟨hg.os, hg.tape, hg.output, hg.size, fun k hk => blk k (by have := Nat.le_trans hBw B2.out.size; omega) (fun e => by have := (World.ownsRow.lt D2.t1 k e).1; omega)⟩
    replace H : wz.cell? ⟨z, 0, none⟩ = some (.int .i64 (x : Int)) ∧ wz.cell? ⟨z, 1, none⟩ = some (.string s) := ⟨(cellOf (blk z (strBlock H.1) hzb)).trans H.1, (cellOf (blk z (strBlock H.1) hzb)).trans H.2⟩
    refine hK.out _ _ H (fun _ => ?_)
    clear hK KK
    change wpAnyH _ _ _ _ _ _ _ { tmps := #[_, _, _, _, _, _, _, _, _, _, _, _, _, _, _, _, _, _, _, _, _, _, _, _, _, _, _, _, _, _, _, _, _, _, _, _, _, _, _, _, _, _, _, _, _, _, _, _], defers := _ } _
    refine wpAnyH_take (i := 9) (v := .pointer (some ⟨q, 0, none⟩)) rfl (by kernel_rfl) (by kernel_rfl) (by kernel_rfl) (fun _ _ _ h => h) (Or.inl ⟨by rfl, ?_⟩) H ?_
    · intro w' hSw; go_simp
    change wpAnyH _ _ _ _ _ _ _ { tmps := #[_, _, _, _, _, _, _, _, _, _, _, _, _, _, _, _, _, _, _, _, _, _, _, _, _, _, _, _, _, _, _, _, _, _, _, _, _, _, _, _, _, _, _, _, _, _, _, _], defers := _ } _
    refine wpAnyH_take (i := 10) (v := .pointer (some ⟨q, 0, none⟩)) rfl (by kernel_rfl) (by kernel_rfl) (by kernel_rfl) (fun _ _ _ h => h) (Or.inl ⟨by rfl, ?_⟩) H ?_
    · intro w' hSw; go_simp
    change wpAnyH _ _ _ _ _ _ _ { tmps := #[_, _, _, _, _, _, _, _, _, _, _, _, _, _, _, _, _, _, _, _, _, _, _, _, _, _, _, _, _, _, _, _, _, _, _, _, _, _, _, _, _, _, _, _, _, _, _, _], defers := _ } _
    refine wpAnyH_take (i := 11) (v := .pointer (some ⟨q, 1, none⟩)) rfl (by kernel_rfl) (by kernel_rfl) (by kernel_rfl) (fun _ _ _ h => h) (Or.inl ⟨by rfl, ?_⟩) H ?_
    · intro w' hSw; go_simp
    change wpAnyH _ _ _ _ _ _ _ { tmps := #[_, _, _, _, _, _, _, _, _, _, _, _, _, _, _, _, _, _, _, _, _, _, _, _, _, _, _, _, _, _, _, _, _, _, _, _, _, _, _, _, _, _, _, _, _, _, _, _], defers := _ } _
    refine wpAnyH_ready (rs := [12]) (by kernel_rfl) (by simp) ?_
    refine AllReadyH.cons rfl (fun KK hK => ?_) AllReadyH.nil
    obtain ⟨a3, c3, rfl, -⟩ := ho.form
    have kq := X3.c1
    have fq := X3.fr 1
    have O4 : OnlyB q wz (wz.setCell ⟨q, 1, none⟩ (.slice a3 (d.nc + 1) c3)) := (OnlyB.refl q wz).setCell 1 _
    have nq : (Value.slice a3 (d.nc + 1) c3).ownBlock ≠ some q := fun e => (hv' q e).elim D2.s1.1 (by omega)
    have nb' : (Value.slice a3 (d.nc + 1) c3).ownBlock ≠ some b := fun e => (hv' b e).elim D2.s1.2 (by omega)
    have X4 := X3.set1 (.slice a3 (d.nc + 1) c3)
    have T4 := T3.onlyB O4 D2.s0.1
    have P4 := ho.onlyB O4 nq
    have U4 := U3.onlyB O4 D2.s2.1
    have M4 := M3.onlyB O4 (Ne.symm D2.qb)
    have n01 : ∀ g, (Value.slice a0 d.nb c0).ownBlock = some g → (Value.slice a3 (d.nc + 1) c3).ownBlock ≠ some g := fun g e1 e2 => (hv' g e2).elim (D2.n01 g e1) (fun e => by have := (World.ownsRow.lt D2.t0 g e1).2; omega)
    have n12 : ∀ g, (Value.slice a3 (d.nc + 1) c3).ownBlock = some g → (Value.slice a2 d.ns c2).ownBlock ≠ some g := fun g e2 e1 => (hv' g e2).elim (fun e => D2.n12 g e e1) (fun e => by have := (World.ownsRow.lt D2.t2 g e1).2; omega)
    have E4 : Hid (Below B w (wz.setCell ⟨q, 1, none⟩ (.slice a3 (d.nc + 1) c3)) ∧ PnR (wz.setCell ⟨q, 1, none⟩ (.slice a3 (d.nc + 1) c3)) B (.slice a3 (d.nc + 1) c3) (d.nc + 1) (catI d.nc d.A (fun _ => (x : Int))) (catT d.nc d.D (fun _ => s)) ∧ TxR (wz.setCell ⟨q, 1, none⟩ (.slice a3 (d.nc + 1) c3)) B (.slice a0 d.nb c0) d.nb d.B ∧ TxR (wz.setCell ⟨q, 1, none⟩ (.slice a3 (d.nc + 1) c3)) B (.slice a2 d.ns c2) d.ns d.S) := ⟨B3.trans (O4.toBelow D2.hq (by have := B3.size; omega)), P4, T4, U4⟩
    have N4 : Hid (((Value.slice a0 d.nb c0).ownBlock ≠ some b ∧ (Value.slice a3 (d.nc + 1) c3).ownBlock ≠ some b ∧ (Value.slice a2 d.ns c2).ownBlock ≠ some b) ∧ q ≠ b ∧ B ≤ b) := ⟨⟨D2.s0.2, nb', D2.s2.2⟩, D2.qb, D2.hb⟩
    have KX : Hid (∀ C, C < w.heap.size → NotD C q b (.slice a0 d.nb c0) (.slice a1 d.nc c1) (.slice a2 d.ns c2) → (wz.setCell ⟨q, 1, none⟩ (.slice a3 (d.nc + 1) c3)).heap[C]? = w.heap[C]? ∧ C < (wz.setCell ⟨q, 1, none⟩ (.slice a3 (d.nc + 1) c3)).heap.size ∧ (Value.slice a3 (d.nc + 1) c3).ownBlock ≠ some C) := fun C hC hN => by
      have l1 := Nat.lt_of_lt_of_le hC B2.out.size
      have l2 := Nat.lt_of_lt_of_le l1 hg.size
      exact ⟨(O4.block C l2 hN.1).trans ((blk C l1 hN.2.2.2.1).trans (B2.out.block C hC)), Nat.lt_of_lt_of_le l2 O4.size, fun e => (hv' C e).elim hN.2.2.2.1 (by omega)⟩
    have hzq : q ≠ z := by omega
    replace H : (wz.setCell ⟨q, 1, none⟩ (.slice a3 (d.nc + 1) c3)).cell? ⟨z, 0, none⟩ = some (.int .i64 (x : Int)) ∧ (wz.setCell ⟨q, 1, none⟩ (.slice a3 (d.nc + 1) c3)).cell? ⟨z, 1, none⟩ = some (.string s) := ⟨(World.cell?_setCell_far wz ⟨q, 1, none⟩ _ _ hzq).trans H.1, (World.cell?_setCell_far wz ⟨q, 1, none⟩ _ _ hzq).trans H.2⟩
    clear O4 X3 M3 T3 U3 P4 T4 U4 ho hg hloc hv' blk B3 hzb
    go_simp
    refine hK.out _ _ H (fun _ => ?_)
    clear hK KK kq fq
    generalize (wz.setCell ⟨q, 1, none⟩ (.slice a3 (d.nc + 1) c3)) = u4 at *
    refine wpAnyH_done (by kernel_rfl) ?_ _
    refine NoPanic.normal ?_
    obtain ⟨h0, h1⟩ := H
    obtain ⟨wy, hmu, hM, hO, hsz⟩ := MapI.put (P := Tryd.prog) (w := u4.drew) (M4.below (Below.refl _ _).drew) Tryd.underlying56 Tryd.underlying3 (x : Int) (.agg #[.int .i64 (x : Int), .string s])
    have e3 := X4.c3
    have bd : Below u4.heap.size u4 u4.drew := (Below.refl _ _).drew
    have HF : Hid (Drv wy B q b (d.written x s) (.slice a0 d.nb c0) (.slice a3 (d.nc + 1) c3) (.slice a2 d.ns c2)) := ⟨(X4.below bd).onlyB hO N4.out.2.1, (E4.out.2.2.1.below bd).onlyB hO N4.out.1.1, (E4.out.2.1.below bd).onlyB hO N4.out.1.2.1, (E4.out.2.2.2.below bd).onlyB hO N4.out.1.2.2, hM.congr (fun y => lastM_written d x s y), ⟨D2.s0.1, N4.out.1.1⟩, ⟨nq, N4.out.1.2.1⟩, ⟨D2.s2.1, N4.out.1.2.2⟩, D2.qb, n01, D2.n02, n12, D2.hq, D2.hb⟩
    have HB : Hid (Below B w wy) := E4.out.1.trans ((bd.mono (Nat.le_trans hBw E4.out.1.size)).trans (hO.toBelow D2.hb (by have := E4.out.1.size; have := bd.size; omega)))
    have KF : Hid (KpD q b (.slice a0 d.nb c0) (.slice a1 d.nc c1) (.slice a2 d.ns c2) (.slice a0 d.nb c0) (.slice a3 (d.nc + 1) c3) (.slice a2 d.ns c2) w wy) := fun C hC hN => by
      obtain ⟨z1, z2, z3⟩ := KX.out C hC hN
      exact ⟨(hO.block C (Nat.lt_of_lt_of_le z2 bd.size) hN.2.1).trans ((bd.block C z2).trans z1), hN.1, hN.2.1, hN.2.2.1, z3, hN.2.2.2.2⟩
    clear KX hM hO hsz bd n01 n12 nq nb' E4 N4 D2 H2 B2 PS P2 X4 M4 hr
    go_wp2_with fail
    go_region
    clear hmu e3 h0 h1
    go_wp2
    go_ret
    exact ⟨rfl, ⟨_, HF.out, KF.out⟩, HB.out⟩
  · skip
    have hb : Below u1.heap.size u1 (u1.alloc (.cells #[.int .i64 (x : Int), .string s] 68)) := (Below.refl _ _).alloc (Nat.le_refl _) _
    have PS : Hid (Pens (u1.alloc (.cells #[.int .i64 (x : Int), .string s] 68)) (some ⟨u1.heap.size, 0, none⟩) 1 (fun _ => (x : Int)) (fun _ => s)) := fun i hi => ⟨u1.heap.size, 0, rfl, by (obtain rfl : i = 0 := by omega); simp, by (obtain rfl : i = 0 := by omega); simp⟩
    have hul : z < u1.heap.size := strBlock H.1
    go_simp
    replace H2 : Hid (Drv (u1.alloc (.cells #[.int .i64 (x : Int), .string s] 68)) B q b d (.slice a0 d.nb c0) (.slice a1 d.nc c1) (.slice a2 d.ns c2)) := H2.out.below hb
    replace B2 : Hid (Below w.heap.size w (u1.alloc (.cells #[.int .i64 (x : Int), .string s] 68))) := B2.out.trans (hb.mono B2.out.size)
    replace H : (u1.alloc (.cells #[.int .i64 (x : Int), .string s] 68)).cell? ⟨z, 0, none⟩ = some (.int .i64 (x : Int)) ∧ (u1.alloc (.cells #[.int .i64 (x : Int), .string s] 68)).cell? ⟨z, 1, none⟩ = some (.string s) := ⟨(hb.cell (strBlock H.1)).trans H.1, (hb.cell (strBlock H.2)).trans H.2⟩
    refine hK.out _ _ H (fun _ => ?_)
    clear hK KK hb
    have hz1 : u1.heap.size ≤ (u1.alloc (.cells #[.int .i64 (x : Int), .string s] 68)).heap.size := by simp
    generalize (u1.alloc (.cells #[.int .i64 (x : Int), .string s] 68)) = u2 at *
    generalize u1.heap.size = y1 at *
    change wpAnyH _ _ _ _ _ _ _ { tmps := #[_, _, _, _, _, _, _, _, _, _, _, _, _, _, _, _, _, _, _, _, _, _, _, _, _, _, _, _, _, _, _, _, _, _, _, _, _, _, _, _, _, _, _, _, _, _, _, _], defers := _ } _
    refine wpAnyH_ready (rs := [5]) (by kernel_rfl) (by simp) ?_
    refine AllReadyH.cons rfl (fun KK hK => ?_) AllReadyH.nil
    have k1 := H2.out.box.c1
    go_simp
    refine hK.out _ _ H (fun _ => ?_)
    clear hK KK k1
    change wpAnyH _ _ _ _ _ _ _ { tmps := #[_, _, _, _, _, _, _, _, _, _, _, _, _, _, _, _, _, _, _, _, _, _, _, _, _, _, _, _, _, _, _, _, _, _, _, _, _, _, _, _, _, _, _, _, _, _, _, _], defers := _ } _
    obtain ⟨v', wz, hr, ho, hg, hloc⟩ := appPn u2 B (.slice a1 d.nc c1) d.nc d.A d.D (some ⟨y1, 0, none⟩) 1 1 (fun _ => (x : Int)) (fun _ => s) 25 (Nat.le_trans hBw B2.out.size) (by omega) H2.out.t1 PS.out (fun e => by cases e)
    refine wpAnyH_ready (rs := [8]) (by kernel_rfl) (by simp) ?_
    refine AllReadyH.cons rfl (fun KK hK => ?_) AllReadyH.nil
    rw [if_pos (by rfl)]
    refine Lib.wp_append_run _ (.tmp 35) (.tmp 37) 25 25 rfl (.slice a1 d.nc c1) (.slice (some ⟨y1, 0, none⟩) 1 1) rfl rfl v' wz hr ?_
    have D2 := H2.out
    have hql2 := D2.box.lt
    have hbl2 := D2.m.lt
    have blk : ∀ g, g < u2.heap.size → (Value.slice a1 d.nc c1).ownBlock ≠ some g → wz.heap[g]? = u2.heap[g]? := fun g hg' hne => hg.block g hg' (fun e => hne e.symm)
    have hv' : ∀ g, v'.ownBlock = some g → (Value.slice a1 d.nc c1).ownBlock = some g ∨ g = u2.heap.size := fun g e => hloc.elim (fun q => .inl (q.symm.trans e)) (fun q => .inr (Option.some.inj (e.symm.trans q)))
    have X3 : Box4 wz q 58 (.slice a0 d.nb c0) (.slice a1 d.nc c1) (.slice a2 d.ns c2) (.map (some b)) := D2.box.ofBlock (blk q hql2 D2.s1.1)
    have M3 : MapI wz b (lastM d.A d.D d.nc) := D2.m.ofBlock (blk b hbl2 D2.s1.2)
    have T3 : TxR wz B (.slice a0 d.nb c0) d.nb d.B := ownsRow_block D2.t0 (fun g hg' => blk g (World.ownsRow.lt D2.t0 g hg').2 (D2.n01 g hg'))
    have U3 : TxR wz B (.slice a2 d.ns c2) d.ns d.S := ownsRow_block D2.t2 (fun g hg' => blk g (World.ownsRow.lt D2.t2 g hg').2 (fun e => D2.n12 g e hg'))
    have hzb : (Value.slice a1 d.nc c1).ownBlock ≠ some z := fun e => Nat.lt_irrefl _ (hzl z e)
    have B3 : Below B w wz := (B2.out.mono hBw).trans ⟨hg.os, hg.tape, hg.output, hg.size, fun k hk => blk k (by have := Nat.le_trans hBw B2.out.size; omega) (fun e => by have := (World.ownsRow.lt D2.t1 k e).1; omega)⟩
    replace H : wz.cell? ⟨z, 0, none⟩ = some (.int .i64 (x : Int)) ∧ wz.cell? ⟨z, 1, none⟩ = some (.string s) := ⟨(cellOf (blk z (strBlock H.1) hzb)).trans H.1, (cellOf (blk z (strBlock H.1) hzb)).trans H.2⟩
    refine hK.out _ _ H (fun _ => ?_)
    clear hK KK
    change wpAnyH _ _ _ _ _ _ _ { tmps := #[_, _, _, _, _, _, _, _, _, _, _, _, _, _, _, _, _, _, _, _, _, _, _, _, _, _, _, _, _, _, _, _, _, _, _, _, _, _, _, _, _, _, _, _, _, _, _, _], defers := _ } _
    refine wpAnyH_take (i := 9) (v := .pointer (some ⟨q, 0, none⟩)) rfl (by kernel_rfl) (by kernel_rfl) (by kernel_rfl) (fun _ _ _ h => h) (Or.inl ⟨by rfl, ?_⟩) H ?_
    · intro w' hSw; go_simp
    change wpAnyH _ _ _ _ _ _ _ { tmps := #[_, _, _, _, _, _, _, _, _, _, _, _, _, _, _, _, _, _, _, _, _, _, _, _, _, _, _, _, _, _, _, _, _, _, _, _, _, _, _, _, _, _, _, _, _, _, _, _], defers := _ } _
    refine wpAnyH_take (i := 10) (v := .pointer (some ⟨q, 0, none⟩)) rfl (by kernel_rfl) (by kernel_rfl) (by kernel_rfl) (fun _ _ _ h => h) (Or.inl ⟨by rfl, ?_⟩) H ?_
    · intro w' hSw; go_simp
    change wpAnyH _ _ _ _ _ _ _ { tmps := #[_, _, _, _, _, _, _, _, _, _, _, _, _, _, _, _, _, _, _, _, _, _, _, _, _, _, _, _, _, _, _, _, _, _, _, _, _, _, _, _, _, _, _, _, _, _, _, _], defers := _ } _
    refine wpAnyH_take (i := 11) (v := .pointer (some ⟨q, 1, none⟩)) rfl (by kernel_rfl) (by kernel_rfl) (by kernel_rfl) (fun _ _ _ h => h) (Or.inl ⟨by rfl, ?_⟩) H ?_
    · intro w' hSw; go_simp
    change wpAnyH _ _ _ _ _ _ _ { tmps := #[_, _, _, _, _, _, _, _, _, _, _, _, _, _, _, _, _, _, _, _, _, _, _, _, _, _, _, _, _, _, _, _, _, _, _, _, _, _, _, _, _, _, _, _, _, _, _, _], defers := _ } _
    refine wpAnyH_ready (rs := [12]) (by kernel_rfl) (by simp) ?_
    refine AllReadyH.cons rfl (fun KK hK => ?_) AllReadyH.nil
    obtain ⟨a3, c3, rfl, -⟩ := ho.form
    have kq := X3.c1
    have fq := X3.fr 1
    have O4 : OnlyB q wz (wz.setCell ⟨q, 1, none⟩ (.slice a3 (d.nc + 1) c3)) := (OnlyB.refl q wz).setCell 1 _
    have nq : (Value.slice a3 (d.nc + 1) c3).ownBlock ≠ some q := fun e => (hv' q e).elim D2.s1.1 (by omega)
    have nb' : (Value.slice a3 (d.nc + 1) c3).ownBlock ≠ some b := fun e => (hv' b e).elim D2.s1.2 (by omega)
    have X4 := X3.set1 (.slice a3 (d.nc + 1) c3)
    have T4 := T3.onlyB O4 D2.s0.1
    have P4 := ho.onlyB O4 nq
    have U4 := U3.onlyB O4 D2.s2.1
    have M4 := M3.onlyB O4 (Ne.symm D2.qb)
    have n01 : ∀ g, (Value.slice a0 d.nb c0).ownBlock = some g → (Value.slice a3 (d.nc + 1) c3).ownBlock ≠ some g := fun g e1 e2 => (hv' g e2).elim (D2.n01 g e1) (fun e => by have := (World.ownsRow.lt D2.t0 g e1).2; omega)
    have n12 : ∀ g, (Value.slice a3 (d.nc + 1) c3).ownBlock = some g → (Value.slice a2 d.ns c2).ownBlock ≠ some g := fun g e2 e1 => (hv' g e2).elim (fun e => D2.n12 g e e1) (fun e => by have := (World.ownsRow.lt D2.t2 g e1).2; omega)
    have E4 : Hid (Below B w (wz.setCell ⟨q, 1, none⟩ (.slice a3 (d.nc + 1) c3)) ∧ PnR (wz.setCell ⟨q, 1, none⟩ (.slice a3 (d.nc + 1) c3)) B (.slice a3 (d.nc + 1) c3) (d.nc + 1) (catI d.nc d.A (fun _ => (x : Int))) (catT d.nc d.D (fun _ => s)) ∧ TxR (wz.setCell ⟨q, 1, none⟩ (.slice a3 (d.nc + 1) c3)) B (.slice a0 d.nb c0) d.nb d.B ∧ TxR (wz.setCell ⟨q, 1, none⟩ (.slice a3 (d.nc + 1) c3)) B (.slice a2 d.ns c2) d.ns d.S) := ⟨B3.trans (O4.toBelow D2.hq (by have := B3.size; omega)), P4, T4, U4⟩
    have N4 : Hid (((Value.slice a0 d.nb c0).ownBlock ≠ some b ∧ (Value.slice a3 (d.nc + 1) c3).ownBlock ≠ some b ∧ (Value.slice a2 d.ns c2).ownBlock ≠ some b) ∧ q ≠ b ∧ B ≤ b) := ⟨⟨D2.s0.2, nb', D2.s2.2⟩, D2.qb, D2.hb⟩
    have KX : Hid (∀ C, C < w.heap.size → NotD C q b (.slice a0 d.nb c0) (.slice a1 d.nc c1) (.slice a2 d.ns c2) → (wz.setCell ⟨q, 1, none⟩ (.slice a3 (d.nc + 1) c3)).heap[C]? = w.heap[C]? ∧ C < (wz.setCell ⟨q, 1, none⟩ (.slice a3 (d.nc + 1) c3)).heap.size ∧ (Value.slice a3 (d.nc + 1) c3).ownBlock ≠ some C) := fun C hC hN => by
      have l1 := Nat.lt_of_lt_of_le hC B2.out.size
      have l2 := Nat.lt_of_lt_of_le l1 hg.size
      exact ⟨(O4.block C l2 hN.1).trans ((blk C l1 hN.2.2.2.1).trans (B2.out.block C hC)), Nat.lt_of_lt_of_le l2 O4.size, fun e => (hv' C e).elim hN.2.2.2.1 (by omega)⟩
    have hzq : q ≠ z := by omega
    replace H : (wz.setCell ⟨q, 1, none⟩ (.slice a3 (d.nc + 1) c3)).cell? ⟨z, 0, none⟩ = some (.int .i64 (x : Int)) ∧ (wz.setCell ⟨q, 1, none⟩ (.slice a3 (d.nc + 1) c3)).cell? ⟨z, 1, none⟩ = some (.string s) := ⟨(World.cell?_setCell_far wz ⟨q, 1, none⟩ _ _ hzq).trans H.1, (World.cell?_setCell_far wz ⟨q, 1, none⟩ _ _ hzq).trans H.2⟩
    clear O4 X3 M3 T3 U3 P4 T4 U4 ho hg hloc hv' blk B3 hzb
    go_simp
    refine hK.out _ _ H (fun _ => ?_)
    clear hK KK kq fq
    generalize (wz.setCell ⟨q, 1, none⟩ (.slice a3 (d.nc + 1) c3)) = u4 at *
    refine wpAnyH_done (by kernel_rfl) ?_ _
    refine NoPanic.normal ?_
    obtain ⟨h0, h1⟩ := H
    obtain ⟨wy, hmu, hM, hO, hsz⟩ := MapI.put (P := Tryd.prog) (w := u4.drew) (M4.below (Below.refl _ _).drew) Tryd.underlying56 Tryd.underlying3 (x : Int) (.agg #[.int .i64 (x : Int), .string s])
    have e3 := X4.c3
    have bd : Below u4.heap.size u4 u4.drew := (Below.refl _ _).drew
    have HF : Hid (Drv wy B q b (d.written x s) (.slice a0 d.nb c0) (.slice a3 (d.nc + 1) c3) (.slice a2 d.ns c2)) := ⟨(X4.below bd).onlyB hO N4.out.2.1, (E4.out.2.2.1.below bd).onlyB hO N4.out.1.1, (E4.out.2.1.below bd).onlyB hO N4.out.1.2.1, (E4.out.2.2.2.below bd).onlyB hO N4.out.1.2.2, hM.congr (fun y => lastM_written d x s y), ⟨D2.s0.1, N4.out.1.1⟩, ⟨nq, N4.out.1.2.1⟩, ⟨D2.s2.1, N4.out.1.2.2⟩, D2.qb, n01, D2.n02, n12, D2.hq, D2.hb⟩
    have HB : Hid (Below B w wy) := E4.out.1.trans ((bd.mono (Nat.le_trans hBw E4.out.1.size)).trans (hO.toBelow D2.hb (by have := E4.out.1.size; have := bd.size; omega)))
    have KF : Hid (KpD q b (.slice a0 d.nb c0) (.slice a1 d.nc c1) (.slice a2 d.ns c2) (.slice a0 d.nb c0) (.slice a3 (d.nc + 1) c3) (.slice a2 d.ns c2) w wy) := fun C hC hN => by
      obtain ⟨z1, z2, z3⟩ := KX.out C hC hN
      exact ⟨(hO.block C (Nat.lt_of_lt_of_le z2 bd.size) hN.2.1).trans ((bd.block C z2).trans z1), hN.1, hN.2.1, hN.2.2.1, z3, hN.2.2.2.2⟩
    clear KX hM hO hsz bd n01 n12 nq nb' E4 N4 D2 H2 B2 PS P2 X4 M4 hr
    go_wp2_with fail
    go_region
    clear hmu e3 h0 h1
    go_wp2
    go_ret
    exact ⟨rfl, ⟨_, HF.out, KF.out⟩, HB.out⟩
theorem write_yes (B q b : Nat) (d : Dk) (v0 v1 v2 : Value) (x : Nat) (s : ByteArray) (hx : x < d.nb) (hs : s.size ≤ 200) (hc : d.nc < 4096) (w : World) (hBw : B ≤ w.heap.size) (h : Drv w B q b d v0 v1 v2) :
    Calls Tryd.prog 40 #[.pointer (some ⟨q, 0, none⟩), .int .i64 (x : Int), .string s] w fun e w' => e = .returned .nilIface ∧ (∃ v, Drv w' B q b (d.written x s) v0 v v2) ∧ Below B w w' := (write_yesK B q b d v0 v1 v2 x s hx hs hc w hBw h).mono fun _ _ q => ⟨q.1, q.2.1.elim fun v z => ⟨v, z.1⟩, q.2.2⟩
set_option maxRecDepth 100000 in
set_option maxHeartbeats 2000000 in
theorem write_no (B q b : Nat) (d : Dk) (v0 v1 v2 : Value) (x : Int) (s : ByteArray) (p : Addr) (w : World) (h : Drv w B q b d v0 v1 v2) (p0 p1 : Addr) (hE0 : ErrAt w 0 p0) (hE1 : ErrAt w 1 p1) (hx : (¬ (0 ≤ x ∧ x < d.nb) ∧ p = p0) ∨ (0 ≤ x ∧ x < d.nb ∧ 200 < s.size ∧ p = p1)) :
    Calls Tryd.prog 40 #[.pointer (some ⟨q, 0, none⟩), .int .i64 x, .string s] w fun e w' => e = .returned (.iface 97 (.pointer (some p))) ∧ Below w.heap.size w w' := by
  obtain ⟨a0, c0, rfl, -⟩ := h.t0.form
  obtain ⟨a1, c1, rfl, -⟩ := h.t1.form
  obtain ⟨a2, c2, rfl, -⟩ := h.t2.form
  have PF : Hid (Calls Tryd.prog 50 #[.agg #[.slice a0 d.nb c0, .slice a1 d.nc c1, .slice a2 d.ns c2], .int .i64 x, .string s] w fun e w' => e = .returned (.iface 97 (.pointer (some p))) ∧ Below w.heap.size w w') := by
    rcases hx with ⟨q1, rfl⟩ | ⟨q1, q2, q3, rfl⟩
    · exact placeFault_range _ _ _ _ _ _ _ _ _ _ _ q1 p w hE0
    · exact placeFault_long _ _ _ _ _ _ _ _ _ _ _ q1 q2 q3 p w hE1
  have k0 := h.box.c0
  have k1 := h.box.c1
  have k2 := h.box.c2
  clear h hE0 hE1 hx
  go_enter Tryd.func40, Tryd.ntmps40
  go_wp2_with fail
  refine (Calls.mono PF.out) ?_
  rintro e w1 ⟨rfl, hb⟩
  have B1 : Hid (Below w.heap.size w w1) := hb
  clear k0 k1 k2 hb PF
  go_wp2
  go_ret
  exact ⟨rfl, B1.out⟩
set_option maxRecDepth 100000 in
set_option maxHeartbeats 2000000 in
theorem write_full (B q b : Nat) (d : Dk) (v0 v1 v2 : Value) (x : Nat) (s : ByteArray) (hx : x < d.nb) (hs : s.size ≤ 200) (hc : 4096 ≤ d.nc) (p : Addr) (w : World) (h : Drv w B q b d v0 v1 v2) (hE : ErrAt w 2 p) :
    Calls Tryd.prog 40 #[.pointer (some ⟨q, 0, none⟩), .int .i64 (x : Int), .string s] w fun e w' => e = .returned (.iface 97 (.pointer (some p))) ∧ Below w.heap.size w w' := by
  obtain ⟨a0, c0, rfl, -⟩ := h.t0.form
  obtain ⟨a1, c1, rfl, -⟩ := h.t1.form
  obtain ⟨a2, c2, rfl, -⟩ := h.t2.form
  have PF : Hid (∀ w : World, Calls Tryd.prog 50 #[.agg #[.slice a0 d.nb c0, .slice a1 d.nc c1, .slice a2 d.ns c2], .int .i64 (x : Int), .string s] w fun e w' => e = .returned .nilIface ∧ Below w.heap.size w w') := fun w => placeFault_ok _ _ _ _ _ _ _ _ _ _ _ (by omega) (by omega) hs w
  have HD : Hid (Drv w B q b d (.slice a0 d.nb c0) (.slice a1 d.nc c1) (.slice a2 d.ns c2)) := h
  have HE : Hid (ErrAt w 2 p) := hE
  have k0 := h.box.c0
  have k1 := h.box.c1
  have k2 := h.box.c2
  clear h hE
  go_enter Tryd.func40, Tryd.ntmps40
  go_wp2_with fail
  refine (PF.out _).mono ?_
  rintro e w1 ⟨rfl, hb⟩
  have H1 : Hid (Drv w1 B q b d (.slice a0 d.nb c0) (.slice a1 d.nc c1) (.slice a2 d.ns c2)) := HD.out.below hb
  have B1 : Hid (Below w.heap.size w w1) := hb
  have hE' : w1.cell? _ = _ := HE.out.below hb
  clear k0 k1 k2 hb HD PF HE
  have k1 := H1.out.box.c1
  have y0 : (4096 : Int) ≤ (d.nc : Int) := by omega
  go_wp2
  go_ret
  exact ⟨rfl, B1.out⟩
end Go.Proofs.YtgdfhgepbamhmaaDoor
